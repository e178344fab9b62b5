/- NatsPairs: the walk. Whole numbers copied, looked at again, told to a book. Fractions: what any text is read as: the program's split and Parse, case by case. Fractions: what any text is read as, of its bytes alone; a fraction's text is read as it. Fractions: what any text is read as: the program's Parse, of any text. Fractions: digits as bytes, noughts ahead and behind, a point among them. What is known of memory in a walk: boxes, slices of parts, and that those but the n oldest are memory of the call's own, each by itself. Fractions: the small calls, whose answers are the call's own. Fractions: of two, the second one above 0, of the call's own. A book of fractions; what is no fraction, twice. Fractions copied, looked at again; by another one that may not be. The document's answer: whole numbers as fractions want them. Fractions: Make of numbers that may not be; the document's lowest, Make and Of; what is no fraction, twice; a book of fractions. -/
import Derived.Test.YtimdinmhphihkaaGreatDoorGGreatP
import Derived.Test.YtimdinmhphihkaaGreatDoorGRefI
import Derived.Test.YtimdinmhphihkaaGreatDoorGPart
import Derived.Test.YtimdinmhphihkaaGreatDoorGRatLit
import Derived.Test.YtimdinmhphihkaaGreatDoorGRatCmp
import Derived.Test.YtimdinmhphihkaaGreatDoorGDiv
import Derived.Test.YtimdinmhphihkaaGreatDoorGRatB
import Derived.Test.YtimdinmhphihkaaGreatDoorGRatLaw
set_option linter.unusedSimpArgs false
set_option linter.unusedVariables false
namespace Go.Proofs.YtimdinmhphihkaaGreatDoor
open Go Go.Proofs Go.RowKit Go.Shelf Nu

attribute [local go_sem] Oper.semAt_some

/-- what a difference is, or whether it is refused -/
def subOk (A B : List Nat) : Prop := chk A = true ∧ chk B = true ∧ val B ≤ val A
instance (A B : List Nat) : Decidable (subOk A B) := inferInstanceAs (Decidable (_ ∧ _))
theorem same_lists {w : World} {v u : Value} {l : List Nat} (h1 : Reads w v l) (h2 : Reads w u l) (hl : l.length ≤ 100000) :
    Calls Tryz.prog 63 #[v, u] w fun e w' => e = .returned (.bool true) ∧ Below w.heap.size w w' := by
  refine (sameNat_any h1 h2 (by omega) (by omega)).mono ?_
  rintro e w' ⟨rfl, n, rfl⟩
  exact ⟨by simp, ⟨rfl, rfl, rfl, Nat.le_refl _, fun k hk => rfl⟩⟩
theorem bk_nat {W : World} {B n : Nat} {hv : Value} {es : List (Value × Nat)} {a : Option Addr} {l c : Nat} (h : BookAt W B n hv) (hr : HRow W (B + 1) hv es) (hn : n ≤ 100000) (hl : es.length ≤ 100000) :
    Calls Tryz.prog 72 #[.pointer (some ⟨B, 0, none⟩), .slice a l c] W fun e w' => e = .returned (.tuple #[]) ∧ ∃ hv', BookAt w' B (n + 1) hv' ∧ HRow w' (B + 1) hv' (es ++ [(.slice a l c, n + 1)]) ∧ Below B W w' := by
  have k := bk_keep (a := a) (l := l) (c := c) h hr hn hl
  clear h hr hn hl
  go_enter Tryz.func72, Tryz.ntmps72
  go_wp2_with (go_at_call 159; refine k.mono ?_; clear k; rintro e w' ⟨rfl, q⟩)
  go_end0
  exact ⟨rfl, q⟩
/-- a slice of the call's own, made between two worlds -/
def Mine (b0 b1 b2 : Nat) (W : World) (v : Value) (l : List Nat) : Prop := Fresh W b0 v l ∧ ∀ g, v.ownBlock = some g → b1 ≤ g ∧ g < b2
theorem Mine.of {b0 : Nat} {w W : World} {v : Value} {l : List Nat} (h : Fresh W w.heap.size v l) (hb : b0 ≤ w.heap.size) : Mine b0 w.heap.size W.heap.size W v l := ⟨h.mono hb, fun _ e => h.lt' e⟩
theorem Mine.below {b0 b1 b2 N : Nat} {W W' : World} {v : Value} {l : List Nat} (h : Mine b0 b1 b2 W v l) (hb : Below N W W') (hN : W.heap.size ≤ N) : Mine b0 b1 b2 W' v l := ⟨h.1.below (hb.mono hN), h.2⟩
theorem Mine.apart {b0 b1 b2 c1 c2 : Nat} {W W' : World} {v u : Value} {l m : List Nat} (h : Mine b0 b1 b2 W v l) (k : Mine b0 c1 c2 W' u m) (hb : b2 ≤ c1) : v.ownBlock = none ∨ v.ownBlock ≠ u.ownBlock := by
  cases e : v.ownBlock with
  | none => exact .inl rfl
  | some g =>
    refine .inr (fun e2 => ?_)
    have h1 := h.2 g e
    have h2 := k.2 g e2.symm
    omega
theorem Mine.row {b0 b1 b2 B : Nat} {W : World} {v : Value} {l : List Nat} (h : Mine b0 b1 b2 W v l) (hl : l.length ≤ 100000) (hb : b2 ≤ B) : ∃ l : List Nat, l.length ≤ 100000 ∧ Fresh W b0 v l ∧ ∀ g, v.ownBlock = some g → g < B :=
  ⟨l, hl, h.1, fun g e => Nat.lt_of_lt_of_le (h.2 g e).2 hb⟩

end Go.Proofs.YtimdinmhphihkaaGreatDoor

namespace Go.Proofs.YtimdinmhphihkaaGreatDoor
open Go Go.Proofs Go.RowKit Go.Shelf Nu

attribute [local go_sem] Oper.semAt_some

section
variable {w : World} {n1 : Bool}
set_option maxHeartbeats 4000000 in
theorem itwin_own {l : List Nat} {s1 : Option Addr} {c1 : Nat} (h : Reads w (.slice s1 l.length c1) l) (hl : l.length ≤ 100000) :
    Calls Tryz.prog 39 #[.agg #[.bool n1, .slice s1 l.length c1]] w fun e w' => ∃ g c, e = .returned (.agg #[.bool n1, .slice (some ⟨g, 0, none⟩) l.length c]) ∧ Tw w' w.heap.size g c l ∧ Below w.heap.size w w' := by
  have KC := Lib.hid (fun (W : World) (hW : Below w.heap.size w W) => twin_own (h.below hW) hl)
  obtain ⟨t1, ht1⟩ : ∃ t1, t1 = l.length := ⟨_, rfl⟩
  have HT1 := Lib.hid ht1
  rw [← ht1] at KC ⊢
  clear h hl ht1
  obtain ⟨u0, hu0⟩ : ∃ u0, u0 = (w.alloc (.cells #[.bool n1, .slice s1 t1 c1] 25)).alloc (.cells #[.bool false, .slice none 0 0] 25) := ⟨_, rfl⟩
  have X1 := Lib.hid (show Box2 u0 w.heap.size 25 (.bool n1) (.slice s1 t1 c1) by rw [hu0]; exact (Box2.new w _ _ _).alloc _)
  have X3 := Lib.hid (show Box2 u0 (w.heap.size + 1) 25 (.bool false) (.slice none 0 0) by rw [hu0]; exact Box2.new1 w _ _ _ _)
  have hb := Lib.hid (show Below w.heap.size w u0 by rw [hu0]; exact ((Below.refl _ _).alloc (Nat.le_refl _) _).alloc (by simp) _)
  obtain ⟨B1, hB1⟩ : ∃ b, b = w.heap.size := ⟨_, rfl⟩
  obtain ⟨B3, hB3⟩ : ∃ b, b = w.heap.size + 1 := ⟨_, rfl⟩
  have d13 : B1 ≠ B3 := by omega
  have e1 := Lib.hid (show w.heap.size ≤ B1 by omega)
  have e3 := Lib.hid (show w.heap.size ≤ B3 by omega)
  rw [← hB1] at X1
  rw [← hB3] at X3
  have hu0' := Lib.hid hu0
  have hB1' := Lib.hid hB1
  have hB3' := Lib.hid hB3
  clear hu0 hB1 hB3
  go_enter Tryz.func39, Tryz.ntmps39
  go_wp2_with fail
  rw [← hu0'.out, ← hB3'.out, ← hB1'.out]
  clear hu0' hB1' hB3'
  have a0 := X1.out.c0
  have a1 := X1.out.c1
  have hb2 := Lib.hid hb.out.drew
  have Y1 := Lib.hid X1.out.drew
  have Y3 := Lib.hid X3.out.drew
  go_region_held3 (fun w' => w'.cell? ⟨B1, 0, none⟩ = some (.bool n1) ∧ w'.cell? ⟨B1, 1, none⟩ = some (.slice s1 t1 c1))
    (first
      | (with_reducible exact ⟨a0, a1⟩)
      | (with_reducible exact ⟨Y1.out.c0, Y1.out.c1⟩)
      | (with_reducible exact ⟨C1.out.c0, C1.out.c1⟩)
      | (with_reducible exact ⟨F1.out.c0, F1.out.c1⟩)
      | go_keep)
    ((first
      | (go_at_call 40; refine (KC.out _ hb2.out).mono ?_; rintro e w1 ⟨g, c, rfl, t0, r1⟩; have T := Lib.hid (t0.mono hb2.out.size); have hb3 := Lib.hid (then_below hb2.out r1); have C1 := Lib.hid (Y1.out.below r1); have C3 := Lib.hid (Y3.out.below r1); have F1 := Lib.hid ((C1.out.other (B' := B3) (o := 0) d13 (.bool n1)).other (B' := B3) (o := 1) d13 (.slice (some ⟨g, 0, none⟩) t1 c)); have q4' := C3.out.c0; have q5' := C3.out.c1; have q6 := C3.out.fr 0; have q7 := C3.out.fr 1; clear t0 r1)))
  all_goals
    go_wp2
    refine ret_box2 rfl rfl ((C3.out.set0 _).set1 _) Tryz.underlying25 size_int rfl ?_
    exact ⟨g, c, rfl, Fresh.sets T.out C3.out, below_sets hb3.out e3.out _ _⟩
set_option maxHeartbeats 4000000 in
theorem ileft_any {base g cap : Nat} {v : Value} {l : List Nat} (hT : Tw w base g cap l) (hR : Reads w v l) (hl : l.length ≤ 100000) :
    Calls Tryz.prog 70 #[.agg #[.bool n1, .slice (some ⟨g, 0, none⟩) l.length cap], .agg #[.bool n1, v]] w fun e w' => e = .returned (.bool true) ∧ Below w.heap.size w w' := by
  have K := Lib.hid (fun (W : World) (hW : Below w.heap.size w W) => left_any (hT.below hW) (hR.below hW) hl)
  obtain ⟨a, c, rfl⟩ := hR.form
  have hb := Lib.hid (((Below.refl w.heap.size w).alloc (Nat.le_refl _) (.cells #[.bool n1, .slice (some ⟨g, 0, none⟩) l.length cap] 25)).alloc (by simp) (.cells #[.bool n1, .slice a l.length c] 25))
  clear hT hR hl
  cases n1
  all_goals
    go_enter Tryz.func70, Tryz.ntmps70
    go_wp2_with fail
    go_at_call 71
    refine (K.out _ hb.out).mono ?_
    rintro e w1 ⟨rfl, r⟩
    replace hb := Lib.hid (then_below hb.out r)
    clear r
    go_wp2_with fail
    go_ret
    exact ⟨rfl, hb.out⟩
theorem bk_int {W : World} {B n : Nat} {hv : Value} {es : List (Value × Nat)} {a : Option Addr} {l c : Nat} (h : BookAt W B n hv) (hr : HRow W (B + 1) hv es) (hn : n ≤ 100000) (hl : es.length ≤ 100000) :
    Calls Tryz.prog 22 #[.pointer (some ⟨B, 0, none⟩), .agg #[.bool n1, .slice a l c]] W fun e w' => e = .returned (.tuple #[]) ∧ ∃ hv', BookAt w' B (n + 1) hv' ∧ HRow w' (B + 1) hv' (es ++ [(.slice a l c, n + 1)]) ∧ Below B W w' := by
  have hlt := h.lt
  have hr' : HRow (W.alloc (.cells #[.bool n1, .slice a l c] 25)) (B + 1) hv es := World.ownsRow.alloc hr _
  have K := Lib.hid (bk_nat (a := a) (l := l) (c := c) (h.alloc (.cells #[.bool n1, .slice a l c] 25)) hr' hn hl)
  clear h hr hn hl hr'
  go_enter Tryz.func22, Tryz.ntmps22
  go_wp2_with fail
  go_at_call 72
  refine K.out.mono ?_
  rintro e w' ⟨rfl, hv', q1, q2, q3⟩
  have Q := Lib.hid (show ∃ hv', BookAt w' B (n + 1) hv' ∧ HRow w' (B + 1) hv' (es ++ [(.slice a l c, n + 1)]) ∧ Below B W w' from ⟨hv', q1, q2, ((Below.refl B W).alloc (Nat.le_of_lt hlt) _).trans q3⟩)
  clear q1 q2 q3
  go_wp2_with fail
  go_end0
  exact ⟨rfl, Q.out⟩
end

end Go.Proofs.YtimdinmhphihkaaGreatDoor

namespace Go.Proofs.YtimdinmhphihkaaGreatDoor
open Go Go.Proofs Go.RowKit Go.Shelf Nu

attribute [local go_sem] Oper.semAt_some

theorem not_nought {d : ByteArray} (h : d ≠ ⟨#[48]⟩) : (d.toList == [48]) = false ∧ (¬ d.toList = [48]) ∧ (decide (d = ⟨#[48]⟩) = false) := by
  have h2 : ¬ d.toList = [48] := fun e => h (ext_lit _ _ (by rw [← Lib.toList_data]; exact e))
  exact ⟨beq_eq_false_iff_ne.2 h2, h2, decide_eq_false h⟩
theorem no_bytesR (d : ByteArray) (h : d.size = 0) : d = ⟨#[]⟩ := by
  rcases d with ⟨⟨l⟩⟩
  cases l with
  | nil => rfl
  | cons a l => simp [ByteArray.size] at h
theorem some_bytesR (d : ByteArray) (h : d.size ≠ 0) : (d.toList == ([] : List UInt8)) = false ∧ d.toList.isEmpty = false ∧ (¬ d.toList = []) ∧ ¬ d = ⟨#[]⟩ := by
  rcases d with ⟨⟨l⟩⟩
  cases l with
  | nil => simp [ByteArray.size] at h
  | cons a l => refine ⟨by rw [Lib.toList_data]; rfl, by rw [Lib.toList_data]; rfl, by rw [Lib.toList_data]; simp, by simp⟩

section
variable {w : World} {s rest num den : ByteArray} {neg : Bool}
set_option maxRecDepth 100000 in
set_option maxHeartbeats 2000000 in
theorem ps_f1 {E2 : Int} (hk : ∀ W, Calls Tryz.prog 45 #[.string s, .string ⟨#[45]⟩] W fun e w' => e = .returned (.tuple #[.string rest, .bool neg]) ∧ w' = W)
    (hs : ∀ W, Calls Tryz.prog 46 #[.string rest] W fun e w' => e = .returned (.tuple #[.string num, .string den]) ∧ Below W.heap.size W w')
    (k1 : ∀ W, Calls Tryz.prog 47 #[.string num] W fun e w' => ∃ a n c, e = .returned (.tuple #[.slice a n c, .int .i64 4]) ∧ Below W.heap.size W w')
    (k2 : ∀ W, Calls Tryz.prog 47 #[.string den] W fun e w' => ∃ a n c, e = .returned (.tuple #[.slice a n c, .int .i64 E2]) ∧ Below W.heap.size W w') :
    Calls Tryz.prog 9 #[.string s] w fun e w' => e = .returned (.tuple #[.agg #[.bool false, .slice none 0 0, .slice none 0 0], .int .i64 4]) ∧ Below w.heap.size w w' := by
  have HK := Lib.hid hk
  have HS := Lib.hid hs
  have K1 := Lib.hid k1
  have K2 := Lib.hid k2
  have M : Mem w [(w.heap.size, 27, [.bool false, .slice none 0 0, .slice none 0 0])] [] (w.alloc (.cells #[.bool false, .slice none 0 0, .slice none 0 0] 27)) := (Mem.start w).new _ _
  clear hk hs k1 k2
  go_enter Tryz.func9, Tryz.ntmps9
  go_wp2_with fail
  refine (HK.out _).mono ?_
  rintro e w0 ⟨rfl, hw⟩
  subst w0
  go_wp2_with fail
  refine (HS.out _).mono ?_
  rintro e w1 ⟨rfl, rr⟩
  have M' := M.up rr; clear M rr; have M := M'; clear M'
  go_wp2_with fail
  refine (K1.out _).mono ?_
  rintro e w2 ⟨a1, n1, c1, rfl, rr⟩
  have M' := M.up rr; clear M rr; have M := M'; clear M'
  go_wp2_with fail
  refine (K2.out _).mono ?_
  rintro e w3 ⟨a2, n2, c2, rfl, rr⟩
  have M' := M.up rr; clear M rr; have M := M'; clear M'
  have z0 := M.cell 0 rfl 0 rfl; have z1 := M.cell 0 rfl 1 rfl; have z2 := M.cell 0 rfl 2 rfl; have f0 := M.fr 0 rfl 0; have f1 := M.fr 0 rfl 1; have f2 := M.fr 0 rfl 2
  go_wp2_with fail
  have M' := ((M.put 0 rfl rfl 0 (.bool false)).put 0 rfl rfl 1 (.slice none 0 0)).put 0 rfl rfl 2 (.slice none 0 0)
  refine ret_boxN_tmp rfl rfl rfl (M'.box 0 rfl) Tryz.underlying27 size_rat rfl ?_
  exact ⟨rfl, M'.below⟩
set_option maxRecDepth 100000 in
set_option maxHeartbeats 2000000 in
theorem ps_f2 {E1 : Int} (h1 : (E1 == 4) = false) (hk : ∀ W, Calls Tryz.prog 45 #[.string s, .string ⟨#[45]⟩] W fun e w' => e = .returned (.tuple #[.string rest, .bool neg]) ∧ w' = W)
    (hs : ∀ W, Calls Tryz.prog 46 #[.string rest] W fun e w' => e = .returned (.tuple #[.string num, .string den]) ∧ Below W.heap.size W w')
    (k1 : ∀ W, Calls Tryz.prog 47 #[.string num] W fun e w' => ∃ a n c, e = .returned (.tuple #[.slice a n c, .int .i64 E1]) ∧ Below W.heap.size W w')
    (k2 : ∀ W, Calls Tryz.prog 47 #[.string den] W fun e w' => ∃ a n c, e = .returned (.tuple #[.slice a n c, .int .i64 4]) ∧ Below W.heap.size W w') :
    Calls Tryz.prog 9 #[.string s] w fun e w' => e = .returned (.tuple #[.agg #[.bool false, .slice none 0 0, .slice none 0 0], .int .i64 4]) ∧ Below w.heap.size w w' := by
  have HK := Lib.hid hk
  have HS := Lib.hid hs
  have K1 := Lib.hid k1
  have K2 := Lib.hid k2
  have M : Mem w [(w.heap.size, 27, [.bool false, .slice none 0 0, .slice none 0 0])] [] (w.alloc (.cells #[.bool false, .slice none 0 0, .slice none 0 0] 27)) := (Mem.start w).new _ _
  clear hk hs k1 k2
  go_enter Tryz.func9, Tryz.ntmps9
  go_wp2_with fail
  refine (HK.out _).mono ?_
  rintro e w0 ⟨rfl, hw⟩
  subst w0
  go_wp2_with fail
  refine (HS.out _).mono ?_
  rintro e w1 ⟨rfl, rr⟩
  have M' := M.up rr; clear M rr; have M := M'; clear M'
  go_wp2_with fail
  refine (K1.out _).mono ?_
  rintro e w2 ⟨a1, n1, c1, rfl, rr⟩
  have M' := M.up rr; clear M rr; have M := M'; clear M'
  go_wp2_with fail
  refine (K2.out _).mono ?_
  rintro e w3 ⟨a2, n2, c2, rfl, rr⟩
  have M' := M.up rr; clear M rr; have M := M'; clear M'
  have z0 := M.cell 0 rfl 0 rfl; have z1 := M.cell 0 rfl 1 rfl; have z2 := M.cell 0 rfl 2 rfl; have f0 := M.fr 0 rfl 0; have f1 := M.fr 0 rfl 1; have f2 := M.fr 0 rfl 2
  go_wp2_with fail
  have M' := ((M.put 0 rfl rfl 0 (.bool false)).put 0 rfl rfl 1 (.slice none 0 0)).put 0 rfl rfl 2 (.slice none 0 0)
  refine ret_boxN_tmp rfl rfl rfl (M'.box 0 rfl) Tryz.underlying27 size_rat rfl ?_
  exact ⟨rfl, M'.below⟩
set_option maxRecDepth 100000 in
set_option maxHeartbeats 2000000 in
theorem ps_f3 {E1 E2 : Int} (h1 : (E1 == 4) = false) (h2 : (E2 == 4) = false) (hk : ∀ W, Calls Tryz.prog 45 #[.string s, .string ⟨#[45]⟩] W fun e w' => e = .returned (.tuple #[.string rest, .bool neg]) ∧ w' = W)
    (hs : ∀ W, Calls Tryz.prog 46 #[.string rest] W fun e w' => e = .returned (.tuple #[.string num, .string ⟨#[48]⟩]) ∧ Below W.heap.size W w')
    (k1 : ∀ W, Calls Tryz.prog 47 #[.string num] W fun e w' => ∃ a n c, e = .returned (.tuple #[.slice a n c, .int .i64 E1]) ∧ Below W.heap.size W w')
    (k2 : ∀ W, Calls Tryz.prog 47 #[.string ⟨#[48]⟩] W fun e w' => ∃ a n c, e = .returned (.tuple #[.slice a n c, .int .i64 E2]) ∧ Below W.heap.size W w') :
    Calls Tryz.prog 9 #[.string s] w fun e w' => e = .returned (.tuple #[.agg #[.bool false, .slice none 0 0, .slice none 0 0], .int .i64 4]) ∧ Below w.heap.size w w' := by
  have HK := Lib.hid hk
  have HS := Lib.hid hs
  have K1 := Lib.hid k1
  have K2 := Lib.hid k2
  have M : Mem w [(w.heap.size, 27, [.bool false, .slice none 0 0, .slice none 0 0])] [] (w.alloc (.cells #[.bool false, .slice none 0 0, .slice none 0 0] 27)) := (Mem.start w).new _ _
  clear hk hs k1 k2
  go_enter Tryz.func9, Tryz.ntmps9
  go_wp2_with fail
  refine (HK.out _).mono ?_
  rintro e w0 ⟨rfl, hw⟩
  subst w0
  go_wp2_with fail
  refine (HS.out _).mono ?_
  rintro e w1 ⟨rfl, rr⟩
  have M' := M.up rr; clear M rr; have M := M'; clear M'
  go_wp2_with fail
  refine (K1.out _).mono ?_
  rintro e w2 ⟨a1, n1, c1, rfl, rr⟩
  have M' := M.up rr; clear M rr; have M := M'; clear M'
  go_wp2_with fail
  refine (K2.out _).mono ?_
  rintro e w3 ⟨a2, n2, c2, rfl, rr⟩
  have M' := M.up rr; clear M rr; have M := M'; clear M'
  have z0 := M.cell 0 rfl 0 rfl; have z1 := M.cell 0 rfl 1 rfl; have z2 := M.cell 0 rfl 2 rfl; have f0 := M.fr 0 rfl 0; have f1 := M.fr 0 rfl 1; have f2 := M.fr 0 rfl 2
  go_wp2_with fail
  have M' := ((M.put 0 rfl rfl 0 (.bool false)).put 0 rfl rfl 1 (.slice none 0 0)).put 0 rfl rfl 2 (.slice none 0 0)
  refine ret_boxN_tmp rfl rfl rfl (M'.box 0 rfl) Tryz.underlying27 size_rat rfl ?_
  exact ⟨rfl, M'.below⟩
set_option maxRecDepth 100000 in
set_option maxHeartbeats 2000000 in
theorem ps_f4 {E1 E2 : Int} (h1 : (E1 == 4) = false) (h2 : (E2 == 4) = false) (hd : den ≠ ⟨#[48]⟩) (hk : ∀ W, Calls Tryz.prog 45 #[.string s, .string ⟨#[45]⟩] W fun e w' => e = .returned (.tuple #[.string rest, .bool true]) ∧ w' = W)
    (hs : ∀ W, Calls Tryz.prog 46 #[.string rest] W fun e w' => e = .returned (.tuple #[.string ⟨#[48]⟩, .string den]) ∧ Below W.heap.size W w')
    (k1 : ∀ W, Calls Tryz.prog 47 #[.string ⟨#[48]⟩] W fun e w' => ∃ a n c, e = .returned (.tuple #[.slice a n c, .int .i64 E1]) ∧ Below W.heap.size W w')
    (k2 : ∀ W, Calls Tryz.prog 47 #[.string den] W fun e w' => ∃ a n c, e = .returned (.tuple #[.slice a n c, .int .i64 E2]) ∧ Below W.heap.size W w') :
    Calls Tryz.prog 9 #[.string s] w fun e w' => e = .returned (.tuple #[.agg #[.bool false, .slice none 0 0, .slice none 0 0], .int .i64 4]) ∧ Below w.heap.size w w' := by
  obtain ⟨d1, d2, d3⟩ := not_nought hd
  have HK := Lib.hid hk
  have HS := Lib.hid hs
  have K1 := Lib.hid k1
  have K2 := Lib.hid k2
  have M : Mem w [(w.heap.size, 27, [.bool false, .slice none 0 0, .slice none 0 0])] [] (w.alloc (.cells #[.bool false, .slice none 0 0, .slice none 0 0] 27)) := (Mem.start w).new _ _
  clear hk hs k1 k2
  go_enter Tryz.func9, Tryz.ntmps9
  go_wp2_with fail
  refine (HK.out _).mono ?_
  rintro e w0 ⟨rfl, hw⟩
  subst w0
  go_wp2_with fail
  refine (HS.out _).mono ?_
  rintro e w1 ⟨rfl, rr⟩
  have M' := M.up rr; clear M rr; have M := M'; clear M'
  go_wp2_with fail
  refine (K1.out _).mono ?_
  rintro e w2 ⟨a1, n1, c1, rfl, rr⟩
  have M' := M.up rr; clear M rr; have M := M'; clear M'
  go_wp2_with fail
  refine (K2.out _).mono ?_
  rintro e w3 ⟨a2, n2, c2, rfl, rr⟩
  have M' := M.up rr; clear M rr; have M := M'; clear M'
  have z0 := M.cell 0 rfl 0 rfl; have z1 := M.cell 0 rfl 1 rfl; have z2 := M.cell 0 rfl 2 rfl; have f0 := M.fr 0 rfl 0; have f1 := M.fr 0 rfl 1; have f2 := M.fr 0 rfl 2
  go_wp2_with fail
  have M' := ((M.put 0 rfl rfl 0 (.bool false)).put 0 rfl rfl 1 (.slice none 0 0)).put 0 rfl rfl 2 (.slice none 0 0)
  refine ret_boxN_tmp rfl rfl rfl (M'.box 0 rfl) Tryz.underlying27 size_rat rfl ?_
  exact ⟨rfl, M'.below⟩
set_option maxRecDepth 100000 in
set_option maxHeartbeats 2000000 in
theorem ps_l1p {E1 E2 : Int} (h1 : (E1 == 4) = false) (h2 : (E2 == 4) = false) (h3 : (E1 != 0) = true) (hd : den ≠ ⟨#[48]⟩) (hk : ∀ W, Calls Tryz.prog 45 #[.string s, .string ⟨#[45]⟩] W fun e w' => e = .returned (.tuple #[.string rest, .bool false]) ∧ w' = W)
    (hs : ∀ W, Calls Tryz.prog 46 #[.string rest] W fun e w' => e = .returned (.tuple #[.string num, .string den]) ∧ Below W.heap.size W w')
    (k1 : ∀ W, Calls Tryz.prog 47 #[.string num] W fun e w' => ∃ a n c, e = .returned (.tuple #[.slice a n c, .int .i64 E1]) ∧ Below W.heap.size W w')
    (k2 : ∀ W, Calls Tryz.prog 47 #[.string den] W fun e w' => ∃ a n c, e = .returned (.tuple #[.slice a n c, .int .i64 E2]) ∧ Below W.heap.size W w') :
    Calls Tryz.prog 9 #[.string s] w fun e w' => e = .returned (.tuple #[.agg #[.bool false, .slice none 0 0, .slice none 0 0], .int .i64 3]) ∧ Below w.heap.size w w' := by
  obtain ⟨d1, d2, d3⟩ := not_nought hd
  have HK := Lib.hid hk
  have HS := Lib.hid hs
  have K1 := Lib.hid k1
  have K2 := Lib.hid k2
  have M : Mem w [(w.heap.size, 27, [.bool false, .slice none 0 0, .slice none 0 0])] [] (w.alloc (.cells #[.bool false, .slice none 0 0, .slice none 0 0] 27)) := (Mem.start w).new _ _
  clear hk hs k1 k2
  go_enter Tryz.func9, Tryz.ntmps9
  go_wp2_with fail
  refine (HK.out _).mono ?_
  rintro e w0 ⟨rfl, hw⟩
  subst w0
  go_wp2_with fail
  refine (HS.out _).mono ?_
  rintro e w1 ⟨rfl, rr⟩
  have M' := M.up rr; clear M rr; have M := M'; clear M'
  go_wp2_with fail
  refine (K1.out _).mono ?_
  rintro e w2 ⟨a1, n1, c1, rfl, rr⟩
  have M' := M.up rr; clear M rr; have M := M'; clear M'
  go_wp2_with fail
  refine (K2.out _).mono ?_
  rintro e w3 ⟨a2, n2, c2, rfl, rr⟩
  have M' := M.up rr; clear M rr; have M := M'; clear M'
  have z0 := M.cell 0 rfl 0 rfl; have z1 := M.cell 0 rfl 1 rfl; have z2 := M.cell 0 rfl 2 rfl; have f0 := M.fr 0 rfl 0; have f1 := M.fr 0 rfl 1; have f2 := M.fr 0 rfl 2
  go_wp2_with fail
  have M' := ((M.put 0 rfl rfl 0 (.bool false)).put 0 rfl rfl 1 (.slice none 0 0)).put 0 rfl rfl 2 (.slice none 0 0)
  refine ret_boxN_tmp rfl rfl rfl (M'.box 0 rfl) Tryz.underlying27 size_rat rfl ?_
  exact ⟨rfl, M'.below⟩
set_option maxRecDepth 100000 in
set_option maxHeartbeats 2000000 in
theorem ps_l1n {E1 E2 : Int} (h1 : (E1 == 4) = false) (h2 : (E2 == 4) = false) (h3 : (E1 != 0) = true) (hd : den ≠ ⟨#[48]⟩) (hn : num ≠ ⟨#[48]⟩) (hk : ∀ W, Calls Tryz.prog 45 #[.string s, .string ⟨#[45]⟩] W fun e w' => e = .returned (.tuple #[.string rest, .bool true]) ∧ w' = W)
    (hs : ∀ W, Calls Tryz.prog 46 #[.string rest] W fun e w' => e = .returned (.tuple #[.string num, .string den]) ∧ Below W.heap.size W w')
    (k1 : ∀ W, Calls Tryz.prog 47 #[.string num] W fun e w' => ∃ a n c, e = .returned (.tuple #[.slice a n c, .int .i64 E1]) ∧ Below W.heap.size W w')
    (k2 : ∀ W, Calls Tryz.prog 47 #[.string den] W fun e w' => ∃ a n c, e = .returned (.tuple #[.slice a n c, .int .i64 E2]) ∧ Below W.heap.size W w') :
    Calls Tryz.prog 9 #[.string s] w fun e w' => e = .returned (.tuple #[.agg #[.bool false, .slice none 0 0, .slice none 0 0], .int .i64 3]) ∧ Below w.heap.size w w' := by
  obtain ⟨d1, d2, d3⟩ := not_nought hd
  obtain ⟨n1, n2, n3⟩ := not_nought hn
  have HK := Lib.hid hk
  have HS := Lib.hid hs
  have K1 := Lib.hid k1
  have K2 := Lib.hid k2
  have M : Mem w [(w.heap.size, 27, [.bool false, .slice none 0 0, .slice none 0 0])] [] (w.alloc (.cells #[.bool false, .slice none 0 0, .slice none 0 0] 27)) := (Mem.start w).new _ _
  clear hk hs k1 k2
  go_enter Tryz.func9, Tryz.ntmps9
  go_wp2_with fail
  refine (HK.out _).mono ?_
  rintro e w0 ⟨rfl, hw⟩
  subst w0
  go_wp2_with fail
  refine (HS.out _).mono ?_
  rintro e w1 ⟨rfl, rr⟩
  have M' := M.up rr; clear M rr; have M := M'; clear M'
  go_wp2_with fail
  refine (K1.out _).mono ?_
  rintro e w2 ⟨a1, n1, c1, rfl, rr⟩
  have M' := M.up rr; clear M rr; have M := M'; clear M'
  go_wp2_with fail
  refine (K2.out _).mono ?_
  rintro e w3 ⟨a2, n2, c2, rfl, rr⟩
  have M' := M.up rr; clear M rr; have M := M'; clear M'
  have z0 := M.cell 0 rfl 0 rfl; have z1 := M.cell 0 rfl 1 rfl; have z2 := M.cell 0 rfl 2 rfl; have f0 := M.fr 0 rfl 0; have f1 := M.fr 0 rfl 1; have f2 := M.fr 0 rfl 2
  go_wp2_with fail
  have M' := ((M.put 0 rfl rfl 0 (.bool false)).put 0 rfl rfl 1 (.slice none 0 0)).put 0 rfl rfl 2 (.slice none 0 0)
  refine ret_boxN_tmp rfl rfl rfl (M'.box 0 rfl) Tryz.underlying27 size_rat rfl ?_
  exact ⟨rfl, M'.below⟩
set_option maxRecDepth 100000 in
set_option maxHeartbeats 2000000 in
theorem ps_l2p {E2 : Int} (h2 : (E2 == 4) = false) (h3 : (E2 != 0) = true) (hd : den ≠ ⟨#[48]⟩) (hk : ∀ W, Calls Tryz.prog 45 #[.string s, .string ⟨#[45]⟩] W fun e w' => e = .returned (.tuple #[.string rest, .bool false]) ∧ w' = W)
    (hs : ∀ W, Calls Tryz.prog 46 #[.string rest] W fun e w' => e = .returned (.tuple #[.string num, .string den]) ∧ Below W.heap.size W w')
    (k1 : ∀ W, Calls Tryz.prog 47 #[.string num] W fun e w' => ∃ a n c, e = .returned (.tuple #[.slice a n c, .int .i64 0]) ∧ Below W.heap.size W w')
    (k2 : ∀ W, Calls Tryz.prog 47 #[.string den] W fun e w' => ∃ a n c, e = .returned (.tuple #[.slice a n c, .int .i64 E2]) ∧ Below W.heap.size W w') :
    Calls Tryz.prog 9 #[.string s] w fun e w' => e = .returned (.tuple #[.agg #[.bool false, .slice none 0 0, .slice none 0 0], .int .i64 3]) ∧ Below w.heap.size w w' := by
  obtain ⟨d1, d2, d3⟩ := not_nought hd
  have HK := Lib.hid hk
  have HS := Lib.hid hs
  have K1 := Lib.hid k1
  have K2 := Lib.hid k2
  have M : Mem w [(w.heap.size, 27, [.bool false, .slice none 0 0, .slice none 0 0])] [] (w.alloc (.cells #[.bool false, .slice none 0 0, .slice none 0 0] 27)) := (Mem.start w).new _ _
  clear hk hs k1 k2
  go_enter Tryz.func9, Tryz.ntmps9
  go_wp2_with fail
  refine (HK.out _).mono ?_
  rintro e w0 ⟨rfl, hw⟩
  subst w0
  go_wp2_with fail
  refine (HS.out _).mono ?_
  rintro e w1 ⟨rfl, rr⟩
  have M' := M.up rr; clear M rr; have M := M'; clear M'
  go_wp2_with fail
  refine (K1.out _).mono ?_
  rintro e w2 ⟨a1, n1, c1, rfl, rr⟩
  have M' := M.up rr; clear M rr; have M := M'; clear M'
  go_wp2_with fail
  refine (K2.out _).mono ?_
  rintro e w3 ⟨a2, n2, c2, rfl, rr⟩
  have M' := M.up rr; clear M rr; have M := M'; clear M'
  have z0 := M.cell 0 rfl 0 rfl; have z1 := M.cell 0 rfl 1 rfl; have z2 := M.cell 0 rfl 2 rfl; have f0 := M.fr 0 rfl 0; have f1 := M.fr 0 rfl 1; have f2 := M.fr 0 rfl 2
  go_wp2_with fail
  have M' := ((M.put 0 rfl rfl 0 (.bool false)).put 0 rfl rfl 1 (.slice none 0 0)).put 0 rfl rfl 2 (.slice none 0 0)
  refine ret_boxN_tmp rfl rfl rfl (M'.box 0 rfl) Tryz.underlying27 size_rat rfl ?_
  exact ⟨rfl, M'.below⟩
set_option maxRecDepth 100000 in
set_option maxHeartbeats 2000000 in
theorem ps_l2n {E2 : Int} (h2 : (E2 == 4) = false) (h3 : (E2 != 0) = true) (hd : den ≠ ⟨#[48]⟩) (hn : num ≠ ⟨#[48]⟩) (hk : ∀ W, Calls Tryz.prog 45 #[.string s, .string ⟨#[45]⟩] W fun e w' => e = .returned (.tuple #[.string rest, .bool true]) ∧ w' = W)
    (hs : ∀ W, Calls Tryz.prog 46 #[.string rest] W fun e w' => e = .returned (.tuple #[.string num, .string den]) ∧ Below W.heap.size W w')
    (k1 : ∀ W, Calls Tryz.prog 47 #[.string num] W fun e w' => ∃ a n c, e = .returned (.tuple #[.slice a n c, .int .i64 0]) ∧ Below W.heap.size W w')
    (k2 : ∀ W, Calls Tryz.prog 47 #[.string den] W fun e w' => ∃ a n c, e = .returned (.tuple #[.slice a n c, .int .i64 E2]) ∧ Below W.heap.size W w') :
    Calls Tryz.prog 9 #[.string s] w fun e w' => e = .returned (.tuple #[.agg #[.bool false, .slice none 0 0, .slice none 0 0], .int .i64 3]) ∧ Below w.heap.size w w' := by
  obtain ⟨d1, d2, d3⟩ := not_nought hd
  obtain ⟨n1, n2, n3⟩ := not_nought hn
  have HK := Lib.hid hk
  have HS := Lib.hid hs
  have K1 := Lib.hid k1
  have K2 := Lib.hid k2
  have M : Mem w [(w.heap.size, 27, [.bool false, .slice none 0 0, .slice none 0 0])] [] (w.alloc (.cells #[.bool false, .slice none 0 0, .slice none 0 0] 27)) := (Mem.start w).new _ _
  clear hk hs k1 k2
  go_enter Tryz.func9, Tryz.ntmps9
  go_wp2_with fail
  refine (HK.out _).mono ?_
  rintro e w0 ⟨rfl, hw⟩
  subst w0
  go_wp2_with fail
  refine (HS.out _).mono ?_
  rintro e w1 ⟨rfl, rr⟩
  have M' := M.up rr; clear M rr; have M := M'; clear M'
  go_wp2_with fail
  refine (K1.out _).mono ?_
  rintro e w2 ⟨a1, n1, c1, rfl, rr⟩
  have M' := M.up rr; clear M rr; have M := M'; clear M'
  go_wp2_with fail
  refine (K2.out _).mono ?_
  rintro e w3 ⟨a2, n2, c2, rfl, rr⟩
  have M' := M.up rr; clear M rr; have M := M'; clear M'
  have z0 := M.cell 0 rfl 0 rfl; have z1 := M.cell 0 rfl 1 rfl; have z2 := M.cell 0 rfl 2 rfl; have f0 := M.fr 0 rfl 0; have f1 := M.fr 0 rfl 1; have f2 := M.fr 0 rfl 2
  go_wp2_with fail
  have M' := ((M.put 0 rfl rfl 0 (.bool false)).put 0 rfl rfl 1 (.slice none 0 0)).put 0 rfl rfl 2 (.slice none 0 0)
  refine ret_boxN_tmp rfl rfl rfl (M'.box 0 rfl) Tryz.underlying27 size_rat rfl ?_
  exact ⟨rfl, M'.below⟩
end

section
variable {w : World} {s a b : ByteArray}
set_option maxHeartbeats 2000000 in
theorem sp_up (k : ∀ W, Calls Tryz.prog 129 #[.string s, .string ⟨#[47]⟩] W fun e w' => e = .returned (.tuple #[.string a, .string b, .bool true]) ∧ Below W.heap.size W w') :
    Calls Tryz.prog 46 #[.string s] w fun e w' => e = .returned (.tuple #[.string a, .string b]) ∧ Below w.heap.size w w' := by
  have K := Lib.hid k
  clear k
  go_enter Tryz.func46, Tryz.ntmps46
  go_wp2_with fail
  refine (K.out _).mono ?_
  rintro e w1 ⟨rfl, rr⟩
  go_wp2_with fail
  go_ret2
  exact ⟨rfl, rr⟩
set_option maxHeartbeats 2000000 in
theorem sp_none (k : ∀ W, Calls Tryz.prog 129 #[.string s, .string ⟨#[47]⟩] W fun e w' => e = .returned (.tuple #[.string s, .string ⟨#[]⟩, .bool false]) ∧ Below W.heap.size W w')
    (k2 : ∀ W, Calls Tryz.prog 129 #[.string s, .string ⟨#[46]⟩] W fun e w' => e = .returned (.tuple #[.string s, .string ⟨#[]⟩, .bool false]) ∧ Below W.heap.size W w') :
    Calls Tryz.prog 46 #[.string s] w fun e w' => e = .returned (.tuple #[.string s, .string ⟨#[49]⟩]) ∧ Below w.heap.size w w' := by
  have K := Lib.hid k
  have K2 := Lib.hid k2
  clear k k2
  go_enter Tryz.func46, Tryz.ntmps46
  go_wp2_with fail
  refine (K.out _).mono ?_
  rintro e w1 ⟨rfl, r1⟩
  go_wp2_with fail
  refine (K2.out _).mono ?_
  rintro e w2 ⟨rfl, r2⟩
  go_wp2_with fail
  go_ret2
  exact ⟨rfl, then_below r1 r2⟩
set_option maxHeartbeats 2000000 in
theorem sp_pt {x y : ByteArray} (k : ∀ W, Calls Tryz.prog 129 #[.string s, .string ⟨#[47]⟩] W fun e w' => e = .returned (.tuple #[.string s, .string ⟨#[]⟩, .bool false]) ∧ Below W.heap.size W w')
    (k2 : ∀ W, Calls Tryz.prog 129 #[.string s, .string ⟨#[46]⟩] W fun e w' => e = .returned (.tuple #[.string a, .string b, .bool true]) ∧ Below W.heap.size W w')
    (k3 : ∀ W, Calls Tryz.prog 130 #[.string a, .string b] W fun e w' => e = .returned (.tuple #[.string x, .string y]) ∧ Below W.heap.size W w') :
    Calls Tryz.prog 46 #[.string s] w fun e w' => e = .returned (.tuple #[.string x, .string y]) ∧ Below w.heap.size w w' := by
  have K := Lib.hid k
  have K2 := Lib.hid k2
  have K3 := Lib.hid k3
  clear k k2 k3
  go_enter Tryz.func46, Tryz.ntmps46
  go_wp2_with fail
  refine (K.out _).mono ?_
  rintro e w1 ⟨rfl, r1⟩
  go_wp2_with fail
  refine (K2.out _).mono ?_
  rintro e w2 ⟨rfl, r2⟩
  go_wp2_with fail
  refine (K3.out _).mono ?_
  rintro e w3 ⟨rfl, r3⟩
  go_wp2_with fail
  go_ret2
  exact ⟨rfl, then_below (then_below r1 r2) r3⟩
set_option maxHeartbeats 2000000 in
theorem ap_form (k : ∀ W, Calls Tryz.prog 47 #[.string a] W fun e w' => ∃ p n c, e = .returned (.tuple #[.slice p n c, .int .i64 4]) ∧ Below W.heap.size W w') :
    Calls Tryz.prog 130 #[.string a, .string b] w fun e w' => e = .returned (.tuple #[.string ⟨#[]⟩, .string ⟨#[49]⟩]) ∧ Below w.heap.size w w' := by
  have K := Lib.hid k
  clear k
  go_enter Tryz.func130, Tryz.ntmps130
  go_wp2_with fail
  refine (K.out _).mono ?_
  rintro e w1 ⟨p, n, c, rfl, r1⟩
  go_wp2_with fail
  go_ret2
  exact ⟨rfl, r1⟩
set_option maxHeartbeats 2000000 in
theorem ap_empty {E : Int} (hE : (E == 4) = false) (k : ∀ W, Calls Tryz.prog 47 #[.string a] W fun e w' => ∃ p n c, e = .returned (.tuple #[.slice p n c, .int .i64 E]) ∧ Below W.heap.size W w') :
    Calls Tryz.prog 130 #[.string a, .string ⟨#[]⟩] w fun e w' => e = .returned (.tuple #[.string ⟨#[]⟩, .string ⟨#[49]⟩]) ∧ Below w.heap.size w w' := by
  have K := Lib.hid k
  clear k
  go_enter Tryz.func130, Tryz.ntmps130
  go_wp2_with fail
  refine (K.out _).mono ?_
  rintro e w1 ⟨p, n, c, rfl, r1⟩
  go_wp2_with fail
  go_ret2
  exact ⟨rfl, r1⟩
set_option maxHeartbeats 4000000 in
theorem ap_zero {E : Int} {z : ByteArray} (hE : (E == 4) = false) (hb : b.size ≠ 0) (hab : ∀ W : World, (Op.stringOp .add a b).run Tryz.prog W = .ok (.string (a ++ b)) W) (h1z : ∀ W : World, (Op.stringOp .add ⟨#[49]⟩ z).run Tryz.prog W = .ok (.string (⟨#[49]⟩ ++ z)) W)
    (k : ∀ W, Calls Tryz.prog 47 #[.string a] W fun e w' => ∃ p n c, e = .returned (.tuple #[.slice p n c, .int .i64 E]) ∧ Below W.heap.size W w')
    (k2 : ∀ W, Calls Tryz.prog 207 #[.string (a ++ b), .string ⟨#[48]⟩] W fun e w' => e = .returned (.string ⟨#[]⟩) ∧ W = w')
    (k3 : ∀ W, Calls Tryz.prog 208 #[.string ⟨#[48]⟩, .int .i64 (b.size : Int)] W fun e w' => e = .returned (.string z) ∧ Below W.heap.size W w') :
    Calls Tryz.prog 130 #[.string a, .string b] w fun e w' => e = .returned (.tuple #[.string ⟨#[48]⟩, .string (⟨#[49]⟩ ++ z)]) ∧ Below w.heap.size w w' := by
  obtain ⟨b1, b2, b3, b4⟩ := some_bytesR b hb
  have hlen : ∀ W : World, (Builtin.len_ #[9] 3 #[.string b]).run Tryz.prog W = .ok (.int .i64 (b.size : Int)) W := fun W => by rw [run_len_string W _ _ b (by kernel_rfl)]; rfl
  have K := Lib.hid k
  have K2 := Lib.hid k2
  have K3 := Lib.hid k3
  clear k k2 k3 hb
  go_enter Tryz.func130, Tryz.ntmps130
  go_wp2_with fail
  refine (K.out _).mono ?_
  rintro e w1 ⟨p, n, c, rfl, r1⟩
  go_wp2_with fail
  refine (K2.out _).mono ?_
  rintro e w2 ⟨rfl, hw⟩
  subst w2
  go_wp2_with fail
  refine (K3.out _).mono ?_
  rintro e w3 ⟨rfl, r3⟩
  go_wp2_with fail
  go_ret2
  exact ⟨rfl, then_below r1 r3⟩
set_option maxHeartbeats 4000000 in
theorem ap_some {E : Int} {z x : ByteArray} (hE : (E == 4) = false) (hb : b.size ≠ 0) (hx : x.size ≠ 0) (hab : ∀ W : World, (Op.stringOp .add a b).run Tryz.prog W = .ok (.string (a ++ b)) W) (h1z : ∀ W : World, (Op.stringOp .add ⟨#[49]⟩ z).run Tryz.prog W = .ok (.string (⟨#[49]⟩ ++ z)) W)
    (k : ∀ W, Calls Tryz.prog 47 #[.string a] W fun e w' => ∃ p n c, e = .returned (.tuple #[.slice p n c, .int .i64 E]) ∧ Below W.heap.size W w')
    (k2 : ∀ W, Calls Tryz.prog 207 #[.string (a ++ b), .string ⟨#[48]⟩] W fun e w' => e = .returned (.string x) ∧ W = w')
    (k3 : ∀ W, Calls Tryz.prog 208 #[.string ⟨#[48]⟩, .int .i64 (b.size : Int)] W fun e w' => e = .returned (.string z) ∧ Below W.heap.size W w') :
    Calls Tryz.prog 130 #[.string a, .string b] w fun e w' => e = .returned (.tuple #[.string x, .string (⟨#[49]⟩ ++ z)]) ∧ Below w.heap.size w w' := by
  obtain ⟨b1, b2, b3, b4⟩ := some_bytesR b hb
  obtain ⟨x1, x2, x3, x4⟩ := some_bytesR x hx
  have hlen : ∀ W : World, (Builtin.len_ #[9] 3 #[.string b]).run Tryz.prog W = .ok (.int .i64 (b.size : Int)) W := fun W => by rw [run_len_string W _ _ b (by kernel_rfl)]; rfl
  have K := Lib.hid k
  have K2 := Lib.hid k2
  have K3 := Lib.hid k3
  clear k k2 k3 hb hx
  go_enter Tryz.func130, Tryz.ntmps130
  go_wp2_with fail
  refine (K.out _).mono ?_
  rintro e w1 ⟨p, n, c, rfl, r1⟩
  go_wp2_with fail
  refine (K2.out _).mono ?_
  rintro e w2 ⟨rfl, hw⟩
  subst w2
  go_wp2_with fail
  refine (K3.out _).mono ?_
  rintro e w3 ⟨rfl, r3⟩
  go_wp2_with fail
  go_ret2
  exact ⟨rfl, then_below r1 r3⟩
end

end Go.Proofs.YtimdinmhphihkaaGreatDoor

namespace Go.Proofs.YtimdinmhphihkaaGreatDoor
open Go Go.Proofs Go.RowKit Go.Shelf Nu

/-- the number of two texts' numbers, below 0 or not; or why there is none: 4 of no form, 3 of too many digits -/
def pres (neg : Bool) (num den : ByteArray) : Int × Rat :=
  if isNum num ∧ isNum den ∧ den ≠ ⟨#[48]⟩ ∧ (neg = false ∨ num ≠ ⟨#[48]⟩) then
    (if num.size ≤ 200 ∧ den.size ≤ 200 then (0, ((if neg then -((numv num num.size : Nat) : Int) else ((numv num num.size : Nat) : Int) : Int) : Rat) / (((numv den den.size : Nat) : Int) : Rat)) else (3, 0))
  else (4, 0)
/-- digits without their noughts ahead -/
def ptrim (l : List UInt8) : ByteArray := if Lib.trimLeftB l 48 = [] then ⟨#[48]⟩ else ⟨(Lib.trimLeftB l 48).toArray⟩
/-- so many noughts -/
def zeros (n : Nat) : ByteArray := ⟨(Lib.repeatL [48] n).toArray⟩
/-- the two numbers' texts of one with a point -/
def ppt (a b : ByteArray) : ByteArray × ByteArray := if isNum a ∧ b.size ≠ 0 then (ptrim (a ++ b).data.toList, ⟨#[49]⟩ ++ zeros b.size) else (⟨#[]⟩, ⟨#[49]⟩)
/-- .. of any text -/
def psplit (s : ByteArray) : ByteArray × ByteArray :=
  if Lib.indexByte s.data.toList 47 = -1 then
    (if Lib.indexByte s.data.toList 46 = -1 then (s, ⟨#[49]⟩)
    else ppt (s.extract 0 (Lib.indexByte s.data.toList 46).toNat) (s.extract ((Lib.indexByte s.data.toList 46).toNat + 1) s.size))
  else (s.extract 0 (Lib.indexByte s.data.toList 47).toNat, s.extract ((Lib.indexByte s.data.toList 47).toNat + 1) s.size)
def prest (s : ByteArray) : ByteArray := ⟨(Lib.trimPrefix s.data.toList [45]).toArray⟩
def pneg (s : ByteArray) : Bool := Lib.hasPrefix s.data.toList [45]
/-- what any text is read as -/
def pout (s : ByteArray) : Int × Rat := pres (pneg s) (psplit (prest s)).1 (psplit (prest s)).2

theorem ix_lt : ∀ {l : List UInt8} {c : UInt8}, Lib.indexByte l c ≠ -1 → ∃ i : Nat, Lib.indexByte l c = i ∧ i < l.length
  | [], _, h => absurd rfl h
  | b :: l, c, h => by
    unfold Lib.indexByte at h ⊢
    by_cases e : (b == c) = true
    · rw [if_pos e]; exact ⟨0, rfl, by simp⟩
    · rw [if_neg e] at h ⊢
      by_cases e2 : (Lib.indexByte l c == -1) = true
      · rw [if_pos e2] at h; exact absurd rfl h
      · rw [if_neg e2] at h ⊢
        obtain ⟨i, hi, hl⟩ := ix_lt (l := l) (c := c) (by simpa using e2)
        exact ⟨i + 1, by rw [hi]; simp, by simpa using hl⟩
theorem ix_none : ∀ {l : List UInt8} {c : UInt8}, (∀ x ∈ l, x ≠ c) → Lib.indexByte l c = -1
  | [], _, _ => rfl
  | b :: l, c, h => by
    unfold Lib.indexByte
    have h1 := h b (by simp)
    have h2 := ix_none (l := l) (c := c) (fun x hx => h x (List.mem_cons_of_mem _ hx))
    rw [if_neg (by simpa using h1), h2]; rfl
theorem ix_at : ∀ {l m : List UInt8} {c : UInt8}, (∀ x ∈ l, x ≠ c) → Lib.indexByte (l ++ c :: m) c = (l.length : Nat)
  | [], m, c, _ => by simp [Lib.indexByte]
  | b :: l, m, c, h => by
    have h1 := h b (by simp)
    have h2 := ix_at (l := l) (m := m) (c := c) (fun x hx => h x (List.mem_cons_of_mem _ hx))
    rw [List.cons_append]
    unfold Lib.indexByte
    rw [if_neg (by simpa using h1), h2, if_neg (by simp)]
    simp
theorem size_list (s : ByteArray) : s.size = s.data.toList.length := Array.length_toList.symm ▸ rfl
theorem ext_take (s : ByteArray) (i : Nat) : (s.extract 0 i).data.toList = s.data.toList.take i := by simp [ByteArray.data_extract, Array.toList_extract]
theorem ext_drop (s : ByteArray) (i : Nat) : (s.extract i s.size).data.toList = s.data.toList.drop i := by
  have : s.size = s.data.toList.length := size_list s
  rw [ByteArray.data_extract, Array.toList_extract, List.extract_eq_take_drop, this]
  exact List.take_of_length_le (by simp)
theorem data_app (a b : ByteArray) : (a ++ b).data.toList = a.data.toList ++ b.data.toList := by simp
theorem cut_at {a b s : ByteArray} {c : UInt8} (h : s.data.toList = a.data.toList ++ c :: b.data.toList) : s.extract 0 a.size = a ∧ s.extract (a.size + 1) s.size = b := by
  constructor
  · apply ext_lit; rw [ext_take, h, size_list, List.take_left' rfl]
  · apply ext_lit; rw [ext_drop, h, size_list, ← List.drop_drop, List.drop_left' rfl]; rfl
theorem num_bytes {s : ByteArray} (h : isNum s) {x : UInt8} (hx : x ∈ s.data.toList) : 48 ≤ x.toNat ∧ x.toNat ≤ 57 := by
  obtain ⟨j, hj, rfl⟩ := List.mem_iff_getElem.1 hx
  have := h.1 j (by rw [size_list]; exact hj)
  unfold bt at this
  rwa [List.getD_eq_getElem?_getD, List.getElem?_eq_getElem hj] at this
theorem num_not {s : ByteArray} (h : isNum s) (c : UInt8) (hc : c.toNat < 48 ∨ 57 < c.toNat) : ∀ x ∈ s.data.toList, x ≠ c := by
  rintro x hx rfl
  have := num_bytes h hx
  omega
theorem num_pos {s : ByteArray} (h : isNum s) : 0 < s.size := by rcases h.2 with h | h <;> omega
theorem txt_nought : txt 0 = ⟨#[48]⟩ := by apply ext_lit; unfold txt; rw [low]; rfl
theorem num_zero {s : ByteArray} (h : isNum s) : numv s s.size = 0 ↔ s = ⟨#[48]⟩ := by
  constructor
  · intro e; have := txt_back h; rw [e, txt_nought] at this; exact this.symm
  · rintro rfl; rfl
theorem one_num : isNum ⟨#[49]⟩ := by decide
theorem prest_no {s : ByteArray} (h : Lib.hasPrefix s.data.toList [45] = false) : pneg s = false ∧ prest s = s := by
  refine ⟨h, ?_⟩
  unfold prest Lib.trimPrefix
  rw [h]; rfl
theorem prest_yes (s : ByteArray) : pneg (⟨#[45]⟩ ++ s) = true ∧ prest (⟨#[45]⟩ ++ s) = s := by
  have e : (⟨#[45]⟩ ++ s : ByteArray).data.toList = 45 :: s.data.toList := by rw [data_app]; rfl
  have h : Lib.hasPrefix (45 :: s.data.toList) [45] = true := by simp [Lib.hasPrefix]
  refine ⟨by unfold pneg; rw [e, h], ?_⟩
  unfold prest Lib.trimPrefix
  rw [e, h]; rfl
theorem num_lt {s : ByteArray} (h : isNum s) (hl : s.size ≤ 200) : numv s s.size < 10 ^ (199 + 1) :=
  Nat.lt_of_lt_of_le (numv_lt s s.size fun j hj => (h.1 j hj).2) (Nat.pow_le_pow_right (by decide) hl)
/-- what is read has few digits -/
theorem pres_small {n : Bool} {p q : ByteArray} (h : (pres n p q).1 = 0) : (txt (pres n p q).2.num.natAbs).size ≤ 200 ∧ (txt (pres n p q).2.den).size ≤ 200 := by
  unfold pres at h ⊢
  by_cases h1 : isNum p ∧ isNum q ∧ q ≠ ⟨#[48]⟩ ∧ (n = false ∨ p ≠ ⟨#[48]⟩)
  · rw [if_pos h1] at h ⊢
    by_cases h2 : p.size ≤ 200 ∧ q.size ≤ 200
    · rw [if_pos h2]
      have l1 := num_lt h1.1 h2.1
      have l2 := num_lt h1.2.1 h2.2
      have d0 : numv q q.size ≠ 0 := fun e => h1.2.2.1 ((num_zero h1.2.1).1 e)
      obtain ⟨P, hP⟩ : ∃ P, P = numv p p.size := ⟨_, rfl⟩
      obtain ⟨Q, hQ⟩ : ∃ Q, Q = numv q q.size := ⟨_, rfl⟩
      rw [← hP] at l1 ⊢
      rw [← hQ] at l2 d0 ⊢
      obtain ⟨N, hN⟩ : ∃ N : Int, N = (if n = true then -((P : Nat) : Int) else ((P : Nat) : Int)) := ⟨_, rfl⟩
      rw [← hN]
      have hN2 : N.natAbs = P := by rw [hN]; split <;> simp
      have hz := rnz d0
      obtain ⟨r1, r2⟩ := rat_small (Z := (N : Rat) / (((Q : Nat) : Int) : Rat)) (n := N) d0 (by rw [Rat.intCast_natCast]; grind)
      rw [hN2] at r1
      rw [txt_size, txt_size]
      exact ⟨low_len _ _ (Nat.lt_of_le_of_lt r1 l1), low_len _ _ (Nat.lt_of_le_of_lt r2 l2)⟩
    · rw [if_neg h2] at h; cases h
  · rw [if_neg h1] at h; cases h
theorem pout_small {s : ByteArray} (h : (pout s).1 = 0) : (txt (pout s).2.num.natAbs).size ≤ 200 ∧ (txt (pout s).2.den).size ≤ 200 := pres_small h

end Go.Proofs.YtimdinmhphihkaaGreatDoor

namespace Go.Proofs.YtimdinmhphihkaaGreatDoor
open Go Go.Proofs Go.RowKit Go.Shelf Nu

attribute [local go_sem] Oper.semAt_some

theorem zeros_size (n : Nat) : (zeros n).size = n := by
  unfold zeros
  show (Lib.repeatL [48] n).toArray.size = n
  rw [List.size_toArray, Lib.repeatL_length]; simp
theorem rep_any (c : Nat) (w : World) (hc : c ≤ 1000000) : Calls Tryz.prog 208 #[.string ⟨#[48]⟩, .int .i64 (c : Int)] w fun e w' => e = .returned (.string (zeros c)) ∧ Below w.heap.size w w' :=
  Any.strings_Repeat YtimdinmhphihkaaGreatDoor.repL bextra ⟨#[48]⟩ c w (by omega) (by rw [show (⟨#[48]⟩ : ByteArray).size = 1 from rfl]; omega)
theorem nparse_any (s : ByteArray) (hs : s.size ≤ 2000000) : ∃ E : Int, ((isNum s ∧ s.size ≤ 200 ∧ E = 0) ∨ (isNum s ∧ 200 < s.size ∧ E = 3) ∨ (¬ isNum s ∧ E = 4)) ∧
    ∀ W, Calls Tryz.prog 47 #[.string s] W fun e w' => ∃ a n c, e = .returned (.tuple #[.slice a n c, .int .i64 E]) ∧ Below W.heap.size W w' := by
  by_cases h : isNum s
  · by_cases hl : s.size ≤ 200
    · refine ⟨0, .inl ⟨h, hl, rfl⟩, fun W => (parse_ok s W h hl).mono ?_⟩
      rintro e w' ⟨v, rfl, f, hb⟩
      obtain ⟨a, c, rfl⟩ := f.reads.form
      exact ⟨a, _, c, rfl, hb⟩
    · refine ⟨3, .inr (.inl ⟨h, by omega, rfl⟩), fun W => (parse_limit s W hs h (by omega)).mono ?_⟩
      rintro e w' ⟨rfl, hb⟩
      exact ⟨none, 0, 0, rfl, hb⟩
  · refine ⟨4, .inr (.inr ⟨h, rfl⟩), fun W => (parse_form s W hs h).mono ?_⟩
    rintro e w' ⟨rfl, hb⟩
    exact ⟨none, 0, 0, rfl, hb⟩
theorem ptrim_size (l : List UInt8) : (ptrim l).size ≤ l.length + 1 := by
  unfold ptrim
  split
  · exact Nat.le_add_left 1 _
  · show (Lib.trimLeftB l 48).toArray.size ≤ _
    rw [List.size_toArray]
    exact Nat.le_succ_of_le (List.dropWhile_suffix _).length_le
theorem ppt_size (a b : ByteArray) : (ppt a b).1.size ≤ a.size + b.size + 1 ∧ (ppt a b).2.size ≤ b.size + 1 := by
  unfold ppt
  split
  · have h := ptrim_size (a ++ b).data.toList
    rw [data_app, List.length_append, ← size_list, ← size_list] at h
    refine ⟨by rw [data_app]; exact h, ?_⟩
    show (⟨#[49]⟩ ++ zeros b.size : ByteArray).size ≤ _
    rw [ByteArray.size_append, zeros_size]
    exact Nat.le_of_eq (Nat.add_comm _ _)
  · exact ⟨Nat.zero_le _, Nat.le_add_left 1 _⟩
theorem psplit_size (s : ByteArray) : (psplit s).1.size ≤ 2 * s.size + 1 ∧ (psplit s).2.size ≤ s.size + 1 := by
  have hx : ∀ i j, (s.extract i j).size ≤ s.size := fun i j => by rw [ByteArray.size_extract]; omega
  unfold psplit
  split
  · split
    · exact ⟨by show s.size ≤ _; omega, Nat.le_add_left 1 _⟩
    · have h := ppt_size (s.extract 0 (Lib.indexByte s.data.toList 46).toNat) (s.extract ((Lib.indexByte s.data.toList 46).toNat + 1) s.size)
      have h1 := hx 0 (Lib.indexByte s.data.toList 46).toNat
      have h2 := hx ((Lib.indexByte s.data.toList 46).toNat + 1) s.size
      omega
  · exact ⟨Nat.le_trans (hx _ _) (by omega), Nat.le_trans (hx _ _) (by omega)⟩
theorem prest_size (s : ByteArray) : (prest s).size ≤ s.size := by
  unfold prest Lib.trimPrefix
  show (if _ then _ else _ : List UInt8).toArray.size ≤ _
  rw [List.size_toArray]
  split
  · rw [List.length_drop, ← size_list]; omega
  · rw [← size_list]; omega
theorem ap_any (a b : ByteArray) (w : World) (ha : a.size ≤ 500000) (hb : b.size ≤ 500000) :
    Calls Tryz.prog 130 #[.string a, .string b] w fun e w' => e = .returned (.tuple #[.string (ppt a b).1, .string (ppt a b).2]) ∧ Below w.heap.size w w' := by
  obtain ⟨E, hE, k⟩ := nparse_any a (by omega)
  unfold ppt
  by_cases h1 : isNum a
  · have hE4 : (E == 4) = false := by
      rcases hE with h | h | h
      · rw [h.2.2]; rfl
      · rw [h.2.2]; rfl
      · exact absurd h1 h.1
    by_cases h2 : b.size = 0
    · rw [if_neg (fun h => h.2 h2)]
      obtain rfl := no_bytesR b h2
      exact ap_empty hE4 k
    · rw [if_pos ⟨h1, h2⟩]
      have s1 : ∀ W : World, (Op.stringOp .add a b).run Tryz.prog W = .ok (.string (a ++ b)) W := fun W => run_string_add_sum W _ _ (by omega)
      have s2 : ∀ W : World, (Op.stringOp .add ⟨#[49]⟩ (zeros b.size)).run Tryz.prog W = .ok (.string (⟨#[49]⟩ ++ zeros b.size)) W := fun W => run_string_add_sum W _ _ (by rw [zeros_size, show (⟨#[49]⟩ : ByteArray).size = 1 from rfl]; omega)
      unfold ptrim
      by_cases h3 : Lib.trimLeftB (a ++ b).data.toList 48 = []
      · rw [if_pos h3]
        exact ap_zero hE4 h2 s1 s2 k (fun W => trim_lit _ _ W h3) (fun W => rep_any _ W (by omega))
      · rw [if_neg h3]
        exact ap_some hE4 h2 (fun e => h3 (by
          have e : (Lib.trimLeftB (a ++ b).data.toList 48).toArray.size = 0 := e
          rw [List.size_toArray] at e
          exact List.eq_nil_of_length_eq_zero e)) s1 s2 k (fun W => trim_lit _ _ W rfl) (fun W => rep_any _ W (by omega))
  · rw [if_neg (fun h => h1 h.1)]
    have : E = 4 := by
      rcases hE with h | h | h
      · exact absurd h.1 h1
      · exact absurd h.1 h1
      · exact h.2
    subst this
    exact ap_form k
theorem psplit_any (s : ByteArray) (w : World) (hs : s.size ≤ 400000) :
    Calls Tryz.prog 46 #[.string s] w fun e w' => e = .returned (.tuple #[.string (psplit s).1, .string (psplit s).2]) ∧ Below w.heap.size w w' := by
  have hx : ∀ i j, (s.extract i j).size ≤ s.size := fun i j => by rw [ByteArray.size_extract]; omega
  unfold psplit
  by_cases h47 : Lib.indexByte s.data.toList 47 = -1
  · rw [if_pos h47]
    have k1 := fun W => miss_lit s 47 W h47
    by_cases h46 : Lib.indexByte s.data.toList 46 = -1
    · rw [if_pos h46]
      exact sp_none k1 (fun W => miss_lit s 46 W h46)
    · rw [if_neg h46]
      obtain ⟨i, hi, hl⟩ := ix_lt h46
      rw [hi]
      simp only [Int.toNat_natCast]
      rw [← size_list] at hl
      exact sp_pt k1 (fun W => hit_lit s _ _ 46 i W hi hl (by omega) rfl rfl) (fun W => ap_any _ _ W (Nat.le_trans (hx _ _) (by omega)) (Nat.le_trans (hx _ _) (by omega)))
  · rw [if_neg h47]
    obtain ⟨i, hi, hl⟩ := ix_lt h47
    rw [hi]
    simp only [Int.toNat_natCast]
    rw [← size_list] at hl
    exact sp_up (fun W => hit_lit s _ _ 47 i W hi hl (by omega) rfl rfl)
theorem parse_err (s : ByteArray) (hs : s.size ≤ 200000) {E : Int} {Z : Rat} (h : pout s = (E, Z)) (h0 : E ≠ 0) (w : World) :
    Calls Tryz.prog 9 #[.string s] w fun e w' => e = .returned (.tuple #[.agg #[.bool false, .slice none 0 0, .slice none 0 0], .int .i64 E]) ∧ Below w.heap.size w w' := by
  have h9 := prest_size s
  have hk : ∀ W, Calls Tryz.prog 45 #[.string s, .string ⟨#[45]⟩] W fun e w' => e = .returned (.tuple #[.string (prest s), .bool (pneg s)]) ∧ w' = W := fun W => cut_any s W
  have hp := fun W => psplit_any (prest s) W (by omega)
  have hz := psplit_size (prest s)
  unfold pout at h
  revert h hk
  generalize pneg s = neg
  revert hp hz
  generalize psplit (prest s) = pq
  obtain ⟨num, den⟩ := pq
  intro hp hz h hk
  simp only at hp hz h
  obtain ⟨E1, c1, k1⟩ := nparse_any num (by omega)
  obtain ⟨E2, c2, k2⟩ := nparse_any den (by omega)
  unfold pres at h
  by_cases i1 : isNum num
  · have e1 : (E1 == 4) = false := by
      rcases c1 with h | h | h
      · rw [h.2.2]; rfl
      · rw [h.2.2]; rfl
      · exact absurd i1 h.1
    by_cases i2 : isNum den
    · have e2 : (E2 == 4) = false := by
        rcases c2 with h | h | h
        · rw [h.2.2]; rfl
        · rw [h.2.2]; rfl
        · exact absurd i2 h.1
      by_cases i3 : den = ⟨#[48]⟩
      · rw [if_neg (fun h => h.2.2.1 i3)] at h
        obtain rfl : 4 = E := congrArg Prod.fst h
        subst i3
        exact ps_f3 e1 e2 hk hp k1 k2
      · by_cases i4 : neg = false ∨ num ≠ ⟨#[48]⟩
        · rw [if_pos ⟨i1, i2, i3, i4⟩] at h
          by_cases i5 : num.size ≤ 200 ∧ den.size ≤ 200
          · rw [if_pos i5] at h
            exact absurd (congrArg Prod.fst h).symm h0
          · rw [if_neg i5] at h
            obtain rfl : 3 = E := congrArg Prod.fst h
            rcases c1 with c | c | c
            · obtain ⟨_, c, rfl⟩ := c
              have e3 : (E2 != 0) = true := by
                rcases c2 with d | d | d
                · exact absurd ⟨c, d.2.1⟩ i5
                · rw [d.2.2]; rfl
                · rw [d.2]; rfl
              cases neg with
              | false => exact ps_l2p e2 e3 i3 hk hp k1 k2
              | true => exact ps_l2n e2 e3 i3 (by rcases i4 with e | e; cases e; exact e) hk hp k1 k2
            · obtain ⟨_, c, rfl⟩ := c
              cases neg with
              | false => exact ps_l1p e1 e2 (by rfl) i3 hk hp k1 k2
              | true => exact ps_l1n e1 e2 (by rfl) i3 (by rcases i4 with e | e; cases e; exact e) hk hp k1 k2
            · exact absurd i1 c.1
        · rw [if_neg (fun h => i4 h.2.2.2)] at h
          obtain rfl : 4 = E := congrArg Prod.fst h
          obtain rfl : neg = true := by cases neg; exact absurd (.inl rfl) i4; rfl
          obtain rfl : num = ⟨#[48]⟩ := Classical.byContradiction fun e => i4 (.inr e)
          exact ps_f4 e1 e2 i3 hk hp k1 k2
    · rw [if_neg (fun h => i2 h.2.1)] at h
      obtain rfl : 4 = E := congrArg Prod.fst h
      have : E2 = 4 := by
        rcases c2 with h | h | h
        · exact absurd h.1 i2
        · exact absurd h.1 i2
        · exact h.2
      subst this
      exact ps_f2 e1 hk hp k1 k2
  · rw [if_neg (fun h => i1 h.1)] at h
    obtain rfl : 4 = E := congrArg Prod.fst h
    have : E1 = 4 := by
      rcases c1 with h | h | h
      · exact absurd h.1 i1
      · exact absurd h.1 i1
      · exact h.2
    subst this
    exact ps_f1 hk hp k1 k2
end Go.Proofs.YtimdinmhphihkaaGreatDoor

namespace Go.Proofs.YtimdinmhphihkaaGreatDoor
open Go Go.Proofs Go.RowKit Go.Shelf Nu

/-- the number of digits, as bytes -/
def dval (l : List UInt8) : Nat := l.foldl (fun a c => 10 * a + (c.toNat - 48)) 0
/-- digits alone? -/
def dall (l : List UInt8) : Prop := ∀ c ∈ l, 48 ≤ c.toNat ∧ c.toNat ≤ 57
theorem dfold (l : List UInt8) : ∀ a : Nat, l.foldl (fun a c => 10 * a + (c.toNat - 48)) a = a * 10 ^ l.length + dval l := by
  unfold dval
  induction l with
  | nil => intro a; simp
  | cons c l ih =>
    intro a
    rw [List.foldl_cons, ih, List.foldl_cons, ih (10 * 0 + (c.toNat - 48)), List.length_cons, Nat.pow_succ]
    rw [Nat.add_mul]
    have : 10 * a * 10 ^ l.length = a * (10 ^ l.length * 10) := by rw [Nat.mul_comm (10 ^ l.length) 10, ← Nat.mul_assoc, Nat.mul_comm a 10]
    rw [this, Nat.mul_zero, Nat.zero_add, Nat.add_assoc]
theorem dval_app (l m : List UInt8) : dval (l ++ m) = dval l * 10 ^ m.length + dval m := by
  show (l ++ m).foldl _ 0 = _
  rw [List.foldl_append, dfold]; rfl
theorem dval_cons (c : UInt8) (m : List UInt8) : dval (c :: m) = (c.toNat - 48) * 10 ^ m.length + dval m := by
  have := dval_app [c] m
  rw [List.singleton_append] at this
  rw [this]
  show (10 * 0 + (c.toNat - 48)) * _ + _ = _
  rw [Nat.mul_zero, Nat.zero_add]
theorem zlen (n : Nat) : (Lib.repeatL [48] n).length = n := by
  induction n with
  | zero => rfl
  | succ n ih => show ([48] ++ Lib.repeatL [48] n).length = _; rw [List.length_append, ih]; simp; omega
theorem zdval (n : Nat) : dval (Lib.repeatL [48] n) = 0 := by
  induction n with
  | zero => rfl
  | succ n ih =>
    show dval ([48] ++ Lib.repeatL [48] n) = 0
    rw [dval_app, ih, show dval [48] = 0 from rfl]; simp
theorem zall (n : Nat) : dall (Lib.repeatL [48] n) := by
  induction n with
  | zero => intro c h; cases h
  | succ n ih =>
    intro c h
    rcases List.mem_append.1 (show c ∈ [48] ++ Lib.repeatL [48] n from h) with h | h
    · obtain rfl : c = 48 := by simpa using h
      decide
    · exact ih c h
theorem trim_dval (l : List UInt8) : dval (Lib.trimLeftB l 48) = dval l := by
  induction l with
  | nil => rfl
  | cons c l ih =>
    show dval (List.dropWhile _ (c :: l)) = _
    rw [List.dropWhile_cons]
    split
    · rename_i h
      obtain rfl : c = 48 := by simpa using h
      rw [dval_cons]
      show dval (Lib.trimLeftB l 48) = _
      rw [ih]; simp
    · rfl
theorem lead_head {l : List UInt8} {c : UInt8} {t : List UInt8} (h : Lib.trimLeftB l 48 = c :: t) : c ≠ 48 := by
  induction l with
  | nil => cases h
  | cons x l ih =>
    have h : List.dropWhile (· == 48) (x :: l) = c :: t := h
    rw [List.dropWhile_cons] at h
    split at h
    · exact ih h
    · rename_i hx
      injection h with h1 _
      rw [← h1]
      simpa using hx
theorem lead_all {l : List UInt8} (h : dall l) : dall (Lib.trimLeftB l 48) := fun c hc => h c ((List.dropWhile_suffix _).subset hc)
theorem lead_all' {l : List UInt8} (h : dall (Lib.trimLeftB l 48)) : dall l := by
  induction l with
  | nil => exact h
  | cons x l ih =>
    have h' : dall (List.dropWhile (· == 48) (x :: l)) := h
    rw [List.dropWhile_cons] at h'
    split at h'
    · rename_i hx
      obtain rfl : x = 48 := by simpa using hx
      intro c hc
      rcases List.mem_cons.1 hc with rfl | hc
      · decide
      · exact ih h' c hc
    · exact h'
theorem lead_nil {l : List UInt8} : Lib.trimLeftB l 48 = [] ↔ ∀ c ∈ l, c = 48 := by
  induction l with
  | nil => exact ⟨fun _ c h => (by cases h), fun _ => rfl⟩
  | cons x l ih =>
    have e : Lib.trimLeftB (x :: l) 48 = if (x == 48) = true then Lib.trimLeftB l 48 else x :: l := List.dropWhile_cons ..
    rw [e]
    by_cases hx : x = 48
    · subst hx
      rw [if_pos (by rfl), ih]
      exact ⟨fun h c hc => (List.mem_cons.1 hc).elim (fun e => e) (fun hc => h c hc), fun h c hc => h c (List.mem_cons_of_mem _ hc)⟩
    · rw [if_neg (by simpa using hx)]
      exact ⟨fun h => (by cases h), fun h => absurd (h x (by simp)) hx⟩
theorem dpos {c : UInt8} {t : List UInt8} (h : 48 ≤ c.toNat) (h0 : c ≠ 48) : 0 < dval (c :: t) := by
  rw [dval_cons]
  have h1 : c.toNat ≠ 48 := fun e => h0 (UInt8.toNat_inj.1 e)
  have h2 : 0 < 10 ^ t.length := Nat.pow_pos (by decide)
  have h3 : 1 * 10 ^ t.length ≤ (c.toNat - 48) * 10 ^ t.length := Nat.mul_le_mul_right _ (by omega)
  omega
theorem bt_list (s : ByteArray) {k : Nat} (hk : k < s.data.toList.length) : bt s k = (s.data.toList[k]).toNat := by
  unfold bt; rw [List.getD_eq_getElem?_getD, List.getElem?_eq_getElem hk]; rfl
theorem numv_dval (s : ByteArray) (k : Nat) (hk : k ≤ s.data.toList.length) : numv s k = dval (s.data.toList.take k) := by
  induction k with
  | zero => rfl
  | succ k ih =>
    rw [numv, ih (by omega), List.take_succ_eq_append_getElem (by omega), dval_app, bt_list s (by omega)]
    show _ = _ * 10 ^ 1 + (10 * 0 + (_ - 48))
    omega
theorem numv_all (s : ByteArray) : numv s s.size = dval s.data.toList := by rw [size_list, numv_dval s _ (Nat.le_refl _), List.take_length]
theorem dall_bt {s : ByteArray} : dall s.data.toList ↔ ∀ j, j < s.size → 48 ≤ bt s j ∧ bt s j ≤ 57 := by
  rw [size_list]
  constructor
  · intro h j hj; rw [bt_list s hj]; exact h _ (List.getElem_mem hj)
  · intro h c hc
    obtain ⟨j, hj, rfl⟩ := List.mem_iff_getElem.1 hc
    have := h j hj
    rwa [bt_list s hj] at this
theorem isNum_dall {s : ByteArray} (h : isNum s) : dall s.data.toList := dall_bt.2 h.1
theorem isNum_cons {c : UInt8} {t : List UInt8} (h : dall (c :: t)) (h0 : t = [] ∨ c ≠ 48) : isNum ⟨(c :: t).toArray⟩ := by
  have e : (⟨(c :: t).toArray⟩ : ByteArray).data.toList = c :: t := rfl
  refine ⟨dall_bt.1 (by rw [e]; exact h), ?_⟩
  rw [size_list, e]
  rcases h0 with rfl | h0
  · exact .inl rfl
  · cases t with
    | nil => exact .inl rfl
    | cons d t =>
      refine .inr ⟨by simp, ?_⟩
      rw [bt_list _ (by rw [e]; simp)]
      exact fun e => h0 (UInt8.toNat_inj.1 e)
theorem ptrim_num {l : List UInt8} (h : dall l) : isNum (ptrim l) := by
  unfold ptrim
  cases e : Lib.trimLeftB l 48 with
  | nil => rw [if_pos rfl]; decide
  | cons c t =>
    rw [if_neg (by simp)]
    exact isNum_cons (e ▸ lead_all h) (.inr (lead_head e))
theorem ptrim_not {l : List UInt8} (h : isNum (ptrim l)) : dall l := by
  unfold ptrim at h
  by_cases e : Lib.trimLeftB l 48 = []
  · have := lead_nil.1 e
    intro c hc; rw [this c hc]; decide
  · rw [if_neg e] at h
    exact lead_all' (isNum_dall h)
theorem ptrim_val {l : List UInt8} : numv (ptrim l) (ptrim l).size = dval l := by
  rw [numv_all, ← trim_dval l]
  unfold ptrim
  split
  · rename_i h; rw [h]; rfl
  · rfl
theorem one_zeros (n : Nat) : (⟨#[49]⟩ ++ zeros n : ByteArray).data.toList = 49 :: Lib.repeatL [48] n := by rw [data_app]; rfl
theorem den_num (n : Nat) : isNum (⟨#[49]⟩ ++ zeros n) := by
  have : (⟨#[49]⟩ ++ zeros n : ByteArray) = ⟨(49 :: Lib.repeatL [48] n).toArray⟩ := ext_lit _ _ (one_zeros n)
  rw [this]
  refine isNum_cons ?_ (.inr (by decide))
  intro c hc
  rcases List.mem_cons.1 hc with rfl | hc
  · decide
  · exact zall n c hc
theorem den_val (n : Nat) : numv (⟨#[49]⟩ ++ zeros n) (⟨#[49]⟩ ++ zeros n : ByteArray).size = 10 ^ n := by
  rw [numv_all, one_zeros, dval_cons, zdval, zlen]; simp
theorem den_size (n : Nat) : (⟨#[49]⟩ ++ zeros n : ByteArray).size = n + 1 := by rw [size_list, one_zeros, List.length_cons, zlen]
theorem den_not (n : Nat) : (⟨#[49]⟩ ++ zeros n : ByteArray) ≠ ⟨#[48]⟩ := fun e => by
  have := congrArg (fun s : ByteArray => s.data.toList) e
  simp only [one_zeros] at this
  cases this
/-- the sizes around a point -/
theorem point_sizes {a b : ByteArray} (ha : isNum a) : ((ptrim (a ++ b).data.toList).size ≤ 200 ∧ (⟨#[49]⟩ ++ zeros b.size : ByteArray).size ≤ 200) ↔ a.size + b.size ≤ 200 := by
  rw [den_size]
  have h1 := num_pos ha
  have hz : (ptrim (a ++ b).data.toList).size ≤ a.size + b.size ∧ (a.size ≠ 1 → (ptrim (a ++ b).data.toList).size = a.size + b.size) := by
    unfold ptrim
    have hl : (Lib.trimLeftB (a ++ b).data.toList 48).length ≤ a.size + b.size := by
      have := (List.dropWhile_suffix (· == 48) (l := (a ++ b).data.toList)).length_le
      rw [data_app, List.length_append, ← size_list, ← size_list] at this
      rw [data_app]; exact this
    split
    · rename_i h
      refine ⟨by show 1 ≤ _; omega, fun h2 => ?_⟩
      have hn := ha.2
      rcases hn with hn | hn
      · exact absurd hn h2
      · exfalso
        have h0 := lead_nil.1 h
        rw [data_app] at h0
        have hk : 0 < a.data.toList.length := by rw [← size_list]; exact h1
        have := h0 (a.data.toList[0]) (List.mem_append_left _ (List.getElem_mem hk))
        apply hn.2
        rw [bt_list a hk, this]; rfl
    · refine ⟨by show (Lib.trimLeftB _ 48).toArray.size ≤ _; rw [List.size_toArray]; exact hl, fun h2 => ?_⟩
      rcases ha.2 with hn | hn
      · exact absurd hn h2
      · show (Lib.trimLeftB _ 48).toArray.size = _
        rw [List.size_toArray, data_app]
        have hk : 0 < a.data.toList.length := by rw [← size_list]; exact h1
        cases e : a.data.toList with
        | nil => rw [e] at hk; cases hk
        | cons c t =>
          have hc : c ≠ 48 := fun e2 => hn.2 (by rw [bt_list a hk]; simp only [e]; rw [List.getElem_cons_zero, e2]; rfl)
          have e3 : Lib.trimLeftB (c :: t ++ b.data.toList) 48 = c :: t ++ b.data.toList := by
            show List.dropWhile _ (c :: (t ++ b.data.toList)) = _
            rw [List.dropWhile_cons, if_neg (by simpa using hc)]; rfl
          rw [e3, ← e, List.length_append, ← size_list, ← size_list]
  constructor
  · rintro ⟨k1, k2⟩
    by_cases h2 : a.size = 1
    · omega
    · rw [hz.2 h2] at k1; omega
  · intro h
    omega
theorem ptrim_zero {l : List UInt8} (h : dall l) : ptrim l = ⟨#[48]⟩ ↔ dval l = 0 := by
  rw [← num_zero (ptrim_num h), ptrim_val]
/-- what a text with a point is read as -/
theorem pres_point {n : Bool} {a b : ByteArray} (ha : isNum a) (hd : dall b.data.toList) :
    pres n (ptrim (a ++ b).data.toList) (⟨#[49]⟩ ++ zeros b.size) =
      if n = true ∧ dval (a.data.toList ++ b.data.toList) = 0 then (4, 0) else if a.size + b.size ≤ 200 then (0, ((if n then -((dval (a.data.toList ++ b.data.toList) : Nat) : Int) else ((dval (a.data.toList ++ b.data.toList) : Nat) : Int) : Int) : Rat) / (((10 ^ b.size : Nat) : Int) : Rat)) else (3, 0) := by
  have hall : dall (a ++ b).data.toList := by
    rw [data_app]
    intro c hc
    rcases List.mem_append.1 hc with h | h
    · exact isNum_dall ha c h
    · exact hd c h
  have hs := point_sizes (b := b) ha
  unfold pres
  rw [ptrim_val, den_val, data_app]
  rw [data_app] at hall hs
  by_cases h1 : n = true ∧ dval (a.data.toList ++ b.data.toList) = 0
  · rw [if_pos h1, if_neg]
    rintro ⟨_, _, _, h⟩
    rcases h with h | h
    · rw [h1.1] at h; cases h
    · exact h ((ptrim_zero hall).2 h1.2)
  · have hx : n = false ∨ ptrim (a.data.toList ++ b.data.toList) ≠ ⟨#[48]⟩ := by
      cases n with
      | false => exact .inl rfl
      | true => exact .inr (fun e => h1 ⟨rfl, (ptrim_zero hall).1 e⟩)
    rw [if_neg h1, if_pos ⟨ptrim_num hall, den_num _, den_not _, hx⟩]
    by_cases h2 : a.size + b.size ≤ 200
    · rw [if_pos h2, if_pos (hs.2 h2)]
    · rw [if_neg h2, if_neg (fun h => h2 (hs.1 h))]
theorem dall_not {l : List UInt8} (h : dall l) (c : UInt8) (hc : c.toNat < 48 ∨ 57 < c.toNat) : ∀ x ∈ l, x ≠ c := by
  rintro x hx rfl
  have := h x hx
  omega
theorem psplit_point {a b s : ByteArray} (ha : isNum a) (hb : b.size ≠ 0) (hd : dall b.data.toList) (e : s.data.toList = a.data.toList ++ 46 :: b.data.toList) : psplit s = (ptrim (a ++ b).data.toList, ⟨#[49]⟩ ++ zeros b.size) := by
  have h47 : Lib.indexByte s.data.toList 47 = -1 := by
    rw [e]
    refine ix_none (fun x hx => ?_)
    rcases List.mem_append.1 hx with h | h
    · exact num_not ha 47 (by decide) x h
    · rcases List.mem_cons.1 h with rfl | h
      · decide
      · exact dall_not hd 47 (by decide) x h
  have h46 : Lib.indexByte s.data.toList 46 = (a.size : Nat) := by rw [e, size_list]; exact ix_at (num_not ha 46 (by decide))
  unfold psplit
  rw [if_pos h47, if_neg (by rw [h46]; omega), h46]
  obtain ⟨e1, e2⟩ := cut_at e
  simp only [Int.toNat_natCast]
  rw [e1, e2]
  unfold ppt
  rw [if_pos ⟨ha, hb⟩]
end Go.Proofs.YtimdinmhphihkaaGreatDoor

namespace Go.Proofs.YtimdinmhphihkaaGreatDoor
open Go Go.Proofs Go.RowKit Go.Shelf Nu

theorem Two.symm {v u : Value} (h : Two v u) : Two u v := by
  rcases h with h | h
  · cases e : u.ownBlock with
    | none => exact .inl e
    | some g => exact .inr (by rw [h, e]; simp)
  · exact .inr (Ne.symm h)
theorem Fresh.putBox {W : World} {base b : Nat} {t : TypeId} {cs : List Value} {v : Value} {l : List Nat} (h : Fresh W base v l) (hB : BoxN W b t cs.toArray) (ht : t ≠ 90) (o : Nat) (x : Value) : Fresh (W.setCell ⟨b, o, none⟩ x) base v l := by
  refine ⟨h.1, ?_⟩
  rcases h.2 with h | ⟨g, cap, cur, e, hb, hg, r⟩
  · exact .inl h
  · refine .inr ⟨g, cap, cur, e, hb, ?_, r⟩
    have hne : g ≠ b := by
      rintro rfl
      have h1 := (show W.heap[g]? = _ from hB).symm.trans hg
      injection h1 with h1
      injection h1 with _ h2 _
      exact ht h2
    exact (Below.heap_setCell W ⟨b, o, none⟩ x g hne).trans hg

/-- .. those but the n oldest are the call's own -/
def MemO (n : Nat) (w : World) (bs : List (Nat × TypeId × List Value)) (rs : List (Value × List Nat)) (W : World) : Prop :=
  Mem w bs rs W ∧ n ≤ rs.length ∧ (∀ (k : Nat) (v : Value) (l : List Nat), k + n < rs.length → rs[k]? = some (v, l) → Fresh W w.heap.size v l) ∧
    ∀ (j k : Nat) (x y : Value × List Nat), j < k → k + n < rs.length → rs[j]? = some x → rs[k]? = some y → Two x.1 y.1
section
variable {n : Nat} {w W W' : World} {bs : List (Nat × TypeId × List Value)} {rs : List (Value × List Nat)} {b : Nat} {t : TypeId} {cs : List Value} {v u : Value} {l m : List Nat}
theorem MemO.of (M : Mem w bs rs W) (h : n = rs.length := by rfl) : MemO n w bs rs W := ⟨M, Nat.le_of_eq h, fun k _ _ hk _ => by omega, fun j k _ _ _ hk _ _ => by omega⟩
theorem MemO.below (M : MemO n w bs rs W) : Below w.heap.size w W := M.1.1
theorem MemO.up (M : MemO n w bs rs W) (r : Below W.heap.size W W') : MemO n w bs rs W' := ⟨M.1.up r, M.2.1, fun k v l hk e => (M.2.2.1 k v l hk e).below r, M.2.2.2⟩
theorem MemO.drew (M : MemO n w bs rs W) : MemO n w bs rs W.drew := M.up ⟨rfl, rfl, rfl, Nat.le_refl _, fun _ _ => rfl⟩
theorem MemO.box (M : MemO n w bs rs W) (k : Nat) (e : bs[k]? = some (b, t, cs)) : BoxN W b t cs.toArray := M.1.box k e
theorem MemO.at (M : MemO n w bs rs W) (k : Nat) (e : bs[k]? = some (b, t, cs)) : w.heap.size ≤ b := M.1.at k e
theorem MemO.lt (M : MemO n w bs rs W) {k : Nat} {x : Nat × TypeId × List Value} (e : bs[k]? = some x) : x.1 < W.heap.size := M.1.lt e
theorem MemO.new (M : MemO n w bs rs W) (t : TypeId) (cs : List Value) : MemO n w ((W.heap.size, t, cs) :: bs) rs (W.alloc (.cells cs.toArray t)) :=
  ⟨M.1.new t cs, M.2.1, fun k v l hk e => (M.2.2.1 k v l hk e).alloc _, M.2.2.2⟩
theorem MemO.fresh (M : MemO n w bs rs W) (t : TypeId) (cs : List Value) : ∃ b V, V = W.alloc (.cells cs.toArray t) ∧ b = W.heap.size ∧ MemO n w ((b, t, cs) :: bs) rs V := ⟨_, _, rfl, rfl, M.new t cs⟩
theorem MemO.get (M : MemO n w bs rs W) (k : Nat) (e : rs[k]? = some (v, l)) : Reads W v l := M.1.get k e
theorem MemO.cell (M : MemO n w bs rs W) (k : Nat) (e : bs[k]? = some (b, t, cs)) (o : Nat) (hv : cs[o]? = some v) : W.cell? ⟨b, o, none⟩ = some v := M.1.cell k e o hv
theorem MemO.fr (M : MemO n w bs rs W) (k : Nat) (e : bs[k]? = some (b, t, cs)) (o : Nat) : W.frozen? ⟨b, o, none⟩ = false := M.1.fr k e o
theorem MemO.put (M : MemO n w bs rs W) (k : Nat) (e : bs[k]? = some (b, t, cs)) (hn : cs.all no32 = true) (o : Nat) (x : Value) (ht : t ≠ 90 := by decide) : MemO n w (bs.set k (b, t, cs.set o x)) rs (W.setCell ⟨b, o, none⟩ x) :=
  ⟨M.1.put k e hn o x, M.2.1, fun k' v l hk e' => (M.2.2.1 k' v l hk e').putBox (M.1.box k e) ht o x, M.2.2.2⟩
theorem MemO.upadd (M : MemO n w bs rs W) (r : Below W.heap.size W W') (g : Fresh W' W.heap.size v l) : MemO n w bs ((v, l) :: rs) W' := by
  refine ⟨(M.1.up r).add g.reads, Nat.le_succ_of_le M.2.1, fun k v' l' hk e => ?_, fun j k x y hjk hk ex ey => ?_⟩
  · cases k with
    | zero =>
      simp only [List.getElem?_cons_zero, Option.some.injEq, Prod.mk.injEq] at e
      obtain ⟨rfl, rfl⟩ := e
      exact g.mono M.1.1.size
    | succ k => exact (M.2.2.1 k v' l' (by simp at hk; omega) (by simpa using e)).below r
  · cases k with
    | zero => omega
    | succ k =>
      have hy : rs[k]? = some y := by simpa using ey
      cases j with
      | zero =>
        simp only [List.getElem?_cons_zero, Option.some.injEq] at ex
        subst ex
        have fy := M.2.2.1 k y.1 y.2 (by simp at hk; omega) hy
        cases ev : v.ownBlock with
        | none => exact .inl ev
        | some q =>
          refine .inr (fun e2 => ?_)
          have h1 := g.lt' ev
          have h2 := fy.lt' (e2.symm.trans ev)
          omega
      | succ j => exact M.2.2.2 j k x y (by omega) (by simp at hk; omega) (by simpa using ex) hy
theorem MemO.upadd2 (M : MemO n w bs rs W) (r : Below W.heap.size W W') (g : Fresh W' W.heap.size v l) (g' : Fresh W' W.heap.size u m) (h : Two v u) : MemO n w bs ((u, m) :: (v, l) :: rs) W' := by
  have N := M.upadd r g
  have N' := M.upadd r g'
  refine ⟨N.1.add g'.reads, Nat.le_succ_of_le N.2.1, fun k v' l' hk e => ?_, fun j k x y hjk hk ex ey => ?_⟩
  · cases k with
    | zero =>
      simp only [List.getElem?_cons_zero, Option.some.injEq, Prod.mk.injEq] at e
      obtain ⟨rfl, rfl⟩ := e
      exact g'.mono M.1.1.size
    | succ k => exact N.2.2.1 k v' l' (by simp at hk ⊢; omega) (by simpa using e)
  · cases k with
    | zero => omega
    | succ k =>
      cases j with
      | zero =>
        simp only [List.getElem?_cons_zero, Option.some.injEq] at ex
        subst ex
        cases k with
        | zero =>
          have : y = (v, l) := by simpa using ey.symm
          subst this
          exact h.symm
        | succ k => exact N'.2.2.2 0 (k + 1) (u, m) y (by omega) (by simp at hk ⊢; omega) (by simp) (by simpa using ey)
      | succ j => exact N.2.2.2 j k x y (by omega) (by simp at hk ⊢; omega) (by simpa using ex) (by simpa using ey)
theorem MemO.own (M : MemO n w bs rs W) (k : Nat) (e : rs[k]? = some (v, l)) (hk : k + n < rs.length := by simp) : Fresh W w.heap.size v l := M.2.2.1 k v l hk e
theorem MemO.two (M : MemO n w bs rs W) (j k : Nat) (ej : rs[j]? = some (v, l)) (ek : rs[k]? = some (u, m)) (h : j < k := by decide) (hk : k + n < rs.length := by simp) : Two v u := M.2.2.2 j k _ _ h hk ej ek
end
theorem region_memO {P : Program} {ops : Array Oper} {Q : Exit → Act → World → Prop} {S : World → Prop} {id n : Nat} {a : Act} {w w0 : World} {bs : List (Nat × TypeId × List Value)} {rs : List (Value × List Nat)} (M : MemO n w0 bs rs w) (hm : P.follows .mixedOrders = true)
    (h : ∀ V, MemO n w0 bs rs V → wpAnyH P .any ops Q S ops.size (Array.replicate ops.size false) a V) : (Code.region id ops true).wp P Q a w :=
  wp_region_held hm (h w.drew M.drew)

end Go.Proofs.YtimdinmhphihkaaGreatDoor

namespace Go.Proofs.YtimdinmhphihkaaGreatDoor
open Go Go.Proofs Go.RowKit Go.Shelf Nu

attribute [local go_sem] Oper.semAt_some

section
variable {w : World} {p1 p2 : Option Addr} {q1 q2 A B : Nat}
theorem d_quo_own (Q R : Nat) (h1 : Reads w (.slice p1 (digs A).length q1) (digs A)) (h2 : Reads w (.slice p2 (digs B).length q2) (digs B)) (l1 : (digs A).length ≤ 80000) (l2 : (digs B).length ≤ 80000) (h0 : B ≠ 0) (eQ : Q = A / B) (eR : R = A % B) :
    Calls Tryz.prog 42 #[.slice p1 (digs A).length q1, .slice p2 (digs B).length q2] w fun e w' => ∃ a c b d, e = .returned (.tuple #[.slice a (digs Q).length c, .slice b (digs R).length d, .int .i64 0]) ∧ Fresh w' w.heap.size (.slice a (digs Q).length c) (digs Q) ∧ Reads w' (.slice b (digs R).length d) (digs R) ∧ Below w.heap.size w w' := by
  subst eQ eR
  have k := divide_any h1 h2 l1 l2 (sm_digs _) (sm_digs _) (chk_digs _) (chk_digs _) (fun e => h0 (digs_eq_nil.1 e))
  rw [val_digs, val_digs] at k
  refine (div_of h1 h2 (by omega) (by omega) (chk_digs _) (chk_digs _) (fun e => h0 (digs_eq_nil.1 e)) k).mono ?_
  rintro e w' ⟨v1, v2, rfl, f, g, hb⟩
  obtain ⟨a, c, rfl⟩ := f.reads.form
  obtain ⟨b, d, rfl⟩ := g.reads.form
  exact ⟨a, c, b, d, rfl, f, g.reads, hb⟩
theorem d_gcd_own (G : Nat) (h1 : Reads w (.slice p1 (digs A).length q1) (digs A)) (h2 : Reads w (.slice p2 (digs B).length q2) (digs B)) (l1 : (digs A).length ≤ 80000) (l2 : (digs B).length ≤ 80000) (e : G = Nat.gcd A B) :
    Calls Tryz.prog 58 #[.slice p1 (digs A).length q1, .slice p2 (digs B).length q2] w fun e w' => ∃ a c, e = .returned (.slice a (digs G).length c) ∧ Fresh w' w.heap.size (.slice a (digs G).length c) (digs G) ∧ Below w.heap.size w w' := by
  refine (gcd_any h1 h2 l1 l2 (sm_digs _) (sm_digs _) G (by rw [nv_digs, nv_digs]; exact e)).mono ?_
  rintro e w' ⟨v, rfl, f, hb⟩
  obtain ⟨a, c, rfl⟩ := f.reads.form
  exact ⟨a, c, rfl, f, hb⟩
end
section
variable {W : World} {p1 p2 : Option Addr} {q1 q2 : Nat} {s1 s2 s3 : Bool} {L1 L2 L3 : List Nat} {X Y : Int}
end
section
variable {w : World} {p1 p2 : Option Addr} {q1 q2 : Nat} {s1 s2 : Bool} {L1 L2 L3 : List Nat}
set_option maxRecDepth 100000 in
set_option maxHeartbeats 1000000 in
theorem common_own {A B : Nat} (hA : L1 = digs A) (hB : L2 = digs B) (hG : L3 = digs (Nat.gcd A B)) (l1 : L1.length ≤ 80000) (l2 : L2.length ≤ 80000) (h1 : Reads w (.slice p1 L1.length q1) L1) (h2 : Reads w (.slice p2 L2.length q2) L2) :
    Calls Tryz.prog 135 #[.agg #[.bool s1, .slice p1 L1.length q1], .agg #[.bool s2, .slice p2 L2.length q2]] w fun e w' => ∃ a c, e = .returned (.agg #[.bool false, .slice a L3.length c]) ∧ Fresh w' w.heap.size (.slice a L3.length c) L3 ∧ Below w.heap.size w w' := by
  have kg : ∀ W, Below w.heap.size w W → Calls Tryz.prog 58 #[.slice p1 L1.length q1, .slice p2 L2.length q2] W fun e w' => ∃ a c, e = .returned (.slice a L3.length c) ∧ Fresh w' W.heap.size (.slice a L3.length c) L3 ∧ Below W.heap.size W w' :=
    fun W hW => by subst hA hB hG; exact d_gcd_own _ (h1.below hW) (h2.below hW) l1 l2 rfl
  have M0 : Mem w [(w.heap.size + 1 + 1, 25, [.bool false, .slice none 0 0]), (w.heap.size + 1, 25, [.bool s2, .slice p2 L2.length q2]), (w.heap.size, 25, [.bool s1, .slice p1 L1.length q1])] []
      (((w.alloc (.cells #[.bool s1, .slice p1 L1.length q1] 25)).alloc (.cells #[.bool s2, .slice p2 L2.length q2] 25)).alloc (.cells #[.bool false, .slice none 0 0] 25)) := by
    have M := (((Mem.start w).new 25 [.bool s1, .slice p1 L1.length q1]).new 25 [.bool s2, .slice p2 L2.length q2]).new 25 [.bool false, .slice none 0 0]
    simpa only [World.size_alloc] using M
  have M0 := MemO.of (n := 0) M0
  clear h1 h2 hA hB hG l1 l2
  go_enter Tryz.func135, Tryz.ntmps135
  go_wp2_with (go_at_call 58; refine (kg _ M0.below).mono ?_; clear kg; rintro e w1 ⟨a, c, rfl, g, rr⟩; have M := M0.upadd rr g; clear M0 g rr; have z0 := M.cell 0 rfl 0 rfl; have z1 := M.cell 0 rfl 1 rfl; have z2 := M.fr 0 rfl 0; have z3 := M.fr 0 rfl 1)
  have M' := (M.put 0 rfl rfl 0 (.bool false)).put 0 rfl rfl 1 (.slice a L3.length c)
  refine ret_boxN rfl rfl (M'.box 0 rfl) Tryz.underlying25 size_int rfl ?_
  exact ⟨a, c, rfl, M'.own 0 rfl, M'.below⟩
set_option maxRecDepth 100000 in
set_option maxHeartbeats 1000000 in
/-- a number by one that goes into it -/
theorem over_own {X T : Int} {G : Nat} (hX : Can s1 L1 X) (hG : L2 = digs G) (hT : Can s1 L3 T) (e : X = G * T) (h0 : G ≠ 0) (l1 : L1.length ≤ 80000) (l2 : L2.length ≤ 80000) (h1 : Reads w (.slice p1 L1.length q1) L1) (h2 : Reads w (.slice p2 L2.length q2) L2) :
    Calls Tryz.prog 137 #[.agg #[.bool s1, .slice p1 L1.length q1], .agg #[.bool s2, .slice p2 L2.length q2]] w fun e w' => ∃ a c, e = .returned (.agg #[.bool s1, .slice a L3.length c]) ∧ Fresh w' w.heap.size (.slice a L3.length c) L3 ∧ Below w.heap.size w w' := by
  have kg : ∀ W, Below w.heap.size w W → Calls Tryz.prog 42 #[.slice p1 L1.length q1, .slice p2 L2.length q2] W fun e w' => ∃ a c b d, e = .returned (.tuple #[.slice a L3.length c, .slice b 0 d, .int .i64 0]) ∧ Fresh w' W.heap.size (.slice a L3.length c) L3 ∧ Below W.heap.size W w' := by
    intro W hW
    have eA : X.natAbs = G * T.natAbs := by rw [e, Int.natAbs_mul]; rfl
    obtain ⟨_, rfl⟩ := hX
    obtain ⟨_, rfl⟩ := hT
    subst hG
    refine (d_quo_own T.natAbs 0 (h1.below hW) (h2.below hW) l1 l2 h0 (by rw [eA, Nat.mul_div_cancel_left _ (by omega)]) (by rw [eA, Nat.mul_mod_right])).mono ?_
    rintro e w' ⟨a, c, b, d, rfl, g, _, rr⟩
    exact ⟨a, c, b, d, by rw [digs_zero]; rfl, g, rr⟩
  have M0 : Mem w [(w.heap.size + 1 + 1, 25, [.bool false, .slice none 0 0]), (w.heap.size + 1, 25, [.bool s2, .slice p2 L2.length q2]), (w.heap.size, 25, [.bool s1, .slice p1 L1.length q1])] []
      (((w.alloc (.cells #[.bool s1, .slice p1 L1.length q1] 25)).alloc (.cells #[.bool s2, .slice p2 L2.length q2] 25)).alloc (.cells #[.bool false, .slice none 0 0] 25)) := by
    have M := (((Mem.start w).new 25 [.bool s1, .slice p1 L1.length q1]).new 25 [.bool s2, .slice p2 L2.length q2]).new 25 [.bool false, .slice none 0 0]
    simpa only [World.size_alloc] using M
  have M0 := MemO.of (n := 0) M0
  clear h1 h2 hX hT hG l1 l2 e h0
  go_enter Tryz.func137, Tryz.ntmps137
  go_wp2_with (go_at_call 42; refine (kg _ M0.below).mono ?_; clear kg; rintro e w1 ⟨a, c, b, d, rfl, g, rr⟩; have M := M0.upadd rr g; clear M0 g rr; have z0 := M.cell 0 rfl 0 rfl; have z1 := M.cell 0 rfl 1 rfl; have z2 := M.fr 0 rfl 0; have z3 := M.fr 0 rfl 1; have z4 := M.cell 2 rfl 0 rfl)
  have M' := (M.put 0 rfl rfl 0 (.bool s1)).put 0 rfl rfl 1 (.slice a L3.length c)
  refine ret_boxN rfl rfl (M'.box 0 rfl) Tryz.underlying25 size_int rfl ?_
  exact ⟨a, c, rfl, M'.own 0 rfl, M'.below⟩
end
section
variable {w : World} {s : Bool} {L D : List Nat}
end

end Go.Proofs.YtimdinmhphihkaaGreatDoor

namespace Go.Proofs.YtimdinmhphihkaaGreatDoor
open Go Go.Proofs Go.RowKit Go.Shelf Nu

attribute [local go_sem] Oper.semAt_some

set_option maxRecDepth 100000 in
set_option maxHeartbeats 8000000 in
theorem r_make_pos_own {w : World} {p1 p2 : Option Addr} {q1 q2 : Nat} {s1 s2 sZ : Bool} {L1 L2 LZ DZ : List Nat} {N M : Int} {Z : Rat} (cN : Can s1 L1 N) (cM : Can s2 L2 M) (hM : 0 < M) (kZ : RCan sZ LZ DZ Z) (eZ : Z = (N : Rat) / (M : Rat)) (b1 : L1.length ≤ 19999) (b2 : L2.length ≤ 19999) (g1 : Reads w (.slice p1 L1.length q1) L1) (g2 : Reads w (.slice p2 L2.length q2) L2) :
    Calls Tryz.prog 48 #[.agg #[.bool s1, .slice p1 L1.length q1], .agg #[.bool s2, .slice p2 L2.length q2]] w fun e w' => ∃ a c a' c', e = .returned (.tuple #[.agg #[.bool sZ, .slice a LZ.length c, .slice a' DZ.length c'], .int .i64 0]) ∧ Fresh w' w.heap.size (.slice a LZ.length c) LZ ∧ Fresh w' w.heap.size (.slice a' DZ.length c') DZ ∧ Below w.heap.size w w' ∧ Two (.slice a LZ.length c) (.slice a' DZ.length c') := by
  obtain rfl : s2 = false := by rw [cM.1]; exact decide_eq_false (by omega)
  obtain ⟨z, hz⟩ : ∃ z, sgz M 0 = z := ⟨_, rfl⟩
  have hz0 : (z == 0) = false := by
    rw [← hz]; unfold sgz; simp; omega
  have kc1 := fun (W : World) (h1 : Reads W (.slice p1 L1.length q1) L1) => q_check cN (by omega) h1
  have kc2 := fun (W : World) (h1 : Reads W (.slice p2 L2.length q2) L2) => q_check cM (by omega) h1
  have ks := fun (W : World) (h1 : Reads W (.slice p2 L2.length q2) L2) => q_sign z cM.is hz (by omega) h1
  obtain ⟨g, d, k, hg, g0, e1, e2, e3, e4⟩ := rmake_parts N M (by omega)
  rw [← eZ] at e3 e4
  obtain ⟨Lg, hLg⟩ : ∃ L, L = digs g := ⟨_, rfl⟩
  have ck := cN.div e1 g0
  have hk : digs k.natAbs = LZ := by rw [kZ.1.2, e3]
  have hs : s1 = sZ := by rw [ck.1, kZ.1.1, e3]
  rw [hk] at ck
  subst hs
  have lg : Lg.length ≤ 19999 := by
    have h1 : g ≤ (M).natAbs := by rw [hg]; exact gcd_le (by omega)
    have := digs_mono h1
    rw [hLg]; rw [← cM.2] at this; omega
  have kg := fun (W : World) {p1 p2 : Option Addr} {q1 q2 : Nat} (h1 : Reads W (.slice p1 L1.length q1) L1) (h2 : Reads W (.slice p2 L2.length q2) L2) => common_own (s1 := s1) (s2 := false) (L3 := Lg) cN.2 cM.2 (by rw [hLg, hg]) (by omega) (by omega) h1 h2
  have ka := fun (W : World) {p1 p2 : Option Addr} {q1 q2 : Nat} (h1 : Reads W (.slice p1 L1.length q1) L1) (h2 : Reads W (.slice p2 Lg.length q2) Lg) => over_own (s2 := false) cN hLg ck e1 g0 (by omega) (by omega) h1 h2
  have kb := fun (W : World) {p1 p2 : Option Addr} {q1 q2 : Nat} (h1 : Reads W (.slice p1 L2.length q1) L2) (h2 : Reads W (.slice p2 Lg.length q2) Lg) => over_own (s2 := false) cM hLg (canL kZ.2) (by rw [e2, e4]; push_cast; rfl) g0 (by omega) (by omega) h1 h2
  have M : Mem w [(w.heap.size + 1 + 1, 27, [.bool false, .slice none 0 0, .slice none 0 0]), (w.heap.size + 1, 25, [.bool false, .slice p2 L2.length q2]), (w.heap.size, 25, [.bool s1, .slice p1 L1.length q1])] [(.slice p2 L2.length q2, L2), (.slice p1 L1.length q1, L1)] (((w.alloc (.cells #[.bool s1, .slice p1 L1.length q1] 25)).alloc (.cells #[.bool false, .slice p2 L2.length q2] 25)).alloc (.cells #[.bool false, .slice none 0 0, .slice none 0 0] 27)) := by
    have M := ((((((Mem.start w).add g1).add g2).new 25 [.bool s1, .slice p1 L1.length q1]).new 25 [.bool false, .slice p2 L2.length q2]).new 27 [.bool false, .slice none 0 0, .slice none 0 0])
    simpa only [World.size_alloc] using M
  have M := MemO.of (n := 2) M
  clear g1 g2 b1 b2 cN cM hM kZ eZ hz hg g0 e1 e2 e3 e4 hLg ck hk lg
  go_enter Tryz.func48, Tryz.ntmps48
  go_wp2_with (first
    | (go_at_call 55; with_reducible refine (kc1 _ (M.get 1 rfl)).mono ?_; clear kc1; rintro e w1 ⟨rfl, rr⟩; have M' := M.up rr; clear M rr; have M := M'; clear M'; have z1_0 := M.cell 1 rfl 0 rfl; have z1_1 := M.cell 1 rfl 1 rfl)
    | (go_at_call 55; refine (kc2 _ (M.get 0 rfl)).mono ?_; clear kc2; rintro e w2 ⟨rfl, rr⟩; have M' := M.up rr; clear M rr z1_0 z1_1; have M := M'; clear M'; have z1_0 := M.cell 1 rfl 0 rfl; have z1_1 := M.cell 1 rfl 1 rfl)
    | (go_at_call 133; refine (ks _ (M.get 0 rfl)).mono ?_; clear ks; rintro e w3 ⟨rfl, rr⟩; have M' := M.up rr; clear M rr z1_0 z1_1; have M := M'; clear M'; have z1_0 := M.cell 1 rfl 0 rfl; have z1_1 := M.cell 1 rfl 1 rfl; have z2_0 := M.cell 2 rfl 0 rfl; have z2_1 := M.cell 2 rfl 1 rfl)
    | (go_at_call 135; refine (kg _ (M.get 1 rfl) (M.get 0 rfl)).mono ?_; rintro e w4 ⟨a3, c3, rfl, g, rr⟩; have M' := (M.upadd rr g).new 25 [.bool false, .slice a3 Lg.length c3]; clear M rr g; have M := M'; clear M'))
  clear z1_0 z1_1 z2_0 z2_1
  obtain ⟨b6, W1, hb6, hW1⟩ : ∃ b V, b = w4.heap.size ∧ V = w4.alloc (.cells #[.bool false, .slice a3 Lg.length c3] 25) := ⟨_, _, rfl, rfl⟩
  rw [← hb6, ← hW1] at M ⊢
  clear hb6 hW1
  refine region_memO (S := (fun W => BoxN W (w.heap.size) 25 #[.bool s1, .slice p1 L1.length q1] ∧ BoxN W (w.heap.size + 1) 25 #[.bool false, .slice p2 L2.length q2] ∧ BoxN W (b6) 25 #[.bool false, .slice a3 Lg.length c3])) M (by kernel_rfl) ?_
  intro V0 M
  have hS0 : (fun W => BoxN W (w.heap.size) 25 #[.bool s1, .slice p1 L1.length q1] ∧ BoxN W (w.heap.size + 1) 25 #[.bool false, .slice p2 L2.length q2] ∧ BoxN W (b6) 25 #[.bool false, .slice a3 Lg.length c3]) V0 := ⟨M.box 3 rfl, M.box 2 rfl, M.box 0 rfl⟩
  refine wpAnyH_take (i := 0) (v := (.agg #[.bool s1, .slice p1 L1.length q1])) rfl (by kernel_rfl) (by kernel_rfl) (by kernel_rfl) (fun _ _ _ h => h) (Or.inl ⟨by rfl, fun W3 hS => by obtain ⟨hS1, hS2, hS3⟩ := hS; have c1_0 := hS1.cell 0 _ rfl; have c1_1 := hS1.cell 1 _ rfl; go_simp⟩) hS0 ?_
  refine wpAnyH_take (i := 1) (v := (.agg #[.bool false, .slice a3 Lg.length c3])) rfl (by kernel_rfl) (by kernel_rfl) (by kernel_rfl) (fun _ _ _ h => h) (Or.inl ⟨by rfl, fun W3 hS => by obtain ⟨hS1, hS2, hS3⟩ := hS; have c3_0 := hS3.cell 0 _ rfl; have c3_1 := hS3.cell 1 _ rfl; go_simp⟩) hS0 ?_
  refine wpAnyH_take (i := 3) (v := (.agg #[.bool false, .slice p2 L2.length q2])) rfl (by kernel_rfl) (by kernel_rfl) (by kernel_rfl) (fun _ _ _ h => h) (Or.inl ⟨by rfl, fun W3 hS => by obtain ⟨hS1, hS2, hS3⟩ := hS; have c2_0 := hS2.cell 0 _ rfl; have c2_1 := hS2.cell 1 _ rfl; go_simp⟩) hS0 ?_
  refine wpAnyH_take (i := 4) (v := (.agg #[.bool false, .slice a3 Lg.length c3])) rfl (by kernel_rfl) (by kernel_rfl) (by kernel_rfl) (fun _ _ _ h => h) (Or.inl ⟨by rfl, fun W3 hS => by obtain ⟨hS1, hS2, hS3⟩ := hS; have c3_0 := hS3.cell 0 _ rfl; have c3_1 := hS3.cell 1 _ rfl; go_simp⟩) hS0 ?_
  clear hS0
  try simp only [Act.put, List.setIfInBounds_toArray, List.set_cons_zero, List.set_cons_succ]
  refine wpAnyH_all (rs := [2]) (by kernel_rfl) (by simp) ?_
  intro i hi
  obtain rfl : i = 2 := by simpa using hi
  refine wpOp_intro rfl (fun K1 hK => ?_)
  clear hi
  go_simp
  refine (ka _ (M.get 2 rfl) (M.get 0 rfl)).mono ?_
  rintro e V1_2 ⟨a4, c4, rfl, g, rr⟩
  have M' := M.upadd rr g
  clear M rr g
  have M := M'; clear M'
  refine hK _ _ ⟨⟨M.box 3 rfl, M.box 2 rfl, M.box 0 rfl⟩, ?_⟩
  clear hK K1
  refine wpAnyH_all (rs := [5]) (by kernel_rfl) (by simp) ?_
  intro i hi
  obtain rfl : i = 5 := by simpa using hi
  refine wpOp_intro rfl (fun K2 hK => ?_)
  clear hi
  go_simp
  refine (kb _ (M.get 2 rfl) (M.get 1 rfl)).mono ?_
  rintro e V2_5 ⟨a5, c5, rfl, g, rr⟩
  have M' := M.upadd rr g
  clear M rr g
  have M := M'; clear M'
  refine hK _ _ ⟨⟨M.box 3 rfl, M.box 2 rfl, M.box 0 rfl⟩, ?_⟩
  clear hK K2
  have hS0 : (fun W => BoxN W (w.heap.size) 25 #[.bool s1, .slice p1 L1.length q1] ∧ BoxN W (w.heap.size + 1) 25 #[.bool false, .slice p2 L2.length q2] ∧ BoxN W (b6) 25 #[.bool false, .slice a3 Lg.length c3]) _ := ⟨M.box 3 rfl, M.box 2 rfl, M.box 0 rfl⟩
  refine wpAnyH_take (i := 6) (v := (.agg #[.bool s1, .slice a4 LZ.length c4, .bool false, .slice a5 DZ.length c5])) rfl (by kernel_rfl) (by kernel_rfl) (by kernel_rfl) (fun _ _ _ h => h) (Or.inl ⟨by rfl, fun W3 hS => by obtain ⟨hS1, hS2, hS3⟩ := hS; go_simp⟩) hS0 ?_
  clear hS0
  refine wpAnyH_all (rs := [7]) (by kernel_rfl) (by simp) ?_
  intro i hi
  obtain rfl : i = 7 := by simpa using hi
  refine wpOp_intro rfl (fun K3 hK => ?_)
  clear hi
  go_simp
  refine (fraction_any _ _ _ _ _ _ _ _ _).mono ?_
  rintro e V3_7 ⟨rfl, rr⟩
  have M' := M.up rr
  clear M rr 
  have M := M'; clear M'
  refine hK _ _ ⟨⟨M.box 3 rfl, M.box 2 rfl, M.box 0 rfl⟩, ?_⟩
  clear hK K3
  have f1_0 := M.fr 1 rfl 0; have f1_1 := M.fr 1 rfl 1; have f1_2 := M.fr 1 rfl 2
  have z1_0 := M.cell 1 rfl 0 rfl; have z1_1 := M.cell 1 rfl 1 rfl; have z1_2 := M.cell 1 rfl 2 rfl
  refine wpAnyH_all (rs := [8]) (by kernel_rfl) (by simp) ?_
  intro i hi
  obtain rfl : i = 8 := by simpa using hi
  refine wpOp_intro rfl (fun Ks4 hK => ?_)
  clear hi
  go_simp
  have M' := (((M.put 1 rfl rfl 0 (.bool s1)).put 1 rfl rfl 1 (.slice a4 LZ.length c4)).put 1 rfl rfl 2 (.slice a5 DZ.length c5))
  clear M f1_0 z1_0 f1_1 z1_1 f1_2 z1_2
  have M : MemO 2 w [(b6, 25, [.bool false, .slice a3 Lg.length c3]), (w.heap.size + 1 + 1, 27, [.bool s1, .slice a4 LZ.length c4, .slice a5 DZ.length c5]), (w.heap.size + 1, 25, [.bool false, .slice p2 L2.length q2]), (w.heap.size, 25, [.bool s1, .slice p1 L1.length q1])] [(.slice a5 DZ.length c5, DZ), (.slice a4 LZ.length c4, LZ), (.slice a3 Lg.length c3, Lg), (.slice p2 L2.length q2, L2), (.slice p1 L1.length q1, L1)] _ := M'
  clear M'
  refine hK _ _ ⟨⟨M.box 3 rfl, M.box 2 rfl, M.box 0 rfl⟩, ?_⟩
  clear hK Ks4
  have hS0 : (fun W => BoxN W (w.heap.size) 25 #[.bool s1, .slice p1 L1.length q1] ∧ BoxN W (w.heap.size + 1) 25 #[.bool false, .slice p2 L2.length q2] ∧ BoxN W (b6) 25 #[.bool false, .slice a3 Lg.length c3]) _ := ⟨M.box 3 rfl, M.box 2 rfl, M.box 0 rfl⟩
  refine wpAnyH_take (i := 9) (v := (.int .i64 0)) rfl (by kernel_rfl) (by kernel_rfl) (by kernel_rfl) (fun _ _ _ h => h) (Or.inl ⟨by rfl, fun W3 hS => by obtain ⟨hS1, hS2, hS3⟩ := hS; go_simp⟩) hS0 ?_
  clear hS0
  refine wpAnyH_done (by kernel_rfl) ?_ _
  go_wp2
  refine ret_boxN_tmp rfl rfl rfl (M.box 1 rfl) Tryz.underlying27 size_rat rfl ?_
  exact ⟨a4, c4, a5, c5, rfl, M.own 1 rfl, M.own 0 rfl, M.below, (M.two 0 1 rfl rfl).symm⟩

end Go.Proofs.YtimdinmhphihkaaGreatDoor

namespace Go.Proofs.YtimdinmhphihkaaGreatDoor
open Go Go.Proofs Go.RowKit Go.Shelf Nu

attribute [local go_sem] Oper.semAt_some

set_option maxRecDepth 100000 in
set_option maxHeartbeats 2000000 in
theorem bk_keep2 {W : World} {B n : Nat} {hv : Value} {es : List (Value × Nat)} {a : Option Addr} {l c : Nat} (h : BookAt W B n hv) (hr : HRow W (B + 1) hv es) (hn : n ≤ 100000) (hl : es.length ≤ 100000) :
    Calls Tryz.prog 159 #[.pointer (some ⟨B, 0, none⟩), .slice a l c] W fun e w' => e = .returned (.tuple #[]) ∧ ∃ hv', BookAt w' B (n + 1) hv' ∧ HRow w' (B + 1) hv' (es ++ [(.slice a l c, n + 1)]) ∧ Below B W w' ∧ ∀ k, k < W.heap.size → k ≠ B → hv.ownBlock ≠ some k → w'.heap[k]? = W.heap[k]? := by
  obtain ⟨i0, hi, hz0, hz1, hz2⟩ := info_parts info_held
  obtain ⟨N1, hN1⟩ : ∃ N1, N1 = n + 1 := ⟨_, rfl⟩
  have hnn : ((n : Int) + 1) = (N1 : Int) := by omega
  have HN1 := Lib.hid hN1
  rw [← hN1]
  clear hN1
  have r1 := h.c0
  have r2 := h.fr 0
  have hlt := h.lt
  have h1 := Lib.hid (h.setn N1)
  have hr1 := Lib.hid (hr.other (o := 0) (.int .i64 (N1 : Int)))
  have hm1 : es.length + 1 ≤ maxLen := by unfold maxLen; omega
  have hm2 : (es.length + 1) * 56 ≤ 140737488355328 := by omega
  have hb1 := Lib.hid ((Below.refl B W).setCell (p := ⟨B, 0, none⟩) (Nat.le_refl _) (.int .i64 (N1 : Int)))
  have hk1 := Lib.hid (show ∀ k, k < W.heap.size → k ≠ B → (W.setCell ⟨B, 0, none⟩ (.int .i64 (N1 : Int))).heap[k]? = W.heap[k]? ∧ k < (W.setCell ⟨B, 0, none⟩ (.int .i64 (N1 : Int))).heap.size from fun k hk hB => ⟨Below.heap_setCell W ⟨B, 0, none⟩ _ k hB, by simpa using hk⟩)
  clear h hr
  go_enter Tryz.func159, Tryz.ntmps159
  go_wp2
  obtain ⟨W1, hW1⟩ : ∃ W1, W1 = W.setCell ⟨B, 0, none⟩ (.int .i64 (N1 : Int)) := ⟨_, rfl⟩
  rw [← hW1] at h1 hr1 hb1 hk1 ⊢
  have s1 := h1.out.c0
  have s2 := h1.out.c2
  have s3 := h1.out.lt
  clear hW1 r1 r2
  go_region_law
    ((first
      | (refine step_append_lies _ (by rfl) _ _ _ (by rfl) (B + 1) 141 i0 _ 3 56 Tryz.underlying39 hi hz0 hz1 hz2 rfl (by omega) _ es.length (hcells es) (by rfl) (World.ownsRow.alloc (World.ownsRow.drew hr1.out) _)
          ⟨W1.heap.size, 0, none⟩ 1 1 [.slice a l c, .slice none 0 0, .int .i64 (N1 : Int)] (by rfl) (by rfl) (World.news_of_block (cs := #[.slice a l c, .slice none 0 0, .int .i64 (N1 : Int)]) (t := 141) (fr := (0, 0)) (heap_alloc_new _ _)) (by simp [Value.oneCell'])
          (by omega) hm1 hm2 (by simp; omega) (W1.heap.size + 1) (by simp) ?_; intro gg cap w6 hown1 hgrow hat hlt6; have hg6 := undrew_grown hgrow; have b6 : BookAt w6 B N1 hv := (h1.out.alloc _).kept hg6 (fun e => by have := (World.ownsRow.lt hr1.out B e.symm).1; omega); have f6 := b6.fr 2; have c6 := b6.c2)))
  all_goals
    go_end0
    have q1 := HRow.snoc (.slice a l c) N1 hown1
    exact ⟨rfl, _, b6.setv _, q1.other _, (((hb1.out.alloc (by omega) _).grown hg6 (by simp; omega) (fun k e => by have := (World.ownsRow.lt hr1.out k e).1; omega)).setCell (p := ⟨B, 2, none⟩) (Nat.le_refl _) _), fun k hk hB hne => (Below.heap_setCell w6 ⟨B, 2, none⟩ _ k hB).trans ((hg6.block k (by have := (hk1.out k hk hB).2; simp; omega) (fun e => hne e.symm)).trans ((Below.heap_alloc W1 _ k (hk1.out k hk hB).2).trans (hk1.out k hk hB).1))⟩

theorem bk_nat2 {W : World} {B n : Nat} {hv : Value} {es : List (Value × Nat)} {a : Option Addr} {l c : Nat} (h : BookAt W B n hv) (hr : HRow W (B + 1) hv es) (hn : n ≤ 100000) (hl : es.length ≤ 100000) :
    Calls Tryz.prog 72 #[.pointer (some ⟨B, 0, none⟩), .slice a l c] W fun e w' => e = .returned (.tuple #[]) ∧ ∃ hv', BookAt w' B (n + 1) hv' ∧ HRow w' (B + 1) hv' (es ++ [(.slice a l c, n + 1)]) ∧ Below B W w' ∧ ∀ k, k < W.heap.size → k ≠ B → hv.ownBlock ≠ some k → w'.heap[k]? = W.heap[k]? := by
  have k := bk_keep2 (a := a) (l := l) (c := c) h hr hn hl
  have K := Lib.hid k
  clear h hr hn hl k
  go_enter Tryz.func72, Tryz.ntmps72
  go_wp2_with fail
  refine K.out.mono ?_
  rintro e w' ⟨rfl, q⟩
  have Q := Lib.hid q
  clear q
  go_wp2_with fail
  go_end0
  exact ⟨rfl, Q.out⟩
theorem bk_int2 {W : World} {n1 : Bool} {B n : Nat} {hv : Value} {es : List (Value × Nat)} {a : Option Addr} {l c : Nat} (h : BookAt W B n hv) (hr : HRow W (B + 1) hv es) (hn : n ≤ 100000) (hl : es.length ≤ 100000) :
    Calls Tryz.prog 22 #[.pointer (some ⟨B, 0, none⟩), .agg #[.bool n1, .slice a l c]] W fun e w' => e = .returned (.tuple #[]) ∧ ∃ hv', BookAt w' B (n + 1) hv' ∧ HRow w' (B + 1) hv' (es ++ [(.slice a l c, n + 1)]) ∧ Below B W w' ∧ ∀ k, k < W.heap.size → k ≠ B → hv.ownBlock ≠ some k → w'.heap[k]? = W.heap[k]? := by
  have hlt := h.lt
  have hr' : HRow (W.alloc (.cells #[.bool n1, .slice a l c] 25)) (B + 1) hv es := World.ownsRow.alloc hr _
  have K := Lib.hid (bk_nat2 (a := a) (l := l) (c := c) (h.alloc (.cells #[.bool n1, .slice a l c] 25)) hr' hn hl)
  clear h hr hn hl hr'
  go_enter Tryz.func22, Tryz.ntmps22
  go_wp2_with fail
  go_at_call 72
  refine K.out.mono ?_
  rintro e w' ⟨rfl, hv', q1, q2, q3, q4⟩
  have Q := Lib.hid (show ∃ hv', BookAt w' B (n + 1) hv' ∧ HRow w' (B + 1) hv' (es ++ [(.slice a l c, n + 1)]) ∧ Below B W w' ∧ ∀ k, k < W.heap.size → k ≠ B → hv.ownBlock ≠ some k → w'.heap[k]? = W.heap[k]? from ⟨hv', q1, q2, ((Below.refl B W).alloc (Nat.le_of_lt hlt) _).trans q3, fun k hk hB hne => (q4 k (by simp; omega) hB hne).trans (Below.heap_alloc W _ k hk)⟩)
  clear q1 q2 q3 q4
  go_wp2_with fail
  go_end0
  exact ⟨rfl, Q.out⟩
theorem bk_rat {W : World} {n1 : Bool} {B n : Nat} {hv : Value} {es : List (Value × Nat)} {a a' : Option Addr} {l c l' c' : Nat} (h : BookAt W B n hv) (hr : HRow W (B + 1) hv es) (hn : n ≤ 90000) (hl : es.length ≤ 90000) :
    Calls Tryz.prog 21 #[.pointer (some ⟨B, 0, none⟩), .agg #[.bool n1, .slice a l c, .slice a' l' c']] W fun e w' => e = .returned (.tuple #[]) ∧ ∃ hv', BookAt w' B (n + 2) hv' ∧ HRow w' (B + 1) hv' (es ++ [(.slice a l c, n + 1), (.slice a' l' c', n + 2)]) ∧ Below B W w' := by
  have hlt := h.lt
  have hr' : HRow (W.alloc (.cells #[.bool n1, .slice a l c, .slice a' l' c'] 27)) (B + 1) hv es := World.ownsRow.alloc hr _
  have K := Lib.hid (bk_int2 (n1 := n1) (a := a) (l := l) (c := c) (h.alloc (.cells #[.bool n1, .slice a l c, .slice a' l' c'] 27)) hr' (by omega) (by omega))
  have hX := BoxN.new W 27 #[.bool n1, .slice a l c, .slice a' l' c']
  have hO := Lib.hid (show hv.ownBlock ≠ some W.heap.size from fun e => by have := (World.ownsRow.lt hr _ e).2; omega)
  have z0 := hX.cell 0 _ rfl
  have z1 := hX.cell 1 _ rfl
  have HX := Lib.hid hX
  have HN := Lib.hid hn
  have HL := Lib.hid hl
  clear h hr hn hl hr' hX
  go_enter Tryz.func21, Tryz.ntmps21
  go_wp2_with fail
  go_at_call 22
  refine K.out.mono ?_
  rintro e w1 ⟨rfl, hv1, q1, q2, q3, q4⟩
  have hX1 : BoxN w1 W.heap.size 27 #[.bool n1, .slice a l c, .slice a' l' c'] := (q4 _ (by simp) (by omega) hO.out).trans HX.out
  have K2 := Lib.hid (bk_nat2 (a := a') (l := l') (c := c') q1 q2 (by have := HN.out; omega) (by have := HL.out; simp; omega))
  have Q3 := Lib.hid (show Below B W w1 from ((Below.refl B W).alloc (Nat.le_of_lt hlt) _).trans q3)
  clear q1 q2 q3 q4 z0 z1 HX K hO
  have z2 := hX1.cell 2 _ rfl
  clear hX1
  go_wp2_with fail
  go_at_call 72
  refine K2.out.mono ?_
  rintro e w2 ⟨rfl, hv2, q1, q2, q3, _⟩
  have Q := Lib.hid (show ∃ hv', BookAt w2 B (n + 2) hv' ∧ HRow w2 (B + 1) hv' (es ++ [(.slice a l c, n + 1), (.slice a' l' c', n + 2)]) ∧ Below B W w2 from ⟨hv2, q1, by rw [List.append_assoc] at q2; exact q2, Q3.out.trans q3⟩)
  clear q1 q2 q3 K2
  go_wp2_with fail
  go_end0
  exact ⟨rfl, Q.out⟩
set_option maxRecDepth 100000 in
set_option maxHeartbeats 2000000 in
theorem sameRat_same {w : World} {p1 o1 p2 o2 : Option Addr} {q1 r1 q2 r2 : Nat} {n : Bool} {l d : List Nat} (b1 : l.length ≤ 80000) (b2 : d.length ≤ 80000) (g1 : Reads w (.slice p1 l.length q1) l) (g2 : Reads w (.slice o1 d.length r1) d) (g3 : Reads w (.slice p2 l.length q2) l) (g4 : Reads w (.slice o2 d.length r2) d) :
    Calls Tryz.prog 19 #[.agg #[.bool n, .slice p1 l.length q1, .slice o1 d.length r1], .agg #[.bool n, .slice p2 l.length q2, .slice o2 d.length r2]] w fun e w' => e = .returned (.bool true) ∧ Below w.heap.size w w' := by
  have ki := fun (W : World) (g1 : Reads W (.slice p1 l.length q1) l) (g3 : Reads W (.slice p2 l.length q2) l) => sameInt_any (n1 := n) (n2 := n) (R := true) g1 g3 (by omega) (by omega) (by simp)
  have kn := fun (W : World) (g2 : Reads W (.slice o1 d.length r1) d) (g4 : Reads W (.slice o2 d.length r2) d) => same_lists g2 g4 (by omega)
  have M : Mem w [(w.heap.size + 1, 27, [.bool n, .slice p2 l.length q2, .slice o2 d.length r2]), (w.heap.size, 27, [.bool n, .slice p1 l.length q1, .slice o1 d.length r1])] [(.slice o2 d.length r2, d), (.slice p2 l.length q2, l), (.slice o1 d.length r1, d), (.slice p1 l.length q1, l)]
      ((w.alloc (.cells #[.bool n, .slice p1 l.length q1, .slice o1 d.length r1] 27)).alloc (.cells #[.bool n, .slice p2 l.length q2, .slice o2 d.length r2] 27)) := by
    have M := (((((Mem.start w).add g1).add g2).add g3).add g4).new 27 [.bool n, .slice p1 l.length q1, .slice o1 d.length r1] |>.new 27 [.bool n, .slice p2 l.length q2, .slice o2 d.length r2]
    simpa only [World.size_alloc] using M
  have KI := Lib.hid ki
  have KN := Lib.hid kn
  clear b1 b2 g1 g2 g3 g4 ki kn
  go_enter Tryz.func19, Tryz.ntmps19
  have z0 := M.cell 0 rfl 0 rfl; have z1 := M.cell 0 rfl 1 rfl; have z3 := M.cell 1 rfl 0 rfl; have z4 := M.cell 1 rfl 1 rfl
  go_wp2_with fail
  clear z0 z1 z3 z4
  refine (KI.out _ (M.get 3 rfl) (M.get 1 rfl)).mono ?_
  rintro e w1 ⟨rfl, rr⟩
  have M' := M.up rr; clear M rr; have M := M'; clear M'
  have z0 := M.cell 0 rfl 2 rfl; have z1 := M.cell 1 rfl 2 rfl
  go_wp2_with fail
  refine (KN.out _ (M.get 2 rfl) (M.get 0 rfl)).mono ?_
  rintro e w2 ⟨rfl, rr⟩
  have M' := M.up rr; clear M rr
  go_wp2_with fail
  go_ret
  exact ⟨rfl, M'.below⟩

end Go.Proofs.YtimdinmhphihkaaGreatDoor

namespace Go.Proofs.YtimdinmhphihkaaGreatDoor
open Go Go.Proofs Go.RowKit Go.Shelf Nu

attribute [local go_sem] Oper.semAt_some

set_option maxRecDepth 100000 in
set_option maxHeartbeats 8000000 in
theorem rtwin_own {w : World} {p1 o1 : Option Addr} {q1 r1 : Nat} {n : Bool} {l d : List Nat} (b1 : l.length ≤ 100000) (b2 : d.length ≤ 100000) (h1 : Reads w (.slice p1 l.length q1) l) (h2 : Reads w (.slice o1 d.length r1) d) :
    Calls Tryz.prog 7 #[.agg #[.bool n, .slice p1 l.length q1, .slice o1 d.length r1]] w fun e w' => ∃ g1 c1 g2 c2, e = .returned (.agg #[.bool n, .slice (some ⟨g1, 0, none⟩) l.length c1, .slice (some ⟨g2, 0, none⟩) d.length c2]) ∧ Tw w' w.heap.size g1 c1 l ∧ Tw w' w.heap.size g2 c2 d ∧ Below w.heap.size w w' ∧ Two (.slice (some ⟨g1, 0, none⟩) l.length c1) (.slice (some ⟨g2, 0, none⟩) d.length c2) := by
  have M : Mem w [(w.heap.size + 1, 27, [.bool false, .slice none 0 0, .slice none 0 0]), (w.heap.size, 27, [.bool n, .slice p1 l.length q1, .slice o1 d.length r1])] [(.slice o1 d.length r1, d), (.slice p1 l.length q1, l)] ((w.alloc (.cells #[.bool n, .slice p1 l.length q1, .slice o1 d.length r1] 27)).alloc (.cells #[.bool false, .slice none 0 0, .slice none 0 0] 27)) := by
    have M := (((((Mem.start w).add h1).add h2).new 27 [.bool n, .slice p1 l.length q1, .slice o1 d.length r1]).new 27 [.bool false, .slice none 0 0, .slice none 0 0])
    simpa only [World.size_alloc] using M
  have M := MemO.of (n := 2) M
  clear h1 h2
  go_enter Tryz.func7, Tryz.ntmps7
  go_wp2
  refine region_memO (S := (fun W => BoxN W (w.heap.size) 27 #[.bool n, .slice p1 l.length q1, .slice o1 d.length r1])) M (by kernel_rfl) ?_
  intro V0 M
  have hS0 : (fun W => BoxN W (w.heap.size) 27 #[.bool n, .slice p1 l.length q1, .slice o1 d.length r1]) V0 := M.box 1 rfl
  refine wpAnyH_take (i := 0) (oi := ⟨_, _, _, _, _, _⟩) (v := (.pointer (some ⟨w.heap.size, 0, none⟩))) rfl (by kernel_rfl) (by kernel_rfl) (by kernel_rfl) (fun _ _ _ h => h) (Or.inl ⟨by rfl, fun W3 hS => by go_simp⟩) hS0 ?_
  try simp only [Act.put, List.setIfInBounds_toArray, List.set_cons_zero, List.set_cons_succ]
  refine wpAnyH_take (i := 1) (oi := ⟨_, _, _, _, _, _⟩) (v := (.agg #[.bool n, .slice p1 l.length q1])) rfl (by kernel_rfl) (by kernel_rfl) (by kernel_rfl) (fun _ _ _ h => h) (Or.inl ⟨by rfl, fun W3 hS => by have hS1 := hS; have c1_0 := hS1.cell 0 _ rfl; have c1_1 := hS1.cell 1 _ rfl; have c1_2 := hS1.cell 2 _ rfl; go_simp⟩) hS0 ?_
  try simp only [Act.put, List.setIfInBounds_toArray, List.set_cons_zero, List.set_cons_succ]
  refine wpAnyH_take (i := 3) (oi := ⟨_, _, _, _, _, _⟩) (v := (.pointer (some ⟨w.heap.size, 2, none⟩))) rfl (by kernel_rfl) (by kernel_rfl) (by kernel_rfl) (fun _ _ _ h => h) (Or.inl ⟨by rfl, fun W3 hS => by go_simp⟩) hS0 ?_
  try simp only [Act.put, List.setIfInBounds_toArray, List.set_cons_zero, List.set_cons_succ]
  refine wpAnyH_take (i := 4) (oi := ⟨_, _, _, _, _, _⟩) (v := (.slice o1 d.length r1)) rfl (by kernel_rfl) (by kernel_rfl) (by kernel_rfl) (fun _ _ _ h => h) (Or.inl ⟨by rfl, fun W3 hS => by have hS1 := hS; have c1_0 := hS1.cell 0 _ rfl; have c1_1 := hS1.cell 1 _ rfl; have c1_2 := hS1.cell 2 _ rfl; go_simp⟩) hS0 ?_
  try simp only [Act.put, List.setIfInBounds_toArray, List.set_cons_zero, List.set_cons_succ]
  clear hS0
  refine wpAnyH_all (rs := [2]) (by kernel_rfl) (by simp) ?_
  intro i hi
  obtain rfl : i = 2 := by simpa using hi
  refine wpOp_intro rfl (fun K1 hK => ?_)
  clear hi
  go_simp
  refine (itwin_own (n1 := n) (M.get 1 rfl) b1).mono ?_
  rintro e V1_2 ⟨g1, c1, rfl, g, rr⟩
  have M' := M.upadd rr g
  clear M rr g
  have M := M'; clear M'
  refine hK _ _ ⟨M.box 1 rfl, ?_⟩
  clear hK K1
  refine wpAnyH_all (rs := [5]) (by kernel_rfl) (by simp) ?_
  intro i hi
  obtain rfl : i = 5 := by simpa using hi
  refine wpOp_intro rfl (fun K2 hK => ?_)
  clear hi
  go_simp
  refine (twin_own (M.get 1 rfl) b2).mono ?_
  rintro e V2_5 ⟨g2, c2, rfl, g, rr⟩
  have M' := M.upadd rr g
  clear M rr g
  have M := M'; clear M'
  refine hK _ _ ⟨M.box 1 rfl, ?_⟩
  clear hK K2
  have hS0 : (fun W => BoxN W (w.heap.size) 27 #[.bool n, .slice p1 l.length q1, .slice o1 d.length r1]) _ := M.box 1 rfl
  refine wpAnyH_take (i := 6) (oi := ⟨_, _, _, _, _, _⟩) (v := (.agg #[.bool n, .slice (some ⟨g1, 0, none⟩) l.length c1, .slice (some ⟨g2, 0, none⟩) d.length c2])) rfl (by kernel_rfl) (by kernel_rfl) (by kernel_rfl) (fun _ _ _ h => h) (Or.inl ⟨by rfl, fun W3 hS => by go_simp⟩) hS0 ?_
  try simp only [Act.put, List.setIfInBounds_toArray, List.set_cons_zero, List.set_cons_succ]
  clear hS0
  have f0_0 := M.fr 0 rfl 0; have f0_1 := M.fr 0 rfl 1; have f0_2 := M.fr 0 rfl 2
  have z0_0 := M.cell 0 rfl 0 rfl; have z0_1 := M.cell 0 rfl 1 rfl; have z0_2 := M.cell 0 rfl 2 rfl
  refine wpAnyH_all (rs := [7]) (by kernel_rfl) (by simp) ?_
  intro i hi
  obtain rfl : i = 7 := by simpa using hi
  refine wpOp_intro rfl (fun Ks3 hK => ?_)
  clear hi
  go_simp
  have M' := (((M.put 0 rfl rfl 0 (.bool n)).put 0 rfl rfl 1 (.slice (some ⟨g1, 0, none⟩) l.length c1)).put 0 rfl rfl 2 (.slice (some ⟨g2, 0, none⟩) d.length c2))
  clear M f0_0 z0_0 f0_1 z0_1 f0_2 z0_2
  have M : MemO 2 w [(w.heap.size + 1, 27, [.bool n, .slice (some ⟨g1, 0, none⟩) l.length c1, .slice (some ⟨g2, 0, none⟩) d.length c2]), (w.heap.size, 27, [.bool n, .slice p1 l.length q1, .slice o1 d.length r1])] [(.slice (some ⟨g2, 0, none⟩) (d.length + 1) c2, (d ++ [77])), (.slice (some ⟨g1, 0, none⟩) (l.length + 1) c1, (l ++ [77])), (.slice o1 d.length r1, d), (.slice p1 l.length q1, l)] _ := M'
  clear M'
  refine hK _ _ ⟨M.box 1 rfl, ?_⟩
  clear hK Ks3
  refine wpAnyH_done (by kernel_rfl) ?_ _
  go_wp2
  refine ret_boxN rfl rfl (M.box 0 rfl) Tryz.underlying27 size_rat rfl ?_
  exact ⟨g1, c1, g2, c2, rfl, M.own 1 rfl, M.own 0 rfl, M.below, (M.two 0 1 rfl rfl).symm⟩
set_option maxRecDepth 100000 in
set_option maxHeartbeats 8000000 in
theorem rleft_any {w : World} {base base2 g1 c1 g2 c2 : Nat} {p1 o1 : Option Addr} {q1 r1 : Nat} {n : Bool} {l d : List Nat} (b1 : l.length ≤ 100000) (b2 : d.length ≤ 100000) (t1 : Tw w base g1 c1 l) (t2 : Tw w base2 g2 c2 d) (h1 : Reads w (.slice p1 l.length q1) l) (h2 : Reads w (.slice o1 d.length r1) d) :
    Calls Tryz.prog 20 #[.agg #[.bool n, .slice (some ⟨g1, 0, none⟩) l.length c1, .slice (some ⟨g2, 0, none⟩) d.length c2], .agg #[.bool n, .slice p1 l.length q1, .slice o1 d.length r1]] w fun e w' => e = .returned (.bool true) ∧ Below w.heap.size w w' := by
  have K1 := Lib.hid (fun (W : World) (hW : Below w.heap.size w W) => ileft_any (n1 := n) (t1.below hW) (h1.below hW) b1)
  have K2 := Lib.hid (fun (W : World) (hW : Below w.heap.size w W) => left_any (t2.below hW) (h2.below hW) b2)
  have M : Mem w [(w.heap.size + 1, 27, [.bool n, .slice p1 l.length q1, .slice o1 d.length r1]), (w.heap.size, 27, [.bool n, .slice (some ⟨g1, 0, none⟩) l.length c1, .slice (some ⟨g2, 0, none⟩) d.length c2])] [(.slice o1 d.length r1, d), (.slice p1 l.length q1, l)] ((w.alloc (.cells #[.bool n, .slice (some ⟨g1, 0, none⟩) l.length c1, .slice (some ⟨g2, 0, none⟩) d.length c2] 27)).alloc (.cells #[.bool n, .slice p1 l.length q1, .slice o1 d.length r1] 27)) := by
    have M := (((((Mem.start w).add h1).add h2).new 27 [.bool n, .slice (some ⟨g1, 0, none⟩) l.length c1, .slice (some ⟨g2, 0, none⟩) d.length c2]).new 27 [.bool n, .slice p1 l.length q1, .slice o1 d.length r1])
    simpa only [World.size_alloc] using M
  clear h1 h2 t1 t2
  go_enter Tryz.func20, Tryz.ntmps20
  have z0_0 := M.cell 0 rfl 0 rfl; have z0_1 := M.cell 0 rfl 1 rfl; have z0_2 := M.cell 0 rfl 2 rfl; have z1_0 := M.cell 1 rfl 0 rfl; have z1_1 := M.cell 1 rfl 1 rfl; have z1_2 := M.cell 1 rfl 2 rfl
  go_wp2_with fail
  clear z0_0 z0_1 z0_2 z1_0 z1_1 z1_2
  refine (K1.out _ M.below).mono ?_
  rintro e w1 ⟨rfl, rr⟩
  have M' := M.up rr; clear M rr; have M := M'; clear M'
  have z0_0 := M.cell 0 rfl 0 rfl; have z0_1 := M.cell 0 rfl 1 rfl; have z0_2 := M.cell 0 rfl 2 rfl; have z1_0 := M.cell 1 rfl 0 rfl; have z1_1 := M.cell 1 rfl 1 rfl; have z1_2 := M.cell 1 rfl 2 rfl
  go_wp2_with fail
  refine (K2.out _ M.below).mono ?_
  rintro e w2 ⟨rfl, rr⟩
  have M' := M.up rr; clear M rr
  go_wp2_with fail
  go_ret
  exact ⟨rfl, M'.below⟩

end Go.Proofs.YtimdinmhphihkaaGreatDoor

namespace Go.Proofs.YtimdinmhphihkaaGreatDoor
open Go Go.Proofs Go.RowKit Go.Shelf Nu

attribute [local go_sem] Oper.semAt_some

section
variable {W : World} {p1 p2 : Option Addr} {q1 q2 : Nat} {s1 s2 s3 : Bool} {L1 L2 L3 : List Nat} {X Y : Int}
/-- a number by one that goes into it, by hand -/
theorem p_quo {Q : List Nat} {A B C : Nat} (hA : L1 = digs A) (hB : L2 = digs B) (hQ : Q = digs C) (e : A = B * C) (h0 : B ≠ 0) (l1 : L1.length ≤ 80000) (l2 : L2.length ≤ 80000) (h1 : Reads W (.slice p1 L1.length q1) L1) (h2 : Reads W (.slice p2 L2.length q2) L2) :
    Calls Tryz.prog 64 #[.slice p1 L1.length q1, .slice p2 L2.length q2] W fun e w' => ∃ a c b d, e = .returned (.tuple #[.slice a Q.length c, .slice b 0 d, .int .i64 0]) ∧ Reads w' (.slice a Q.length c) Q ∧ Below W.heap.size W w' := by
  subst hA hB hQ
  refine (rdiv_digs h1 h2 l1 l2 h0).mono ?_
  rintro _ w' ⟨v1, v2, rfl, g, g2, hb⟩
  rw [e, Nat.mul_div_cancel_left _ (Nat.pos_of_ne_zero h0)] at g
  rw [e, Nat.mul_mod_right, digs_zero] at g2
  obtain ⟨a, c, rfl⟩ := g.form
  obtain ⟨b, d, rfl⟩ := g2.form
  exact ⟨a, c, b, d, rfl, g, hb⟩
theorem p_gcd {G : List Nat} {A B : Nat} (hA : L1 = digs A) (hB : L2 = digs B) (hG : G = digs (Nat.gcd A B)) (l1 : L1.length ≤ 80000) (l2 : L2.length ≤ 80000) (h1 : Reads W (.slice p1 L1.length q1) L1) (h2 : Reads W (.slice p2 L2.length q2) L2) :
    Calls Tryz.prog 61 #[.slice p1 L1.length q1, .slice p2 L2.length q2] W fun e w' => ∃ a c, e = .returned (.slice a G.length c) ∧ Reads w' (.slice a G.length c) G ∧ Below W.heap.size W w' := by
  subst hA hB hG
  have k := rgcd_any h1 h2 l1 l2 (sm_digs _) (sm_digs _)
  rw [nv_digs, nv_digs] at k
  refine k.mono ?_
  rintro _ w' ⟨v, rfl, g, hb⟩
  obtain ⟨a, c, rfl⟩ := g.form
  exact ⟨a, c, rfl, g, hb⟩
end
theorem digs_single {G : Nat} (h : (digs G).length = 1) : digs G = [G] := by
  cases e : digs G with
  | nil => rw [e] at h; simp at h
  | cons x t =>
    have ht : t = [] := by rw [e] at h; simpa using h
    subst ht
    have := val_digs G
    rw [e, val_one] at this
    rw [this]

end Go.Proofs.YtimdinmhphihkaaGreatDoor

namespace Go.Proofs.YtimdinmhphihkaaGreatDoor
open Go Go.Proofs Go.RowKit Go.Shelf Nu

attribute [local go_sem] Oper.semAt_some

set_option maxRecDepth 100000 in
set_option maxHeartbeats 8000000 in
theorem rr_lowest {w : World} {p1 p2 : Option Addr} {q1 q2 B : Nat} {s1 sZ : Bool} {L1 L2 LZ DZ : List Nat} {N : Int} {Z : Rat} (cN : Can s1 L1 N) (hB : L2 = digs B) (h0 : B ≠ 0) (kZ : RCan sZ LZ DZ Z) (eZ : Z = (N : Rat) / (((B : Nat) : Int) : Rat)) (l1 : L1.length ≤ 40000) (l2 : L2.length ≤ 40000) (h1 : Reads w (.slice p1 L1.length q1) L1) (h2 : Reads w (.slice p2 L2.length q2) L2) :
    Calls Tryz.prog 53 #[.agg #[.bool s1, .slice p1 L1.length q1], .slice p2 L2.length q2] w fun e w' => ∃ a c a' c', e = .returned (.agg #[.bool sZ, .slice a LZ.length c, .slice a' DZ.length c']) ∧ Reads w' (.slice a LZ.length c) LZ ∧ Reads w' (.slice a' DZ.length c') DZ ∧ Below w.heap.size w w' := by
  obtain ⟨g, d, k, hg, g0, e1, e2, e3, e4⟩ := rmake_parts N (B : Int) (by omega)
  rw [← eZ] at e3 e4
  rw [Int.natAbs_natCast] at hg
  have e2' : B = g * d := by omega
  have eN : N.natAbs = g * k.natAbs := by rw [e1, Int.natAbs_mul, Int.natAbs_natCast]
  obtain ⟨Lg, hLg⟩ : ∃ L, L = digs g := ⟨_, rfl⟩
  have lg : Lg.length ≤ 40000 := by
    rw [hLg]
    have h3 := digs_mono (show g ≤ B by rw [e2']; exact Nat.le_mul_of_pos_right _ (Nat.pos_of_ne_zero (fun e => h0 (by rw [e2', e, Nat.mul_zero]))))
    rw [← hB] at h3; omega
  have hLZ : LZ = digs k.natAbs := by rw [kZ.1.2, e3]
  have hDZ : DZ = digs d := by rw [kZ.2, e4]
  have hs : (s1 && decide (0 < LZ.length)) = sZ := by
    rw [cN.1, kZ.1.1, e3, hLZ, dec_digs]
    have hgp : (0 : Int) < (g : Int) := by omega
    by_cases hk : k = 0
    · subst hk; simp
    · have h5 : 0 < k.natAbs := Int.natAbs_pos.2 hk
      rw [decide_eq_true h5, Bool.and_true, e1]
      by_cases hn : k < 0
      · rw [decide_eq_true hn, decide_eq_true (Int.mul_neg_of_pos_of_neg hgp hn)]
      · rw [decide_eq_false hn, decide_eq_false]
        have := Int.mul_nonneg (Int.le_of_lt hgp) (Int.not_lt.1 hn)
        omega
  have KG := Lib.hid (fun (W : World) (y1 : Reads W (.slice p1 L1.length q1) L1) (y2 : Reads W (.slice p2 L2.length q2) L2) => p_gcd (G := Lg) cN.2 hB (by rw [hLg, hg]) (by omega) (by omega) y1 y2)
  have KA := Lib.hid (fun (W : World) {a : Option Addr} {c : Nat} (y1 : Reads W (.slice p1 L1.length q1) L1) (y2 : Reads W (.slice a Lg.length c) Lg) => p_quo cN.2 hLg hLZ eN g0 (by omega) (by omega) y1 y2)
  have KB := Lib.hid (fun (W : World) {a : Option Addr} {c : Nat} (y1 : Reads W (.slice p2 L2.length q2) L2) (y2 : Reads W (.slice a Lg.length c) Lg) => p_quo hB hLg hDZ e2' g0 (by omega) (by omega) y1 y2)
  have KS := Lib.hid (fun (W : World) (a : Option Addr) (c : Nat) => hs ▸ rsigned_any s1 a LZ.length c W)
  have M : Mem w [(w.heap.size + 1, 27, [.bool false, .slice none 0 0, .slice none 0 0]), (w.heap.size, 25, [.bool s1, .slice p1 L1.length q1])] [(.slice p2 L2.length q2, L2), (.slice p1 L1.length q1, L1)] ((w.alloc (.cells #[.bool s1, .slice p1 L1.length q1] 25)).alloc (.cells #[.bool false, .slice none 0 0, .slice none 0 0] 27)) := by
    have M := (((((Mem.start w).add h1).add h2).new 25 [.bool s1, .slice p1 L1.length q1]).new 27 [.bool false, .slice none 0 0, .slice none 0 0])
    simpa only [World.size_alloc] using M
  clear h1 h2 l1 l2 cN hB h0 kZ eZ hg g0 e1 e2 e3 e4 e2' eN hLg lg hLZ hDZ hs
  go_enter Tryz.func53, Tryz.ntmps53
  have z0 := M.cell 1 rfl 0 rfl; have z1 := M.cell 1 rfl 1 rfl
  go_wp2_with fail
  clear z0 z1
  refine (KG.out _ (M.get 1 rfl) (M.get 0 rfl)).mono ?_
  rintro e w1 ⟨ag, cg, rfl, y, rr⟩
  have M' := (M.up rr).add y; clear M rr y; have M := M'; clear M'
  have z0 := M.cell 1 rfl 0 rfl; have z1 := M.cell 1 rfl 1 rfl
  go_wp2_with fail
  clear z0 z1
  refine (KA.out _ (M.get 2 rfl) (M.get 0 rfl)).mono ?_
  rintro e w2 ⟨aa, ca, b2, d2, rfl, y, rr⟩
  have M' := (M.up rr).add y; clear M rr y; have M := M'; clear M'
  have z0 := M.cell 1 rfl 0 rfl; have z1 := M.cell 1 rfl 1 rfl
  go_wp2_with fail
  clear z0 z1
  refine (KB.out _ (M.get 2 rfl) (M.get 1 rfl)).mono ?_
  rintro e w3 ⟨ab, cb, b3, d3, rfl, y, rr⟩
  have M' := (M.up rr).add y; clear M rr y; have M := M'; clear M'
  have z0 := M.cell 1 rfl 0 rfl; have z1 := M.cell 1 rfl 1 rfl
  go_wp2_with fail
  clear z0 z1
  refine (KS.out _ _ _).mono ?_
  rintro e w4 ⟨rfl, rr⟩
  have M' := M.up rr; clear M rr; have M := M'; clear M'
  have f0 := M.fr 0 rfl 0; have f1 := M.fr 0 rfl 1; have f2 := M.fr 0 rfl 2; have y0 := M.cell 0 rfl 0 rfl; have y1 := M.cell 0 rfl 1 rfl; have y2 := M.cell 0 rfl 2 rfl
  go_wp2_with fail
  have M' := ((M.put 0 rfl rfl 0 (.bool sZ)).put 0 rfl rfl 1 (.slice aa LZ.length ca)).put 0 rfl rfl 2 (.slice ab DZ.length cb)
  refine ret_boxN rfl rfl (M'.box 0 rfl) Tryz.underlying27 size_rat rfl ?_
  exact ⟨aa, ca, ab, cb, rfl, M'.get 1 rfl, M'.get 0 rfl, M'.below⟩
set_option maxRecDepth 100000 in
set_option maxHeartbeats 8000000 in
theorem lit_one (W : World) : Reads (W.alloc (.cells #[.int .u32 1] 90)) (.slice (some ⟨W.heap.size, 0, none⟩) 1 1) [1] :=
  (show Fresh (W.alloc (.cells #[.int .u32 1] 90)) W.heap.size (.slice (some ⟨W.heap.size, 0, none⟩) 1 1) [1] from ⟨rfl, .inr ⟨W.heap.size, 1, _, rfl, Nat.le_refl _, World.alloc_heap_new W _, Nat.le_refl _, small_max (by decide), rfl, rfl⟩⟩).reads
theorem digs_one1 : digs 1 = [1] := by rw [digs_pos (by decide)]; simp [digs_zero]
end Go.Proofs.YtimdinmhphihkaaGreatDoor
