/- NatsPairs: the walk. Whole numbers copied, looked at again, told to a book. -/
import Derived.Test.YthnlmjnfdokdbaaGreatDoorGGreatP
import Derived.Test.YthnlmjnfdokdbaaGreatDoorGRefI
import Derived.Test.YthnlmjnfdokdbaaGreatDoorGPart
set_option maxHeartbeats 4000000
namespace Go.Proofs.YthnlmjnfdokdbaaGreatDoor
open Go Go.Proofs Go.RowKit Go.Shelf Nu

attribute [local go_sem] Oper.semAt_some

/-- what a difference is, or whether it is refused -/
def subOk (A B : List Nat) : Prop := chk A = true ∧ chk B = true ∧ val B ≤ val A
instance (A B : List Nat) : Decidable (subOk A B) := inferInstanceAs (Decidable (_ ∧ _))
theorem same_lists {w : World} {v u : Value} {l : List Nat} (h1 : Reads w v l) (h2 : Reads w u l) (hl : l.length ≤ 100000) :
  Calls Tryz.prog 68 #[v, u] w fun e w' => e = .returned (.bool true) ∧ Below w.heap.size w w' := by
 refine (sameNat_any h1 h2 (by omega) (by omega)).mono ?_
 rintro e w' ⟨rfl, n, rfl⟩
 exact ⟨by simp, ⟨rfl, rfl, rfl, Nat.le_refl _, fun k hk => rfl⟩⟩
/-- a slice of the call's own, made between two worlds -/
def Mine (b0 b1 b2 : Nat) (W : World) (v : Value) (l : List Nat) : Prop := Fresh W b0 v l ∧ ∀ g, v.ownBlock = some g → b1 ≤ g ∧ g < b2
theorem Mine.of {b0 : Nat} {w W : World} {v : Value} {l : List Nat} (h : Fresh W w.heap.size v l) (hb : b0 ≤ w.heap.size) : Mine b0 w.heap.size W.heap.size W v l := ⟨h.mono hb, fun _ e => h.lt' e⟩
theorem Mine.below {b0 b1 b2 N : Nat} {W W' : World} {v : Value} {l : List Nat} (h : Mine b0 b1 b2 W v l) (hb : Below N W W') (hN : W.heap.size ≤ N) : Mine b0 b1 b2 W' v l := ⟨h.1.below (hb.mono hN), h.2⟩
theorem Mine.apart {b0 b1 b2 c1 c2 : Nat} {W W' : World} {v u : Value} {l m : List Nat} (h : Mine b0 b1 b2 W v l) (k : Mine b0 c1 c2 W' u m) (hb : b2 ≤ c1) : v.ownBlock = none ∨ v.ownBlock ≠ u.ownBlock := by
 cases e : v.ownBlock with
 | none => exact .inl rfl
 | some g =>
  refine .inr (fun e2 => ?_)
  have h1 := h.2 g e
  have h2 := k.2 g e2.symm
  omega
theorem Mine.row {b0 b1 b2 B : Nat} {W : World} {v : Value} {l : List Nat} (h : Mine b0 b1 b2 W v l) (hl : l.length ≤ 100000) (hb : b2 ≤ B) : ∃ l : List Nat, l.length ≤ 100000 ∧ Fresh W b0 v l ∧ ∀ g, v.ownBlock = some g → g < B :=
 ⟨l, hl, h.1, fun g e => Nat.lt_of_lt_of_le (h.2 g e).2 hb⟩

end Go.Proofs.YthnlmjnfdokdbaaGreatDoor

namespace Go.Proofs.YthnlmjnfdokdbaaGreatDoor
open Go Go.Proofs Go.RowKit Go.Shelf Nu

attribute [local go_sem] Oper.semAt_some

section
variable {w : World} {n1 : Bool}
theorem itwin_own {l : List Nat} {s1 : Option Addr} {c1 : Nat} (h : Reads w (.slice s1 l.length c1) l) (hl : l.length ≤ 100000) :
  Calls Tryz.prog 26 #[.agg #[.bool n1, .slice s1 l.length c1]] w fun e w' => ∃ g c, e = .returned (.agg #[.bool n1, .slice (some ⟨g, 0, none⟩) l.length c]) ∧ Tw w' w.heap.size g c l ∧ Below w.heap.size w w' := by
 have KC := Lib.hid (fun (W : World) (hW : Below w.heap.size w W) => twin_own (h.below hW) hl)
 obtain ⟨t1, ht1⟩ : ∃ t1, t1 = l.length := ⟨_, rfl⟩
 have HT1 := Lib.hid ht1
 rw [← ht1] at KC ⊢
 clear h hl ht1
 obtain ⟨u0, hu0⟩ : ∃ u0, u0 = (w.alloc (.cells #[.bool n1, .slice s1 t1 c1] 25)).alloc (.cells #[.bool false, .slice none 0 0] 25) := ⟨_, rfl⟩
 have X1 := Lib.hid (show Box2 u0 w.heap.size 25 (.bool n1) (.slice s1 t1 c1) by rw [hu0]; exact (Box2.new w _ _ _).alloc _)
 have X3 := Lib.hid (show Box2 u0 (w.heap.size + 1) 25 (.bool false) (.slice none 0 0) by rw [hu0]; exact Box2.new1 w _ _ _ _)
 have hb := Lib.hid (show Below w.heap.size w u0 by rw [hu0]; exact ((Below.refl _ _).alloc (Nat.le_refl _) _).alloc (by simp) _)
 obtain ⟨B1, hB1⟩ : ∃ b, b = w.heap.size := ⟨_, rfl⟩
 obtain ⟨B3, hB3⟩ : ∃ b, b = w.heap.size + 1 := ⟨_, rfl⟩
 have d13 : B1 ≠ B3 := by omega
 have e1 := Lib.hid (show w.heap.size ≤ B1 by omega)
 have e3 := Lib.hid (show w.heap.size ≤ B3 by omega)
 rw [← hB1] at X1
 rw [← hB3] at X3
 have hu0' := Lib.hid hu0
 have hB1' := Lib.hid hB1
 have hB3' := Lib.hid hB3
 clear hu0 hB1 hB3
 go_enter Tryz.func26, Tryz.ntmps26
 go_wp2_with fail
 rw [← hu0'.out, ← hB3'.out, ← hB1'.out]
 clear hu0' hB1' hB3'
 have a0 := X1.out.c0
 have a1 := X1.out.c1
 have hb2 := Lib.hid hb.out.drew
 have Y1 := Lib.hid X1.out.drew
 have Y3 := Lib.hid X3.out.drew
 go_region_held3 (fun w' => w'.cell? ⟨B1, 0, none⟩ = some (.bool n1) ∧ w'.cell? ⟨B1, 1, none⟩ = some (.slice s1 t1 c1))
  (first
   | (with_reducible exact ⟨a0, a1⟩)
   | (with_reducible exact ⟨Y1.out.c0, Y1.out.c1⟩)
   | (with_reducible exact ⟨C1.out.c0, C1.out.c1⟩)
   | (with_reducible exact ⟨F1.out.c0, F1.out.c1⟩)
   | go_keep)
  ((first
   | (go_at_call 47; refine (KC.out _ hb2.out).mono ?_; rintro e w1 ⟨g, c, rfl, t0, r1⟩; have T := Lib.hid (t0.mono hb2.out.size); have hb3 := Lib.hid (then_below hb2.out r1); have C1 := Lib.hid (Y1.out.below r1); have C3 := Lib.hid (Y3.out.below r1); have F1 := Lib.hid ((C1.out.other (B' := B3) (o := 0) d13 (.bool n1)).other (B' := B3) (o := 1) d13 (.slice (some ⟨g, 0, none⟩) t1 c)); have q4' := C3.out.c0; have q5' := C3.out.c1; have q6 := C3.out.fr 0; have q7 := C3.out.fr 1; clear t0 r1)))
 all_goals
  go_wp2
  refine ret_box2 rfl rfl ((C3.out.set0 _).set1 _) Tryz.underlying25 size_int rfl ?_
  exact ⟨g, c, rfl, Fresh.sets T.out C3.out, below_sets hb3.out e3.out _ _⟩
theorem ileft_any {base g cap : Nat} {v : Value} {l : List Nat} (hT : Tw w base g cap l) (hR : Reads w v l) (hl : l.length ≤ 100000) :
  Calls Tryz.prog 31 #[.agg #[.bool n1, .slice (some ⟨g, 0, none⟩) l.length cap], .agg #[.bool n1, v]] w fun e w' => e = .returned (.bool true) ∧ Below w.heap.size w w' := by
 have K := Lib.hid (fun (W : World) (hW : Below w.heap.size w W) => left_any (hT.below hW) (hR.below hW) hl)
 obtain ⟨a, c, rfl⟩ := hR.form
 have hb := Lib.hid (((Below.refl w.heap.size w).alloc (Nat.le_refl _) (.cells #[.bool n1, .slice (some ⟨g, 0, none⟩) l.length cap] 25)).alloc (by simp) (.cells #[.bool n1, .slice a l.length c] 25))
 clear hT hR hl
 cases n1
 all_goals
  go_enter Tryz.func31, Tryz.ntmps31
  go_wp2_with fail
  go_at_call 73
  refine (K.out _ hb.out).mono ?_
  rintro e w1 ⟨rfl, r⟩
  replace hb := Lib.hid (then_below hb.out r)
  clear r
  go_wp2_with fail
  go_ret
  exact ⟨rfl, hb.out⟩
end

end Go.Proofs.YthnlmjnfdokdbaaGreatDoor
