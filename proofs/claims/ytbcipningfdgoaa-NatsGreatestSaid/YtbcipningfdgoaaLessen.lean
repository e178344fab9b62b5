/- Two numbers made less, with the same greatest common divisor. -/
import Derived.Test.YtbcipningfdgoaaHead
import Derived.Test.YtbcipningfdgoaaSteps
import Derived.Test.YtbcipningfdgoaaBlend
import Derived.Test.YtbcipningfdgoaaDivA
import Derived.Deep.RegionHeld3
namespace Go.Proofs.Ytbcipningfdgoaa
open Go Go.Proofs Go.RowKit Go.Shelf Nu

attribute [local go_sem] Oper.semAt_some

section
variable {w : World} {p1 p2 : Option Addr} {q1 q2 A B : Nat}
theorem d_blend (N t u : Nat) (h1 : Reads w (.slice p1 (digs A).length q1) (digs A)) (h2 : Reads w (.slice p2 (digs B).length q2) (digs B)) (l1 : (digs A).length ≤ 100000) (l2 : (digs B).length ≤ 100000) (ht : t < 4294967296) (hu : u < 4294967296) (e : N + u * B = t * A) (hN : N ≤ A ∨ N ≤ B) :
    Calls Try.prog 36 #[.slice p1 (digs A).length q1, .slice p2 (digs B).length q2, .int .u32 t, .int .u32 u] w fun e w' => ∃ a c, e = .returned (.slice a (digs N).length c) ∧ Reads w' (.slice a (digs N).length c) (digs N) ∧ Below w.heap.size w w' := by
  have eN : t * A - u * B = N := by omega
  have k := blend_any h1 h2 l1 l2 (sm_digs _) (sm_digs _) t u ht hu (by rw [val_digs, val_digs]; omega) (by
    rw [val_digs, val_digs, eN]
    rcases hN with h | h
    · exact Nat.lt_of_lt_of_le (Nat.lt_of_le_of_lt h (digs_lt A)) (Nat.pow_le_pow_right (by decide) (by omega))
    · exact Nat.lt_of_lt_of_le (Nat.lt_of_le_of_lt h (digs_lt B)) (Nat.pow_le_pow_right (by decide) (by omega)))
  rw [val_digs, val_digs, eN] at k
  refine k.mono ?_
  rintro e w' ⟨v, rfl, f, hb⟩
  obtain ⟨a, c, rfl⟩ := f.reads.form
  exact ⟨a, c, rfl, f.reads, hb⟩
end

/-- what lessen answers -/
def LessAns (A B : Nat) (w : World) (e : Ending) (w' : World) : Prop :=
  ∃ (X Y : Nat) (a : Option Addr) (c : Nat) (b : Option Addr) (d : Nat), e = .returned (.tuple #[.slice a (digs X).length c, .slice b (digs Y).length d]) ∧ Reads w' (.slice a (digs X).length c) (digs X) ∧ Reads w' (.slice b (digs Y).length d) (digs Y) ∧
    Y < B ∧ Y ≤ X ∧ X ≤ A ∧ Nat.gcd X Y = Nat.gcd A B ∧ Below w.heap.size w w'

theorem less_cases {x y u0 u1 v0 v1 : Nat} {ev : Bool} (hm : v0 = 0 ∨ Made x y u0 u1 v0 v1 ev) : (((v0 : Int) == 0) = true ∧ Hid (v0 = 0)) ∨ (((v0 : Int) == 0) = false ∧ ev = true ∧ Hid (Made x y u0 u1 v0 v1 true)) ∨ (((v0 : Int) == 0) = false ∧ ev = false ∧ Hid (Made x y u0 u1 v0 v1 false)) := by
  by_cases h : v0 = 0
  · exact .inl ⟨by rw [h]; rfl, Lib.hid h⟩
  · have e : ((v0 : Int) == 0) = false := beq_false_of_ne (by omega)
    have hM := hm.resolve_left h
    cases ev
    · exact .inr (.inr ⟨e, rfl, Lib.hid hM⟩)
    · exact .inr (.inl ⟨e, rfl, Lib.hid hM⟩)

set_option maxRecDepth 100000 in
set_option maxHeartbeats 8000000 in
theorem lessen_any {w : World} {p1 p2 : Option Addr} {q1 q2 A B : Nat} (ga : Reads w (.slice p1 (digs A).length q1) (digs A)) (gb : Reads w (.slice p2 (digs B).length q2) (digs B)) (l1 : (digs A).length ≤ 80000) (l2 : 2 < (digs B).length) (hle : B ≤ A) :
    Calls Try.prog 37 #[.slice p1 (digs A).length q1, .slice p2 (digs B).length q2] w (LessAns A B w) := by
  have hlb := digs_mono hle
  obtain ⟨n, hn⟩ : ∃ n, (digs A).length = n + 3 := ⟨(digs A).length - 3, by omega⟩
  have hB0 : B ≠ 0 := by rintro rfl; rw [digs_zero] at l2; simp at l2
  have kh := heads_any (n := n) ga gb hn (by omega) (by omega) (sm_digs _) (sm_digs _) (chk_digs _) (by rw [val_digs, val_digs]; exact hle)
  rw [val_digs, val_digs] at kh
  have kd := fun (W : World) (h1 : Reads W (.slice p1 (digs A).length q1) (digs A)) (h2 : Reads W (.slice p2 (digs B).length q2) (digs B)) => d_divide (A / B) (A % B) h1 h2 l1 (by omega) hB0 rfl rfl
  have ke := fun (N t u : Nat) (ht : t < 4294967296) (hu : u < 4294967296) (e : N + u * B = t * A) (hN : N ≤ B) (W : World) (h1 : Reads W (.slice p1 (digs A).length q1) (digs A)) (h2 : Reads W (.slice p2 (digs B).length q2) (digs B)) => d_blend N t u h1 h2 (by omega) (by omega) ht hu e (.inr hN)
  have kf := fun (N t u : Nat) (ht : t < 4294967296) (hu : u < 4294967296) (e : N + u * A = t * B) (hN : N ≤ B) (W : World) (h1 : Reads W (.slice p2 (digs B).length q2) (digs B)) (h2 : Reads W (.slice p1 (digs A).length q1) (digs A)) => d_blend N t u h1 h2 (by omega) (by omega) ht hu e (.inl hN)
  have HH := Lib.hid (show B ≤ A ∧ B ≠ 0 from ⟨hle, hB0⟩)
  have r0 := Below.refl w.heap.size w
  clear hlb hn hle hB0 l1 l2
  go_enter Try.func37, Try.ntmps37
  go_wp2_with (first
    | (go_at_call 54; refine kh.mono ?_; clear kh; rintro e w' ⟨s, x, y, rfl, hx, hy, hyx, hx64, rfl⟩; have hd1 := hd_heads A n s; have hd2 := hd_heads B n s; rw [← hx] at hd1; rw [← hy] at hd2; have HD := Lib.hid (And.intro hd1 hd2); clear hx hy hd1 hd2)
    | (go_at_call 53; refine (stepsOf_any hx64 hyx).mono ?_; rintro e w1 ⟨u0, v0, u1, v1, ev, rfl, b1, b2, b3, b4, hm, rr⟩; replace ga := ga.below rr; replace gb := gb.below rr; replace r0 := then_below r0 rr; clear rr; have al := (Below.refl w1.heap.size w1).alloc (Nat.le_refl _) (.cells #[.int .u32 u0, .int .u32 v0, .int .u32 u1, .int .u32 v1, .bool ev] 81); replace ga := ga.below al; replace gb := gb.below al; replace r0 := then_below r0 al; clear al; have BX := BoxN.new w1 81 #[.int .u32 u0, .int .u32 v0, .int .u32 u1, .int .u32 v1, .bool ev]; rcases less_cases hm with ⟨ht, h0⟩ | ⟨ht, rfl, hM⟩ | ⟨ht, rfl, hM⟩ <;> clear hm)
    | (go_at_call 32; with_reducible refine (kd _ ga gb).mono ?_; rintro e w2 ⟨x2, y2, x3, y3, rfl, gq, gr, rr⟩; replace gb := gb.below rr; replace r0 := then_below r0 rr; clear rr))
  · go_ret2
    refine ⟨B, A % B, _, _, _, _, rfl, gb, gr, Nat.mod_lt _ (Nat.pos_of_ne_zero HH.out.2), Nat.le_of_lt (Nat.mod_lt _ (Nat.pos_of_ne_zero HH.out.2)), HH.out.1, ?_, r0⟩
    rw [Nat.gcd_comm B, ← Nat.gcd_rec, Nat.gcd_comm]
  · have hd := HD.out
    obtain ⟨X, Y, he, h1, h2, h3⟩ := hM.out A B _ hd.1.1 hd.1.2 hd.2.1 hd.2.2
    simp only [if_true] at he
    have k1 := ke X u0 v0 b1 b2 he.1 h2
    have k2 := kf Y v1 u1 b4 b3 he.2 (by omega)
    have HF := Lib.hid (show Y < B ∧ Y ≤ X ∧ X ≤ A ∧ Nat.gcd X Y = Nat.gcd A B from ⟨by omega, by omega, Nat.le_trans h2 HH.out.1, h3⟩)
    clear hd he h1 h2 h3 ke kf kd
    have rd : Below (w1.alloc (.cells #[.int .u32 u0, .int .u32 v0, .int .u32 u1, .int .u32 v1, .bool true] 81)).heap.size (w1.alloc (.cells #[.int .u32 u0, .int .u32 v0, .int .u32 u1, .int .u32 v1, .bool true] 81)) (w1.alloc (.cells #[.int .u32 u0, .int .u32 v0, .int .u32 u1, .int .u32 v1, .bool true] 81)).drew := ⟨rfl, rfl, rfl, Nat.le_refl _, fun _ _ => rfl⟩
    replace ga := ga.below rd; replace gb := gb.below rd; replace BX := BX.below rd; replace r0 := then_below r0 rd
    clear rd
    go_region_held3 (fun W => W.cell? ⟨w1.heap.size, 0, none⟩ = some (.int .u32 u0) ∧ W.cell? ⟨w1.heap.size, 1, none⟩ = some (.int .u32 v0) ∧ W.cell? ⟨w1.heap.size, 2, none⟩ = some (.int .u32 u1) ∧ W.cell? ⟨w1.heap.size, 3, none⟩ = some (.int .u32 v1) ∧ W.cell? ⟨w1.heap.size, 4, none⟩ = some (.bool true)) (exact ⟨BX.cell 0 _ rfl, BX.cell 1 _ rfl, BX.cell 2 _ rfl, BX.cell 3 _ rfl, BX.cell 4 _ rfl⟩) (first
      | (go_at_call 36; with_reducible refine (k1 _ ga gb).mono ?_; rintro e w2 ⟨x2, y2, rfl, gX, rr⟩; replace ga := ga.below rr; replace gb := gb.below rr; replace BX := BX.below rr; replace r0 := then_below r0 rr; clear rr)
      | (go_at_call 36; with_reducible refine (k2 w2 gb ga).mono ?_; rintro e w3 ⟨x3, y3, rfl, gY, rr⟩; replace gX := gX.below rr; replace BX := BX.below rr; replace r0 := then_below r0 rr; clear rr))
    all_goals
      go_wp2
      go_ret2
      exact ⟨X, Y, _, _, _, _, rfl, gX, gY, HF.out.1, HF.out.2.1, HF.out.2.2.1, HF.out.2.2.2, r0⟩
  · have hd := HD.out
    obtain ⟨X, Y, he, h1, h2, h3⟩ := hM.out A B _ hd.1.1 hd.1.2 hd.2.1 hd.2.2
    simp only [Bool.false_eq_true, if_false] at he
    have k1 := kf X v0 u0 b2 b1 he.1 h2
    have k2 := ke Y u1 v1 b3 b4 he.2 (by omega)
    have HF := Lib.hid (show Y < B ∧ Y ≤ X ∧ X ≤ A ∧ Nat.gcd X Y = Nat.gcd A B from ⟨by omega, by omega, Nat.le_trans h2 HH.out.1, h3⟩)
    clear hd he h1 h2 h3 ke kf kd
    have rd : Below (w1.alloc (.cells #[.int .u32 u0, .int .u32 v0, .int .u32 u1, .int .u32 v1, .bool false] 81)).heap.size (w1.alloc (.cells #[.int .u32 u0, .int .u32 v0, .int .u32 u1, .int .u32 v1, .bool false] 81)) (w1.alloc (.cells #[.int .u32 u0, .int .u32 v0, .int .u32 u1, .int .u32 v1, .bool false] 81)).drew := ⟨rfl, rfl, rfl, Nat.le_refl _, fun _ _ => rfl⟩
    replace ga := ga.below rd; replace gb := gb.below rd; replace BX := BX.below rd; replace r0 := then_below r0 rd
    clear rd
    go_region_held3 (fun W => W.cell? ⟨w1.heap.size, 0, none⟩ = some (.int .u32 u0) ∧ W.cell? ⟨w1.heap.size, 1, none⟩ = some (.int .u32 v0) ∧ W.cell? ⟨w1.heap.size, 2, none⟩ = some (.int .u32 u1) ∧ W.cell? ⟨w1.heap.size, 3, none⟩ = some (.int .u32 v1) ∧ W.cell? ⟨w1.heap.size, 4, none⟩ = some (.bool false)) (exact ⟨BX.cell 0 _ rfl, BX.cell 1 _ rfl, BX.cell 2 _ rfl, BX.cell 3 _ rfl, BX.cell 4 _ rfl⟩) (first
      | (go_at_call 36; with_reducible refine (k1 _ gb ga).mono ?_; rintro e w2 ⟨x2, y2, rfl, gX, rr⟩; replace ga := ga.below rr; replace gb := gb.below rr; replace BX := BX.below rr; replace r0 := then_below r0 rr; clear rr)
      | (go_at_call 36; with_reducible refine (k2 w2 ga gb).mono ?_; rintro e w3 ⟨x3, y3, rfl, gY, rr⟩; replace gX := gX.below rr; replace BX := BX.below rr; replace r0 := then_below r0 rr; clear rr))
    all_goals
      go_wp2
      go_ret2
      exact ⟨X, Y, _, _, _, _, rfl, gX, gY, HF.out.1, HF.out.2.1, HF.out.2.2.1, HF.out.2.2.2, r0⟩

end Go.Proofs.Ytbcipningfdgoaa
