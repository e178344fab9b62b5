/- RatsFloors, of any fraction. -/
import Derived.Test.YthloknddhfphnaaGreatDoorGRatsFloors
set_option linter.unusedSimpArgs false
set_option linter.unusedVariables false
namespace Go.Proofs.YthloknddhfphnaaGreatDoor
open Go Go.Proofs Go.RowKit Go.Shelf Nu

set_option maxRecDepth 100000 in
set_option maxHeartbeats 16000000 in
theorem rfloors_far {w : World} {n1 : Bool} {p1 o1 : Option Addr} {q1 r1 : Nat} {l1 d1 : List Nat} (hb : 60 < l1.length + d1.length) (t1 : l1.length ≤ 70368744177664) (t1' : d1.length ≤ 70368744177664) (g1 : Reads w (.slice p1 l1.length q1) l1) (h1 : Reads w (.slice o1 d1.length r1) d1) :
    Calls Tryz.prog 6 #[.agg #[.bool n1, .slice p1 l1.length q1, .slice o1 d1.length r1]] w fun e w' => e = .returned (.bool true) ∧ Below w.heap.size w w' := by
  have hG : Hid (true = List.any [(n1, (p1, l1.length, q1), (o1, d1.length, r1))] fun t : Q7 => decide (60 < t.2.1.2.1 + t.2.2.2.1)) := Lib.hid (by simp; omega)
  have hZ : Hid (∀ t ∈ ([(n1, (p1, l1.length, q1), (o1, d1.length, r1))] : List Q7), t.2.1.2.1 ≤ 70368744177664 ∧ t.2.2.2.1 ≤ 70368744177664) := Lib.hid (by simp; omega)
  have M : Mem w [(w.heap.size, 27, [.bool n1, .slice p1 l1.length q1, .slice o1 d1.length r1])] [(.slice o1 d1.length r1, d1), (.slice p1 l1.length q1, l1)] (w.alloc (.cells #[.bool n1, .slice p1 l1.length q1, .slice o1 d1.length r1] 27)) := by
    have M := ((((Mem.start w).add g1).add h1).new 27 [.bool n1, .slice p1 l1.length q1, .slice o1 d1.length r1])
    simpa only [World.size_alloc] using M
  clear hb g1 h1 t1 t1'
  go_enter Tryz.func6, Tryz.ntmps6
  go_wp2_with (first
    | (go_at_call 10; with_reducible refine (r_alive _).mono ?_; rintro e w1 ⟨rfl, rr⟩; have M' := M.up rr; clear M rr ; have M := M'; clear M'; have z1_0_0 := M.cell 0 rfl 0 rfl; have z1_0_1 := M.cell 0 rfl 1 rfl; have z1_0_2 := M.cell 0 rfl 2 rfl)
    | (go_at_call 11; have kg := rgreat_lit w1 60 [(n1, (p1, l1.length, q1), (o1, d1.length, r1))] (vs := #[.bool n1, .slice p1 l1.length q1, .slice o1 d1.length r1]) (by simp [q7v]) (m := 1) rfl (by simp) (by decide) hZ.out true hG.out; rw [show ((60 : Nat) : Int) = 60 from rfl] at kg; with_reducible refine kg.mono ?_; clear kg; rintro e w2 ⟨rfl, rr⟩; have M' := M.up rr; clear M rr; have M := M'; clear M'; clear z1_0_0 z1_0_1 z1_0_2)
    | (go_at_call 10; with_reducible refine (r_alive _).mono ?_; rintro e w3 ⟨rfl, rr⟩; have M' := M.up rr; clear M rr ; have M := M'; clear M'))
  go_ret
  exact ⟨rfl, M.below⟩
set_option maxRecDepth 100000 in
set_option maxHeartbeats 16000000 in
theorem rfloors_bad {w : World} {n1 : Bool} {p1 o1 : Option Addr} {q1 r1 : Nat} {l1 d1 : List Nat} {X1 : Rat} (i1 : RIs n1 l1 d1 X1) (hc : rchk n1 l1 d1 = false) (m1 : l1.length + d1.length ≤ 60) (g1 : Reads w (.slice p1 l1.length q1) l1) (h1 : Reads w (.slice o1 d1.length r1) d1) :
    Calls Tryz.prog 6 #[.agg #[.bool n1, .slice p1 l1.length q1, .slice o1 d1.length r1]] w fun e w' => e = .returned (.bool true) ∧ Below w.heap.size w w' := by
  have hG : Hid (false = List.any [(n1, (p1, l1.length, q1), (o1, d1.length, r1))] fun t : Q7 => decide (60 < t.2.1.2.1 + t.2.2.2.1)) := Lib.hid (by simp; omega)
  have hZ : Hid (∀ t ∈ ([(n1, (p1, l1.length, q1), (o1, d1.length, r1))] : List Q7), t.2.1.2.1 ≤ 70368744177664 ∧ t.2.2.2.1 ≤ 70368744177664) := Lib.hid (by simp; omega)
  have kk1 := fun (W : World) (g : Reads W (.slice p1 l1.length q1) l1) (h : Reads W (.slice o1 d1.length r1) d1) => hc ▸ rcheck_any (n := n1) g h i1.1 i1.2.1 (by omega) (by omega)
  have M : Mem w [(w.heap.size, 27, [.bool n1, .slice p1 l1.length q1, .slice o1 d1.length r1])] [(.slice o1 d1.length r1, d1), (.slice p1 l1.length q1, l1)] (w.alloc (.cells #[.bool n1, .slice p1 l1.length q1, .slice o1 d1.length r1] 27)) := by
    have M := ((((Mem.start w).add g1).add h1).new 27 [.bool n1, .slice p1 l1.length q1, .slice o1 d1.length r1])
    simpa only [World.size_alloc] using M
  clear hc g1 h1 m1 i1
  go_enter Tryz.func6, Tryz.ntmps6
  go_wp2_with (first
    | (go_at_call 10; with_reducible refine (r_alive _).mono ?_; rintro e w1 ⟨rfl, rr⟩; have M' := M.up rr; clear M rr ; have M := M'; clear M'; have z1_0_0 := M.cell 0 rfl 0 rfl; have z1_0_1 := M.cell 0 rfl 1 rfl; have z1_0_2 := M.cell 0 rfl 2 rfl)
    | (go_at_call 11; have kg := rgreat_lit w1 60 [(n1, (p1, l1.length, q1), (o1, d1.length, r1))] (vs := #[.bool n1, .slice p1 l1.length q1, .slice o1 d1.length r1]) (by simp [q7v]) (m := 1) rfl (by simp) (by decide) hZ.out false hG.out; rw [show ((60 : Nat) : Int) = 60 from rfl] at kg; with_reducible refine kg.mono ?_; clear kg; rintro e w2 ⟨rfl, rr⟩; have M' := M.up rr; clear M rr; have M := M'; clear M'; clear z1_0_0 z1_0_1 z1_0_2; have z2_0_0 := M.cell 0 rfl 0 rfl; have z2_0_1 := M.cell 0 rfl 1 rfl; have z2_0_2 := M.cell 0 rfl 2 rfl)
    | (go_at_call 14; with_reducible refine (kk1 _ (M.get 1 rfl) (M.get 0 rfl)).mono ?_; rintro e w3 ⟨rfl, rr⟩; have M' := M.up rr; clear M rr ; have M := M'; clear M'; clear z2_0_0 z2_0_1 z2_0_2)
    | (go_at_call 10; with_reducible refine (r_alive _).mono ?_; rintro e w4 ⟨rfl, rr⟩; have M' := M.up rr; clear M rr ; have M := M'; clear M'))
  go_ret
  exact ⟨rfl, M.below⟩
theorem rfloors_any {w : World} {n1 : Bool} {p1 o1 : Option Addr} {q1 r1 : Nat} {l1 d1 : List Nat} {X1 : Rat} (i1 : RIs n1 l1 d1 X1) (t1 : l1.length ≤ 70368744177664) (t1' : d1.length ≤ 70368744177664) (g1 : Reads w (.slice p1 l1.length q1) l1) (h1 : Reads w (.slice o1 d1.length r1) d1) :
    Calls Tryz.prog 6 #[.agg #[.bool n1, .slice p1 l1.length q1, .slice o1 d1.length r1]] w fun e w' => e = .returned (.bool true) ∧ Below w.heap.size w w' := by
  by_cases h : 60 < l1.length + d1.length
  · exact rfloors_far h t1 t1' g1 h1
  · have u : l1.length + d1.length ≤ 60 := by omega
    by_cases b1 : rchk n1 l1 d1 = true
    rotate_left
    · exact rfloors_bad  i1 (Bool.eq_false_iff.mpr b1) (by omega) g1 h1
    have c1 := i1.can b1
    exact rfloors_near c1 (by omega) g1 h1 
end Go.Proofs.YthloknddhfphnaaGreatDoor
