/- RatsUndone, of any fractions. -/
import Derived.Test.YthloknddhfphnaaGreatDoorGRatsUndone
import Derived.Test.YthloknddhfphnaaGreatDoorGRatsUndoneZ
set_option linter.unusedSimpArgs false
set_option linter.unusedVariables false
namespace Go.Proofs.YthloknddhfphnaaGreatDoor
open Go Go.Proofs Go.RowKit Go.Shelf Nu

set_option maxRecDepth 100000 in
set_option maxHeartbeats 16000000 in
theorem rundone_near {w : World} {n1 n2 : Bool} {p1 o1 p2 o2 : Option Addr} {q1 r1 q2 r2 : Nat} {l1 d1 l2 d2 : List Nat} {X1 X2 : Rat} (c1 : RCan n1 l1 d1 X1) (c2 : RCan n2 l2 d2 X2) (m1 : l1.length + d1.length ≤ 25) (m2 : l2.length + d2.length ≤ 25) (g1 : Reads w (.slice p1 l1.length q1) l1) (h1 : Reads w (.slice o1 d1.length r1) d1) (g2 : Reads w (.slice p2 l2.length q2) l2) (h2 : Reads w (.slice o2 d2.length r2) d2) :
    Calls Tryz.prog 4 #[.agg #[.bool n1, .slice p1 l1.length q1, .slice o1 d1.length r1], .agg #[.bool n2, .slice p2 l2.length q2, .slice o2 d2.length r2]] w fun e w' => e = .returned (.bool true) ∧ Below w.heap.size w w' := by
  by_cases h0 : X2 = 0
  · exact rundone_z c1 c2 m1 m2 g1 h1 g2 h2 h0
  · exact rundone_nz c1 c2 m1 m2 g1 h1 g2 h2 h0
set_option maxRecDepth 100000 in
set_option maxHeartbeats 16000000 in
theorem rundone_far {w : World} {n1 n2 : Bool} {p1 o1 p2 o2 : Option Addr} {q1 r1 q2 r2 : Nat} {l1 d1 l2 d2 : List Nat} (hb : 25 < l1.length + d1.length ∨ 25 < l2.length + d2.length) (t1 : l1.length ≤ 70368744177664) (t1' : d1.length ≤ 70368744177664) (t2 : l2.length ≤ 70368744177664) (t2' : d2.length ≤ 70368744177664) (g1 : Reads w (.slice p1 l1.length q1) l1) (h1 : Reads w (.slice o1 d1.length r1) d1) (g2 : Reads w (.slice p2 l2.length q2) l2) (h2 : Reads w (.slice o2 d2.length r2) d2) :
    Calls Tryz.prog 4 #[.agg #[.bool n1, .slice p1 l1.length q1, .slice o1 d1.length r1], .agg #[.bool n2, .slice p2 l2.length q2, .slice o2 d2.length r2]] w fun e w' => e = .returned (.bool true) ∧ Below w.heap.size w w' := by
  have hG : Hid (true = List.any [(n1, (p1, l1.length, q1), (o1, d1.length, r1)), (n2, (p2, l2.length, q2), (o2, d2.length, r2))] fun t : Q7 => decide (25 < t.2.1.2.1 + t.2.2.2.1)) := Lib.hid (by simp; omega)
  have hZ : Hid (∀ t ∈ ([(n1, (p1, l1.length, q1), (o1, d1.length, r1)), (n2, (p2, l2.length, q2), (o2, d2.length, r2))] : List Q7), t.2.1.2.1 ≤ 70368744177664 ∧ t.2.2.2.1 ≤ 70368744177664) := Lib.hid (by simp; omega)
  have M : Mem w [(w.heap.size + 1, 27, [.bool n2, .slice p2 l2.length q2, .slice o2 d2.length r2]), (w.heap.size, 27, [.bool n1, .slice p1 l1.length q1, .slice o1 d1.length r1])] [(.slice o2 d2.length r2, d2), (.slice p2 l2.length q2, l2), (.slice o1 d1.length r1, d1), (.slice p1 l1.length q1, l1)] ((w.alloc (.cells #[.bool n1, .slice p1 l1.length q1, .slice o1 d1.length r1] 27)).alloc (.cells #[.bool n2, .slice p2 l2.length q2, .slice o2 d2.length r2] 27)) := by
    have M := (((((((Mem.start w).add g1).add h1).add g2).add h2).new 27 [.bool n1, .slice p1 l1.length q1, .slice o1 d1.length r1]).new 27 [.bool n2, .slice p2 l2.length q2, .slice o2 d2.length r2])
    simpa only [World.size_alloc] using M
  clear hb g1 h1 t1 t1' g2 h2 t2 t2'
  go_enter Tryz.func4, Tryz.ntmps4
  go_wp2_with (first
    | (go_at_call 10; with_reducible refine (r_alive _).mono ?_; rintro e w1 ⟨rfl, rr⟩; have M' := M.up rr; clear M rr ; have M := M'; clear M'; have z1_1_0 := M.cell 1 rfl 0 rfl; have z1_1_1 := M.cell 1 rfl 1 rfl; have z1_1_2 := M.cell 1 rfl 2 rfl; have z1_0_0 := M.cell 0 rfl 0 rfl; have z1_0_1 := M.cell 0 rfl 1 rfl; have z1_0_2 := M.cell 0 rfl 2 rfl)
    | (go_at_call 11; have kg := rgreat_lit w1 25 [(n1, (p1, l1.length, q1), (o1, d1.length, r1)), (n2, (p2, l2.length, q2), (o2, d2.length, r2))] (vs := #[.bool n1, .slice p1 l1.length q1, .slice o1 d1.length r1, .bool n2, .slice p2 l2.length q2, .slice o2 d2.length r2]) (by simp [q7v]) (m := 2) rfl (by simp) (by decide) hZ.out true hG.out; rw [show ((25 : Nat) : Int) = 25 from rfl] at kg; with_reducible refine kg.mono ?_; clear kg; rintro e w2 ⟨rfl, rr⟩; have M' := M.up rr; clear M rr; have M := M'; clear M'; clear z1_1_0 z1_1_1 z1_1_2 z1_0_0 z1_0_1 z1_0_2)
    | (go_at_call 10; with_reducible refine (r_alive _).mono ?_; rintro e w3 ⟨rfl, rr⟩; have M' := M.up rr; clear M rr ; have M := M'; clear M'))
  go_ret
  exact ⟨rfl, M.below⟩
set_option maxRecDepth 100000 in
set_option maxHeartbeats 16000000 in
theorem rundone_bad1 {w : World} {n1 n2 : Bool} {p1 o1 p2 o2 : Option Addr} {q1 r1 q2 r2 : Nat} {l1 d1 l2 d2 : List Nat} {X1 X2 : Rat} (i1 : RIs n1 l1 d1 X1) (i2 : RIs n2 l2 d2 X2) (hc : rchk n1 l1 d1 = false) (m1 : l1.length + d1.length ≤ 25) (m2 : l2.length + d2.length ≤ 25) (g1 : Reads w (.slice p1 l1.length q1) l1) (h1 : Reads w (.slice o1 d1.length r1) d1) (g2 : Reads w (.slice p2 l2.length q2) l2) (h2 : Reads w (.slice o2 d2.length r2) d2) :
    Calls Tryz.prog 4 #[.agg #[.bool n1, .slice p1 l1.length q1, .slice o1 d1.length r1], .agg #[.bool n2, .slice p2 l2.length q2, .slice o2 d2.length r2]] w fun e w' => e = .returned (.bool true) ∧ Below w.heap.size w w' := by
  have hG : Hid (false = List.any [(n1, (p1, l1.length, q1), (o1, d1.length, r1)), (n2, (p2, l2.length, q2), (o2, d2.length, r2))] fun t : Q7 => decide (25 < t.2.1.2.1 + t.2.2.2.1)) := Lib.hid (by simp; omega)
  have hZ : Hid (∀ t ∈ ([(n1, (p1, l1.length, q1), (o1, d1.length, r1)), (n2, (p2, l2.length, q2), (o2, d2.length, r2))] : List Q7), t.2.1.2.1 ≤ 70368744177664 ∧ t.2.2.2.1 ≤ 70368744177664) := Lib.hid (by simp; omega)
  have kk1 := fun (W : World) (g : Reads W (.slice p1 l1.length q1) l1) (h : Reads W (.slice o1 d1.length r1) d1) => hc ▸ rcheck_any (n := n1) g h i1.1 i1.2.1 (by omega) (by omega)
  have M : Mem w [(w.heap.size + 1, 27, [.bool n2, .slice p2 l2.length q2, .slice o2 d2.length r2]), (w.heap.size, 27, [.bool n1, .slice p1 l1.length q1, .slice o1 d1.length r1])] [(.slice o2 d2.length r2, d2), (.slice p2 l2.length q2, l2), (.slice o1 d1.length r1, d1), (.slice p1 l1.length q1, l1)] ((w.alloc (.cells #[.bool n1, .slice p1 l1.length q1, .slice o1 d1.length r1] 27)).alloc (.cells #[.bool n2, .slice p2 l2.length q2, .slice o2 d2.length r2] 27)) := by
    have M := (((((((Mem.start w).add g1).add h1).add g2).add h2).new 27 [.bool n1, .slice p1 l1.length q1, .slice o1 d1.length r1]).new 27 [.bool n2, .slice p2 l2.length q2, .slice o2 d2.length r2])
    simpa only [World.size_alloc] using M
  clear hc g1 h1 m1 i1 g2 h2 m2 i2
  go_enter Tryz.func4, Tryz.ntmps4
  go_wp2_with (first
    | (go_at_call 10; with_reducible refine (r_alive _).mono ?_; rintro e w1 ⟨rfl, rr⟩; have M' := M.up rr; clear M rr ; have M := M'; clear M'; have z1_1_0 := M.cell 1 rfl 0 rfl; have z1_1_1 := M.cell 1 rfl 1 rfl; have z1_1_2 := M.cell 1 rfl 2 rfl; have z1_0_0 := M.cell 0 rfl 0 rfl; have z1_0_1 := M.cell 0 rfl 1 rfl; have z1_0_2 := M.cell 0 rfl 2 rfl)
    | (go_at_call 11; have kg := rgreat_lit w1 25 [(n1, (p1, l1.length, q1), (o1, d1.length, r1)), (n2, (p2, l2.length, q2), (o2, d2.length, r2))] (vs := #[.bool n1, .slice p1 l1.length q1, .slice o1 d1.length r1, .bool n2, .slice p2 l2.length q2, .slice o2 d2.length r2]) (by simp [q7v]) (m := 2) rfl (by simp) (by decide) hZ.out false hG.out; rw [show ((25 : Nat) : Int) = 25 from rfl] at kg; with_reducible refine kg.mono ?_; clear kg; rintro e w2 ⟨rfl, rr⟩; have M' := M.up rr; clear M rr; have M := M'; clear M'; clear z1_1_0 z1_1_1 z1_1_2 z1_0_0 z1_0_1 z1_0_2; have z2_1_0 := M.cell 1 rfl 0 rfl; have z2_1_1 := M.cell 1 rfl 1 rfl; have z2_1_2 := M.cell 1 rfl 2 rfl; have z2_0_0 := M.cell 0 rfl 0 rfl; have z2_0_1 := M.cell 0 rfl 1 rfl; have z2_0_2 := M.cell 0 rfl 2 rfl)
    | (go_at_call 14; with_reducible refine (kk1 _ (M.get 3 rfl) (M.get 2 rfl)).mono ?_; rintro e w3 ⟨rfl, rr⟩; have M' := M.up rr; clear M rr ; have M := M'; clear M'; clear z2_1_0 z2_1_1 z2_1_2 z2_0_0 z2_0_1 z2_0_2)
    | (go_at_call 10; with_reducible refine (r_alive _).mono ?_; rintro e w4 ⟨rfl, rr⟩; have M' := M.up rr; clear M rr ; have M := M'; clear M'))
  go_ret
  exact ⟨rfl, M.below⟩
set_option maxRecDepth 100000 in
set_option maxHeartbeats 16000000 in
theorem rundone_bad2 {w : World} {n1 n2 : Bool} {p1 o1 p2 o2 : Option Addr} {q1 r1 q2 r2 : Nat} {l1 d1 l2 d2 : List Nat} {X1 X2 : Rat} (c1 : RCan n1 l1 d1 X1) (i2 : RIs n2 l2 d2 X2) (hc : rchk n2 l2 d2 = false) (m1 : l1.length + d1.length ≤ 25) (m2 : l2.length + d2.length ≤ 25) (g1 : Reads w (.slice p1 l1.length q1) l1) (h1 : Reads w (.slice o1 d1.length r1) d1) (g2 : Reads w (.slice p2 l2.length q2) l2) (h2 : Reads w (.slice o2 d2.length r2) d2) :
    Calls Tryz.prog 4 #[.agg #[.bool n1, .slice p1 l1.length q1, .slice o1 d1.length r1], .agg #[.bool n2, .slice p2 l2.length q2, .slice o2 d2.length r2]] w fun e w' => e = .returned (.bool true) ∧ Below w.heap.size w w' := by
  have hG : Hid (false = List.any [(n1, (p1, l1.length, q1), (o1, d1.length, r1)), (n2, (p2, l2.length, q2), (o2, d2.length, r2))] fun t : Q7 => decide (25 < t.2.1.2.1 + t.2.2.2.1)) := Lib.hid (by simp; omega)
  have hZ : Hid (∀ t ∈ ([(n1, (p1, l1.length, q1), (o1, d1.length, r1)), (n2, (p2, l2.length, q2), (o2, d2.length, r2))] : List Q7), t.2.1.2.1 ≤ 70368744177664 ∧ t.2.2.2.1 ≤ 70368744177664) := Lib.hid (by simp; omega)
  have kk1 := fun (W : World) (g : Reads W (.slice p1 l1.length q1) l1) (h : Reads W (.slice o1 d1.length r1) d1) => rcheck_yes c1 (by omega) (by omega) g h
  have kk2 := fun (W : World) (g : Reads W (.slice p2 l2.length q2) l2) (h : Reads W (.slice o2 d2.length r2) d2) => hc ▸ rcheck_any (n := n2) g h i2.1 i2.2.1 (by omega) (by omega)
  have M : Mem w [(w.heap.size + 1, 27, [.bool n2, .slice p2 l2.length q2, .slice o2 d2.length r2]), (w.heap.size, 27, [.bool n1, .slice p1 l1.length q1, .slice o1 d1.length r1])] [(.slice o2 d2.length r2, d2), (.slice p2 l2.length q2, l2), (.slice o1 d1.length r1, d1), (.slice p1 l1.length q1, l1)] ((w.alloc (.cells #[.bool n1, .slice p1 l1.length q1, .slice o1 d1.length r1] 27)).alloc (.cells #[.bool n2, .slice p2 l2.length q2, .slice o2 d2.length r2] 27)) := by
    have M := (((((((Mem.start w).add g1).add h1).add g2).add h2).new 27 [.bool n1, .slice p1 l1.length q1, .slice o1 d1.length r1]).new 27 [.bool n2, .slice p2 l2.length q2, .slice o2 d2.length r2])
    simpa only [World.size_alloc] using M
  clear hc g1 h1 m1 c1 g2 h2 m2 i2
  go_enter Tryz.func4, Tryz.ntmps4
  go_wp2_with (first
    | (go_at_call 10; with_reducible refine (r_alive _).mono ?_; rintro e w1 ⟨rfl, rr⟩; have M' := M.up rr; clear M rr ; have M := M'; clear M'; have z1_1_0 := M.cell 1 rfl 0 rfl; have z1_1_1 := M.cell 1 rfl 1 rfl; have z1_1_2 := M.cell 1 rfl 2 rfl; have z1_0_0 := M.cell 0 rfl 0 rfl; have z1_0_1 := M.cell 0 rfl 1 rfl; have z1_0_2 := M.cell 0 rfl 2 rfl)
    | (go_at_call 11; have kg := rgreat_lit w1 25 [(n1, (p1, l1.length, q1), (o1, d1.length, r1)), (n2, (p2, l2.length, q2), (o2, d2.length, r2))] (vs := #[.bool n1, .slice p1 l1.length q1, .slice o1 d1.length r1, .bool n2, .slice p2 l2.length q2, .slice o2 d2.length r2]) (by simp [q7v]) (m := 2) rfl (by simp) (by decide) hZ.out false hG.out; rw [show ((25 : Nat) : Int) = 25 from rfl] at kg; with_reducible refine kg.mono ?_; clear kg; rintro e w2 ⟨rfl, rr⟩; have M' := M.up rr; clear M rr; have M := M'; clear M'; clear z1_1_0 z1_1_1 z1_1_2 z1_0_0 z1_0_1 z1_0_2; have z2_1_0 := M.cell 1 rfl 0 rfl; have z2_1_1 := M.cell 1 rfl 1 rfl; have z2_1_2 := M.cell 1 rfl 2 rfl; have z2_0_0 := M.cell 0 rfl 0 rfl; have z2_0_1 := M.cell 0 rfl 1 rfl; have z2_0_2 := M.cell 0 rfl 2 rfl)
    | (go_at_call 14; with_reducible refine (kk1 _ (M.get 3 rfl) (M.get 2 rfl)).mono ?_; rintro e w3 ⟨rfl, rr⟩; have M' := M.up rr; clear M rr ; have M := M'; clear M'; clear z2_1_0 z2_1_1 z2_1_2 z2_0_0 z2_0_1 z2_0_2; have z3_1_0 := M.cell 1 rfl 0 rfl; have z3_1_1 := M.cell 1 rfl 1 rfl; have z3_1_2 := M.cell 1 rfl 2 rfl; have z3_0_0 := M.cell 0 rfl 0 rfl; have z3_0_1 := M.cell 0 rfl 1 rfl; have z3_0_2 := M.cell 0 rfl 2 rfl)
    | (go_at_call 14; with_reducible refine (kk2 _ (M.get 1 rfl) (M.get 0 rfl)).mono ?_; rintro e w4 ⟨rfl, rr⟩; have M' := M.up rr; clear M rr ; have M := M'; clear M'; clear z3_1_0 z3_1_1 z3_1_2 z3_0_0 z3_0_1 z3_0_2)
    | (go_at_call 10; with_reducible refine (r_alive _).mono ?_; rintro e w5 ⟨rfl, rr⟩; have M' := M.up rr; clear M rr ; have M := M'; clear M'))
  go_ret
  exact ⟨rfl, M.below⟩
theorem rundone_any {w : World} {n1 n2 : Bool} {p1 o1 p2 o2 : Option Addr} {q1 r1 q2 r2 : Nat} {l1 d1 l2 d2 : List Nat} {X1 X2 : Rat} (i1 : RIs n1 l1 d1 X1) (i2 : RIs n2 l2 d2 X2) (t1 : l1.length ≤ 70368744177664) (t1' : d1.length ≤ 70368744177664) (t2 : l2.length ≤ 70368744177664) (t2' : d2.length ≤ 70368744177664) (g1 : Reads w (.slice p1 l1.length q1) l1) (h1 : Reads w (.slice o1 d1.length r1) d1) (g2 : Reads w (.slice p2 l2.length q2) l2) (h2 : Reads w (.slice o2 d2.length r2) d2) :
    Calls Tryz.prog 4 #[.agg #[.bool n1, .slice p1 l1.length q1, .slice o1 d1.length r1], .agg #[.bool n2, .slice p2 l2.length q2, .slice o2 d2.length r2]] w fun e w' => e = .returned (.bool true) ∧ Below w.heap.size w w' := by
  by_cases h : 25 < l1.length + d1.length ∨ 25 < l2.length + d2.length
  · exact rundone_far h t1 t1' t2 t2' g1 h1 g2 h2
  · have u : l1.length + d1.length ≤ 25 ∧ l2.length + d2.length ≤ 25 := by omega
    by_cases b1 : rchk n1 l1 d1 = true
    rotate_left
    · exact rundone_bad1  i1 i2 (Bool.eq_false_iff.mpr b1) (by omega) (by omega) g1 h1 g2 h2
    have c1 := i1.can b1
    by_cases b2 : rchk n2 l2 d2 = true
    rotate_left
    · exact rundone_bad2 c1 i2 (Bool.eq_false_iff.mpr b2) (by omega) (by omega) g1 h1 g2 h2
    have c2 := i2.can b2
    exact rundone_near c1 c2 (by omega) (by omega) g1 h1 g2 h2 
end Go.Proofs.YthloknddhfphnaaGreatDoor
