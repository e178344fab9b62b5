/- RatsField, of any three fractions. -/
import Derived.Test.YthloknddhfphnaaGreatDoorGRatsField
set_option linter.unusedSimpArgs false
set_option linter.unusedVariables false
namespace Go.Proofs.YthloknddhfphnaaGreatDoor
open Go Go.Proofs Go.RowKit Go.Shelf Nu

set_option maxRecDepth 100000 in
set_option maxHeartbeats 16000000 in
theorem rfield_far {w : World} {n1 n2 n3 : Bool} {p1 o1 p2 o2 p3 o3 : Option Addr} {q1 r1 q2 r2 q3 r3 : Nat} {l1 d1 l2 d2 l3 d3 : List Nat} (hb : 20 < l1.length + d1.length ∨ 20 < l2.length + d2.length ∨ 20 < l3.length + d3.length) (t1 : l1.length ≤ 70368744177664) (t1' : d1.length ≤ 70368744177664) (t2 : l2.length ≤ 70368744177664) (t2' : d2.length ≤ 70368744177664) (t3 : l3.length ≤ 70368744177664) (t3' : d3.length ≤ 70368744177664) (g1 : Reads w (.slice p1 l1.length q1) l1) (h1 : Reads w (.slice o1 d1.length r1) d1) (g2 : Reads w (.slice p2 l2.length q2) l2) (h2 : Reads w (.slice o2 d2.length r2) d2) (g3 : Reads w (.slice p3 l3.length q3) l3) (h3 : Reads w (.slice o3 d3.length r3) d3) :
    Calls Tryz.prog 3 #[.agg #[.bool n1, .slice p1 l1.length q1, .slice o1 d1.length r1], .agg #[.bool n2, .slice p2 l2.length q2, .slice o2 d2.length r2], .agg #[.bool n3, .slice p3 l3.length q3, .slice o3 d3.length r3]] w fun e w' => e = .returned (.bool true) ∧ Below w.heap.size w w' := by
  have hG : Hid (true = List.any [(n1, (p1, l1.length, q1), (o1, d1.length, r1)), (n2, (p2, l2.length, q2), (o2, d2.length, r2)), (n3, (p3, l3.length, q3), (o3, d3.length, r3))] fun t : Q7 => decide (20 < t.2.1.2.1 + t.2.2.2.1)) := Lib.hid (by simp; omega)
  have hZ : Hid (∀ t ∈ ([(n1, (p1, l1.length, q1), (o1, d1.length, r1)), (n2, (p2, l2.length, q2), (o2, d2.length, r2)), (n3, (p3, l3.length, q3), (o3, d3.length, r3))] : List Q7), t.2.1.2.1 ≤ 70368744177664 ∧ t.2.2.2.1 ≤ 70368744177664) := Lib.hid (by simp; omega)
  have M : Mem w [(w.heap.size + 1 + 1, 27, [.bool n3, .slice p3 l3.length q3, .slice o3 d3.length r3]), (w.heap.size + 1, 27, [.bool n2, .slice p2 l2.length q2, .slice o2 d2.length r2]), (w.heap.size, 27, [.bool n1, .slice p1 l1.length q1, .slice o1 d1.length r1])] [(.slice o3 d3.length r3, d3), (.slice p3 l3.length q3, l3), (.slice o2 d2.length r2, d2), (.slice p2 l2.length q2, l2), (.slice o1 d1.length r1, d1), (.slice p1 l1.length q1, l1)] (((w.alloc (.cells #[.bool n1, .slice p1 l1.length q1, .slice o1 d1.length r1] 27)).alloc (.cells #[.bool n2, .slice p2 l2.length q2, .slice o2 d2.length r2] 27)).alloc (.cells #[.bool n3, .slice p3 l3.length q3, .slice o3 d3.length r3] 27)) := by
    have M := ((((((((((Mem.start w).add g1).add h1).add g2).add h2).add g3).add h3).new 27 [.bool n1, .slice p1 l1.length q1, .slice o1 d1.length r1]).new 27 [.bool n2, .slice p2 l2.length q2, .slice o2 d2.length r2]).new 27 [.bool n3, .slice p3 l3.length q3, .slice o3 d3.length r3])
    simpa only [World.size_alloc] using M
  clear hb g1 h1 t1 t1' g2 h2 t2 t2' g3 h3 t3 t3'
  go_enter Tryz.func3, Tryz.ntmps3
  go_wp2_with (first
    | (go_at_call 10; with_reducible refine (r_alive _).mono ?_; rintro e w1 ⟨rfl, rr⟩; have M' := M.up rr; clear M rr ; have M := M'; clear M'; have z1_2_0 := M.cell 2 rfl 0 rfl; have z1_2_1 := M.cell 2 rfl 1 rfl; have z1_2_2 := M.cell 2 rfl 2 rfl; have z1_1_0 := M.cell 1 rfl 0 rfl; have z1_1_1 := M.cell 1 rfl 1 rfl; have z1_1_2 := M.cell 1 rfl 2 rfl; have z1_0_0 := M.cell 0 rfl 0 rfl; have z1_0_1 := M.cell 0 rfl 1 rfl; have z1_0_2 := M.cell 0 rfl 2 rfl)
    | (go_at_call 11; have kg := rgreat_lit w1 20 [(n1, (p1, l1.length, q1), (o1, d1.length, r1)), (n2, (p2, l2.length, q2), (o2, d2.length, r2)), (n3, (p3, l3.length, q3), (o3, d3.length, r3))] (vs := #[.bool n1, .slice p1 l1.length q1, .slice o1 d1.length r1, .bool n2, .slice p2 l2.length q2, .slice o2 d2.length r2, .bool n3, .slice p3 l3.length q3, .slice o3 d3.length r3]) (by simp [q7v]) (m := 3) rfl (by simp) (by decide) hZ.out true hG.out; rw [show ((20 : Nat) : Int) = 20 from rfl] at kg; with_reducible refine kg.mono ?_; clear kg; rintro e w2 ⟨rfl, rr⟩; have M' := M.up rr; clear M rr; have M := M'; clear M'; clear z1_2_0 z1_2_1 z1_2_2 z1_1_0 z1_1_1 z1_1_2 z1_0_0 z1_0_1 z1_0_2)
    | (go_at_call 10; with_reducible refine (r_alive _).mono ?_; rintro e w3 ⟨rfl, rr⟩; have M' := M.up rr; clear M rr ; have M := M'; clear M'))
  go_ret
  exact ⟨rfl, M.below⟩
theorem rfield_any {w : World} {n1 n2 n3 : Bool} {p1 o1 p2 o2 p3 o3 : Option Addr} {q1 r1 q2 r2 q3 r3 : Nat} {l1 d1 l2 d2 l3 d3 : List Nat} {X1 X2 X3 : Rat} (i1 : RIs n1 l1 d1 X1) (i2 : RIs n2 l2 d2 X2) (i3 : RIs n3 l3 d3 X3) (t1 : l1.length ≤ 70368744177664) (t1' : d1.length ≤ 70368744177664) (t2 : l2.length ≤ 70368744177664) (t2' : d2.length ≤ 70368744177664) (t3 : l3.length ≤ 70368744177664) (t3' : d3.length ≤ 70368744177664) (g1 : Reads w (.slice p1 l1.length q1) l1) (h1 : Reads w (.slice o1 d1.length r1) d1) (g2 : Reads w (.slice p2 l2.length q2) l2) (h2 : Reads w (.slice o2 d2.length r2) d2) (g3 : Reads w (.slice p3 l3.length q3) l3) (h3 : Reads w (.slice o3 d3.length r3) d3) :
    Calls Tryz.prog 3 #[.agg #[.bool n1, .slice p1 l1.length q1, .slice o1 d1.length r1], .agg #[.bool n2, .slice p2 l2.length q2, .slice o2 d2.length r2], .agg #[.bool n3, .slice p3 l3.length q3, .slice o3 d3.length r3]] w fun e w' => e = .returned (.bool true) ∧ Below w.heap.size w w' := by
  by_cases h : 20 < l1.length + d1.length ∨ 20 < l2.length + d2.length ∨ 20 < l3.length + d3.length
  · exact rfield_far h t1 t1' t2 t2' t3 t3' g1 h1 g2 h2 g3 h3
  · exact rfield_near i1 i2 i3 (by omega) (by omega) (by omega) g1 h1 g2 h2 g3 h3
end Go.Proofs.YthloknddhfphnaaGreatDoor
