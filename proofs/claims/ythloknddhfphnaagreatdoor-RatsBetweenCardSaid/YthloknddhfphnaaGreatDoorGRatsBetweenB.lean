/- RatsBetween, of any fractions. -/
import Derived.Test.YthloknddhfphnaaGreatDoorGRatsBetween
import Derived.Test.YthloknddhfphnaaGreatDoorGRatsBetweenS
set_option linter.unusedSimpArgs false
set_option linter.unusedVariables false
namespace Go.Proofs.YthloknddhfphnaaGreatDoor
open Go Go.Proofs Go.RowKit Go.Shelf Nu

set_option maxRecDepth 100000 in
set_option maxHeartbeats 16000000 in
theorem rbetween_near {w : World} {n1 n2 : Bool} {p1 o1 p2 o2 : Option Addr} {q1 r1 q2 r2 : Nat} {l1 d1 l2 d2 : List Nat} {X1 X2 : Rat} {u1 u2 : Int} (c1 : RCan n1 l1 d1 X1) (c2 : RCan n2 l2 d2 X2) (m1 : l1.length + d1.length ≤ 20) (m2 : l2.length + d2.length ≤ 20) (g1 : Reads w (.slice p1 l1.length q1) l1) (h1 : Reads w (.slice o1 d1.length r1) d1) (g2 : Reads w (.slice p2 l2.length q2) l2) (h2 : Reads w (.slice o2 d2.length r2) d2) (e1 : 0 ≤ u1) (f1 : u1 ≤ 255) (e2 : 0 ≤ u2) (f2 : u2 ≤ 255) :
    Calls Tryz.prog 9 #[.agg #[.bool n1, .slice p1 l1.length q1, .slice o1 d1.length r1], .agg #[.bool n2, .slice p2 l2.length q2, .slice o2 d2.length r2], .agg #[.int .u8 u1, .int .u8 u2]] w fun e w' => e = .returned (.bool true) ∧ Below w.heap.size w w' := by
  by_cases hs : 0 < rsg X1 X2
  · exact rbetween_swap c1 c2 m1 m2 g1 h1 g2 h2 hs e1 f1 e2 f2
  · exact rbetween_stay c1 c2 m1 m2 g1 h1 g2 h2 hs e1 f1 e2 f2
set_option maxRecDepth 100000 in
set_option maxHeartbeats 16000000 in
theorem rbetween_far {w : World} {n1 n2 : Bool} {p1 o1 p2 o2 : Option Addr} {q1 r1 q2 r2 : Nat} {l1 d1 l2 d2 : List Nat} {u1 u2 : Int} (hb : 20 < l1.length + d1.length ∨ 20 < l2.length + d2.length) (t1 : l1.length ≤ 70368744177664) (t1' : d1.length ≤ 70368744177664) (t2 : l2.length ≤ 70368744177664) (t2' : d2.length ≤ 70368744177664) (g1 : Reads w (.slice p1 l1.length q1) l1) (h1 : Reads w (.slice o1 d1.length r1) d1) (g2 : Reads w (.slice p2 l2.length q2) l2) (h2 : Reads w (.slice o2 d2.length r2) d2) :
    Calls Tryz.prog 9 #[.agg #[.bool n1, .slice p1 l1.length q1, .slice o1 d1.length r1], .agg #[.bool n2, .slice p2 l2.length q2, .slice o2 d2.length r2], .agg #[.int .u8 u1, .int .u8 u2]] w fun e w' => e = .returned (.bool true) ∧ Below w.heap.size w w' := by
  have hG : Hid (true = List.any [(n1, (p1, l1.length, q1), (o1, d1.length, r1)), (n2, (p2, l2.length, q2), (o2, d2.length, r2))] fun t : Q7 => decide (20 < t.2.1.2.1 + t.2.2.2.1)) := Lib.hid (by simp; omega)
  have hZ : Hid (∀ t ∈ ([(n1, (p1, l1.length, q1), (o1, d1.length, r1)), (n2, (p2, l2.length, q2), (o2, d2.length, r2))] : List Q7), t.2.1.2.1 ≤ 70368744177664 ∧ t.2.2.2.1 ≤ 70368744177664) := Lib.hid (by simp; omega)
  have M : Mem w [(w.heap.size + 1 + 1, 54, [.int .u8 u1, .int .u8 u2]), (w.heap.size + 1, 27, [.bool n2, .slice p2 l2.length q2, .slice o2 d2.length r2]), (w.heap.size, 27, [.bool n1, .slice p1 l1.length q1, .slice o1 d1.length r1])] [(.slice o2 d2.length r2, d2), (.slice p2 l2.length q2, l2), (.slice o1 d1.length r1, d1), (.slice p1 l1.length q1, l1)] (((w.alloc (.cells #[.bool n1, .slice p1 l1.length q1, .slice o1 d1.length r1] 27)).alloc (.cells #[.bool n2, .slice p2 l2.length q2, .slice o2 d2.length r2] 27)).alloc (.cells #[.int .u8 u1, .int .u8 u2] 54)) := by
    have M := ((((((((Mem.start w).add g1).add h1).add g2).add h2).new 27 [.bool n1, .slice p1 l1.length q1, .slice o1 d1.length r1]).new 27 [.bool n2, .slice p2 l2.length q2, .slice o2 d2.length r2]).new 54 [.int .u8 u1, .int .u8 u2])
    simpa only [World.size_alloc] using M
  clear hb g1 h1 t1 t1' g2 h2 t2 t2'
  go_enter Tryz.func9, Tryz.ntmps9
  go_wp2_with (first
    | (go_at_call 10; with_reducible refine (r_alive _).mono ?_; rintro e w1 ⟨rfl, rr⟩; have M' := M.up rr; clear M rr ; have M := M'; clear M'; have z1_2_0 := M.cell 2 rfl 0 rfl; have z1_2_1 := M.cell 2 rfl 1 rfl; have z1_2_2 := M.cell 2 rfl 2 rfl; have z1_1_0 := M.cell 1 rfl 0 rfl; have z1_1_1 := M.cell 1 rfl 1 rfl; have z1_1_2 := M.cell 1 rfl 2 rfl; have z1_0_0 := M.cell 0 rfl 0 rfl; have z1_0_1 := M.cell 0 rfl 1 rfl)
    | (go_at_call 11; have kg := rgreat_lit w1 20 [(n1, (p1, l1.length, q1), (o1, d1.length, r1)), (n2, (p2, l2.length, q2), (o2, d2.length, r2))] (vs := #[.bool n1, .slice p1 l1.length q1, .slice o1 d1.length r1, .bool n2, .slice p2 l2.length q2, .slice o2 d2.length r2]) (by simp [q7v]) (m := 2) rfl (by simp) (by decide) hZ.out true hG.out; rw [show ((20 : Nat) : Int) = 20 from rfl] at kg; with_reducible refine kg.mono ?_; clear kg; rintro e w2 ⟨rfl, rr⟩; have M' := M.up rr; clear M rr; have M := M'; clear M'; clear z1_2_0 z1_2_1 z1_2_2 z1_1_0 z1_1_1 z1_1_2 z1_0_0 z1_0_1)
    | (go_at_call 10; with_reducible refine (r_alive _).mono ?_; rintro e w3 ⟨rfl, rr⟩; have M' := M.up rr; clear M rr ; have M := M'; clear M'))
  go_ret
  exact ⟨rfl, M.below⟩
set_option maxRecDepth 100000 in
set_option maxHeartbeats 16000000 in
theorem rbetween_bad1 {w : World} {n1 n2 : Bool} {p1 o1 p2 o2 : Option Addr} {q1 r1 q2 r2 : Nat} {l1 d1 l2 d2 : List Nat} {X1 X2 : Rat} {u1 u2 : Int} (i1 : RIs n1 l1 d1 X1) (i2 : RIs n2 l2 d2 X2) (hc : rchk n1 l1 d1 = false) (m1 : l1.length + d1.length ≤ 20) (m2 : l2.length + d2.length ≤ 20) (g1 : Reads w (.slice p1 l1.length q1) l1) (h1 : Reads w (.slice o1 d1.length r1) d1) (g2 : Reads w (.slice p2 l2.length q2) l2) (h2 : Reads w (.slice o2 d2.length r2) d2) :
    Calls Tryz.prog 9 #[.agg #[.bool n1, .slice p1 l1.length q1, .slice o1 d1.length r1], .agg #[.bool n2, .slice p2 l2.length q2, .slice o2 d2.length r2], .agg #[.int .u8 u1, .int .u8 u2]] w fun e w' => e = .returned (.bool true) ∧ Below w.heap.size w w' := by
  have hG : Hid (false = List.any [(n1, (p1, l1.length, q1), (o1, d1.length, r1)), (n2, (p2, l2.length, q2), (o2, d2.length, r2))] fun t : Q7 => decide (20 < t.2.1.2.1 + t.2.2.2.1)) := Lib.hid (by simp; omega)
  have hZ : Hid (∀ t ∈ ([(n1, (p1, l1.length, q1), (o1, d1.length, r1)), (n2, (p2, l2.length, q2), (o2, d2.length, r2))] : List Q7), t.2.1.2.1 ≤ 70368744177664 ∧ t.2.2.2.1 ≤ 70368744177664) := Lib.hid (by simp; omega)
  have kk1 := fun (W : World) (g : Reads W (.slice p1 l1.length q1) l1) (h : Reads W (.slice o1 d1.length r1) d1) => hc ▸ rcheck_any (n := n1) g h i1.1 i1.2.1 (by omega) (by omega)
  have M : Mem w [(w.heap.size + 1 + 1, 54, [.int .u8 u1, .int .u8 u2]), (w.heap.size + 1, 27, [.bool n2, .slice p2 l2.length q2, .slice o2 d2.length r2]), (w.heap.size, 27, [.bool n1, .slice p1 l1.length q1, .slice o1 d1.length r1])] [(.slice o2 d2.length r2, d2), (.slice p2 l2.length q2, l2), (.slice o1 d1.length r1, d1), (.slice p1 l1.length q1, l1)] (((w.alloc (.cells #[.bool n1, .slice p1 l1.length q1, .slice o1 d1.length r1] 27)).alloc (.cells #[.bool n2, .slice p2 l2.length q2, .slice o2 d2.length r2] 27)).alloc (.cells #[.int .u8 u1, .int .u8 u2] 54)) := by
    have M := ((((((((Mem.start w).add g1).add h1).add g2).add h2).new 27 [.bool n1, .slice p1 l1.length q1, .slice o1 d1.length r1]).new 27 [.bool n2, .slice p2 l2.length q2, .slice o2 d2.length r2]).new 54 [.int .u8 u1, .int .u8 u2])
    simpa only [World.size_alloc] using M
  clear hc g1 h1 m1 i1 g2 h2 m2 i2
  go_enter Tryz.func9, Tryz.ntmps9
  go_wp2_with (first
    | (go_at_call 10; with_reducible refine (r_alive _).mono ?_; rintro e w1 ⟨rfl, rr⟩; have M' := M.up rr; clear M rr ; have M := M'; clear M'; have z1_2_0 := M.cell 2 rfl 0 rfl; have z1_2_1 := M.cell 2 rfl 1 rfl; have z1_2_2 := M.cell 2 rfl 2 rfl; have z1_1_0 := M.cell 1 rfl 0 rfl; have z1_1_1 := M.cell 1 rfl 1 rfl; have z1_1_2 := M.cell 1 rfl 2 rfl; have z1_0_0 := M.cell 0 rfl 0 rfl; have z1_0_1 := M.cell 0 rfl 1 rfl)
    | (go_at_call 11; have kg := rgreat_lit w1 20 [(n1, (p1, l1.length, q1), (o1, d1.length, r1)), (n2, (p2, l2.length, q2), (o2, d2.length, r2))] (vs := #[.bool n1, .slice p1 l1.length q1, .slice o1 d1.length r1, .bool n2, .slice p2 l2.length q2, .slice o2 d2.length r2]) (by simp [q7v]) (m := 2) rfl (by simp) (by decide) hZ.out false hG.out; rw [show ((20 : Nat) : Int) = 20 from rfl] at kg; with_reducible refine kg.mono ?_; clear kg; rintro e w2 ⟨rfl, rr⟩; have M' := M.up rr; clear M rr; have M := M'; clear M'; clear z1_2_0 z1_2_1 z1_2_2 z1_1_0 z1_1_1 z1_1_2 z1_0_0 z1_0_1; have z2_2_0 := M.cell 2 rfl 0 rfl; have z2_2_1 := M.cell 2 rfl 1 rfl; have z2_2_2 := M.cell 2 rfl 2 rfl; have z2_1_0 := M.cell 1 rfl 0 rfl; have z2_1_1 := M.cell 1 rfl 1 rfl; have z2_1_2 := M.cell 1 rfl 2 rfl; have z2_0_0 := M.cell 0 rfl 0 rfl; have z2_0_1 := M.cell 0 rfl 1 rfl)
    | (go_at_call 14; with_reducible refine (kk1 _ (M.get 3 rfl) (M.get 2 rfl)).mono ?_; rintro e w3 ⟨rfl, rr⟩; have M' := M.up rr; clear M rr ; have M := M'; clear M'; clear z2_2_0 z2_2_1 z2_2_2 z2_1_0 z2_1_1 z2_1_2 z2_0_0 z2_0_1)
    | (go_at_call 10; with_reducible refine (r_alive _).mono ?_; rintro e w4 ⟨rfl, rr⟩; have M' := M.up rr; clear M rr ; have M := M'; clear M'))
  go_ret
  exact ⟨rfl, M.below⟩
set_option maxRecDepth 100000 in
set_option maxHeartbeats 16000000 in
theorem rbetween_bad2 {w : World} {n1 n2 : Bool} {p1 o1 p2 o2 : Option Addr} {q1 r1 q2 r2 : Nat} {l1 d1 l2 d2 : List Nat} {X1 X2 : Rat} {u1 u2 : Int} (c1 : RCan n1 l1 d1 X1) (i2 : RIs n2 l2 d2 X2) (hc : rchk n2 l2 d2 = false) (m1 : l1.length + d1.length ≤ 20) (m2 : l2.length + d2.length ≤ 20) (g1 : Reads w (.slice p1 l1.length q1) l1) (h1 : Reads w (.slice o1 d1.length r1) d1) (g2 : Reads w (.slice p2 l2.length q2) l2) (h2 : Reads w (.slice o2 d2.length r2) d2) :
    Calls Tryz.prog 9 #[.agg #[.bool n1, .slice p1 l1.length q1, .slice o1 d1.length r1], .agg #[.bool n2, .slice p2 l2.length q2, .slice o2 d2.length r2], .agg #[.int .u8 u1, .int .u8 u2]] w fun e w' => e = .returned (.bool true) ∧ Below w.heap.size w w' := by
  have hG : Hid (false = List.any [(n1, (p1, l1.length, q1), (o1, d1.length, r1)), (n2, (p2, l2.length, q2), (o2, d2.length, r2))] fun t : Q7 => decide (20 < t.2.1.2.1 + t.2.2.2.1)) := Lib.hid (by simp; omega)
  have hZ : Hid (∀ t ∈ ([(n1, (p1, l1.length, q1), (o1, d1.length, r1)), (n2, (p2, l2.length, q2), (o2, d2.length, r2))] : List Q7), t.2.1.2.1 ≤ 70368744177664 ∧ t.2.2.2.1 ≤ 70368744177664) := Lib.hid (by simp; omega)
  have kk1 := fun (W : World) (g : Reads W (.slice p1 l1.length q1) l1) (h : Reads W (.slice o1 d1.length r1) d1) => rcheck_yes c1 (by omega) (by omega) g h
  have kk2 := fun (W : World) (g : Reads W (.slice p2 l2.length q2) l2) (h : Reads W (.slice o2 d2.length r2) d2) => hc ▸ rcheck_any (n := n2) g h i2.1 i2.2.1 (by omega) (by omega)
  have M : Mem w [(w.heap.size + 1 + 1, 54, [.int .u8 u1, .int .u8 u2]), (w.heap.size + 1, 27, [.bool n2, .slice p2 l2.length q2, .slice o2 d2.length r2]), (w.heap.size, 27, [.bool n1, .slice p1 l1.length q1, .slice o1 d1.length r1])] [(.slice o2 d2.length r2, d2), (.slice p2 l2.length q2, l2), (.slice o1 d1.length r1, d1), (.slice p1 l1.length q1, l1)] (((w.alloc (.cells #[.bool n1, .slice p1 l1.length q1, .slice o1 d1.length r1] 27)).alloc (.cells #[.bool n2, .slice p2 l2.length q2, .slice o2 d2.length r2] 27)).alloc (.cells #[.int .u8 u1, .int .u8 u2] 54)) := by
    have M := ((((((((Mem.start w).add g1).add h1).add g2).add h2).new 27 [.bool n1, .slice p1 l1.length q1, .slice o1 d1.length r1]).new 27 [.bool n2, .slice p2 l2.length q2, .slice o2 d2.length r2]).new 54 [.int .u8 u1, .int .u8 u2])
    simpa only [World.size_alloc] using M
  clear hc g1 h1 m1 c1 g2 h2 m2 i2
  go_enter Tryz.func9, Tryz.ntmps9
  go_wp2_with (first
    | (go_at_call 10; with_reducible refine (r_alive _).mono ?_; rintro e w1 ⟨rfl, rr⟩; have M' := M.up rr; clear M rr ; have M := M'; clear M'; have z1_2_0 := M.cell 2 rfl 0 rfl; have z1_2_1 := M.cell 2 rfl 1 rfl; have z1_2_2 := M.cell 2 rfl 2 rfl; have z1_1_0 := M.cell 1 rfl 0 rfl; have z1_1_1 := M.cell 1 rfl 1 rfl; have z1_1_2 := M.cell 1 rfl 2 rfl; have z1_0_0 := M.cell 0 rfl 0 rfl; have z1_0_1 := M.cell 0 rfl 1 rfl)
    | (go_at_call 11; have kg := rgreat_lit w1 20 [(n1, (p1, l1.length, q1), (o1, d1.length, r1)), (n2, (p2, l2.length, q2), (o2, d2.length, r2))] (vs := #[.bool n1, .slice p1 l1.length q1, .slice o1 d1.length r1, .bool n2, .slice p2 l2.length q2, .slice o2 d2.length r2]) (by simp [q7v]) (m := 2) rfl (by simp) (by decide) hZ.out false hG.out; rw [show ((20 : Nat) : Int) = 20 from rfl] at kg; with_reducible refine kg.mono ?_; clear kg; rintro e w2 ⟨rfl, rr⟩; have M' := M.up rr; clear M rr; have M := M'; clear M'; clear z1_2_0 z1_2_1 z1_2_2 z1_1_0 z1_1_1 z1_1_2 z1_0_0 z1_0_1; have z2_2_0 := M.cell 2 rfl 0 rfl; have z2_2_1 := M.cell 2 rfl 1 rfl; have z2_2_2 := M.cell 2 rfl 2 rfl; have z2_1_0 := M.cell 1 rfl 0 rfl; have z2_1_1 := M.cell 1 rfl 1 rfl; have z2_1_2 := M.cell 1 rfl 2 rfl; have z2_0_0 := M.cell 0 rfl 0 rfl; have z2_0_1 := M.cell 0 rfl 1 rfl)
    | (go_at_call 14; with_reducible refine (kk1 _ (M.get 3 rfl) (M.get 2 rfl)).mono ?_; rintro e w3 ⟨rfl, rr⟩; have M' := M.up rr; clear M rr ; have M := M'; clear M'; clear z2_2_0 z2_2_1 z2_2_2 z2_1_0 z2_1_1 z2_1_2 z2_0_0 z2_0_1; have z3_2_0 := M.cell 2 rfl 0 rfl; have z3_2_1 := M.cell 2 rfl 1 rfl; have z3_2_2 := M.cell 2 rfl 2 rfl; have z3_1_0 := M.cell 1 rfl 0 rfl; have z3_1_1 := M.cell 1 rfl 1 rfl; have z3_1_2 := M.cell 1 rfl 2 rfl; have z3_0_0 := M.cell 0 rfl 0 rfl; have z3_0_1 := M.cell 0 rfl 1 rfl)
    | (go_at_call 14; with_reducible refine (kk2 _ (M.get 1 rfl) (M.get 0 rfl)).mono ?_; rintro e w4 ⟨rfl, rr⟩; have M' := M.up rr; clear M rr ; have M := M'; clear M'; clear z3_2_0 z3_2_1 z3_2_2 z3_1_0 z3_1_1 z3_1_2 z3_0_0 z3_0_1)
    | (go_at_call 10; with_reducible refine (r_alive _).mono ?_; rintro e w5 ⟨rfl, rr⟩; have M' := M.up rr; clear M rr ; have M := M'; clear M'))
  go_ret
  exact ⟨rfl, M.below⟩
theorem rbetween_any {w : World} {n1 n2 : Bool} {p1 o1 p2 o2 : Option Addr} {q1 r1 q2 r2 : Nat} {l1 d1 l2 d2 : List Nat} {X1 X2 : Rat} (i1 : RIs n1 l1 d1 X1) (i2 : RIs n2 l2 d2 X2) (t1 : l1.length ≤ 70368744177664) (t1' : d1.length ≤ 70368744177664) (t2 : l2.length ≤ 70368744177664) (t2' : d2.length ≤ 70368744177664) (g1 : Reads w (.slice p1 l1.length q1) l1) (h1 : Reads w (.slice o1 d1.length r1) d1) (g2 : Reads w (.slice p2 l2.length q2) l2) (h2 : Reads w (.slice o2 d2.length r2) d2) {u1 u2 : Int} (e1 : 0 ≤ u1) (f1 : u1 ≤ 255) (e2 : 0 ≤ u2) (f2 : u2 ≤ 255) :
    Calls Tryz.prog 9 #[.agg #[.bool n1, .slice p1 l1.length q1, .slice o1 d1.length r1], .agg #[.bool n2, .slice p2 l2.length q2, .slice o2 d2.length r2], .agg #[.int .u8 u1, .int .u8 u2]] w fun e w' => e = .returned (.bool true) ∧ Below w.heap.size w w' := by
  by_cases h : 20 < l1.length + d1.length ∨ 20 < l2.length + d2.length
  · exact rbetween_far h t1 t1' t2 t2' g1 h1 g2 h2
  · have u : l1.length + d1.length ≤ 20 ∧ l2.length + d2.length ≤ 20 := by omega
    by_cases b1 : rchk n1 l1 d1 = true
    rotate_left
    · exact rbetween_bad1  i1 i2 (Bool.eq_false_iff.mpr b1) (by omega) (by omega) g1 h1 g2 h2
    have c1 := i1.can b1
    by_cases b2 : rchk n2 l2 d2 = true
    rotate_left
    · exact rbetween_bad2 c1 i2 (Bool.eq_false_iff.mpr b2) (by omega) (by omega) g1 h1 g2 h2
    have c2 := i2.can b2
    exact rbetween_near c1 c2 (by omega) (by omega) g1 h1 g2 h2 e1 f1 e2 f2
end Go.Proofs.YthloknddhfphnaaGreatDoor
