/- RatsMade, of any whole numbers. -/
import Derived.Test.YthloknddhfphnaaGreatDoorGRatsMade
import Derived.Test.YthloknddhfphnaaGreatDoorGRatsMadeZ
import Derived.Test.YthloknddhfphnaaGreatDoorGRatsMadeC
set_option linter.unusedSimpArgs false
set_option linter.unusedVariables false
namespace Go.Proofs.YthloknddhfphnaaGreatDoor
open Go Go.Proofs Go.RowKit Go.Shelf Nu

set_option maxRecDepth 100000 in
set_option maxHeartbeats 16000000 in
theorem rmade_far1 {w : World} {n1 n2 n3 : Bool} {p1 p2 p3 : Option Addr} {q1 q2 q3 : Nat} {l1 l2 l3 : List Nat} (hb : 20 < l1.length) (g1 : Reads w (.slice p1 l1.length q1) l1) (g2 : Reads w (.slice p2 l2.length q2) l2) (g3 : Reads w (.slice p3 l3.length q3) l3) :
    Calls Tryz.prog 7 #[.agg #[.bool n1, .slice p1 l1.length q1], .agg #[.bool n2, .slice p2 l2.length q2], .agg #[.bool n3, .slice p3 l3.length q3]] w fun e w' => e = .returned (.bool true) ∧ Below w.heap.size w w' := by
  have t1 : decide ((20 : Int) < (l1.length : Int)) = true := decide_eq_true (by omega)
  have M : Mem w [(w.heap.size + 1 + 1, 25, [.bool n3, .slice p3 l3.length q3]), (w.heap.size + 1, 25, [.bool n2, .slice p2 l2.length q2]), (w.heap.size, 25, [.bool n1, .slice p1 l1.length q1])] [(.slice p3 l3.length q3, l3), (.slice p2 l2.length q2, l2), (.slice p1 l1.length q1, l1)] (((w.alloc (.cells #[.bool n1, .slice p1 l1.length q1] 25)).alloc (.cells #[.bool n2, .slice p2 l2.length q2] 25)).alloc (.cells #[.bool n3, .slice p3 l3.length q3] 25)) := by
    have M := (((((((Mem.start w).add g1).add g2).add g3).new 25 [.bool n1, .slice p1 l1.length q1]).new 25 [.bool n2, .slice p2 l2.length q2]).new 25 [.bool n3, .slice p3 l3.length q3])
    simpa only [World.size_alloc] using M
  clear g1 g2 g3 hb 
  go_enter Tryz.func7, Tryz.ntmps7
  go_wp2_with (first
    | (go_at_call 10; with_reducible refine (r_alive _).mono ?_; rintro e w1 ⟨rfl, rr⟩; have M' := M.up rr; clear M rr ; have M := M'; clear M'; have z1_2_0 := M.cell 2 rfl 0 rfl; have z1_2_1 := M.cell 2 rfl 1 rfl; have z1_1_0 := M.cell 1 rfl 0 rfl; have z1_1_1 := M.cell 1 rfl 1 rfl; have z1_0_0 := M.cell 0 rfl 0 rfl; have z1_0_1 := M.cell 0 rfl 1 rfl)
    | (go_at_call 10; with_reducible refine (r_alive _).mono ?_; rintro e w2 ⟨rfl, rr⟩; have M' := M.up rr; clear M rr ; have M := M'; clear M'; clear z1_2_0 z1_2_1 z1_1_0 z1_1_1 z1_0_0 z1_0_1))
  go_ret
  exact ⟨rfl, M.below⟩

set_option maxRecDepth 100000 in
set_option maxHeartbeats 16000000 in
theorem rmade_far2 {w : World} {n1 n2 n3 : Bool} {p1 p2 p3 : Option Addr} {q1 q2 q3 : Nat} {l1 l2 l3 : List Nat} (m1 : l1.length ≤ 20) (hb : 20 < l2.length) (g1 : Reads w (.slice p1 l1.length q1) l1) (g2 : Reads w (.slice p2 l2.length q2) l2) (g3 : Reads w (.slice p3 l3.length q3) l3) :
    Calls Tryz.prog 7 #[.agg #[.bool n1, .slice p1 l1.length q1], .agg #[.bool n2, .slice p2 l2.length q2], .agg #[.bool n3, .slice p3 l3.length q3]] w fun e w' => e = .returned (.bool true) ∧ Below w.heap.size w w' := by
  have t1 : decide ((20 : Int) < (l1.length : Int)) = false := decide_eq_false (by omega)
  have t2 : decide ((20 : Int) < (l2.length : Int)) = true := decide_eq_true (by omega)
  have M : Mem w [(w.heap.size + 1 + 1, 25, [.bool n3, .slice p3 l3.length q3]), (w.heap.size + 1, 25, [.bool n2, .slice p2 l2.length q2]), (w.heap.size, 25, [.bool n1, .slice p1 l1.length q1])] [(.slice p3 l3.length q3, l3), (.slice p2 l2.length q2, l2), (.slice p1 l1.length q1, l1)] (((w.alloc (.cells #[.bool n1, .slice p1 l1.length q1] 25)).alloc (.cells #[.bool n2, .slice p2 l2.length q2] 25)).alloc (.cells #[.bool n3, .slice p3 l3.length q3] 25)) := by
    have M := (((((((Mem.start w).add g1).add g2).add g3).new 25 [.bool n1, .slice p1 l1.length q1]).new 25 [.bool n2, .slice p2 l2.length q2]).new 25 [.bool n3, .slice p3 l3.length q3])
    simpa only [World.size_alloc] using M
  clear g1 g2 g3 hb m1
  go_enter Tryz.func7, Tryz.ntmps7
  go_wp2_with (first
    | (go_at_call 10; with_reducible refine (r_alive _).mono ?_; rintro e w1 ⟨rfl, rr⟩; have M' := M.up rr; clear M rr ; have M := M'; clear M'; have z1_2_0 := M.cell 2 rfl 0 rfl; have z1_2_1 := M.cell 2 rfl 1 rfl; have z1_1_0 := M.cell 1 rfl 0 rfl; have z1_1_1 := M.cell 1 rfl 1 rfl; have z1_0_0 := M.cell 0 rfl 0 rfl; have z1_0_1 := M.cell 0 rfl 1 rfl)
    | (go_at_call 10; with_reducible refine (r_alive _).mono ?_; rintro e w2 ⟨rfl, rr⟩; have M' := M.up rr; clear M rr ; have M := M'; clear M'; clear z1_2_0 z1_2_1 z1_1_0 z1_1_1 z1_0_0 z1_0_1))
  go_ret
  exact ⟨rfl, M.below⟩

set_option maxRecDepth 100000 in
set_option maxHeartbeats 16000000 in
theorem rmade_far3 {w : World} {n1 n2 n3 : Bool} {p1 p2 p3 : Option Addr} {q1 q2 q3 : Nat} {l1 l2 l3 : List Nat} (m1 : l1.length ≤ 20) (m2 : l2.length ≤ 20) (hb : 20 < l3.length) (g1 : Reads w (.slice p1 l1.length q1) l1) (g2 : Reads w (.slice p2 l2.length q2) l2) (g3 : Reads w (.slice p3 l3.length q3) l3) :
    Calls Tryz.prog 7 #[.agg #[.bool n1, .slice p1 l1.length q1], .agg #[.bool n2, .slice p2 l2.length q2], .agg #[.bool n3, .slice p3 l3.length q3]] w fun e w' => e = .returned (.bool true) ∧ Below w.heap.size w w' := by
  have t1 : decide ((20 : Int) < (l1.length : Int)) = false := decide_eq_false (by omega)
  have t2 : decide ((20 : Int) < (l2.length : Int)) = false := decide_eq_false (by omega)
  have t3 : decide ((20 : Int) < (l3.length : Int)) = true := decide_eq_true (by omega)
  have M : Mem w [(w.heap.size + 1 + 1, 25, [.bool n3, .slice p3 l3.length q3]), (w.heap.size + 1, 25, [.bool n2, .slice p2 l2.length q2]), (w.heap.size, 25, [.bool n1, .slice p1 l1.length q1])] [(.slice p3 l3.length q3, l3), (.slice p2 l2.length q2, l2), (.slice p1 l1.length q1, l1)] (((w.alloc (.cells #[.bool n1, .slice p1 l1.length q1] 25)).alloc (.cells #[.bool n2, .slice p2 l2.length q2] 25)).alloc (.cells #[.bool n3, .slice p3 l3.length q3] 25)) := by
    have M := (((((((Mem.start w).add g1).add g2).add g3).new 25 [.bool n1, .slice p1 l1.length q1]).new 25 [.bool n2, .slice p2 l2.length q2]).new 25 [.bool n3, .slice p3 l3.length q3])
    simpa only [World.size_alloc] using M
  clear g1 g2 g3 hb m1 m2
  go_enter Tryz.func7, Tryz.ntmps7
  go_wp2_with (first
    | (go_at_call 10; with_reducible refine (r_alive _).mono ?_; rintro e w1 ⟨rfl, rr⟩; have M' := M.up rr; clear M rr ; have M := M'; clear M'; have z1_2_0 := M.cell 2 rfl 0 rfl; have z1_2_1 := M.cell 2 rfl 1 rfl; have z1_1_0 := M.cell 1 rfl 0 rfl; have z1_1_1 := M.cell 1 rfl 1 rfl; have z1_0_0 := M.cell 0 rfl 0 rfl; have z1_0_1 := M.cell 0 rfl 1 rfl)
    | (go_at_call 10; with_reducible refine (r_alive _).mono ?_; rintro e w2 ⟨rfl, rr⟩; have M' := M.up rr; clear M rr ; have M := M'; clear M'; clear z1_2_0 z1_2_1 z1_1_0 z1_1_1 z1_0_0 z1_0_1))
  go_ret
  exact ⟨rfl, M.below⟩

set_option maxRecDepth 100000 in
set_option maxHeartbeats 16000000 in
theorem rmade_bad1 {w : World} {n1 n2 n3 : Bool} {p1 p2 p3 : Option Addr} {q1 q2 q3 : Nat} {l1 l2 l3 : List Nat}  (hc : ichk n1 l1 = false) (m1 : l1.length ≤ 20) (m2 : l2.length ≤ 20) (m3 : l3.length ≤ 20) (g1 : Reads w (.slice p1 l1.length q1) l1) (g2 : Reads w (.slice p2 l2.length q2) l2) (g3 : Reads w (.slice p3 l3.length q3) l3) :
    Calls Tryz.prog 7 #[.agg #[.bool n1, .slice p1 l1.length q1], .agg #[.bool n2, .slice p2 l2.length q2], .agg #[.bool n3, .slice p3 l3.length q3]] w fun e w' => e = .returned (.bool true) ∧ Below w.heap.size w w' := by
  have t1 : decide ((20 : Int) < (l1.length : Int)) = false := decide_eq_false (by omega)
  have t2 : decide ((20 : Int) < (l2.length : Int)) = false := decide_eq_false (by omega)
  have t3 : decide ((20 : Int) < (l3.length : Int)) = false := decide_eq_false (by omega)
  have k1 := fun (W : World) (g1 : Reads W (.slice p1 l1.length q1) l1) => hc ▸ icheck_any (n := n1) g1 (by omega)
  have M : Mem w [(w.heap.size + 1 + 1, 25, [.bool n3, .slice p3 l3.length q3]), (w.heap.size + 1, 25, [.bool n2, .slice p2 l2.length q2]), (w.heap.size, 25, [.bool n1, .slice p1 l1.length q1])] [(.slice p3 l3.length q3, l3), (.slice p2 l2.length q2, l2), (.slice p1 l1.length q1, l1)] (((w.alloc (.cells #[.bool n1, .slice p1 l1.length q1] 25)).alloc (.cells #[.bool n2, .slice p2 l2.length q2] 25)).alloc (.cells #[.bool n3, .slice p3 l3.length q3] 25)) := by
    have M := (((((((Mem.start w).add g1).add g2).add g3).new 25 [.bool n1, .slice p1 l1.length q1]).new 25 [.bool n2, .slice p2 l2.length q2]).new 25 [.bool n3, .slice p3 l3.length q3])
    simpa only [World.size_alloc] using M
  clear g1 g2 g3 hc m1 m2 m3 
  go_enter Tryz.func7, Tryz.ntmps7
  go_wp2_with (first
    | (go_at_call 10; with_reducible refine (r_alive _).mono ?_; rintro e w1 ⟨rfl, rr⟩; have M' := M.up rr; clear M rr ; have M := M'; clear M'; have z1_2_0 := M.cell 2 rfl 0 rfl; have z1_2_1 := M.cell 2 rfl 1 rfl; have z1_1_0 := M.cell 1 rfl 0 rfl; have z1_1_1 := M.cell 1 rfl 1 rfl; have z1_0_0 := M.cell 0 rfl 0 rfl; have z1_0_1 := M.cell 0 rfl 1 rfl)
    | (go_at_call 24; with_reducible refine (k1 _ (M.get 2 rfl)).mono ?_; rintro e w2 ⟨rfl, rr⟩; have M' := M.up rr; clear M rr ; have M := M'; clear M'; clear z1_2_0 z1_2_1 z1_1_0 z1_1_1 z1_0_0 z1_0_1)
    | (go_at_call 10; with_reducible refine (r_alive _).mono ?_; rintro e w3 ⟨rfl, rr⟩; have M' := M.up rr; clear M rr ; have M := M'; clear M'))
  go_ret
  exact ⟨rfl, M.below⟩

set_option maxRecDepth 100000 in
set_option maxHeartbeats 16000000 in
theorem rmade_bad2 {w : World} {n1 n2 n3 : Bool} {p1 p2 p3 : Option Addr} {q1 q2 q3 : Nat} {l1 l2 l3 : List Nat} {N1 : Int} (c1 : Can n1 l1 N1) (hc : ichk n2 l2 = false) (m1 : l1.length ≤ 20) (m2 : l2.length ≤ 20) (m3 : l3.length ≤ 20) (g1 : Reads w (.slice p1 l1.length q1) l1) (g2 : Reads w (.slice p2 l2.length q2) l2) (g3 : Reads w (.slice p3 l3.length q3) l3) :
    Calls Tryz.prog 7 #[.agg #[.bool n1, .slice p1 l1.length q1], .agg #[.bool n2, .slice p2 l2.length q2], .agg #[.bool n3, .slice p3 l3.length q3]] w fun e w' => e = .returned (.bool true) ∧ Below w.heap.size w w' := by
  have t1 : decide ((20 : Int) < (l1.length : Int)) = false := decide_eq_false (by omega)
  have t2 : decide ((20 : Int) < (l2.length : Int)) = false := decide_eq_false (by omega)
  have t3 : decide ((20 : Int) < (l3.length : Int)) = false := decide_eq_false (by omega)
  have k1 := fun (W : World) (g1 : Reads W (.slice p1 l1.length q1) l1) => q_check c1 (by omega) g1
  have k2 := fun (W : World) (g1 : Reads W (.slice p2 l2.length q2) l2) => hc ▸ icheck_any (n := n2) g1 (by omega)
  have M : Mem w [(w.heap.size + 1 + 1, 25, [.bool n3, .slice p3 l3.length q3]), (w.heap.size + 1, 25, [.bool n2, .slice p2 l2.length q2]), (w.heap.size, 25, [.bool n1, .slice p1 l1.length q1])] [(.slice p3 l3.length q3, l3), (.slice p2 l2.length q2, l2), (.slice p1 l1.length q1, l1)] (((w.alloc (.cells #[.bool n1, .slice p1 l1.length q1] 25)).alloc (.cells #[.bool n2, .slice p2 l2.length q2] 25)).alloc (.cells #[.bool n3, .slice p3 l3.length q3] 25)) := by
    have M := (((((((Mem.start w).add g1).add g2).add g3).new 25 [.bool n1, .slice p1 l1.length q1]).new 25 [.bool n2, .slice p2 l2.length q2]).new 25 [.bool n3, .slice p3 l3.length q3])
    simpa only [World.size_alloc] using M
  clear g1 g2 g3 hc m1 m2 m3 c1
  go_enter Tryz.func7, Tryz.ntmps7
  go_wp2_with (first
    | (go_at_call 10; with_reducible refine (r_alive _).mono ?_; rintro e w1 ⟨rfl, rr⟩; have M' := M.up rr; clear M rr ; have M := M'; clear M'; have z1_2_0 := M.cell 2 rfl 0 rfl; have z1_2_1 := M.cell 2 rfl 1 rfl; have z1_1_0 := M.cell 1 rfl 0 rfl; have z1_1_1 := M.cell 1 rfl 1 rfl; have z1_0_0 := M.cell 0 rfl 0 rfl; have z1_0_1 := M.cell 0 rfl 1 rfl)
    | (go_at_call 24; with_reducible refine (k1 _ (M.get 2 rfl)).mono ?_; rintro e w2 ⟨rfl, rr⟩; have M' := M.up rr; clear M rr ; have M := M'; clear M'; clear z1_2_0 z1_2_1 z1_1_0 z1_1_1 z1_0_0 z1_0_1; have z2_2_0 := M.cell 2 rfl 0 rfl; have z2_2_1 := M.cell 2 rfl 1 rfl; have z2_1_0 := M.cell 1 rfl 0 rfl; have z2_1_1 := M.cell 1 rfl 1 rfl; have z2_0_0 := M.cell 0 rfl 0 rfl; have z2_0_1 := M.cell 0 rfl 1 rfl)
    | (go_at_call 24; with_reducible refine (k2 _ (M.get 1 rfl)).mono ?_; rintro e w3 ⟨rfl, rr⟩; have M' := M.up rr; clear M rr ; have M := M'; clear M'; clear z2_2_0 z2_2_1 z2_1_0 z2_1_1 z2_0_0 z2_0_1)
    | (go_at_call 10; with_reducible refine (r_alive _).mono ?_; rintro e w4 ⟨rfl, rr⟩; have M' := M.up rr; clear M rr ; have M := M'; clear M'))
  go_ret
  exact ⟨rfl, M.below⟩

set_option maxRecDepth 100000 in
set_option maxHeartbeats 16000000 in
theorem rmade_bad3 {w : World} {n1 n2 n3 : Bool} {p1 p2 p3 : Option Addr} {q1 q2 q3 : Nat} {l1 l2 l3 : List Nat} {N1 N2 : Int} (c1 : Can n1 l1 N1) (c2 : Can n2 l2 N2) (hc : ichk n3 l3 = false) (m1 : l1.length ≤ 20) (m2 : l2.length ≤ 20) (m3 : l3.length ≤ 20) (g1 : Reads w (.slice p1 l1.length q1) l1) (g2 : Reads w (.slice p2 l2.length q2) l2) (g3 : Reads w (.slice p3 l3.length q3) l3) :
    Calls Tryz.prog 7 #[.agg #[.bool n1, .slice p1 l1.length q1], .agg #[.bool n2, .slice p2 l2.length q2], .agg #[.bool n3, .slice p3 l3.length q3]] w fun e w' => e = .returned (.bool true) ∧ Below w.heap.size w w' := by
  have t1 : decide ((20 : Int) < (l1.length : Int)) = false := decide_eq_false (by omega)
  have t2 : decide ((20 : Int) < (l2.length : Int)) = false := decide_eq_false (by omega)
  have t3 : decide ((20 : Int) < (l3.length : Int)) = false := decide_eq_false (by omega)
  have k1 := fun (W : World) (g1 : Reads W (.slice p1 l1.length q1) l1) => q_check c1 (by omega) g1
  have k2 := fun (W : World) (g1 : Reads W (.slice p2 l2.length q2) l2) => q_check c2 (by omega) g1
  have k3 := fun (W : World) (g1 : Reads W (.slice p3 l3.length q3) l3) => hc ▸ icheck_any (n := n3) g1 (by omega)
  have M : Mem w [(w.heap.size + 1 + 1, 25, [.bool n3, .slice p3 l3.length q3]), (w.heap.size + 1, 25, [.bool n2, .slice p2 l2.length q2]), (w.heap.size, 25, [.bool n1, .slice p1 l1.length q1])] [(.slice p3 l3.length q3, l3), (.slice p2 l2.length q2, l2), (.slice p1 l1.length q1, l1)] (((w.alloc (.cells #[.bool n1, .slice p1 l1.length q1] 25)).alloc (.cells #[.bool n2, .slice p2 l2.length q2] 25)).alloc (.cells #[.bool n3, .slice p3 l3.length q3] 25)) := by
    have M := (((((((Mem.start w).add g1).add g2).add g3).new 25 [.bool n1, .slice p1 l1.length q1]).new 25 [.bool n2, .slice p2 l2.length q2]).new 25 [.bool n3, .slice p3 l3.length q3])
    simpa only [World.size_alloc] using M
  clear g1 g2 g3 hc m1 m2 m3 c1 c2
  go_enter Tryz.func7, Tryz.ntmps7
  go_wp2_with (first
    | (go_at_call 10; with_reducible refine (r_alive _).mono ?_; rintro e w1 ⟨rfl, rr⟩; have M' := M.up rr; clear M rr ; have M := M'; clear M'; have z1_2_0 := M.cell 2 rfl 0 rfl; have z1_2_1 := M.cell 2 rfl 1 rfl; have z1_1_0 := M.cell 1 rfl 0 rfl; have z1_1_1 := M.cell 1 rfl 1 rfl; have z1_0_0 := M.cell 0 rfl 0 rfl; have z1_0_1 := M.cell 0 rfl 1 rfl)
    | (go_at_call 24; with_reducible refine (k1 _ (M.get 2 rfl)).mono ?_; rintro e w2 ⟨rfl, rr⟩; have M' := M.up rr; clear M rr ; have M := M'; clear M'; clear z1_2_0 z1_2_1 z1_1_0 z1_1_1 z1_0_0 z1_0_1; have z2_2_0 := M.cell 2 rfl 0 rfl; have z2_2_1 := M.cell 2 rfl 1 rfl; have z2_1_0 := M.cell 1 rfl 0 rfl; have z2_1_1 := M.cell 1 rfl 1 rfl; have z2_0_0 := M.cell 0 rfl 0 rfl; have z2_0_1 := M.cell 0 rfl 1 rfl)
    | (go_at_call 24; with_reducible refine (k2 _ (M.get 1 rfl)).mono ?_; rintro e w3 ⟨rfl, rr⟩; have M' := M.up rr; clear M rr ; have M := M'; clear M'; clear z2_2_0 z2_2_1 z2_1_0 z2_1_1 z2_0_0 z2_0_1; have z3_2_0 := M.cell 2 rfl 0 rfl; have z3_2_1 := M.cell 2 rfl 1 rfl; have z3_1_0 := M.cell 1 rfl 0 rfl; have z3_1_1 := M.cell 1 rfl 1 rfl; have z3_0_0 := M.cell 0 rfl 0 rfl; have z3_0_1 := M.cell 0 rfl 1 rfl)
    | (go_at_call 24; with_reducible refine (k3 _ (M.get 0 rfl)).mono ?_; rintro e w4 ⟨rfl, rr⟩; have M' := M.up rr; clear M rr ; have M := M'; clear M'; clear z3_2_0 z3_2_1 z3_1_0 z3_1_1 z3_0_0 z3_0_1)
    | (go_at_call 10; with_reducible refine (r_alive _).mono ?_; rintro e w5 ⟨rfl, rr⟩; have M' := M.up rr; clear M rr ; have M := M'; clear M'))
  go_ret
  exact ⟨rfl, M.below⟩

theorem rmade_any {w : World} {n1 n2 n3 : Bool} {p1 p2 p3 : Option Addr} {q1 q2 q3 : Nat} {l1 l2 l3 : List Nat} (s1 : Sm l1) (s2 : Sm l2) (s3 : Sm l3) (g1 : Reads w (.slice p1 l1.length q1) l1) (g2 : Reads w (.slice p2 l2.length q2) l2) (g3 : Reads w (.slice p3 l3.length q3) l3) :
    Calls Tryz.prog 7 #[.agg #[.bool n1, .slice p1 l1.length q1], .agg #[.bool n2, .slice p2 l2.length q2], .agg #[.bool n3, .slice p3 l3.length q3]] w fun e w' => e = .returned (.bool true) ∧ Below w.heap.size w w' := by
  by_cases b1 : 20 < l1.length
  · exact rmade_far1 b1 g1 g2 g3
  by_cases b2 : 20 < l2.length
  · exact rmade_far2 (by omega) b2 g1 g2 g3
  by_cases b3 : 20 < l3.length
  · exact rmade_far3 (by omega) (by omega) b3 g1 g2 g3
  by_cases d1 : ichk n1 l1 = true
  rotate_left
  · exact rmade_bad1 (Bool.eq_false_iff.mpr d1) (by omega) (by omega) (by omega) g1 g2 g3
  have c1 := Can.of s1 d1
  by_cases d2 : ichk n2 l2 = true
  rotate_left
  · exact rmade_bad2 c1 (Bool.eq_false_iff.mpr d2) (by omega) (by omega) (by omega) g1 g2 g3
  have c2 := Can.of s2 d2
  by_cases d3 : ichk n3 l3 = true
  rotate_left
  · exact rmade_bad3 c1 c2 (Bool.eq_false_iff.mpr d3) (by omega) (by omega) (by omega) g1 g2 g3
  have c3 := Can.of s3 d3
  by_cases hb0 : zv n2 l2 = 0
  · exact rmade_z c1 c2 c3 (by omega) (by omega) (by omega) g1 g2 g3 hb0
  by_cases hc0 : zv n3 l3 = 0
  · exact rmade_c c1 c2 c3 (by omega) (by omega) (by omega) g1 g2 g3 hb0 hc0
  · exact rmade_n c1 c2 c3 (by omega) (by omega) (by omega) g1 g2 g3 hb0 hc0
end Go.Proofs.YthloknddhfphnaaGreatDoor
