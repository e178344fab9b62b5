/- NatsOften: its walks. -/
import Derived.Test.YtbcipningfdgoaaAliveB
import Derived.Test.YtbcipningfdgoaaDivA
import Derived.Test.YtbcipningfdgoaaFormD
import Derived.Test.YtbcipningfdgoaaGreat
namespace Go.Proofs.Ytbcipningfdgoaa
open Go Go.Proofs Go.RowKit Go.Shelf Nu

set_option maxRecDepth 100000 in
set_option maxHeartbeats 2000000 in
theorem often_near {w : World} {a1 b1 : Option Addr} {ca cb A B : Nat} (ga : Reads w (.slice a1 (digs A).length ca) (digs A)) (gb : Reads w (.slice b1 (digs B).length cb) (digs B)) (LA : (digs A).length ≤ 100) (LB : (digs B).length ≤ 100) (h0 : B ≠ 0) :
    Calls Try.prog 4 #[.slice a1 (digs A).length ca, .slice b1 (digs B).length cb] w fun e w' => e = .returned (.bool true) ∧ Below w.heap.size w w' := by
  obtain ⟨Q, hQ⟩ : ∃ Q, Q = A / B := ⟨_, rfl⟩
  have LQ : (digs Q).length ≤ 100 := by rw [hQ]; exact Nat.le_trans (digs_mono (Nat.div_le_self _ _)) LA
  obtain ⟨R, hR⟩ : ∃ R, R = A % B := ⟨_, rfl⟩
  have LR : (digs R).length ≤ 100 := by rw [hR]; exact Nat.le_trans (digs_mono (Nat.mod_le _ _)) LA
  obtain ⟨M, hM⟩ : ∃ M, M = A * B := ⟨_, rfl⟩
  have LM : (digs M).length ≤ 200 := by rw [hM]; have := digs_mul_le A B; omega
  obtain ⟨Z, hZ⟩ : ∃ Z, Z = A * B % B := ⟨_, rfl⟩
  have LZ : (digs Z).length ≤ 0 := by rw [hZ]; rw [Nat.mul_mod_left, digs_zero]; simp
  obtain ⟨T, hT⟩ : ∃ T, T = Q * B := ⟨_, rfl⟩
  have LT : (digs T).length ≤ 200 := by rw [hT]; have := digs_mul_le Q B; omega
  have j1 : ¬ 100 < ((digs A).length : Int) := by omega
  have j2 : ¬ 100 < ((digs B).length : Int) := by omega
  have j3 : ((digs B).length == 0) = false := beq_false_of_ne (by have := digs_len_pos h0; omega)
  have j4 : (((digs B).length : Int) == 0) = false := beq_false_of_ne (by have := digs_len_pos h0; omega)
  have k1 := fun (W : World) {p1 : Option Addr} {q1 : Nat} (h1 : Reads W (.slice p1 (digs A).length q1) (digs A)) => d_check  h1 (by omega)
  have k2 := fun (W : World) {p1 : Option Addr} {q1 : Nat} (h1 : Reads W (.slice p1 (digs B).length q1) (digs B)) => d_check  h1 (by omega)
  have k3 := fun (W : World) {p1 : Option Addr} {q1 : Nat} {p2 : Option Addr} {q2 : Nat} (h1 : Reads W (.slice p1 (digs A).length q1) (digs A)) (h2 : Reads W (.slice p2 (digs B).length q2) (digs B)) => d_quo Q R h1 h2 (by omega) (by omega) (h0) (hQ) (hR)
  have k4 := fun (W : World) {p1 : Option Addr} {q1 : Nat} {p2 : Option Addr} {q2 : Nat} (h1 : Reads W (.slice p1 (digs A).length q1) (digs A)) (h2 : Reads W (.slice p2 (digs B).length q2) (digs B)) => d_mul M h1 h2 (by omega) (by omega) (hM)
  have k5 := fun (W : World) {p1 : Option Addr} {q1 : Nat} {p2 : Option Addr} {q2 : Nat} (h1 : Reads W (.slice p1 (digs M).length q1) (digs M)) (h2 : Reads W (.slice p2 (digs B).length q2) (digs B)) => d_quo A Z h1 h2 (by omega) (by omega) (h0) (by rw [hM, Nat.mul_div_cancel _ (Nat.pos_of_ne_zero h0)]) (by rw [hZ, hM])
  have k6 := fun (W : World) {p1 : Option Addr} {q1 : Nat} (h1 : Reads W (.slice p1 (digs Q).length q1) (digs Q)) => d_check  h1 (by omega)
  have k7 := fun (W : World) {p1 : Option Addr} {q1 : Nat} (h1 : Reads W (.slice p1 (digs R).length q1) (digs R)) => d_check  h1 (by omega)
  have k8 := fun (W : World) {p1 : Option Addr} {q1 : Nat} {p2 : Option Addr} {q2 : Nat} (h1 : Reads W (.slice p1 (digs R).length q1) (digs R)) (h2 : Reads W (.slice p2 (digs B).length q2) (digs B)) => d_cmp (-1) h1 h2 (by omega) (by omega) (by have := Nat.mod_lt A (Nat.pos_of_ne_zero h0); simp [sgn]; omega)
  have k9 := fun (W : World) {p1 : Option Addr} {q1 : Nat} {p2 : Option Addr} {q2 : Nat} (h1 : Reads W (.slice p1 (digs Q).length q1) (digs Q)) (h2 : Reads W (.slice p2 (digs B).length q2) (digs B)) => d_mul T h1 h2 (by omega) (by omega) (hT)
  have k10 := fun (W : World) {p1 : Option Addr} {q1 : Nat} {p2 : Option Addr} {q2 : Nat} (h1 : Reads W (.slice p1 (digs T).length q1) (digs T)) (h2 : Reads W (.slice p2 (digs R).length q2) (digs R)) => d_add A h1 h2 (by omega) (by omega) (by rw [hT, hQ, hR, Nat.mul_comm]; exact (Nat.div_add_mod A B).symm)
  have k11 := fun (W : World) {p1 : Option Addr} {q1 : Nat} {p2 : Option Addr} {q2 : Nat} (h1 : Reads W (.slice p1 (digs A).length q1) (digs A)) (h2 : Reads W (.slice p2 (digs A).length q2) (digs A)) => d_same true h1 h2 (by omega) (by omega) (by simp)
  have k12 := fun (W : World) {p1 : Option Addr} {q1 : Nat} {p2 : Option Addr} {q2 : Nat} (h1 : Reads W (.slice p1 (digs A).length q1) (digs A)) (h2 : Reads W (.slice p2 (digs A).length q2) (digs A)) => d_same true h1 h2 (by omega) (by omega) (by simp)
  have hZ0 : ((digs Z).length : Int) = 0 := by omega
  clear hQ LQ hR LR hM LM hZ LZ hT LT h0 LA LB
  have r0 := Below.refl w.heap.size w
  go_enter Try.func4, Try.ntmps4
  go_wp2_with (first
    | (go_at_call 11; with_reducible refine (alive_any w).mono ?_; rintro e w1 ⟨rfl, r1⟩; replace r0 := then_below r0 r1; replace ga := ga.below r1; replace gb := gb.below r1)
    | (go_at_call 14; with_reducible refine (k1 w1 ga).mono ?_; rintro e w2 ⟨rfl, r2⟩; replace r0 := then_below r0 r2; replace ga := ga.below r2; replace gb := gb.below r2)
    | (go_at_call 14; with_reducible refine (k2 w2 gb).mono ?_; rintro e w3 ⟨rfl, r3⟩; replace r0 := then_below r0 r3; replace ga := ga.below r3; replace gb := gb.below r3)
    | (go_at_call 16; with_reducible refine (k3 w3 ga gb).mono ?_; rintro e w4 ⟨x4_0, y4_0, x4_1, y4_1, rfl, gq, gr, r4⟩; replace r0 := then_below r0 r4; replace ga := ga.below r4; replace gb := gb.below r4)
    | (go_at_call 13; with_reducible refine (k4 w4 ga gb).mono ?_; rintro e w5 ⟨x5_0, y5_0, rfl, gm, r5⟩; replace r0 := then_below r0 r5; replace ga := ga.below r5; replace gb := gb.below r5; replace gq := gq.below r5; replace gr := gr.below r5)
    | (go_at_call 16; with_reducible refine (k5 w5 gm gb).mono ?_; rintro e w6 ⟨x6_0, y6_0, x6_1, y6_1, rfl, gp, gs, r6⟩; replace r0 := then_below r0 r6; replace ga := ga.below r6; replace gb := gb.below r6; replace gq := gq.below r6; replace gr := gr.below r6)
    | (go_at_call 14; with_reducible refine (k6 w6 gq).mono ?_; rintro e w7 ⟨rfl, r7⟩; replace r0 := then_below r0 r7; replace ga := ga.below r7; replace gb := gb.below r7; replace gq := gq.below r7; replace gr := gr.below r7; replace gp := gp.below r7)
    | (go_at_call 14; with_reducible refine (k7 w7 gr).mono ?_; rintro e w8 ⟨rfl, r8⟩; replace r0 := then_below r0 r8; replace ga := ga.below r8; replace gb := gb.below r8; replace gq := gq.below r8; replace gr := gr.below r8; replace gp := gp.below r8)
    | (go_at_call 17; with_reducible refine (k8 w8 gr gb).mono ?_; rintro e w9 ⟨rfl, r9⟩; replace r0 := then_below r0 r9; replace ga := ga.below r9; replace gb := gb.below r9; replace gq := gq.below r9; replace gr := gr.below r9; replace gp := gp.below r9)
    | (go_at_call 13; with_reducible refine (k9 w9 gq gb).mono ?_; rintro e w10 ⟨x10_0, y10_0, rfl, gt, r10⟩; replace r0 := then_below r0 r10; replace ga := ga.below r10; replace gr := gr.below r10; replace gp := gp.below r10)
    | (go_at_call 12; with_reducible refine (k10 w10 gt gr).mono ?_; rintro e w11 ⟨x11_0, y11_0, rfl, gu, r11⟩; replace r0 := then_below r0 r11; replace ga := ga.below r11; replace gp := gp.below r11)
    | (go_at_call 15; with_reducible refine (k11 w11 gu ga).mono ?_; rintro e w12 ⟨rfl, r12⟩; replace r0 := then_below r0 r12; replace ga := ga.below r12; replace gp := gp.below r12)
    | (go_at_call 15; with_reducible refine (k12 w12 gp ga).mono ?_; rintro e w13 ⟨rfl, r13⟩; replace r0 := then_below r0 r13))
  go_ret
  exact ⟨rfl, r0⟩

set_option maxRecDepth 100000 in
set_option maxHeartbeats 2000000 in
theorem often_zero {w : World} {a1 b1 : Option Addr} {ca cb A B : Nat} (ga : Reads w (.slice a1 (digs A).length ca) (digs A)) (gb : Reads w (.slice b1 (digs B).length cb) (digs B)) (LA : (digs A).length ≤ 100) (LB : (digs B).length ≤ 100) (h0 : B = 0) :
    Calls Try.prog 4 #[.slice a1 (digs A).length ca, .slice b1 (digs B).length cb] w fun e w' => e = .returned (.bool true) ∧ Below w.heap.size w w' := by
  have j1 : ¬ 100 < ((digs A).length : Int) := by omega
  have j2 : ¬ 100 < ((digs B).length : Int) := by omega
  have k9 := fun (W : World) (h1 : Reads W (.slice a1 (digs A).length ca) (digs A)) (h2 : Reads W (.slice b1 (digs B).length cb) (digs B)) => d_divzero h1 h2 (by omega) h0
  have k1 := fun (W : World) {p1 : Option Addr} {q1 : Nat} (h1 : Reads W (.slice p1 (digs A).length q1) (digs A)) => d_check  h1 (by omega)
  have k2 := fun (W : World) {p1 : Option Addr} {q1 : Nat} (h1 : Reads W (.slice p1 (digs B).length q1) (digs B)) => d_check  h1 (by omega)
  have j3 : ((digs B).length : Int) = 0 := by rw [h0, digs_zero]; rfl
  clear h0 LA LB
  have r0 := Below.refl w.heap.size w
  go_enter Try.func4, Try.ntmps4
  go_wp2_with (first
    | (go_at_call 11; with_reducible refine (alive_any w).mono ?_; rintro e w1 ⟨rfl, r1⟩; replace r0 := then_below r0 r1; replace ga := ga.below r1; replace gb := gb.below r1)
    | (go_at_call 14; with_reducible refine (k1 w1 ga).mono ?_; rintro e w2 ⟨rfl, r2⟩; replace r0 := then_below r0 r2; replace ga := ga.below r2; replace gb := gb.below r2)
    | (go_at_call 14; with_reducible refine (k2 w2 gb).mono ?_; rintro e w3 ⟨rfl, r3⟩; replace r0 := then_below r0 r3; replace ga := ga.below r3; replace gb := gb.below r3)
    | (go_at_call 16; with_reducible refine (k9 w3 ga gb).mono ?_; rintro e w4 ⟨rfl, r4⟩; replace r0 := then_below r0 r4))
  go_ret
  exact ⟨rfl, r0⟩

set_option maxRecDepth 100000 in
set_option maxHeartbeats 2000000 in
theorem often_far {w : World} {a1 b1 : Option Addr} {na nb ca cb : Nat} (h : 100 < na ∨ (¬ 100 < na ∧ 100 < nb)) :
    Calls Try.prog 4 #[.slice a1 na ca, .slice b1 nb cb] w fun e w' => e = .returned (.bool true) ∧ Below w.heap.size w w' := by

  have r0 := Below.refl w.heap.size w
  have hh : 100 < (na : Int) ∨ (¬ 100 < (na : Int) ∧ 100 < (nb : Int)) := by omega
  clear h
  rcases hh with h1 | ⟨h1, h2⟩
  all_goals
    go_enter Try.func4, Try.ntmps4
    go_wp2_with (first
      | (go_at_call 11; with_reducible refine (alive_any w).mono ?_; rintro e w1 ⟨rfl, r1⟩; replace r0 := then_below r0 r1)
      | (go_at_call 11; with_reducible refine (alive_any w1).mono ?_; rintro e w2 ⟨rfl, r2⟩; replace r0 := then_below r0 r2))
    go_ret
    exact ⟨rfl, r0⟩

set_option maxRecDepth 100000 in
set_option maxHeartbeats 2000000 in
theorem often_bada {w : World} {a1 b1 : Option Addr} {ca cb : Nat} {la lb : List Nat} (ga : Reads w (.slice a1 la.length ca) la) (_gb : Reads w (.slice b1 lb.length cb) lb) (LA : la.length ≤ 100) (LB : lb.length ≤ 100) (h : chk la = false) :
    Calls Try.prog 4 #[.slice a1 la.length ca, .slice b1 lb.length cb] w fun e w' => e = .returned (.bool true) ∧ Below w.heap.size w w' := by
  have j1 : ¬ 100 < (la.length : Int) := by omega
  have j2 : ¬ 100 < (lb.length : Int) := by omega
  have c1 := fun (W : World) (g : Reads W (.slice a1 la.length ca) la) => check_any g (by omega)
  rw [h] at c1

  clear LA LB h
  have r0 := Below.refl w.heap.size w
  go_enter Try.func4, Try.ntmps4
  go_wp2_with (first
    | (go_at_call 11; with_reducible refine (alive_any w).mono ?_; rintro e w1 ⟨rfl, r1⟩; replace r0 := then_below r0 r1; replace ga := ga.below r1)
    | (go_at_call 14; with_reducible refine (c1 w1 ga).mono ?_; rintro e w2 ⟨rfl, q2⟩; have r2 : Below w1.heap.size w1 w2 := q2 ▸ Below.refl _ _; clear q2; replace r0 := then_below r0 r2)
    | (go_at_call 11; with_reducible refine (alive_any w2).mono ?_; rintro e w3 ⟨rfl, r3⟩; replace r0 := then_below r0 r3))
  go_ret
  exact ⟨rfl, r0⟩

set_option maxRecDepth 100000 in
set_option maxHeartbeats 2000000 in
theorem often_badb {w : World} {a1 b1 : Option Addr} {ca cb : Nat} {la lb : List Nat} (ga : Reads w (.slice a1 la.length ca) la) (gb : Reads w (.slice b1 lb.length cb) lb) (LA : la.length ≤ 100) (LB : lb.length ≤ 100) (h1 : chk la = true) (h : chk lb = false) :
    Calls Try.prog 4 #[.slice a1 la.length ca, .slice b1 lb.length cb] w fun e w' => e = .returned (.bool true) ∧ Below w.heap.size w w' := by
  have j1 : ¬ 100 < (la.length : Int) := by omega
  have j2 : ¬ 100 < (lb.length : Int) := by omega
  have c1 := fun (W : World) (g : Reads W (.slice a1 la.length ca) la) => check_form g (by omega) h1
  have c2 := fun (W : World) (g : Reads W (.slice b1 lb.length cb) lb) => check_any g (by omega)
  rw [h] at c2

  clear h1 LA LB h
  have r0 := Below.refl w.heap.size w
  go_enter Try.func4, Try.ntmps4
  go_wp2_with (first
    | (go_at_call 11; with_reducible refine (alive_any w).mono ?_; rintro e w1 ⟨rfl, r1⟩; replace r0 := then_below r0 r1; replace ga := ga.below r1; replace gb := gb.below r1)
    | (go_at_call 14; with_reducible refine (c1 w1 ga).mono ?_; rintro e w2 ⟨rfl, q2⟩; have r2 : Below w1.heap.size w1 w2 := q2 ▸ Below.refl _ _; clear q2; replace r0 := then_below r0 r2; replace gb := gb.below r2)
    | (go_at_call 14; with_reducible refine (c2 w2 gb).mono ?_; rintro e w3 ⟨rfl, q3⟩; have r3 : Below w2.heap.size w2 w3 := q3 ▸ Below.refl _ _; clear q3; replace r0 := then_below r0 r3)
    | (go_at_call 11; with_reducible refine (alive_any w3).mono ?_; rintro e w4 ⟨rfl, r4⟩; replace r0 := then_below r0 r4))
  go_ret
  exact ⟨rfl, r0⟩

end Go.Proofs.Ytbcipningfdgoaa
