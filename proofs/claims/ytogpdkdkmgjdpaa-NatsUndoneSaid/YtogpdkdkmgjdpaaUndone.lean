/- NatsUndone: its walks. -/
import Derived.Test.YtogpdkdkmgjdpaaGreat
namespace Go.Proofs.Ytogpdkdkmgjdpaa
open Go Go.Proofs Go.RowKit Go.Shelf Nu

theorem great_two {a1 b1 : Option Addr} {na nb ca cb : Nat} (h1 : na ≤ 300) (h2 : nb ≤ 300) : false = [(a1, na, ca), (b1, nb, cb)].any (fun t => decide (300 < t.2.1)) := by simp; omega

set_option maxRecDepth 100000 in
set_option maxHeartbeats 2000000 in
theorem undone_gt {w : World} {a1 b1 : Option Addr} {ca cb A B : Nat} (ga : Reads w (.slice a1 (digs A).length ca) (digs A)) (gb : Reads w (.slice b1 (digs B).length cb) (digs B)) (LA : (digs A).length ≤ 300) (LB : (digs B).length ≤ 300) (h : B < A) :
    Calls Try.prog 5 #[.slice a1 (digs A).length ca, .slice b1 (digs B).length cb] w fun e w' => e = .returned (.bool true) ∧ Below w.heap.size w w' := by
  obtain ⟨S, hS⟩ : ∃ S, S = A + B := ⟨_, rfl⟩
  have LS : (digs S).length ≤ 601 := by rw [hS]; have := digs_add_le A B; omega
  obtain ⟨D, hD⟩ : ∃ D, D = A - B := ⟨_, rfl⟩
  have LD : (digs D).length ≤ 300 := by rw [hD]; have := digs_mono (a := A - B) (b := A) (by omega); omega
  have hG := Lib.hid (great_two LA LB (a1 := a1) (b1 := b1) (ca := ca) (cb := cb))
  have k1 := fun (W : World) {p1 : Option Addr} {q1 : Nat} (h1 : Reads W (.slice p1 (digs A).length q1) (digs A)) => d_check  h1 (by omega)
  have k2 := fun (W : World) {p1 : Option Addr} {q1 : Nat} (h1 : Reads W (.slice p1 (digs B).length q1) (digs B)) => d_check  h1 (by omega)
  have k3 := fun (W : World) {p1 : Option Addr} {q1 : Nat} {p2 : Option Addr} {q2 : Nat} (h1 : Reads W (.slice p1 (digs A).length q1) (digs A)) (h2 : Reads W (.slice p2 (digs B).length q2) (digs B)) => d_add S h1 h2 (by omega) (by omega) (hS)
  have k4 := fun (W : World) {p1 : Option Addr} {q1 : Nat} {p2 : Option Addr} {q2 : Nat} (h1 : Reads W (.slice p1 (digs S).length q1) (digs S)) (h2 : Reads W (.slice p2 (digs B).length q2) (digs B)) => d_sub A h1 h2 (by omega) (by omega) (by omega) (by omega)
  have k5 := fun (W : World) {p1 : Option Addr} {q1 : Nat} {p2 : Option Addr} {q2 : Nat} (h1 : Reads W (.slice p1 (digs A).length q1) (digs A)) (h2 : Reads W (.slice p2 (digs B).length q2) (digs B)) => d_sub D h1 h2 (by omega) (by omega) (by omega) (hD)
  have k6 := fun (W : World) {p1 : Option Addr} {q1 : Nat} {p2 : Option Addr} {q2 : Nat} (h1 : Reads W (.slice p1 (digs B).length q1) (digs B)) (h2 : Reads W (.slice p2 (digs A).length q2) (digs A)) => d_subno  h1 h2 (by omega) (by omega) (h)
  have k7 := fun (W : World) {p1 : Option Addr} {q1 : Nat} {p2 : Option Addr} {q2 : Nat} (h1 : Reads W (.slice p1 (digs A).length q1) (digs A)) (h2 : Reads W (.slice p2 (digs B).length q2) (digs B)) => d_cmp (1) h1 h2 (by omega) (by omega) (by simp [sgn]; omega)
  have k8 := fun (W : World) {p1 : Option Addr} {q1 : Nat} {p2 : Option Addr} {q2 : Nat} (h1 : Reads W (.slice p1 (digs A).length q1) (digs A)) (h2 : Reads W (.slice p2 (digs A).length q2) (digs A)) => d_same true h1 h2 (by omega) (by omega) (by simp)
  have k9 := fun (W : World) {p1 : Option Addr} {q1 : Nat} {p2 : Option Addr} {q2 : Nat} (h1 : Reads W (.slice p1 (digs B).length q1) (digs B)) (h2 : Reads W (.slice p2 (digs A).length q2) (digs A)) => d_cmp (-1) h1 h2 (by omega) (by omega) (by simp [sgn]; omega)
  have k10 := fun (W : World) {p1 : Option Addr} {q1 : Nat} {p2 : Option Addr} {q2 : Nat} (h1 : Reads W (.slice p1 (digs A).length q1) (digs A)) (h2 : Reads W (.slice p2 (digs B).length q2) (digs B)) => d_same false h1 h2 (by omega) (by omega) (by simp; omega)
  have k11 := fun (W : World) {p1 : Option Addr} {q1 : Nat} {p2 : Option Addr} {q2 : Nat} (h1 : Reads W (.slice p1 (digs D).length q1) (digs D)) (h2 : Reads W (.slice p2 (digs B).length q2) (digs B)) => d_add A h1 h2 (by omega) (by omega) (by omega)
  have k12 := fun (W : World) {p1 : Option Addr} {q1 : Nat} {p2 : Option Addr} {q2 : Nat} (h1 : Reads W (.slice p1 (digs A).length q1) (digs A)) (h2 : Reads W (.slice p2 (digs A).length q2) (digs A)) => d_same true h1 h2 (by omega) (by omega) (by simp)
  clear hS LS hD LD h LA LB
  have r0 := Below.refl w.heap.size w
  go_enter Try.func5, Try.ntmps5
  go_wp2_with (first
    | (go_at_call 11; with_reducible refine (alive_any w).mono ?_; rintro e w1 ⟨rfl, r1⟩; replace r0 := then_below r0 r1; replace ga := ga.below r1; replace gb := gb.below r1)
    | (go_at_call 18; have kg := great_lit w1 [(a1, (digs A).length, ca), (b1, (digs B).length, cb)] (vs := #[.slice a1 (digs A).length ca, .slice b1 (digs B).length cb]) rfl (m := 2) rfl (by simp) false hG.out; with_reducible refine kg.mono ?_; clear kg; rintro e w2 ⟨rfl, r2⟩; replace r0 := then_below r0 r2; replace ga := ga.below r2; replace gb := gb.below r2)
    | (go_at_call 14; with_reducible refine (k1 w2 ga).mono ?_; rintro e w3 ⟨rfl, r3⟩; replace r0 := then_below r0 r3; replace ga := ga.below r3; replace gb := gb.below r3)
    | (go_at_call 14; with_reducible refine (k2 w3 gb).mono ?_; rintro e w4 ⟨rfl, r4⟩; replace r0 := then_below r0 r4; replace ga := ga.below r4; replace gb := gb.below r4)
    | (go_at_call 12; with_reducible refine (k3 w4 ga gb).mono ?_; rintro e w5 ⟨x5_0, y5_0, rfl, gs, r5⟩; replace r0 := then_below r0 r5; replace ga := ga.below r5; replace gb := gb.below r5)
    | (go_at_call 19; with_reducible refine (k4 w5 gs gb).mono ?_; rintro e w6 ⟨x6_0, y6_0, rfl, gx, r6⟩; replace r0 := then_below r0 r6; replace ga := ga.below r6; replace gb := gb.below r6)
    | (go_at_call 19; with_reducible refine (k5 w6 ga gb).mono ?_; rintro e w7 ⟨x7_0, y7_0, rfl, gy, r7⟩; replace r0 := then_below r0 r7; replace ga := ga.below r7; replace gb := gb.below r7; replace gx := gx.below r7)
    | (go_at_call 19; with_reducible refine (k6 w7 gb ga).mono ?_; rintro e w8 ⟨rfl, r8⟩; replace r0 := then_below r0 r8; replace ga := ga.below r8; replace gb := gb.below r8; replace gx := gx.below r8; replace gy := gy.below r8)
    | (go_at_call 17; with_reducible refine (k7 w8 ga gb).mono ?_; rintro e w9 ⟨rfl, r9⟩; replace r0 := then_below r0 r9; replace ga := ga.below r9; replace gb := gb.below r9; replace gx := gx.below r9; replace gy := gy.below r9)
    | (go_at_call 15; with_reducible refine (k8 w9 gx ga).mono ?_; rintro e w10 ⟨rfl, r10⟩; replace r0 := then_below r0 r10; replace ga := ga.below r10; replace gb := gb.below r10; replace gy := gy.below r10)
    | (go_at_call 17; with_reducible refine (k9 w10 gb ga).mono ?_; rintro e w11 ⟨rfl, r11⟩; replace r0 := then_below r0 r11; replace ga := ga.below r11; replace gb := gb.below r11; replace gy := gy.below r11)
    | (go_at_call 15; with_reducible refine (k10 w11 ga gb).mono ?_; rintro e w12 ⟨rfl, r12⟩; replace r0 := then_below r0 r12; replace ga := ga.below r12; replace gb := gb.below r12; replace gy := gy.below r12)
    | (go_at_call 12; with_reducible refine (k11 w12 gy gb).mono ?_; rintro e w13 ⟨x13_0, y13_0, rfl, gt, r13⟩; replace r0 := then_below r0 r13; replace ga := ga.below r13)
    | (go_at_call 15; with_reducible refine (k12 w13 gt ga).mono ?_; rintro e w14 ⟨rfl, r14⟩; replace r0 := then_below r0 r14))
  go_ret
  exact ⟨rfl, r0⟩

set_option maxRecDepth 100000 in
set_option maxHeartbeats 2000000 in
theorem undone_eq {w : World} {a1 b1 : Option Addr} {ca cb A B : Nat} (ga : Reads w (.slice a1 (digs A).length ca) (digs A)) (gb : Reads w (.slice b1 (digs B).length cb) (digs B)) (LA : (digs A).length ≤ 300) (LB : (digs B).length ≤ 300) (h : A = B) :
    Calls Try.prog 5 #[.slice a1 (digs A).length ca, .slice b1 (digs B).length cb] w fun e w' => e = .returned (.bool true) ∧ Below w.heap.size w w' := by
  obtain ⟨S, hS⟩ : ∃ S, S = A + B := ⟨_, rfl⟩
  have LS : (digs S).length ≤ 601 := by rw [hS]; have := digs_add_le A B; omega
  obtain ⟨D, hD⟩ : ∃ D, D = A - B := ⟨_, rfl⟩
  have LD : (digs D).length ≤ 300 := by rw [hD]; have := digs_mono (a := A - B) (b := A) (by omega); omega
  obtain ⟨E, hE⟩ : ∃ E, E = B - A := ⟨_, rfl⟩
  have LE : (digs E).length ≤ 300 := by rw [hE]; have := digs_mono (a := B - A) (b := B) (by omega); omega
  have hG := Lib.hid (great_two LA LB (a1 := a1) (b1 := b1) (ca := ca) (cb := cb))
  have k1 := fun (W : World) {p1 : Option Addr} {q1 : Nat} (h1 : Reads W (.slice p1 (digs A).length q1) (digs A)) => d_check  h1 (by omega)
  have k2 := fun (W : World) {p1 : Option Addr} {q1 : Nat} (h1 : Reads W (.slice p1 (digs B).length q1) (digs B)) => d_check  h1 (by omega)
  have k3 := fun (W : World) {p1 : Option Addr} {q1 : Nat} {p2 : Option Addr} {q2 : Nat} (h1 : Reads W (.slice p1 (digs A).length q1) (digs A)) (h2 : Reads W (.slice p2 (digs B).length q2) (digs B)) => d_add S h1 h2 (by omega) (by omega) (hS)
  have k4 := fun (W : World) {p1 : Option Addr} {q1 : Nat} {p2 : Option Addr} {q2 : Nat} (h1 : Reads W (.slice p1 (digs S).length q1) (digs S)) (h2 : Reads W (.slice p2 (digs B).length q2) (digs B)) => d_sub A h1 h2 (by omega) (by omega) (by omega) (by omega)
  have k5 := fun (W : World) {p1 : Option Addr} {q1 : Nat} {p2 : Option Addr} {q2 : Nat} (h1 : Reads W (.slice p1 (digs A).length q1) (digs A)) (h2 : Reads W (.slice p2 (digs B).length q2) (digs B)) => d_sub D h1 h2 (by omega) (by omega) (by omega) (hD)
  have k6 := fun (W : World) {p1 : Option Addr} {q1 : Nat} {p2 : Option Addr} {q2 : Nat} (h1 : Reads W (.slice p1 (digs B).length q1) (digs B)) (h2 : Reads W (.slice p2 (digs A).length q2) (digs A)) => d_sub E h1 h2 (by omega) (by omega) (by omega) (hE)
  have k7 := fun (W : World) {p1 : Option Addr} {q1 : Nat} {p2 : Option Addr} {q2 : Nat} (h1 : Reads W (.slice p1 (digs A).length q1) (digs A)) (h2 : Reads W (.slice p2 (digs B).length q2) (digs B)) => d_cmp (0) h1 h2 (by omega) (by omega) (by simp [sgn, h])
  have k8 := fun (W : World) {p1 : Option Addr} {q1 : Nat} {p2 : Option Addr} {q2 : Nat} (h1 : Reads W (.slice p1 (digs A).length q1) (digs A)) (h2 : Reads W (.slice p2 (digs A).length q2) (digs A)) => d_same true h1 h2 (by omega) (by omega) (by simp)
  have k9 := fun (W : World) {p1 : Option Addr} {q1 : Nat} {p2 : Option Addr} {q2 : Nat} (h1 : Reads W (.slice p1 (digs B).length q1) (digs B)) (h2 : Reads W (.slice p2 (digs A).length q2) (digs A)) => d_cmp (0) h1 h2 (by omega) (by omega) (by simp [sgn, h])
  have k10 := fun (W : World) {p1 : Option Addr} {q1 : Nat} {p2 : Option Addr} {q2 : Nat} (h1 : Reads W (.slice p1 (digs A).length q1) (digs A)) (h2 : Reads W (.slice p2 (digs B).length q2) (digs B)) => d_same true h1 h2 (by omega) (by omega) (by simp; omega)
  have k11 := fun (W : World) {p1 : Option Addr} {q1 : Nat} {p2 : Option Addr} {q2 : Nat} (h1 : Reads W (.slice p1 (digs D).length q1) (digs D)) (h2 : Reads W (.slice p2 (digs B).length q2) (digs B)) => d_add A h1 h2 (by omega) (by omega) (by omega)
  have k12 := fun (W : World) {p1 : Option Addr} {q1 : Nat} {p2 : Option Addr} {q2 : Nat} (h1 : Reads W (.slice p1 (digs A).length q1) (digs A)) (h2 : Reads W (.slice p2 (digs A).length q2) (digs A)) => d_same true h1 h2 (by omega) (by omega) (by simp)
  have hE0 : ((digs E).length : Int) = 0 := by rw [hE, h, Nat.sub_self, digs_zero]; rfl
  clear hS LS hD LD hE LE h LA LB
  have r0 := Below.refl w.heap.size w
  go_enter Try.func5, Try.ntmps5
  go_wp2_with (first
    | (go_at_call 11; with_reducible refine (alive_any w).mono ?_; rintro e w1 ⟨rfl, r1⟩; replace r0 := then_below r0 r1; replace ga := ga.below r1; replace gb := gb.below r1)
    | (go_at_call 18; have kg := great_lit w1 [(a1, (digs A).length, ca), (b1, (digs B).length, cb)] (vs := #[.slice a1 (digs A).length ca, .slice b1 (digs B).length cb]) rfl (m := 2) rfl (by simp) false hG.out; with_reducible refine kg.mono ?_; clear kg; rintro e w2 ⟨rfl, r2⟩; replace r0 := then_below r0 r2; replace ga := ga.below r2; replace gb := gb.below r2)
    | (go_at_call 14; with_reducible refine (k1 w2 ga).mono ?_; rintro e w3 ⟨rfl, r3⟩; replace r0 := then_below r0 r3; replace ga := ga.below r3; replace gb := gb.below r3)
    | (go_at_call 14; with_reducible refine (k2 w3 gb).mono ?_; rintro e w4 ⟨rfl, r4⟩; replace r0 := then_below r0 r4; replace ga := ga.below r4; replace gb := gb.below r4)
    | (go_at_call 12; with_reducible refine (k3 w4 ga gb).mono ?_; rintro e w5 ⟨x5_0, y5_0, rfl, gs, r5⟩; replace r0 := then_below r0 r5; replace ga := ga.below r5; replace gb := gb.below r5)
    | (go_at_call 19; with_reducible refine (k4 w5 gs gb).mono ?_; rintro e w6 ⟨x6_0, y6_0, rfl, gx, r6⟩; replace r0 := then_below r0 r6; replace ga := ga.below r6; replace gb := gb.below r6)
    | (go_at_call 19; with_reducible refine (k5 w6 ga gb).mono ?_; rintro e w7 ⟨x7_0, y7_0, rfl, gy, r7⟩; replace r0 := then_below r0 r7; replace ga := ga.below r7; replace gb := gb.below r7; replace gx := gx.below r7)
    | (go_at_call 19; with_reducible refine (k6 w7 gb ga).mono ?_; rintro e w8 ⟨x8_0, y8_0, rfl, gz, r8⟩; replace r0 := then_below r0 r8; replace ga := ga.below r8; replace gb := gb.below r8; replace gx := gx.below r8; replace gy := gy.below r8)
    | (go_at_call 17; with_reducible refine (k7 w8 ga gb).mono ?_; rintro e w9 ⟨rfl, r9⟩; replace r0 := then_below r0 r9; replace ga := ga.below r9; replace gb := gb.below r9; replace gx := gx.below r9; replace gy := gy.below r9)
    | (go_at_call 15; with_reducible refine (k8 w9 gx ga).mono ?_; rintro e w10 ⟨rfl, r10⟩; replace r0 := then_below r0 r10; replace ga := ga.below r10; replace gb := gb.below r10; replace gy := gy.below r10)
    | (go_at_call 17; with_reducible refine (k9 w10 gb ga).mono ?_; rintro e w11 ⟨rfl, r11⟩; replace r0 := then_below r0 r11; replace ga := ga.below r11; replace gb := gb.below r11; replace gy := gy.below r11)
    | (go_at_call 15; with_reducible refine (k10 w11 ga gb).mono ?_; rintro e w12 ⟨rfl, r12⟩; replace r0 := then_below r0 r12; replace ga := ga.below r12; replace gb := gb.below r12; replace gy := gy.below r12)
    | (go_at_call 12; with_reducible refine (k11 w12 gy gb).mono ?_; rintro e w13 ⟨x13_0, y13_0, rfl, gt, r13⟩; replace r0 := then_below r0 r13; replace ga := ga.below r13)
    | (go_at_call 15; with_reducible refine (k12 w13 gt ga).mono ?_; rintro e w14 ⟨rfl, r14⟩; replace r0 := then_below r0 r14))
  go_ret
  exact ⟨rfl, r0⟩

set_option maxRecDepth 100000 in
set_option maxHeartbeats 2000000 in
theorem undone_lt {w : World} {a1 b1 : Option Addr} {ca cb A B : Nat} (ga : Reads w (.slice a1 (digs A).length ca) (digs A)) (gb : Reads w (.slice b1 (digs B).length cb) (digs B)) (LA : (digs A).length ≤ 300) (LB : (digs B).length ≤ 300) (h : A < B) :
    Calls Try.prog 5 #[.slice a1 (digs A).length ca, .slice b1 (digs B).length cb] w fun e w' => e = .returned (.bool true) ∧ Below w.heap.size w w' := by
  obtain ⟨S, hS⟩ : ∃ S, S = A + B := ⟨_, rfl⟩
  have LS : (digs S).length ≤ 601 := by rw [hS]; have := digs_add_le A B; omega
  obtain ⟨E, hE⟩ : ∃ E, E = B - A := ⟨_, rfl⟩
  have LE : (digs E).length ≤ 300 := by rw [hE]; have := digs_mono (a := B - A) (b := B) (by omega); omega
  have hG := Lib.hid (great_two LA LB (a1 := a1) (b1 := b1) (ca := ca) (cb := cb))
  have k1 := fun (W : World) {p1 : Option Addr} {q1 : Nat} (h1 : Reads W (.slice p1 (digs A).length q1) (digs A)) => d_check  h1 (by omega)
  have k2 := fun (W : World) {p1 : Option Addr} {q1 : Nat} (h1 : Reads W (.slice p1 (digs B).length q1) (digs B)) => d_check  h1 (by omega)
  have k3 := fun (W : World) {p1 : Option Addr} {q1 : Nat} {p2 : Option Addr} {q2 : Nat} (h1 : Reads W (.slice p1 (digs A).length q1) (digs A)) (h2 : Reads W (.slice p2 (digs B).length q2) (digs B)) => d_add S h1 h2 (by omega) (by omega) (hS)
  have k4 := fun (W : World) {p1 : Option Addr} {q1 : Nat} {p2 : Option Addr} {q2 : Nat} (h1 : Reads W (.slice p1 (digs S).length q1) (digs S)) (h2 : Reads W (.slice p2 (digs B).length q2) (digs B)) => d_sub A h1 h2 (by omega) (by omega) (by omega) (by omega)
  have k5 := fun (W : World) {p1 : Option Addr} {q1 : Nat} {p2 : Option Addr} {q2 : Nat} (h1 : Reads W (.slice p1 (digs A).length q1) (digs A)) (h2 : Reads W (.slice p2 (digs B).length q2) (digs B)) => d_subno  h1 h2 (by omega) (by omega) (h)
  have k6 := fun (W : World) {p1 : Option Addr} {q1 : Nat} {p2 : Option Addr} {q2 : Nat} (h1 : Reads W (.slice p1 (digs B).length q1) (digs B)) (h2 : Reads W (.slice p2 (digs A).length q2) (digs A)) => d_sub E h1 h2 (by omega) (by omega) (by omega) (hE)
  have k7 := fun (W : World) {p1 : Option Addr} {q1 : Nat} {p2 : Option Addr} {q2 : Nat} (h1 : Reads W (.slice p1 (digs A).length q1) (digs A)) (h2 : Reads W (.slice p2 (digs B).length q2) (digs B)) => d_cmp (-1) h1 h2 (by omega) (by omega) (by simp [sgn]; omega)
  have k8 := fun (W : World) {p1 : Option Addr} {q1 : Nat} {p2 : Option Addr} {q2 : Nat} (h1 : Reads W (.slice p1 (digs A).length q1) (digs A)) (h2 : Reads W (.slice p2 (digs A).length q2) (digs A)) => d_same true h1 h2 (by omega) (by omega) (by simp)
  have k9 := fun (W : World) {p1 : Option Addr} {q1 : Nat} {p2 : Option Addr} {q2 : Nat} (h1 : Reads W (.slice p1 (digs B).length q1) (digs B)) (h2 : Reads W (.slice p2 (digs A).length q2) (digs A)) => d_cmp (1) h1 h2 (by omega) (by omega) (by simp [sgn]; omega)
  have k10 := fun (W : World) {p1 : Option Addr} {q1 : Nat} {p2 : Option Addr} {q2 : Nat} (h1 : Reads W (.slice p1 (digs A).length q1) (digs A)) (h2 : Reads W (.slice p2 (digs B).length q2) (digs B)) => d_same false h1 h2 (by omega) (by omega) (by simp; omega)
  have k11 := fun (W : World) {p1 : Option Addr} {q1 : Nat} {p2 : Option Addr} {q2 : Nat} (h1 : Reads W (.slice p1 (digs E).length q1) (digs E)) (h2 : Reads W (.slice p2 (digs A).length q2) (digs A)) => d_add B h1 h2 (by omega) (by omega) (by omega)
  have k12 := fun (W : World) {p1 : Option Addr} {q1 : Nat} {p2 : Option Addr} {q2 : Nat} (h1 : Reads W (.slice p1 (digs B).length q1) (digs B)) (h2 : Reads W (.slice p2 (digs B).length q2) (digs B)) => d_same true h1 h2 (by omega) (by omega) (by simp)
  clear hS LS hE LE h LA LB
  have r0 := Below.refl w.heap.size w
  go_enter Try.func5, Try.ntmps5
  go_wp2_with (first
    | (go_at_call 11; with_reducible refine (alive_any w).mono ?_; rintro e w1 ⟨rfl, r1⟩; replace r0 := then_below r0 r1; replace ga := ga.below r1; replace gb := gb.below r1)
    | (go_at_call 18; have kg := great_lit w1 [(a1, (digs A).length, ca), (b1, (digs B).length, cb)] (vs := #[.slice a1 (digs A).length ca, .slice b1 (digs B).length cb]) rfl (m := 2) rfl (by simp) false hG.out; with_reducible refine kg.mono ?_; clear kg; rintro e w2 ⟨rfl, r2⟩; replace r0 := then_below r0 r2; replace ga := ga.below r2; replace gb := gb.below r2)
    | (go_at_call 14; with_reducible refine (k1 w2 ga).mono ?_; rintro e w3 ⟨rfl, r3⟩; replace r0 := then_below r0 r3; replace ga := ga.below r3; replace gb := gb.below r3)
    | (go_at_call 14; with_reducible refine (k2 w3 gb).mono ?_; rintro e w4 ⟨rfl, r4⟩; replace r0 := then_below r0 r4; replace ga := ga.below r4; replace gb := gb.below r4)
    | (go_at_call 12; with_reducible refine (k3 w4 ga gb).mono ?_; rintro e w5 ⟨x5_0, y5_0, rfl, gs, r5⟩; replace r0 := then_below r0 r5; replace ga := ga.below r5; replace gb := gb.below r5)
    | (go_at_call 19; with_reducible refine (k4 w5 gs gb).mono ?_; rintro e w6 ⟨x6_0, y6_0, rfl, gx, r6⟩; replace r0 := then_below r0 r6; replace ga := ga.below r6; replace gb := gb.below r6)
    | (go_at_call 19; with_reducible refine (k5 w6 ga gb).mono ?_; rintro e w7 ⟨rfl, r7⟩; replace r0 := then_below r0 r7; replace ga := ga.below r7; replace gb := gb.below r7; replace gx := gx.below r7)
    | (go_at_call 19; with_reducible refine (k6 w7 gb ga).mono ?_; rintro e w8 ⟨x8_0, y8_0, rfl, gz, r8⟩; replace r0 := then_below r0 r8; replace ga := ga.below r8; replace gb := gb.below r8; replace gx := gx.below r8)
    | (go_at_call 17; with_reducible refine (k7 w8 ga gb).mono ?_; rintro e w9 ⟨rfl, r9⟩; replace r0 := then_below r0 r9; replace ga := ga.below r9; replace gb := gb.below r9; replace gx := gx.below r9; replace gz := gz.below r9)
    | (go_at_call 15; with_reducible refine (k8 w9 gx ga).mono ?_; rintro e w10 ⟨rfl, r10⟩; replace r0 := then_below r0 r10; replace ga := ga.below r10; replace gb := gb.below r10; replace gz := gz.below r10)
    | (go_at_call 17; with_reducible refine (k9 w10 gb ga).mono ?_; rintro e w11 ⟨rfl, r11⟩; replace r0 := then_below r0 r11; replace ga := ga.below r11; replace gb := gb.below r11; replace gz := gz.below r11)
    | (go_at_call 15; with_reducible refine (k10 w11 ga gb).mono ?_; rintro e w12 ⟨rfl, r12⟩; replace r0 := then_below r0 r12; replace ga := ga.below r12; replace gb := gb.below r12; replace gz := gz.below r12)
    | (go_at_call 12; with_reducible refine (k11 w12 gz ga).mono ?_; rintro e w13 ⟨x13_0, y13_0, rfl, gt, r13⟩; replace r0 := then_below r0 r13; replace gb := gb.below r13)
    | (go_at_call 15; with_reducible refine (k12 w13 gt gb).mono ?_; rintro e w14 ⟨rfl, r14⟩; replace r0 := then_below r0 r14))
  go_ret
  exact ⟨rfl, r0⟩

set_option maxRecDepth 100000 in
set_option maxHeartbeats 2000000 in
theorem undone_great {w : World} {a1 b1 : Option Addr} {na nb ca cb : Nat} (h : 300 < na ∨ 300 < nb) :
    Calls Try.prog 5 #[.slice a1 na ca, .slice b1 nb cb] w fun e w' => e = .returned (.bool true) ∧ Below w.heap.size w w' := by
  have hG : Hid (true = [(a1, na, ca), (b1, nb, cb)].any (fun t => decide (300 < t.2.1))) := Lib.hid (by simpa using h)

  clear h
  have r0 := Below.refl w.heap.size w
  go_enter Try.func5, Try.ntmps5
  go_wp2_with (first
    | (go_at_call 11; with_reducible refine (alive_any w).mono ?_; rintro e w1 ⟨rfl, r1⟩; replace r0 := then_below r0 r1)
    | (go_at_call 18; have kg := great_lit w1 [(a1, na, ca), (b1, nb, cb)] (vs := #[.slice a1 na ca, .slice b1 nb cb]) rfl (m := 2) rfl (by simp) true hG.out; with_reducible refine kg.mono ?_; clear kg; rintro e w2 ⟨rfl, r2⟩; replace r0 := then_below r0 r2)
    | (go_at_call 11; with_reducible refine (alive_any w2).mono ?_; rintro e w3 ⟨rfl, r3⟩; replace r0 := then_below r0 r3))
  go_ret
  exact ⟨rfl, r0⟩

set_option maxRecDepth 100000 in
set_option maxHeartbeats 2000000 in
theorem undone_bada {w : World} {a1 b1 : Option Addr} {ca cb : Nat} {la lb : List Nat} (ga : Reads w (.slice a1 la.length ca) la) (_gb : Reads w (.slice b1 lb.length cb) lb) (LA : la.length ≤ 300) (LB : lb.length ≤ 300) (h : chk la = false) :
    Calls Try.prog 5 #[.slice a1 la.length ca, .slice b1 lb.length cb] w fun e w' => e = .returned (.bool true) ∧ Below w.heap.size w w' := by
  have hG : Hid (false = [(a1, la.length, ca), (b1, lb.length, cb)].any (fun t => decide (300 < t.2.1))) := Lib.hid (by simp; omega)
  have c1 := fun (W : World) (g : Reads W (.slice a1 la.length ca) la) => check_any g (by omega)
  rw [h] at c1

  clear LA LB h
  have r0 := Below.refl w.heap.size w
  go_enter Try.func5, Try.ntmps5
  go_wp2_with (first
    | (go_at_call 11; with_reducible refine (alive_any w).mono ?_; rintro e w1 ⟨rfl, r1⟩; replace r0 := then_below r0 r1; replace ga := ga.below r1)
    | (go_at_call 18; have kg := great_lit w1 [(a1, la.length, ca), (b1, lb.length, cb)] (vs := #[.slice a1 la.length ca, .slice b1 lb.length cb]) rfl (m := 2) rfl (by simp) false hG.out; with_reducible refine kg.mono ?_; clear kg; rintro e w2 ⟨rfl, r2⟩; replace r0 := then_below r0 r2; replace ga := ga.below r2)
    | (go_at_call 14; with_reducible refine (c1 w2 ga).mono ?_; rintro e w3 ⟨rfl, q3⟩; have r3 : Below w2.heap.size w2 w3 := q3 ▸ Below.refl _ _; clear q3; replace r0 := then_below r0 r3)
    | (go_at_call 11; with_reducible refine (alive_any w3).mono ?_; rintro e w4 ⟨rfl, r4⟩; replace r0 := then_below r0 r4))
  go_ret
  exact ⟨rfl, r0⟩

set_option maxRecDepth 100000 in
set_option maxHeartbeats 2000000 in
theorem undone_badb {w : World} {a1 b1 : Option Addr} {ca cb : Nat} {la lb : List Nat} (ga : Reads w (.slice a1 la.length ca) la) (gb : Reads w (.slice b1 lb.length cb) lb) (LA : la.length ≤ 300) (LB : lb.length ≤ 300) (h1 : chk la = true) (h : chk lb = false) :
    Calls Try.prog 5 #[.slice a1 la.length ca, .slice b1 lb.length cb] w fun e w' => e = .returned (.bool true) ∧ Below w.heap.size w w' := by
  have hG : Hid (false = [(a1, la.length, ca), (b1, lb.length, cb)].any (fun t => decide (300 < t.2.1))) := Lib.hid (by simp; omega)
  have c1 := fun (W : World) (g : Reads W (.slice a1 la.length ca) la) => check_form g (by omega) h1
  have c2 := fun (W : World) (g : Reads W (.slice b1 lb.length cb) lb) => check_any g (by omega)
  rw [h] at c2

  clear h1 LA LB h
  have r0 := Below.refl w.heap.size w
  go_enter Try.func5, Try.ntmps5
  go_wp2_with (first
    | (go_at_call 11; with_reducible refine (alive_any w).mono ?_; rintro e w1 ⟨rfl, r1⟩; replace r0 := then_below r0 r1; replace ga := ga.below r1; replace gb := gb.below r1)
    | (go_at_call 18; have kg := great_lit w1 [(a1, la.length, ca), (b1, lb.length, cb)] (vs := #[.slice a1 la.length ca, .slice b1 lb.length cb]) rfl (m := 2) rfl (by simp) false hG.out; with_reducible refine kg.mono ?_; clear kg; rintro e w2 ⟨rfl, r2⟩; replace r0 := then_below r0 r2; replace ga := ga.below r2; replace gb := gb.below r2)
    | (go_at_call 14; with_reducible refine (c1 w2 ga).mono ?_; rintro e w3 ⟨rfl, q3⟩; have r3 : Below w2.heap.size w2 w3 := q3 ▸ Below.refl _ _; clear q3; replace r0 := then_below r0 r3; replace gb := gb.below r3)
    | (go_at_call 14; with_reducible refine (c2 w3 gb).mono ?_; rintro e w4 ⟨rfl, q4⟩; have r4 : Below w3.heap.size w3 w4 := q4 ▸ Below.refl _ _; clear q4; replace r0 := then_below r0 r4)
    | (go_at_call 11; with_reducible refine (alive_any w4).mono ?_; rintro e w5 ⟨rfl, r5⟩; replace r0 := then_below r0 r5))
  go_ret
  exact ⟨rfl, r0⟩

end Go.Proofs.Ytogpdkdkmgjdpaa
