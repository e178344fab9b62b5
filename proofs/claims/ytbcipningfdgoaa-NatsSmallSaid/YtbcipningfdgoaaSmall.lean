/- NatsSmall: its walks. -/
import Derived.Test.YtbcipningfdgoaaAliveB
import Derived.Test.YtbcipningfdgoaaDivA
import Derived.Test.YtbcipningfdgoaaFormD
import Derived.Test.YtbcipningfdgoaaGreat
namespace Go.Proofs.Ytbcipningfdgoaa
open Go Go.Proofs Go.RowKit Go.Shelf Nu

theorem len64 {n : Nat} (h : n < 18446744073709551616) : (digs n).length ≤ 2 := digs_length_le (k := 2) (by rw [show (4294967296 : Nat) ^ 2 = 18446744073709551616 from by decide]; exact h)
section
variable {w : World} {p1 : Option Addr} {q1 A : Nat}
theorem d_of (N : Nat) (h : N < 18446744073709551616) : Calls Try.prog 24 #[.int .u64 N] w fun e w' => ∃ a c, e = .returned (.slice a (digs N).length c) ∧ Reads w' (.slice a (digs N).length c) (digs N) ∧ Below w.heap.size w w' := by
  refine (of_any N h w).mono ?_
  rintro e w' ⟨v, rfl, f, hb⟩
  obtain ⟨a, c, rfl⟩ := f.reads.form
  exact ⟨a, c, rfl, f.reads, hb⟩
theorem d_back (h1 : Reads w (.slice p1 (digs A).length q1) (digs A)) (l1 : (digs A).length ≤ 100000) (h : A < 18446744073709551616) : Calls Try.prog 25 #[.slice p1 (digs A).length q1] w fun e w' => e = .returned (.tuple #[.int .u64 A, .int .i64 0]) ∧ Below w.heap.size w w' := by
  have k := back_any' h1 (by omega) (sm_digs _)
  have e : backV (digs A) = .tuple #[.int .u64 A, .int .i64 0] := by
    have := len64 h
    unfold backV
    rw [chk_digs, val_digs]
    simp; omega
  rwa [e] at k
theorem d_backno (h1 : Reads w (.slice p1 (digs A).length q1) (digs A)) (l1 : (digs A).length ≤ 100000) (h : 18446744073709551616 ≤ A) : Calls Try.prog 25 #[.slice p1 (digs A).length q1] w fun e w' => e = .returned (.tuple #[.int .u64 0, .int .i64 3]) ∧ Below w.heap.size w w' := by
  have k := back_any' h1 (by omega) (sm_digs _)
  have e : backV (digs A) = .tuple #[.int .u64 0, .int .i64 3] := by
    have hl : 2 < (digs A).length := by
      rcases Nat.lt_or_ge 2 (digs A).length with h2 | h2
      · exact h2
      · have := digs_le_iff.1 h2
        rw [show (4294967296 : Nat) ^ 2 = 18446744073709551616 from by decide] at this
        omega
    unfold backV
    rw [chk_digs]
    simp; omega
  rwa [e] at k
theorem wrap_no {a b : Nat} (h : a + b < 18446744073709551616) : IntKind.u64.wrap ((a : Int) + (b : Int)) = ((a + b : Nat) : Int) := by rw [IntKind.wrap_u64]; omega
theorem wrap_yes {a b : Nat} (ha : a < 18446744073709551616) (hb : b < 18446744073709551616) (h : 18446744073709551616 ≤ a + b) : ∃ c : Nat, IntKind.u64.wrap ((a : Int) + (b : Int)) = (c : Int) ∧ c < a := ⟨a + b - 18446744073709551616, by rw [IntKind.wrap_u64]; omega, by omega⟩
theorem mul_half {a b : Nat} (ha : a < 18446744073709551616) (hb : b < 18446744073709551616) : a / 4294967296 * (b / 4294967296) < 18446744073709551616 := by
  have h1 : a / 4294967296 ≤ 4294967295 := by omega
  have h2 : b / 4294967296 ≤ 4294967295 := by omega
  exact Nat.lt_of_le_of_lt (Nat.mul_le_mul h1 h2) (by decide)
end

set_option maxRecDepth 100000 in
set_option maxHeartbeats 2000000 in
theorem small_0_lt_0 {w : World} {m n : Nat} (b1 : m < 18446744073709551616) (b2 : n < 18446744073709551616) (hc : m + n < 18446744073709551616) (ho : m < n) (hz : n ≠ 0) :
    Calls Try.prog 8 #[.int .u64 m, .int .u64 n] w fun e w' => e = .returned (.bool true) ∧ Below w.heap.size w w' := by
  have Lm := len64 b1
  have Ln := len64 b2
  obtain ⟨S, hS⟩ : ∃ S, S = m + n := ⟨_, rfl⟩
  have LS : (digs S).length ≤ 5 := by rw [hS]; have := digs_add_le m n; omega
  obtain ⟨X, hX⟩ : ∃ X, X = m / 4294967296 := ⟨_, rfl⟩
  have LX : (digs X).length ≤ 2 := by rw [hX]; exact len64 (by omega)
  obtain ⟨Y, hY⟩ : ∃ Y, Y = n / 4294967296 := ⟨_, rfl⟩
  have LY : (digs Y).length ≤ 2 := by rw [hY]; exact len64 (by omega)
  have bX : X < 18446744073709551616 := by omega
  have bY : Y < 18446744073709551616 := by omega
  obtain ⟨P, hP⟩ : ∃ P, P = X * Y := ⟨_, rfl⟩
  have LP : (digs P).length ≤ 2 := by rw [hP]; rw [hX, hY]; exact len64 (mul_half b1 b2)
  have bP : P < 18446744073709551616 := by rw [hP, hX, hY]; exact mul_half b1 b2
  have eX : (m : Int) / 4294967296 = (X : Int) := by omega
  have eY : (n : Int) / 4294967296 = (Y : Int) := by omega
  have eP : (X : Int) * (Y : Int) = (P : Int) := by rw [hP]; exact (Int.natCast_mul X Y).symm
  obtain ⟨Q, hQ⟩ : ∃ Q, Q = m / n := ⟨_, rfl⟩
  have LQ : (digs Q).length ≤ 2 := by rw [hQ]; exact len64 (Nat.lt_of_le_of_lt (Nat.div_le_self _ _) b1)
  obtain ⟨R, hR⟩ : ∃ R, R = m % n := ⟨_, rfl⟩
  have LR : (digs R).length ≤ 2 := by rw [hR]; exact len64 (Nat.lt_of_le_of_lt (Nat.mod_le _ _) b1)
  have bQ : Q < 18446744073709551616 := hQ ▸ Nat.lt_of_le_of_lt (Nat.div_le_self _ _) b1
  have bR : R < 18446744073709551616 := hR ▸ Nat.lt_of_le_of_lt (Nat.mod_le _ _) b1
  have eQ : (m : Int) / (n : Int) = (Q : Int) := by rw [hQ]; exact (Int.natCast_ediv m n).symm
  have eR : (m : Int) % (n : Int) = (R : Int) := by rw [hR]; exact (Int.natCast_emod m n).symm
  have j0 : ((n : Int) == 0) = false := beq_false_of_ne (by omega)
  have j1 : ¬ (n : Int) = 0 := by omega
  have k1 := fun (W : World) => d_of (w := W) m (by omega)
  have k2 := fun (W : World) => d_of (w := W) n (by omega)
  have k3 := fun (W : World) {p1 : Option Addr} {q1 : Nat} (h1 : Reads W (.slice p1 (digs m).length q1) (digs m)) => d_back  h1 (by omega) (by omega)
  have k4 := fun (W : World) {p1 : Option Addr} {q1 : Nat} {p2 : Option Addr} {q2 : Nat} (h1 : Reads W (.slice p1 (digs m).length q1) (digs m)) (h2 : Reads W (.slice p2 (digs n).length q2) (digs n)) => d_add S h1 h2 (by omega) (by omega) (hS)
  have k5 := fun (W : World) {p1 : Option Addr} {q1 : Nat} (h1 : Reads W (.slice p1 (digs S).length q1) (digs S)) => d_back  h1 (by omega) (by omega)
  have k6 := fun (W : World) => d_of (w := W) X (by omega)
  have k7 := fun (W : World) => d_of (w := W) Y (by omega)
  have k8 := fun (W : World) {p1 : Option Addr} {q1 : Nat} {p2 : Option Addr} {q2 : Nat} (h1 : Reads W (.slice p1 (digs X).length q1) (digs X)) (h2 : Reads W (.slice p2 (digs Y).length q2) (digs Y)) => d_mul P h1 h2 (by omega) (by omega) (hP)
  have k9 := fun (W : World) {p1 : Option Addr} {q1 : Nat} (h1 : Reads W (.slice p1 (digs P).length q1) (digs P)) => d_back  h1 (by omega) (by omega)
  have k10 := fun (W : World) {p1 : Option Addr} {q1 : Nat} {p2 : Option Addr} {q2 : Nat} (h1 : Reads W (.slice p1 (digs m).length q1) (digs m)) (h2 : Reads W (.slice p2 (digs n).length q2) (digs n)) => d_cmp (-1) h1 h2 (by omega) (by omega) (by simp [sgn, ho])
  have k11 := fun (W : World) {p1 : Option Addr} {q1 : Nat} {p2 : Option Addr} {q2 : Nat} (h1 : Reads W (.slice p1 (digs m).length q1) (digs m)) (h2 : Reads W (.slice p2 (digs n).length q2) (digs n)) => d_cmp (-1) h1 h2 (by omega) (by omega) (by simp [sgn, ho])
  have k12 := fun (W : World) {p1 : Option Addr} {q1 : Nat} {p2 : Option Addr} {q2 : Nat} (h1 : Reads W (.slice p1 (digs m).length q1) (digs m)) (h2 : Reads W (.slice p2 (digs n).length q2) (digs n)) => d_quo Q R h1 h2 (by omega) (by omega) (hz) (hQ) (hR)
  have k13 := fun (W : World) {p1 : Option Addr} {q1 : Nat} (h1 : Reads W (.slice p1 (digs Q).length q1) (digs Q)) => d_back  h1 (by omega) (by omega)
  have k14 := fun (W : World) {p1 : Option Addr} {q1 : Nat} (h1 : Reads W (.slice p1 (digs R).length q1) (digs R)) => d_back  h1 (by omega) (by omega)
  have eC := wrap_no hc
  rw [← hS] at eC
  have bC : (m : Int) ≤ (S : Int) := by omega
  have bC2 : ¬ (S : Int) < (m : Int) := by omega
  have o1 : (m : Int) < (n : Int) := by omega
  have o2 : ¬ (n : Int) < (m : Int) := by omega
  clear Lm Ln hS LS hX LX hY LY hP LP hQ LQ hR LR hc ho hz
  have r0 := Below.refl w.heap.size w
  go_enter Try.func8, Try.ntmps8
  go_wp2_with (first
    | (go_at_call 24; with_reducible refine (k1 w ).mono ?_; rintro e w1 ⟨x1_0, y1_0, rfl, ga, r1⟩; replace r0 := then_below r0 r1)
    | (go_at_call 24; with_reducible refine (k2 w1 ).mono ?_; rintro e w2 ⟨x2_0, y2_0, rfl, gb, r2⟩; replace r0 := then_below r0 r2; replace ga := ga.below r2)
    | (go_at_call 25; with_reducible refine (k3 w2 ga).mono ?_; rintro e w3 ⟨rfl, r3⟩; replace r0 := then_below r0 r3; replace ga := ga.below r3; replace gb := gb.below r3)
    | (go_at_call 12; with_reducible refine (k4 w3 ga gb).mono ?_; rintro e w4 ⟨x4_0, y4_0, rfl, gs, r4⟩; replace r0 := then_below r0 r4; replace ga := ga.below r4; replace gb := gb.below r4)
    | (go_at_call 25; with_reducible refine (k5 w4 gs).mono ?_; rintro e w5 ⟨rfl, r5⟩; replace r0 := then_below r0 r5; replace ga := ga.below r5; replace gb := gb.below r5)
    | (go_at_call 24; with_reducible refine (k6 w5 ).mono ?_; rintro e w6 ⟨x6_0, y6_0, rfl, gx, r6⟩; replace r0 := then_below r0 r6; replace ga := ga.below r6; replace gb := gb.below r6)
    | (go_at_call 24; with_reducible refine (k7 w6 ).mono ?_; rintro e w7 ⟨x7_0, y7_0, rfl, gy, r7⟩; replace r0 := then_below r0 r7; replace ga := ga.below r7; replace gb := gb.below r7; replace gx := gx.below r7)
    | (go_at_call 13; with_reducible refine (k8 w7 gx gy).mono ?_; rintro e w8 ⟨x8_0, y8_0, rfl, gp, r8⟩; replace r0 := then_below r0 r8; replace ga := ga.below r8; replace gb := gb.below r8)
    | (go_at_call 25; with_reducible refine (k9 w8 gp).mono ?_; rintro e w9 ⟨rfl, r9⟩; replace r0 := then_below r0 r9; replace ga := ga.below r9; replace gb := gb.below r9)
    | (go_at_call 11; with_reducible refine (alive_any w9).mono ?_; rintro e w10 ⟨rfl, r10⟩; replace r0 := then_below r0 r10; replace ga := ga.below r10; replace gb := gb.below r10)
    | (go_at_call 17; with_reducible refine (k10 w10 ga gb).mono ?_; rintro e w11 ⟨rfl, r11⟩; replace r0 := then_below r0 r11; replace ga := ga.below r11; replace gb := gb.below r11)
    | (go_at_call 17; with_reducible refine (k11 w11 ga gb).mono ?_; rintro e w12 ⟨rfl, r12⟩; replace r0 := then_below r0 r12; replace ga := ga.below r12; replace gb := gb.below r12)
    | (go_at_call 16; with_reducible refine (k12 w12 ga gb).mono ?_; rintro e w13 ⟨x13_0, y13_0, x13_1, y13_1, rfl, gq, gr, r13⟩; replace r0 := then_below r0 r13)
    | (go_at_call 25; with_reducible refine (k13 w13 gq).mono ?_; rintro e w14 ⟨rfl, r14⟩; replace r0 := then_below r0 r14; replace gr := gr.below r14)
    | (go_at_call 25; with_reducible refine (k14 w14 gr).mono ?_; rintro e w15 ⟨rfl, r15⟩; replace r0 := then_below r0 r15))
  go_ret
  exact ⟨rfl, r0⟩

set_option maxRecDepth 100000 in
set_option maxHeartbeats 2000000 in
theorem small_0_eq_0 {w : World} {m n : Nat} (b1 : m < 18446744073709551616) (b2 : n < 18446744073709551616) (hc : m + n < 18446744073709551616) (ho : m = n) (hz : n ≠ 0) :
    Calls Try.prog 8 #[.int .u64 m, .int .u64 n] w fun e w' => e = .returned (.bool true) ∧ Below w.heap.size w w' := by
  have Lm := len64 b1
  have Ln := len64 b2
  obtain ⟨S, hS⟩ : ∃ S, S = m + n := ⟨_, rfl⟩
  have LS : (digs S).length ≤ 5 := by rw [hS]; have := digs_add_le m n; omega
  obtain ⟨X, hX⟩ : ∃ X, X = m / 4294967296 := ⟨_, rfl⟩
  have LX : (digs X).length ≤ 2 := by rw [hX]; exact len64 (by omega)
  obtain ⟨Y, hY⟩ : ∃ Y, Y = n / 4294967296 := ⟨_, rfl⟩
  have LY : (digs Y).length ≤ 2 := by rw [hY]; exact len64 (by omega)
  have bX : X < 18446744073709551616 := by omega
  have bY : Y < 18446744073709551616 := by omega
  obtain ⟨P, hP⟩ : ∃ P, P = X * Y := ⟨_, rfl⟩
  have LP : (digs P).length ≤ 2 := by rw [hP]; rw [hX, hY]; exact len64 (mul_half b1 b2)
  have bP : P < 18446744073709551616 := by rw [hP, hX, hY]; exact mul_half b1 b2
  have eX : (m : Int) / 4294967296 = (X : Int) := by omega
  have eY : (n : Int) / 4294967296 = (Y : Int) := by omega
  have eP : (X : Int) * (Y : Int) = (P : Int) := by rw [hP]; exact (Int.natCast_mul X Y).symm
  obtain ⟨Q, hQ⟩ : ∃ Q, Q = m / n := ⟨_, rfl⟩
  have LQ : (digs Q).length ≤ 2 := by rw [hQ]; exact len64 (Nat.lt_of_le_of_lt (Nat.div_le_self _ _) b1)
  obtain ⟨R, hR⟩ : ∃ R, R = m % n := ⟨_, rfl⟩
  have LR : (digs R).length ≤ 2 := by rw [hR]; exact len64 (Nat.lt_of_le_of_lt (Nat.mod_le _ _) b1)
  have bQ : Q < 18446744073709551616 := hQ ▸ Nat.lt_of_le_of_lt (Nat.div_le_self _ _) b1
  have bR : R < 18446744073709551616 := hR ▸ Nat.lt_of_le_of_lt (Nat.mod_le _ _) b1
  have eQ : (m : Int) / (n : Int) = (Q : Int) := by rw [hQ]; exact (Int.natCast_ediv m n).symm
  have eR : (m : Int) % (n : Int) = (R : Int) := by rw [hR]; exact (Int.natCast_emod m n).symm
  have j0 : ((n : Int) == 0) = false := beq_false_of_ne (by omega)
  have j1 : ¬ (n : Int) = 0 := by omega
  have k1 := fun (W : World) => d_of (w := W) m (by omega)
  have k2 := fun (W : World) => d_of (w := W) n (by omega)
  have k3 := fun (W : World) {p1 : Option Addr} {q1 : Nat} (h1 : Reads W (.slice p1 (digs m).length q1) (digs m)) => d_back  h1 (by omega) (by omega)
  have k4 := fun (W : World) {p1 : Option Addr} {q1 : Nat} {p2 : Option Addr} {q2 : Nat} (h1 : Reads W (.slice p1 (digs m).length q1) (digs m)) (h2 : Reads W (.slice p2 (digs n).length q2) (digs n)) => d_add S h1 h2 (by omega) (by omega) (hS)
  have k5 := fun (W : World) {p1 : Option Addr} {q1 : Nat} (h1 : Reads W (.slice p1 (digs S).length q1) (digs S)) => d_back  h1 (by omega) (by omega)
  have k6 := fun (W : World) => d_of (w := W) X (by omega)
  have k7 := fun (W : World) => d_of (w := W) Y (by omega)
  have k8 := fun (W : World) {p1 : Option Addr} {q1 : Nat} {p2 : Option Addr} {q2 : Nat} (h1 : Reads W (.slice p1 (digs X).length q1) (digs X)) (h2 : Reads W (.slice p2 (digs Y).length q2) (digs Y)) => d_mul P h1 h2 (by omega) (by omega) (hP)
  have k9 := fun (W : World) {p1 : Option Addr} {q1 : Nat} (h1 : Reads W (.slice p1 (digs P).length q1) (digs P)) => d_back  h1 (by omega) (by omega)
  have k10 := fun (W : World) {p1 : Option Addr} {q1 : Nat} {p2 : Option Addr} {q2 : Nat} (h1 : Reads W (.slice p1 (digs m).length q1) (digs m)) (h2 : Reads W (.slice p2 (digs n).length q2) (digs n)) => d_cmp (0) h1 h2 (by omega) (by omega) (by simp [sgn, ho])
  have k11 := fun (W : World) {p1 : Option Addr} {q1 : Nat} {p2 : Option Addr} {q2 : Nat} (h1 : Reads W (.slice p1 (digs m).length q1) (digs m)) (h2 : Reads W (.slice p2 (digs n).length q2) (digs n)) => d_cmp (0) h1 h2 (by omega) (by omega) (by simp [sgn, ho])
  have k12 := fun (W : World) {p1 : Option Addr} {q1 : Nat} {p2 : Option Addr} {q2 : Nat} (h1 : Reads W (.slice p1 (digs m).length q1) (digs m)) (h2 : Reads W (.slice p2 (digs n).length q2) (digs n)) => d_quo Q R h1 h2 (by omega) (by omega) (hz) (hQ) (hR)
  have k13 := fun (W : World) {p1 : Option Addr} {q1 : Nat} (h1 : Reads W (.slice p1 (digs Q).length q1) (digs Q)) => d_back  h1 (by omega) (by omega)
  have k14 := fun (W : World) {p1 : Option Addr} {q1 : Nat} (h1 : Reads W (.slice p1 (digs R).length q1) (digs R)) => d_back  h1 (by omega) (by omega)
  have eC := wrap_no hc
  rw [← hS] at eC
  have bC : (m : Int) ≤ (S : Int) := by omega
  have bC2 : ¬ (S : Int) < (m : Int) := by omega
  have o1 : ¬ (m : Int) < (n : Int) := by omega
  have o2 : ¬ (n : Int) < (m : Int) := by omega
  clear Lm Ln hS LS hX LX hY LY hP LP hQ LQ hR LR hc ho hz
  have r0 := Below.refl w.heap.size w
  go_enter Try.func8, Try.ntmps8
  go_wp2_with (first
    | (go_at_call 24; with_reducible refine (k1 w ).mono ?_; rintro e w1 ⟨x1_0, y1_0, rfl, ga, r1⟩; replace r0 := then_below r0 r1)
    | (go_at_call 24; with_reducible refine (k2 w1 ).mono ?_; rintro e w2 ⟨x2_0, y2_0, rfl, gb, r2⟩; replace r0 := then_below r0 r2; replace ga := ga.below r2)
    | (go_at_call 25; with_reducible refine (k3 w2 ga).mono ?_; rintro e w3 ⟨rfl, r3⟩; replace r0 := then_below r0 r3; replace ga := ga.below r3; replace gb := gb.below r3)
    | (go_at_call 12; with_reducible refine (k4 w3 ga gb).mono ?_; rintro e w4 ⟨x4_0, y4_0, rfl, gs, r4⟩; replace r0 := then_below r0 r4; replace ga := ga.below r4; replace gb := gb.below r4)
    | (go_at_call 25; with_reducible refine (k5 w4 gs).mono ?_; rintro e w5 ⟨rfl, r5⟩; replace r0 := then_below r0 r5; replace ga := ga.below r5; replace gb := gb.below r5)
    | (go_at_call 24; with_reducible refine (k6 w5 ).mono ?_; rintro e w6 ⟨x6_0, y6_0, rfl, gx, r6⟩; replace r0 := then_below r0 r6; replace ga := ga.below r6; replace gb := gb.below r6)
    | (go_at_call 24; with_reducible refine (k7 w6 ).mono ?_; rintro e w7 ⟨x7_0, y7_0, rfl, gy, r7⟩; replace r0 := then_below r0 r7; replace ga := ga.below r7; replace gb := gb.below r7; replace gx := gx.below r7)
    | (go_at_call 13; with_reducible refine (k8 w7 gx gy).mono ?_; rintro e w8 ⟨x8_0, y8_0, rfl, gp, r8⟩; replace r0 := then_below r0 r8; replace ga := ga.below r8; replace gb := gb.below r8)
    | (go_at_call 25; with_reducible refine (k9 w8 gp).mono ?_; rintro e w9 ⟨rfl, r9⟩; replace r0 := then_below r0 r9; replace ga := ga.below r9; replace gb := gb.below r9)
    | (go_at_call 11; with_reducible refine (alive_any w9).mono ?_; rintro e w10 ⟨rfl, r10⟩; replace r0 := then_below r0 r10; replace ga := ga.below r10; replace gb := gb.below r10)
    | (go_at_call 17; with_reducible refine (k10 w10 ga gb).mono ?_; rintro e w11 ⟨rfl, r11⟩; replace r0 := then_below r0 r11; replace ga := ga.below r11; replace gb := gb.below r11)
    | (go_at_call 17; with_reducible refine (k11 w11 ga gb).mono ?_; rintro e w12 ⟨rfl, r12⟩; replace r0 := then_below r0 r12; replace ga := ga.below r12; replace gb := gb.below r12)
    | (go_at_call 16; with_reducible refine (k12 w12 ga gb).mono ?_; rintro e w13 ⟨x13_0, y13_0, x13_1, y13_1, rfl, gq, gr, r13⟩; replace r0 := then_below r0 r13)
    | (go_at_call 25; with_reducible refine (k13 w13 gq).mono ?_; rintro e w14 ⟨rfl, r14⟩; replace r0 := then_below r0 r14; replace gr := gr.below r14)
    | (go_at_call 25; with_reducible refine (k14 w14 gr).mono ?_; rintro e w15 ⟨rfl, r15⟩; replace r0 := then_below r0 r15))
  go_ret
  exact ⟨rfl, r0⟩

set_option maxRecDepth 100000 in
set_option maxHeartbeats 2000000 in
theorem small_0_eq_1 {w : World} {m n : Nat} (b1 : m < 18446744073709551616) (b2 : n < 18446744073709551616) (hc : m + n < 18446744073709551616) (ho : m = n) (hz : n = 0) :
    Calls Try.prog 8 #[.int .u64 m, .int .u64 n] w fun e w' => e = .returned (.bool true) ∧ Below w.heap.size w w' := by
  have Lm := len64 b1
  have Ln := len64 b2
  obtain ⟨S, hS⟩ : ∃ S, S = m + n := ⟨_, rfl⟩
  have LS : (digs S).length ≤ 5 := by rw [hS]; have := digs_add_le m n; omega
  obtain ⟨X, hX⟩ : ∃ X, X = m / 4294967296 := ⟨_, rfl⟩
  have LX : (digs X).length ≤ 2 := by rw [hX]; exact len64 (by omega)
  obtain ⟨Y, hY⟩ : ∃ Y, Y = n / 4294967296 := ⟨_, rfl⟩
  have LY : (digs Y).length ≤ 2 := by rw [hY]; exact len64 (by omega)
  have bX : X < 18446744073709551616 := by omega
  have bY : Y < 18446744073709551616 := by omega
  obtain ⟨P, hP⟩ : ∃ P, P = X * Y := ⟨_, rfl⟩
  have LP : (digs P).length ≤ 2 := by rw [hP]; rw [hX, hY]; exact len64 (mul_half b1 b2)
  have bP : P < 18446744073709551616 := by rw [hP, hX, hY]; exact mul_half b1 b2
  have eX : (m : Int) / 4294967296 = (X : Int) := by omega
  have eY : (n : Int) / 4294967296 = (Y : Int) := by omega
  have eP : (X : Int) * (Y : Int) = (P : Int) := by rw [hP]; exact (Int.natCast_mul X Y).symm
  have j0 : ((n : Int) == 0) = true := by rw [hz]; rfl
  have k1 := fun (W : World) => d_of (w := W) m (by omega)
  have k2 := fun (W : World) => d_of (w := W) n (by omega)
  have k3 := fun (W : World) {p1 : Option Addr} {q1 : Nat} (h1 : Reads W (.slice p1 (digs m).length q1) (digs m)) => d_back  h1 (by omega) (by omega)
  have k4 := fun (W : World) {p1 : Option Addr} {q1 : Nat} {p2 : Option Addr} {q2 : Nat} (h1 : Reads W (.slice p1 (digs m).length q1) (digs m)) (h2 : Reads W (.slice p2 (digs n).length q2) (digs n)) => d_add S h1 h2 (by omega) (by omega) (hS)
  have k5 := fun (W : World) {p1 : Option Addr} {q1 : Nat} (h1 : Reads W (.slice p1 (digs S).length q1) (digs S)) => d_back  h1 (by omega) (by omega)
  have k6 := fun (W : World) => d_of (w := W) X (by omega)
  have k7 := fun (W : World) => d_of (w := W) Y (by omega)
  have k8 := fun (W : World) {p1 : Option Addr} {q1 : Nat} {p2 : Option Addr} {q2 : Nat} (h1 : Reads W (.slice p1 (digs X).length q1) (digs X)) (h2 : Reads W (.slice p2 (digs Y).length q2) (digs Y)) => d_mul P h1 h2 (by omega) (by omega) (hP)
  have k9 := fun (W : World) {p1 : Option Addr} {q1 : Nat} (h1 : Reads W (.slice p1 (digs P).length q1) (digs P)) => d_back  h1 (by omega) (by omega)
  have k10 := fun (W : World) {p1 : Option Addr} {q1 : Nat} {p2 : Option Addr} {q2 : Nat} (h1 : Reads W (.slice p1 (digs m).length q1) (digs m)) (h2 : Reads W (.slice p2 (digs n).length q2) (digs n)) => d_cmp (0) h1 h2 (by omega) (by omega) (by simp [sgn, ho])
  have k11 := fun (W : World) {p1 : Option Addr} {q1 : Nat} {p2 : Option Addr} {q2 : Nat} (h1 : Reads W (.slice p1 (digs m).length q1) (digs m)) (h2 : Reads W (.slice p2 (digs n).length q2) (digs n)) => d_cmp (0) h1 h2 (by omega) (by omega) (by simp [sgn, ho])
  have k12 := fun (W : World) {p1 : Option Addr} {q1 : Nat} {p2 : Option Addr} {q2 : Nat} (h1 : Reads W (.slice p1 (digs m).length q1) (digs m)) (h2 : Reads W (.slice p2 (digs n).length q2) (digs n)) => d_divzero h1 h2 (by omega) hz
  have eC := wrap_no hc
  rw [← hS] at eC
  have bC : (m : Int) ≤ (S : Int) := by omega
  have bC2 : ¬ (S : Int) < (m : Int) := by omega
  have o1 : ¬ (m : Int) < (n : Int) := by omega
  have o2 : ¬ (n : Int) < (m : Int) := by omega
  clear Lm Ln hS LS hX LX hY LY hP LP hc ho hz
  have r0 := Below.refl w.heap.size w
  go_enter Try.func8, Try.ntmps8
  go_wp2_with (first
    | (go_at_call 24; with_reducible refine (k1 w ).mono ?_; rintro e w1 ⟨x1_0, y1_0, rfl, ga, r1⟩; replace r0 := then_below r0 r1)
    | (go_at_call 24; with_reducible refine (k2 w1 ).mono ?_; rintro e w2 ⟨x2_0, y2_0, rfl, gb, r2⟩; replace r0 := then_below r0 r2; replace ga := ga.below r2)
    | (go_at_call 25; with_reducible refine (k3 w2 ga).mono ?_; rintro e w3 ⟨rfl, r3⟩; replace r0 := then_below r0 r3; replace ga := ga.below r3; replace gb := gb.below r3)
    | (go_at_call 12; with_reducible refine (k4 w3 ga gb).mono ?_; rintro e w4 ⟨x4_0, y4_0, rfl, gs, r4⟩; replace r0 := then_below r0 r4; replace ga := ga.below r4; replace gb := gb.below r4)
    | (go_at_call 25; with_reducible refine (k5 w4 gs).mono ?_; rintro e w5 ⟨rfl, r5⟩; replace r0 := then_below r0 r5; replace ga := ga.below r5; replace gb := gb.below r5)
    | (go_at_call 24; with_reducible refine (k6 w5 ).mono ?_; rintro e w6 ⟨x6_0, y6_0, rfl, gx, r6⟩; replace r0 := then_below r0 r6; replace ga := ga.below r6; replace gb := gb.below r6)
    | (go_at_call 24; with_reducible refine (k7 w6 ).mono ?_; rintro e w7 ⟨x7_0, y7_0, rfl, gy, r7⟩; replace r0 := then_below r0 r7; replace ga := ga.below r7; replace gb := gb.below r7; replace gx := gx.below r7)
    | (go_at_call 13; with_reducible refine (k8 w7 gx gy).mono ?_; rintro e w8 ⟨x8_0, y8_0, rfl, gp, r8⟩; replace r0 := then_below r0 r8; replace ga := ga.below r8; replace gb := gb.below r8)
    | (go_at_call 25; with_reducible refine (k9 w8 gp).mono ?_; rintro e w9 ⟨rfl, r9⟩; replace r0 := then_below r0 r9; replace ga := ga.below r9; replace gb := gb.below r9)
    | (go_at_call 11; with_reducible refine (alive_any w9).mono ?_; rintro e w10 ⟨rfl, r10⟩; replace r0 := then_below r0 r10; replace ga := ga.below r10; replace gb := gb.below r10)
    | (go_at_call 17; with_reducible refine (k10 w10 ga gb).mono ?_; rintro e w11 ⟨rfl, r11⟩; replace r0 := then_below r0 r11; replace ga := ga.below r11; replace gb := gb.below r11)
    | (go_at_call 17; with_reducible refine (k11 w11 ga gb).mono ?_; rintro e w12 ⟨rfl, r12⟩; replace r0 := then_below r0 r12; replace ga := ga.below r12; replace gb := gb.below r12)
    | (go_at_call 16; with_reducible refine (k12 w12 ga gb).mono ?_; rintro e w13 ⟨rfl, r13⟩; replace r0 := then_below r0 r13))
  go_ret
  exact ⟨rfl, r0⟩

set_option maxRecDepth 100000 in
set_option maxHeartbeats 2000000 in
theorem small_0_gt_0 {w : World} {m n : Nat} (b1 : m < 18446744073709551616) (b2 : n < 18446744073709551616) (hc : m + n < 18446744073709551616) (ho : n < m) (hz : n ≠ 0) :
    Calls Try.prog 8 #[.int .u64 m, .int .u64 n] w fun e w' => e = .returned (.bool true) ∧ Below w.heap.size w w' := by
  have Lm := len64 b1
  have Ln := len64 b2
  obtain ⟨S, hS⟩ : ∃ S, S = m + n := ⟨_, rfl⟩
  have LS : (digs S).length ≤ 5 := by rw [hS]; have := digs_add_le m n; omega
  obtain ⟨X, hX⟩ : ∃ X, X = m / 4294967296 := ⟨_, rfl⟩
  have LX : (digs X).length ≤ 2 := by rw [hX]; exact len64 (by omega)
  obtain ⟨Y, hY⟩ : ∃ Y, Y = n / 4294967296 := ⟨_, rfl⟩
  have LY : (digs Y).length ≤ 2 := by rw [hY]; exact len64 (by omega)
  have bX : X < 18446744073709551616 := by omega
  have bY : Y < 18446744073709551616 := by omega
  obtain ⟨P, hP⟩ : ∃ P, P = X * Y := ⟨_, rfl⟩
  have LP : (digs P).length ≤ 2 := by rw [hP]; rw [hX, hY]; exact len64 (mul_half b1 b2)
  have bP : P < 18446744073709551616 := by rw [hP, hX, hY]; exact mul_half b1 b2
  have eX : (m : Int) / 4294967296 = (X : Int) := by omega
  have eY : (n : Int) / 4294967296 = (Y : Int) := by omega
  have eP : (X : Int) * (Y : Int) = (P : Int) := by rw [hP]; exact (Int.natCast_mul X Y).symm
  obtain ⟨Q, hQ⟩ : ∃ Q, Q = m / n := ⟨_, rfl⟩
  have LQ : (digs Q).length ≤ 2 := by rw [hQ]; exact len64 (Nat.lt_of_le_of_lt (Nat.div_le_self _ _) b1)
  obtain ⟨R, hR⟩ : ∃ R, R = m % n := ⟨_, rfl⟩
  have LR : (digs R).length ≤ 2 := by rw [hR]; exact len64 (Nat.lt_of_le_of_lt (Nat.mod_le _ _) b1)
  have bQ : Q < 18446744073709551616 := hQ ▸ Nat.lt_of_le_of_lt (Nat.div_le_self _ _) b1
  have bR : R < 18446744073709551616 := hR ▸ Nat.lt_of_le_of_lt (Nat.mod_le _ _) b1
  have eQ : (m : Int) / (n : Int) = (Q : Int) := by rw [hQ]; exact (Int.natCast_ediv m n).symm
  have eR : (m : Int) % (n : Int) = (R : Int) := by rw [hR]; exact (Int.natCast_emod m n).symm
  have j0 : ((n : Int) == 0) = false := beq_false_of_ne (by omega)
  have j1 : ¬ (n : Int) = 0 := by omega
  have k1 := fun (W : World) => d_of (w := W) m (by omega)
  have k2 := fun (W : World) => d_of (w := W) n (by omega)
  have k3 := fun (W : World) {p1 : Option Addr} {q1 : Nat} (h1 : Reads W (.slice p1 (digs m).length q1) (digs m)) => d_back  h1 (by omega) (by omega)
  have k4 := fun (W : World) {p1 : Option Addr} {q1 : Nat} {p2 : Option Addr} {q2 : Nat} (h1 : Reads W (.slice p1 (digs m).length q1) (digs m)) (h2 : Reads W (.slice p2 (digs n).length q2) (digs n)) => d_add S h1 h2 (by omega) (by omega) (hS)
  have k5 := fun (W : World) {p1 : Option Addr} {q1 : Nat} (h1 : Reads W (.slice p1 (digs S).length q1) (digs S)) => d_back  h1 (by omega) (by omega)
  have k6 := fun (W : World) => d_of (w := W) X (by omega)
  have k7 := fun (W : World) => d_of (w := W) Y (by omega)
  have k8 := fun (W : World) {p1 : Option Addr} {q1 : Nat} {p2 : Option Addr} {q2 : Nat} (h1 : Reads W (.slice p1 (digs X).length q1) (digs X)) (h2 : Reads W (.slice p2 (digs Y).length q2) (digs Y)) => d_mul P h1 h2 (by omega) (by omega) (hP)
  have k9 := fun (W : World) {p1 : Option Addr} {q1 : Nat} (h1 : Reads W (.slice p1 (digs P).length q1) (digs P)) => d_back  h1 (by omega) (by omega)
  have k10 := fun (W : World) {p1 : Option Addr} {q1 : Nat} {p2 : Option Addr} {q2 : Nat} (h1 : Reads W (.slice p1 (digs m).length q1) (digs m)) (h2 : Reads W (.slice p2 (digs n).length q2) (digs n)) => d_cmp (1) h1 h2 (by omega) (by omega) (by simp [sgn]; omega)
  have k11 := fun (W : World) {p1 : Option Addr} {q1 : Nat} {p2 : Option Addr} {q2 : Nat} (h1 : Reads W (.slice p1 (digs m).length q1) (digs m)) (h2 : Reads W (.slice p2 (digs n).length q2) (digs n)) => d_cmp (1) h1 h2 (by omega) (by omega) (by simp [sgn]; omega)
  have k12 := fun (W : World) {p1 : Option Addr} {q1 : Nat} {p2 : Option Addr} {q2 : Nat} (h1 : Reads W (.slice p1 (digs m).length q1) (digs m)) (h2 : Reads W (.slice p2 (digs n).length q2) (digs n)) => d_quo Q R h1 h2 (by omega) (by omega) (hz) (hQ) (hR)
  have k13 := fun (W : World) {p1 : Option Addr} {q1 : Nat} (h1 : Reads W (.slice p1 (digs Q).length q1) (digs Q)) => d_back  h1 (by omega) (by omega)
  have k14 := fun (W : World) {p1 : Option Addr} {q1 : Nat} (h1 : Reads W (.slice p1 (digs R).length q1) (digs R)) => d_back  h1 (by omega) (by omega)
  have eC := wrap_no hc
  rw [← hS] at eC
  have bC : (m : Int) ≤ (S : Int) := by omega
  have bC2 : ¬ (S : Int) < (m : Int) := by omega
  have o1 : ¬ (m : Int) < (n : Int) := by omega
  have o2 : (n : Int) < (m : Int) := by omega
  clear Lm Ln hS LS hX LX hY LY hP LP hQ LQ hR LR hc ho hz
  have r0 := Below.refl w.heap.size w
  go_enter Try.func8, Try.ntmps8
  go_wp2_with (first
    | (go_at_call 24; with_reducible refine (k1 w ).mono ?_; rintro e w1 ⟨x1_0, y1_0, rfl, ga, r1⟩; replace r0 := then_below r0 r1)
    | (go_at_call 24; with_reducible refine (k2 w1 ).mono ?_; rintro e w2 ⟨x2_0, y2_0, rfl, gb, r2⟩; replace r0 := then_below r0 r2; replace ga := ga.below r2)
    | (go_at_call 25; with_reducible refine (k3 w2 ga).mono ?_; rintro e w3 ⟨rfl, r3⟩; replace r0 := then_below r0 r3; replace ga := ga.below r3; replace gb := gb.below r3)
    | (go_at_call 12; with_reducible refine (k4 w3 ga gb).mono ?_; rintro e w4 ⟨x4_0, y4_0, rfl, gs, r4⟩; replace r0 := then_below r0 r4; replace ga := ga.below r4; replace gb := gb.below r4)
    | (go_at_call 25; with_reducible refine (k5 w4 gs).mono ?_; rintro e w5 ⟨rfl, r5⟩; replace r0 := then_below r0 r5; replace ga := ga.below r5; replace gb := gb.below r5)
    | (go_at_call 24; with_reducible refine (k6 w5 ).mono ?_; rintro e w6 ⟨x6_0, y6_0, rfl, gx, r6⟩; replace r0 := then_below r0 r6; replace ga := ga.below r6; replace gb := gb.below r6)
    | (go_at_call 24; with_reducible refine (k7 w6 ).mono ?_; rintro e w7 ⟨x7_0, y7_0, rfl, gy, r7⟩; replace r0 := then_below r0 r7; replace ga := ga.below r7; replace gb := gb.below r7; replace gx := gx.below r7)
    | (go_at_call 13; with_reducible refine (k8 w7 gx gy).mono ?_; rintro e w8 ⟨x8_0, y8_0, rfl, gp, r8⟩; replace r0 := then_below r0 r8; replace ga := ga.below r8; replace gb := gb.below r8)
    | (go_at_call 25; with_reducible refine (k9 w8 gp).mono ?_; rintro e w9 ⟨rfl, r9⟩; replace r0 := then_below r0 r9; replace ga := ga.below r9; replace gb := gb.below r9)
    | (go_at_call 11; with_reducible refine (alive_any w9).mono ?_; rintro e w10 ⟨rfl, r10⟩; replace r0 := then_below r0 r10; replace ga := ga.below r10; replace gb := gb.below r10)
    | (go_at_call 17; with_reducible refine (k10 w10 ga gb).mono ?_; rintro e w11 ⟨rfl, r11⟩; replace r0 := then_below r0 r11; replace ga := ga.below r11; replace gb := gb.below r11)
    | (go_at_call 17; with_reducible refine (k11 w11 ga gb).mono ?_; rintro e w12 ⟨rfl, r12⟩; replace r0 := then_below r0 r12; replace ga := ga.below r12; replace gb := gb.below r12)
    | (go_at_call 16; with_reducible refine (k12 w12 ga gb).mono ?_; rintro e w13 ⟨x13_0, y13_0, x13_1, y13_1, rfl, gq, gr, r13⟩; replace r0 := then_below r0 r13)
    | (go_at_call 25; with_reducible refine (k13 w13 gq).mono ?_; rintro e w14 ⟨rfl, r14⟩; replace r0 := then_below r0 r14; replace gr := gr.below r14)
    | (go_at_call 25; with_reducible refine (k14 w14 gr).mono ?_; rintro e w15 ⟨rfl, r15⟩; replace r0 := then_below r0 r15))
  go_ret
  exact ⟨rfl, r0⟩

set_option maxRecDepth 100000 in
set_option maxHeartbeats 2000000 in
theorem small_0_gt_1 {w : World} {m n : Nat} (b1 : m < 18446744073709551616) (b2 : n < 18446744073709551616) (hc : m + n < 18446744073709551616) (ho : n < m) (hz : n = 0) :
    Calls Try.prog 8 #[.int .u64 m, .int .u64 n] w fun e w' => e = .returned (.bool true) ∧ Below w.heap.size w w' := by
  have Lm := len64 b1
  have Ln := len64 b2
  obtain ⟨S, hS⟩ : ∃ S, S = m + n := ⟨_, rfl⟩
  have LS : (digs S).length ≤ 5 := by rw [hS]; have := digs_add_le m n; omega
  obtain ⟨X, hX⟩ : ∃ X, X = m / 4294967296 := ⟨_, rfl⟩
  have LX : (digs X).length ≤ 2 := by rw [hX]; exact len64 (by omega)
  obtain ⟨Y, hY⟩ : ∃ Y, Y = n / 4294967296 := ⟨_, rfl⟩
  have LY : (digs Y).length ≤ 2 := by rw [hY]; exact len64 (by omega)
  have bX : X < 18446744073709551616 := by omega
  have bY : Y < 18446744073709551616 := by omega
  obtain ⟨P, hP⟩ : ∃ P, P = X * Y := ⟨_, rfl⟩
  have LP : (digs P).length ≤ 2 := by rw [hP]; rw [hX, hY]; exact len64 (mul_half b1 b2)
  have bP : P < 18446744073709551616 := by rw [hP, hX, hY]; exact mul_half b1 b2
  have eX : (m : Int) / 4294967296 = (X : Int) := by omega
  have eY : (n : Int) / 4294967296 = (Y : Int) := by omega
  have eP : (X : Int) * (Y : Int) = (P : Int) := by rw [hP]; exact (Int.natCast_mul X Y).symm
  have j0 : ((n : Int) == 0) = true := by rw [hz]; rfl
  have k1 := fun (W : World) => d_of (w := W) m (by omega)
  have k2 := fun (W : World) => d_of (w := W) n (by omega)
  have k3 := fun (W : World) {p1 : Option Addr} {q1 : Nat} (h1 : Reads W (.slice p1 (digs m).length q1) (digs m)) => d_back  h1 (by omega) (by omega)
  have k4 := fun (W : World) {p1 : Option Addr} {q1 : Nat} {p2 : Option Addr} {q2 : Nat} (h1 : Reads W (.slice p1 (digs m).length q1) (digs m)) (h2 : Reads W (.slice p2 (digs n).length q2) (digs n)) => d_add S h1 h2 (by omega) (by omega) (hS)
  have k5 := fun (W : World) {p1 : Option Addr} {q1 : Nat} (h1 : Reads W (.slice p1 (digs S).length q1) (digs S)) => d_back  h1 (by omega) (by omega)
  have k6 := fun (W : World) => d_of (w := W) X (by omega)
  have k7 := fun (W : World) => d_of (w := W) Y (by omega)
  have k8 := fun (W : World) {p1 : Option Addr} {q1 : Nat} {p2 : Option Addr} {q2 : Nat} (h1 : Reads W (.slice p1 (digs X).length q1) (digs X)) (h2 : Reads W (.slice p2 (digs Y).length q2) (digs Y)) => d_mul P h1 h2 (by omega) (by omega) (hP)
  have k9 := fun (W : World) {p1 : Option Addr} {q1 : Nat} (h1 : Reads W (.slice p1 (digs P).length q1) (digs P)) => d_back  h1 (by omega) (by omega)
  have k10 := fun (W : World) {p1 : Option Addr} {q1 : Nat} {p2 : Option Addr} {q2 : Nat} (h1 : Reads W (.slice p1 (digs m).length q1) (digs m)) (h2 : Reads W (.slice p2 (digs n).length q2) (digs n)) => d_cmp (1) h1 h2 (by omega) (by omega) (by simp [sgn]; omega)
  have k11 := fun (W : World) {p1 : Option Addr} {q1 : Nat} {p2 : Option Addr} {q2 : Nat} (h1 : Reads W (.slice p1 (digs m).length q1) (digs m)) (h2 : Reads W (.slice p2 (digs n).length q2) (digs n)) => d_cmp (1) h1 h2 (by omega) (by omega) (by simp [sgn]; omega)
  have k12 := fun (W : World) {p1 : Option Addr} {q1 : Nat} {p2 : Option Addr} {q2 : Nat} (h1 : Reads W (.slice p1 (digs m).length q1) (digs m)) (h2 : Reads W (.slice p2 (digs n).length q2) (digs n)) => d_divzero h1 h2 (by omega) hz
  have eC := wrap_no hc
  rw [← hS] at eC
  have bC : (m : Int) ≤ (S : Int) := by omega
  have bC2 : ¬ (S : Int) < (m : Int) := by omega
  have o1 : ¬ (m : Int) < (n : Int) := by omega
  have o2 : (n : Int) < (m : Int) := by omega
  clear Lm Ln hS LS hX LX hY LY hP LP hc ho hz
  have r0 := Below.refl w.heap.size w
  go_enter Try.func8, Try.ntmps8
  go_wp2_with (first
    | (go_at_call 24; with_reducible refine (k1 w ).mono ?_; rintro e w1 ⟨x1_0, y1_0, rfl, ga, r1⟩; replace r0 := then_below r0 r1)
    | (go_at_call 24; with_reducible refine (k2 w1 ).mono ?_; rintro e w2 ⟨x2_0, y2_0, rfl, gb, r2⟩; replace r0 := then_below r0 r2; replace ga := ga.below r2)
    | (go_at_call 25; with_reducible refine (k3 w2 ga).mono ?_; rintro e w3 ⟨rfl, r3⟩; replace r0 := then_below r0 r3; replace ga := ga.below r3; replace gb := gb.below r3)
    | (go_at_call 12; with_reducible refine (k4 w3 ga gb).mono ?_; rintro e w4 ⟨x4_0, y4_0, rfl, gs, r4⟩; replace r0 := then_below r0 r4; replace ga := ga.below r4; replace gb := gb.below r4)
    | (go_at_call 25; with_reducible refine (k5 w4 gs).mono ?_; rintro e w5 ⟨rfl, r5⟩; replace r0 := then_below r0 r5; replace ga := ga.below r5; replace gb := gb.below r5)
    | (go_at_call 24; with_reducible refine (k6 w5 ).mono ?_; rintro e w6 ⟨x6_0, y6_0, rfl, gx, r6⟩; replace r0 := then_below r0 r6; replace ga := ga.below r6; replace gb := gb.below r6)
    | (go_at_call 24; with_reducible refine (k7 w6 ).mono ?_; rintro e w7 ⟨x7_0, y7_0, rfl, gy, r7⟩; replace r0 := then_below r0 r7; replace ga := ga.below r7; replace gb := gb.below r7; replace gx := gx.below r7)
    | (go_at_call 13; with_reducible refine (k8 w7 gx gy).mono ?_; rintro e w8 ⟨x8_0, y8_0, rfl, gp, r8⟩; replace r0 := then_below r0 r8; replace ga := ga.below r8; replace gb := gb.below r8)
    | (go_at_call 25; with_reducible refine (k9 w8 gp).mono ?_; rintro e w9 ⟨rfl, r9⟩; replace r0 := then_below r0 r9; replace ga := ga.below r9; replace gb := gb.below r9)
    | (go_at_call 11; with_reducible refine (alive_any w9).mono ?_; rintro e w10 ⟨rfl, r10⟩; replace r0 := then_below r0 r10; replace ga := ga.below r10; replace gb := gb.below r10)
    | (go_at_call 17; with_reducible refine (k10 w10 ga gb).mono ?_; rintro e w11 ⟨rfl, r11⟩; replace r0 := then_below r0 r11; replace ga := ga.below r11; replace gb := gb.below r11)
    | (go_at_call 17; with_reducible refine (k11 w11 ga gb).mono ?_; rintro e w12 ⟨rfl, r12⟩; replace r0 := then_below r0 r12; replace ga := ga.below r12; replace gb := gb.below r12)
    | (go_at_call 16; with_reducible refine (k12 w12 ga gb).mono ?_; rintro e w13 ⟨rfl, r13⟩; replace r0 := then_below r0 r13))
  go_ret
  exact ⟨rfl, r0⟩

set_option maxRecDepth 100000 in
set_option maxHeartbeats 2000000 in
theorem small_1_lt_0 {w : World} {m n : Nat} (b1 : m < 18446744073709551616) (b2 : n < 18446744073709551616) (hc : 18446744073709551616 ≤ m + n) (ho : m < n) (hz : n ≠ 0) :
    Calls Try.prog 8 #[.int .u64 m, .int .u64 n] w fun e w' => e = .returned (.bool true) ∧ Below w.heap.size w w' := by
  have Lm := len64 b1
  have Ln := len64 b2
  obtain ⟨S, hS⟩ : ∃ S, S = m + n := ⟨_, rfl⟩
  have LS : (digs S).length ≤ 5 := by rw [hS]; have := digs_add_le m n; omega
  obtain ⟨X, hX⟩ : ∃ X, X = m / 4294967296 := ⟨_, rfl⟩
  have LX : (digs X).length ≤ 2 := by rw [hX]; exact len64 (by omega)
  obtain ⟨Y, hY⟩ : ∃ Y, Y = n / 4294967296 := ⟨_, rfl⟩
  have LY : (digs Y).length ≤ 2 := by rw [hY]; exact len64 (by omega)
  have bX : X < 18446744073709551616 := by omega
  have bY : Y < 18446744073709551616 := by omega
  obtain ⟨P, hP⟩ : ∃ P, P = X * Y := ⟨_, rfl⟩
  have LP : (digs P).length ≤ 2 := by rw [hP]; rw [hX, hY]; exact len64 (mul_half b1 b2)
  have bP : P < 18446744073709551616 := by rw [hP, hX, hY]; exact mul_half b1 b2
  have eX : (m : Int) / 4294967296 = (X : Int) := by omega
  have eY : (n : Int) / 4294967296 = (Y : Int) := by omega
  have eP : (X : Int) * (Y : Int) = (P : Int) := by rw [hP]; exact (Int.natCast_mul X Y).symm
  obtain ⟨Q, hQ⟩ : ∃ Q, Q = m / n := ⟨_, rfl⟩
  have LQ : (digs Q).length ≤ 2 := by rw [hQ]; exact len64 (Nat.lt_of_le_of_lt (Nat.div_le_self _ _) b1)
  obtain ⟨R, hR⟩ : ∃ R, R = m % n := ⟨_, rfl⟩
  have LR : (digs R).length ≤ 2 := by rw [hR]; exact len64 (Nat.lt_of_le_of_lt (Nat.mod_le _ _) b1)
  have bQ : Q < 18446744073709551616 := hQ ▸ Nat.lt_of_le_of_lt (Nat.div_le_self _ _) b1
  have bR : R < 18446744073709551616 := hR ▸ Nat.lt_of_le_of_lt (Nat.mod_le _ _) b1
  have eQ : (m : Int) / (n : Int) = (Q : Int) := by rw [hQ]; exact (Int.natCast_ediv m n).symm
  have eR : (m : Int) % (n : Int) = (R : Int) := by rw [hR]; exact (Int.natCast_emod m n).symm
  have j0 : ((n : Int) == 0) = false := beq_false_of_ne (by omega)
  have j1 : ¬ (n : Int) = 0 := by omega
  have k1 := fun (W : World) => d_of (w := W) m (by omega)
  have k2 := fun (W : World) => d_of (w := W) n (by omega)
  have k3 := fun (W : World) {p1 : Option Addr} {q1 : Nat} (h1 : Reads W (.slice p1 (digs m).length q1) (digs m)) => d_back  h1 (by omega) (by omega)
  have k4 := fun (W : World) {p1 : Option Addr} {q1 : Nat} {p2 : Option Addr} {q2 : Nat} (h1 : Reads W (.slice p1 (digs m).length q1) (digs m)) (h2 : Reads W (.slice p2 (digs n).length q2) (digs n)) => d_add S h1 h2 (by omega) (by omega) (hS)
  have k5 := fun (W : World) {p1 : Option Addr} {q1 : Nat} (h1 : Reads W (.slice p1 (digs S).length q1) (digs S)) => d_backno  h1 (by omega) (by omega)
  have k6 := fun (W : World) => d_of (w := W) X (by omega)
  have k7 := fun (W : World) => d_of (w := W) Y (by omega)
  have k8 := fun (W : World) {p1 : Option Addr} {q1 : Nat} {p2 : Option Addr} {q2 : Nat} (h1 : Reads W (.slice p1 (digs X).length q1) (digs X)) (h2 : Reads W (.slice p2 (digs Y).length q2) (digs Y)) => d_mul P h1 h2 (by omega) (by omega) (hP)
  have k9 := fun (W : World) {p1 : Option Addr} {q1 : Nat} (h1 : Reads W (.slice p1 (digs P).length q1) (digs P)) => d_back  h1 (by omega) (by omega)
  have k10 := fun (W : World) {p1 : Option Addr} {q1 : Nat} {p2 : Option Addr} {q2 : Nat} (h1 : Reads W (.slice p1 (digs m).length q1) (digs m)) (h2 : Reads W (.slice p2 (digs n).length q2) (digs n)) => d_cmp (-1) h1 h2 (by omega) (by omega) (by simp [sgn, ho])
  have k11 := fun (W : World) {p1 : Option Addr} {q1 : Nat} {p2 : Option Addr} {q2 : Nat} (h1 : Reads W (.slice p1 (digs m).length q1) (digs m)) (h2 : Reads W (.slice p2 (digs n).length q2) (digs n)) => d_cmp (-1) h1 h2 (by omega) (by omega) (by simp [sgn, ho])
  have k12 := fun (W : World) {p1 : Option Addr} {q1 : Nat} {p2 : Option Addr} {q2 : Nat} (h1 : Reads W (.slice p1 (digs m).length q1) (digs m)) (h2 : Reads W (.slice p2 (digs n).length q2) (digs n)) => d_quo Q R h1 h2 (by omega) (by omega) (hz) (hQ) (hR)
  have k13 := fun (W : World) {p1 : Option Addr} {q1 : Nat} (h1 : Reads W (.slice p1 (digs Q).length q1) (digs Q)) => d_back  h1 (by omega) (by omega)
  have k14 := fun (W : World) {p1 : Option Addr} {q1 : Nat} (h1 : Reads W (.slice p1 (digs R).length q1) (digs R)) => d_back  h1 (by omega) (by omega)
  obtain ⟨C, eC, bC⟩ := wrap_yes b1 b2 hc
  have bC1 : (C : Int) < (m : Int) := by omega
  have o1 : (m : Int) < (n : Int) := by omega
  have o2 : ¬ (n : Int) < (m : Int) := by omega
  clear Lm Ln hS LS hX LX hY LY hP LP hQ LQ hR LR hc ho hz
  have r0 := Below.refl w.heap.size w
  go_enter Try.func8, Try.ntmps8
  go_wp2_with (first
    | (go_at_call 24; with_reducible refine (k1 w ).mono ?_; rintro e w1 ⟨x1_0, y1_0, rfl, ga, r1⟩; replace r0 := then_below r0 r1)
    | (go_at_call 24; with_reducible refine (k2 w1 ).mono ?_; rintro e w2 ⟨x2_0, y2_0, rfl, gb, r2⟩; replace r0 := then_below r0 r2; replace ga := ga.below r2)
    | (go_at_call 25; with_reducible refine (k3 w2 ga).mono ?_; rintro e w3 ⟨rfl, r3⟩; replace r0 := then_below r0 r3; replace ga := ga.below r3; replace gb := gb.below r3)
    | (go_at_call 12; with_reducible refine (k4 w3 ga gb).mono ?_; rintro e w4 ⟨x4_0, y4_0, rfl, gs, r4⟩; replace r0 := then_below r0 r4; replace ga := ga.below r4; replace gb := gb.below r4)
    | (go_at_call 25; with_reducible refine (k5 w4 gs).mono ?_; rintro e w5 ⟨rfl, r5⟩; replace r0 := then_below r0 r5; replace ga := ga.below r5; replace gb := gb.below r5)
    | (go_at_call 24; with_reducible refine (k6 w5 ).mono ?_; rintro e w6 ⟨x6_0, y6_0, rfl, gx, r6⟩; replace r0 := then_below r0 r6; replace ga := ga.below r6; replace gb := gb.below r6)
    | (go_at_call 24; with_reducible refine (k7 w6 ).mono ?_; rintro e w7 ⟨x7_0, y7_0, rfl, gy, r7⟩; replace r0 := then_below r0 r7; replace ga := ga.below r7; replace gb := gb.below r7; replace gx := gx.below r7)
    | (go_at_call 13; with_reducible refine (k8 w7 gx gy).mono ?_; rintro e w8 ⟨x8_0, y8_0, rfl, gp, r8⟩; replace r0 := then_below r0 r8; replace ga := ga.below r8; replace gb := gb.below r8)
    | (go_at_call 25; with_reducible refine (k9 w8 gp).mono ?_; rintro e w9 ⟨rfl, r9⟩; replace r0 := then_below r0 r9; replace ga := ga.below r9; replace gb := gb.below r9)
    | (go_at_call 11; with_reducible refine (alive_any w9).mono ?_; rintro e w10 ⟨rfl, r10⟩; replace r0 := then_below r0 r10; replace ga := ga.below r10; replace gb := gb.below r10)
    | (go_at_call 17; with_reducible refine (k10 w10 ga gb).mono ?_; rintro e w11 ⟨rfl, r11⟩; replace r0 := then_below r0 r11; replace ga := ga.below r11; replace gb := gb.below r11)
    | (go_at_call 17; with_reducible refine (k11 w11 ga gb).mono ?_; rintro e w12 ⟨rfl, r12⟩; replace r0 := then_below r0 r12; replace ga := ga.below r12; replace gb := gb.below r12)
    | (go_at_call 16; with_reducible refine (k12 w12 ga gb).mono ?_; rintro e w13 ⟨x13_0, y13_0, x13_1, y13_1, rfl, gq, gr, r13⟩; replace r0 := then_below r0 r13)
    | (go_at_call 25; with_reducible refine (k13 w13 gq).mono ?_; rintro e w14 ⟨rfl, r14⟩; replace r0 := then_below r0 r14; replace gr := gr.below r14)
    | (go_at_call 25; with_reducible refine (k14 w14 gr).mono ?_; rintro e w15 ⟨rfl, r15⟩; replace r0 := then_below r0 r15))
  go_ret
  exact ⟨rfl, r0⟩

set_option maxRecDepth 100000 in
set_option maxHeartbeats 2000000 in
theorem small_1_eq_0 {w : World} {m n : Nat} (b1 : m < 18446744073709551616) (b2 : n < 18446744073709551616) (hc : 18446744073709551616 ≤ m + n) (ho : m = n) (hz : n ≠ 0) :
    Calls Try.prog 8 #[.int .u64 m, .int .u64 n] w fun e w' => e = .returned (.bool true) ∧ Below w.heap.size w w' := by
  have Lm := len64 b1
  have Ln := len64 b2
  obtain ⟨S, hS⟩ : ∃ S, S = m + n := ⟨_, rfl⟩
  have LS : (digs S).length ≤ 5 := by rw [hS]; have := digs_add_le m n; omega
  obtain ⟨X, hX⟩ : ∃ X, X = m / 4294967296 := ⟨_, rfl⟩
  have LX : (digs X).length ≤ 2 := by rw [hX]; exact len64 (by omega)
  obtain ⟨Y, hY⟩ : ∃ Y, Y = n / 4294967296 := ⟨_, rfl⟩
  have LY : (digs Y).length ≤ 2 := by rw [hY]; exact len64 (by omega)
  have bX : X < 18446744073709551616 := by omega
  have bY : Y < 18446744073709551616 := by omega
  obtain ⟨P, hP⟩ : ∃ P, P = X * Y := ⟨_, rfl⟩
  have LP : (digs P).length ≤ 2 := by rw [hP]; rw [hX, hY]; exact len64 (mul_half b1 b2)
  have bP : P < 18446744073709551616 := by rw [hP, hX, hY]; exact mul_half b1 b2
  have eX : (m : Int) / 4294967296 = (X : Int) := by omega
  have eY : (n : Int) / 4294967296 = (Y : Int) := by omega
  have eP : (X : Int) * (Y : Int) = (P : Int) := by rw [hP]; exact (Int.natCast_mul X Y).symm
  obtain ⟨Q, hQ⟩ : ∃ Q, Q = m / n := ⟨_, rfl⟩
  have LQ : (digs Q).length ≤ 2 := by rw [hQ]; exact len64 (Nat.lt_of_le_of_lt (Nat.div_le_self _ _) b1)
  obtain ⟨R, hR⟩ : ∃ R, R = m % n := ⟨_, rfl⟩
  have LR : (digs R).length ≤ 2 := by rw [hR]; exact len64 (Nat.lt_of_le_of_lt (Nat.mod_le _ _) b1)
  have bQ : Q < 18446744073709551616 := hQ ▸ Nat.lt_of_le_of_lt (Nat.div_le_self _ _) b1
  have bR : R < 18446744073709551616 := hR ▸ Nat.lt_of_le_of_lt (Nat.mod_le _ _) b1
  have eQ : (m : Int) / (n : Int) = (Q : Int) := by rw [hQ]; exact (Int.natCast_ediv m n).symm
  have eR : (m : Int) % (n : Int) = (R : Int) := by rw [hR]; exact (Int.natCast_emod m n).symm
  have j0 : ((n : Int) == 0) = false := beq_false_of_ne (by omega)
  have j1 : ¬ (n : Int) = 0 := by omega
  have k1 := fun (W : World) => d_of (w := W) m (by omega)
  have k2 := fun (W : World) => d_of (w := W) n (by omega)
  have k3 := fun (W : World) {p1 : Option Addr} {q1 : Nat} (h1 : Reads W (.slice p1 (digs m).length q1) (digs m)) => d_back  h1 (by omega) (by omega)
  have k4 := fun (W : World) {p1 : Option Addr} {q1 : Nat} {p2 : Option Addr} {q2 : Nat} (h1 : Reads W (.slice p1 (digs m).length q1) (digs m)) (h2 : Reads W (.slice p2 (digs n).length q2) (digs n)) => d_add S h1 h2 (by omega) (by omega) (hS)
  have k5 := fun (W : World) {p1 : Option Addr} {q1 : Nat} (h1 : Reads W (.slice p1 (digs S).length q1) (digs S)) => d_backno  h1 (by omega) (by omega)
  have k6 := fun (W : World) => d_of (w := W) X (by omega)
  have k7 := fun (W : World) => d_of (w := W) Y (by omega)
  have k8 := fun (W : World) {p1 : Option Addr} {q1 : Nat} {p2 : Option Addr} {q2 : Nat} (h1 : Reads W (.slice p1 (digs X).length q1) (digs X)) (h2 : Reads W (.slice p2 (digs Y).length q2) (digs Y)) => d_mul P h1 h2 (by omega) (by omega) (hP)
  have k9 := fun (W : World) {p1 : Option Addr} {q1 : Nat} (h1 : Reads W (.slice p1 (digs P).length q1) (digs P)) => d_back  h1 (by omega) (by omega)
  have k10 := fun (W : World) {p1 : Option Addr} {q1 : Nat} {p2 : Option Addr} {q2 : Nat} (h1 : Reads W (.slice p1 (digs m).length q1) (digs m)) (h2 : Reads W (.slice p2 (digs n).length q2) (digs n)) => d_cmp (0) h1 h2 (by omega) (by omega) (by simp [sgn, ho])
  have k11 := fun (W : World) {p1 : Option Addr} {q1 : Nat} {p2 : Option Addr} {q2 : Nat} (h1 : Reads W (.slice p1 (digs m).length q1) (digs m)) (h2 : Reads W (.slice p2 (digs n).length q2) (digs n)) => d_cmp (0) h1 h2 (by omega) (by omega) (by simp [sgn, ho])
  have k12 := fun (W : World) {p1 : Option Addr} {q1 : Nat} {p2 : Option Addr} {q2 : Nat} (h1 : Reads W (.slice p1 (digs m).length q1) (digs m)) (h2 : Reads W (.slice p2 (digs n).length q2) (digs n)) => d_quo Q R h1 h2 (by omega) (by omega) (hz) (hQ) (hR)
  have k13 := fun (W : World) {p1 : Option Addr} {q1 : Nat} (h1 : Reads W (.slice p1 (digs Q).length q1) (digs Q)) => d_back  h1 (by omega) (by omega)
  have k14 := fun (W : World) {p1 : Option Addr} {q1 : Nat} (h1 : Reads W (.slice p1 (digs R).length q1) (digs R)) => d_back  h1 (by omega) (by omega)
  obtain ⟨C, eC, bC⟩ := wrap_yes b1 b2 hc
  have bC1 : (C : Int) < (m : Int) := by omega
  have o1 : ¬ (m : Int) < (n : Int) := by omega
  have o2 : ¬ (n : Int) < (m : Int) := by omega
  clear Lm Ln hS LS hX LX hY LY hP LP hQ LQ hR LR hc ho hz
  have r0 := Below.refl w.heap.size w
  go_enter Try.func8, Try.ntmps8
  go_wp2_with (first
    | (go_at_call 24; with_reducible refine (k1 w ).mono ?_; rintro e w1 ⟨x1_0, y1_0, rfl, ga, r1⟩; replace r0 := then_below r0 r1)
    | (go_at_call 24; with_reducible refine (k2 w1 ).mono ?_; rintro e w2 ⟨x2_0, y2_0, rfl, gb, r2⟩; replace r0 := then_below r0 r2; replace ga := ga.below r2)
    | (go_at_call 25; with_reducible refine (k3 w2 ga).mono ?_; rintro e w3 ⟨rfl, r3⟩; replace r0 := then_below r0 r3; replace ga := ga.below r3; replace gb := gb.below r3)
    | (go_at_call 12; with_reducible refine (k4 w3 ga gb).mono ?_; rintro e w4 ⟨x4_0, y4_0, rfl, gs, r4⟩; replace r0 := then_below r0 r4; replace ga := ga.below r4; replace gb := gb.below r4)
    | (go_at_call 25; with_reducible refine (k5 w4 gs).mono ?_; rintro e w5 ⟨rfl, r5⟩; replace r0 := then_below r0 r5; replace ga := ga.below r5; replace gb := gb.below r5)
    | (go_at_call 24; with_reducible refine (k6 w5 ).mono ?_; rintro e w6 ⟨x6_0, y6_0, rfl, gx, r6⟩; replace r0 := then_below r0 r6; replace ga := ga.below r6; replace gb := gb.below r6)
    | (go_at_call 24; with_reducible refine (k7 w6 ).mono ?_; rintro e w7 ⟨x7_0, y7_0, rfl, gy, r7⟩; replace r0 := then_below r0 r7; replace ga := ga.below r7; replace gb := gb.below r7; replace gx := gx.below r7)
    | (go_at_call 13; with_reducible refine (k8 w7 gx gy).mono ?_; rintro e w8 ⟨x8_0, y8_0, rfl, gp, r8⟩; replace r0 := then_below r0 r8; replace ga := ga.below r8; replace gb := gb.below r8)
    | (go_at_call 25; with_reducible refine (k9 w8 gp).mono ?_; rintro e w9 ⟨rfl, r9⟩; replace r0 := then_below r0 r9; replace ga := ga.below r9; replace gb := gb.below r9)
    | (go_at_call 11; with_reducible refine (alive_any w9).mono ?_; rintro e w10 ⟨rfl, r10⟩; replace r0 := then_below r0 r10; replace ga := ga.below r10; replace gb := gb.below r10)
    | (go_at_call 17; with_reducible refine (k10 w10 ga gb).mono ?_; rintro e w11 ⟨rfl, r11⟩; replace r0 := then_below r0 r11; replace ga := ga.below r11; replace gb := gb.below r11)
    | (go_at_call 17; with_reducible refine (k11 w11 ga gb).mono ?_; rintro e w12 ⟨rfl, r12⟩; replace r0 := then_below r0 r12; replace ga := ga.below r12; replace gb := gb.below r12)
    | (go_at_call 16; with_reducible refine (k12 w12 ga gb).mono ?_; rintro e w13 ⟨x13_0, y13_0, x13_1, y13_1, rfl, gq, gr, r13⟩; replace r0 := then_below r0 r13)
    | (go_at_call 25; with_reducible refine (k13 w13 gq).mono ?_; rintro e w14 ⟨rfl, r14⟩; replace r0 := then_below r0 r14; replace gr := gr.below r14)
    | (go_at_call 25; with_reducible refine (k14 w14 gr).mono ?_; rintro e w15 ⟨rfl, r15⟩; replace r0 := then_below r0 r15))
  go_ret
  exact ⟨rfl, r0⟩

set_option maxRecDepth 100000 in
set_option maxHeartbeats 2000000 in
theorem small_1_gt_0 {w : World} {m n : Nat} (b1 : m < 18446744073709551616) (b2 : n < 18446744073709551616) (hc : 18446744073709551616 ≤ m + n) (ho : n < m) (hz : n ≠ 0) :
    Calls Try.prog 8 #[.int .u64 m, .int .u64 n] w fun e w' => e = .returned (.bool true) ∧ Below w.heap.size w w' := by
  have Lm := len64 b1
  have Ln := len64 b2
  obtain ⟨S, hS⟩ : ∃ S, S = m + n := ⟨_, rfl⟩
  have LS : (digs S).length ≤ 5 := by rw [hS]; have := digs_add_le m n; omega
  obtain ⟨X, hX⟩ : ∃ X, X = m / 4294967296 := ⟨_, rfl⟩
  have LX : (digs X).length ≤ 2 := by rw [hX]; exact len64 (by omega)
  obtain ⟨Y, hY⟩ : ∃ Y, Y = n / 4294967296 := ⟨_, rfl⟩
  have LY : (digs Y).length ≤ 2 := by rw [hY]; exact len64 (by omega)
  have bX : X < 18446744073709551616 := by omega
  have bY : Y < 18446744073709551616 := by omega
  obtain ⟨P, hP⟩ : ∃ P, P = X * Y := ⟨_, rfl⟩
  have LP : (digs P).length ≤ 2 := by rw [hP]; rw [hX, hY]; exact len64 (mul_half b1 b2)
  have bP : P < 18446744073709551616 := by rw [hP, hX, hY]; exact mul_half b1 b2
  have eX : (m : Int) / 4294967296 = (X : Int) := by omega
  have eY : (n : Int) / 4294967296 = (Y : Int) := by omega
  have eP : (X : Int) * (Y : Int) = (P : Int) := by rw [hP]; exact (Int.natCast_mul X Y).symm
  obtain ⟨Q, hQ⟩ : ∃ Q, Q = m / n := ⟨_, rfl⟩
  have LQ : (digs Q).length ≤ 2 := by rw [hQ]; exact len64 (Nat.lt_of_le_of_lt (Nat.div_le_self _ _) b1)
  obtain ⟨R, hR⟩ : ∃ R, R = m % n := ⟨_, rfl⟩
  have LR : (digs R).length ≤ 2 := by rw [hR]; exact len64 (Nat.lt_of_le_of_lt (Nat.mod_le _ _) b1)
  have bQ : Q < 18446744073709551616 := hQ ▸ Nat.lt_of_le_of_lt (Nat.div_le_self _ _) b1
  have bR : R < 18446744073709551616 := hR ▸ Nat.lt_of_le_of_lt (Nat.mod_le _ _) b1
  have eQ : (m : Int) / (n : Int) = (Q : Int) := by rw [hQ]; exact (Int.natCast_ediv m n).symm
  have eR : (m : Int) % (n : Int) = (R : Int) := by rw [hR]; exact (Int.natCast_emod m n).symm
  have j0 : ((n : Int) == 0) = false := beq_false_of_ne (by omega)
  have j1 : ¬ (n : Int) = 0 := by omega
  have k1 := fun (W : World) => d_of (w := W) m (by omega)
  have k2 := fun (W : World) => d_of (w := W) n (by omega)
  have k3 := fun (W : World) {p1 : Option Addr} {q1 : Nat} (h1 : Reads W (.slice p1 (digs m).length q1) (digs m)) => d_back  h1 (by omega) (by omega)
  have k4 := fun (W : World) {p1 : Option Addr} {q1 : Nat} {p2 : Option Addr} {q2 : Nat} (h1 : Reads W (.slice p1 (digs m).length q1) (digs m)) (h2 : Reads W (.slice p2 (digs n).length q2) (digs n)) => d_add S h1 h2 (by omega) (by omega) (hS)
  have k5 := fun (W : World) {p1 : Option Addr} {q1 : Nat} (h1 : Reads W (.slice p1 (digs S).length q1) (digs S)) => d_backno  h1 (by omega) (by omega)
  have k6 := fun (W : World) => d_of (w := W) X (by omega)
  have k7 := fun (W : World) => d_of (w := W) Y (by omega)
  have k8 := fun (W : World) {p1 : Option Addr} {q1 : Nat} {p2 : Option Addr} {q2 : Nat} (h1 : Reads W (.slice p1 (digs X).length q1) (digs X)) (h2 : Reads W (.slice p2 (digs Y).length q2) (digs Y)) => d_mul P h1 h2 (by omega) (by omega) (hP)
  have k9 := fun (W : World) {p1 : Option Addr} {q1 : Nat} (h1 : Reads W (.slice p1 (digs P).length q1) (digs P)) => d_back  h1 (by omega) (by omega)
  have k10 := fun (W : World) {p1 : Option Addr} {q1 : Nat} {p2 : Option Addr} {q2 : Nat} (h1 : Reads W (.slice p1 (digs m).length q1) (digs m)) (h2 : Reads W (.slice p2 (digs n).length q2) (digs n)) => d_cmp (1) h1 h2 (by omega) (by omega) (by simp [sgn]; omega)
  have k11 := fun (W : World) {p1 : Option Addr} {q1 : Nat} {p2 : Option Addr} {q2 : Nat} (h1 : Reads W (.slice p1 (digs m).length q1) (digs m)) (h2 : Reads W (.slice p2 (digs n).length q2) (digs n)) => d_cmp (1) h1 h2 (by omega) (by omega) (by simp [sgn]; omega)
  have k12 := fun (W : World) {p1 : Option Addr} {q1 : Nat} {p2 : Option Addr} {q2 : Nat} (h1 : Reads W (.slice p1 (digs m).length q1) (digs m)) (h2 : Reads W (.slice p2 (digs n).length q2) (digs n)) => d_quo Q R h1 h2 (by omega) (by omega) (hz) (hQ) (hR)
  have k13 := fun (W : World) {p1 : Option Addr} {q1 : Nat} (h1 : Reads W (.slice p1 (digs Q).length q1) (digs Q)) => d_back  h1 (by omega) (by omega)
  have k14 := fun (W : World) {p1 : Option Addr} {q1 : Nat} (h1 : Reads W (.slice p1 (digs R).length q1) (digs R)) => d_back  h1 (by omega) (by omega)
  obtain ⟨C, eC, bC⟩ := wrap_yes b1 b2 hc
  have bC1 : (C : Int) < (m : Int) := by omega
  have o1 : ¬ (m : Int) < (n : Int) := by omega
  have o2 : (n : Int) < (m : Int) := by omega
  clear Lm Ln hS LS hX LX hY LY hP LP hQ LQ hR LR hc ho hz
  have r0 := Below.refl w.heap.size w
  go_enter Try.func8, Try.ntmps8
  go_wp2_with (first
    | (go_at_call 24; with_reducible refine (k1 w ).mono ?_; rintro e w1 ⟨x1_0, y1_0, rfl, ga, r1⟩; replace r0 := then_below r0 r1)
    | (go_at_call 24; with_reducible refine (k2 w1 ).mono ?_; rintro e w2 ⟨x2_0, y2_0, rfl, gb, r2⟩; replace r0 := then_below r0 r2; replace ga := ga.below r2)
    | (go_at_call 25; with_reducible refine (k3 w2 ga).mono ?_; rintro e w3 ⟨rfl, r3⟩; replace r0 := then_below r0 r3; replace ga := ga.below r3; replace gb := gb.below r3)
    | (go_at_call 12; with_reducible refine (k4 w3 ga gb).mono ?_; rintro e w4 ⟨x4_0, y4_0, rfl, gs, r4⟩; replace r0 := then_below r0 r4; replace ga := ga.below r4; replace gb := gb.below r4)
    | (go_at_call 25; with_reducible refine (k5 w4 gs).mono ?_; rintro e w5 ⟨rfl, r5⟩; replace r0 := then_below r0 r5; replace ga := ga.below r5; replace gb := gb.below r5)
    | (go_at_call 24; with_reducible refine (k6 w5 ).mono ?_; rintro e w6 ⟨x6_0, y6_0, rfl, gx, r6⟩; replace r0 := then_below r0 r6; replace ga := ga.below r6; replace gb := gb.below r6)
    | (go_at_call 24; with_reducible refine (k7 w6 ).mono ?_; rintro e w7 ⟨x7_0, y7_0, rfl, gy, r7⟩; replace r0 := then_below r0 r7; replace ga := ga.below r7; replace gb := gb.below r7; replace gx := gx.below r7)
    | (go_at_call 13; with_reducible refine (k8 w7 gx gy).mono ?_; rintro e w8 ⟨x8_0, y8_0, rfl, gp, r8⟩; replace r0 := then_below r0 r8; replace ga := ga.below r8; replace gb := gb.below r8)
    | (go_at_call 25; with_reducible refine (k9 w8 gp).mono ?_; rintro e w9 ⟨rfl, r9⟩; replace r0 := then_below r0 r9; replace ga := ga.below r9; replace gb := gb.below r9)
    | (go_at_call 11; with_reducible refine (alive_any w9).mono ?_; rintro e w10 ⟨rfl, r10⟩; replace r0 := then_below r0 r10; replace ga := ga.below r10; replace gb := gb.below r10)
    | (go_at_call 17; with_reducible refine (k10 w10 ga gb).mono ?_; rintro e w11 ⟨rfl, r11⟩; replace r0 := then_below r0 r11; replace ga := ga.below r11; replace gb := gb.below r11)
    | (go_at_call 17; with_reducible refine (k11 w11 ga gb).mono ?_; rintro e w12 ⟨rfl, r12⟩; replace r0 := then_below r0 r12; replace ga := ga.below r12; replace gb := gb.below r12)
    | (go_at_call 16; with_reducible refine (k12 w12 ga gb).mono ?_; rintro e w13 ⟨x13_0, y13_0, x13_1, y13_1, rfl, gq, gr, r13⟩; replace r0 := then_below r0 r13)
    | (go_at_call 25; with_reducible refine (k13 w13 gq).mono ?_; rintro e w14 ⟨rfl, r14⟩; replace r0 := then_below r0 r14; replace gr := gr.below r14)
    | (go_at_call 25; with_reducible refine (k14 w14 gr).mono ?_; rintro e w15 ⟨rfl, r15⟩; replace r0 := then_below r0 r15))
  go_ret
  exact ⟨rfl, r0⟩

end Go.Proofs.Ytbcipningfdgoaa
