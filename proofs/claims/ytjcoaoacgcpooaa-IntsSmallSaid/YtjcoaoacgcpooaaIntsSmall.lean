/- IntsSmall: its walks. -/
import Derived.Test.YtjcoaoacgcpooaaIntsAlive
namespace Go.Proofs.Ytjcoaoacgcpooaa
open Go Go.Proofs Go.RowKit Go.Shelf Nu

theorem len64i {X : Int} (h1 : -9223372036854775808 ≤ X) (h2 : X ≤ 9223372036854775807) : (digs X.natAbs).length ≤ 2 := digs_length_le (k := 2) (by rw [show (4294967296 : Nat) ^ 2 = 18446744073709551616 from by decide]; omega)
theorem small_mul {m n : Int} (h1 : -2147483648 ≤ m) (h2 : m ≤ 2147483647) (h3 : -2147483648 ≤ n) (h4 : n ≤ 2147483647) : -4611686018427387904 ≤ m * n ∧ m * n ≤ 4611686018427387904 := by
  have k : (m * n).natAbs ≤ 2147483648 * 2147483648 := by rw [Int.natAbs_mul]; exact Nat.mul_le_mul (by omega) (by omega)
  omega

set_option maxRecDepth 100000 in
set_option maxHeartbeats 4000000 in
theorem ismall_lt_neg {w : World} {m n v : Int} (m1 : -2147483648 ≤ m) (m2 : m ≤ 2147483647) (n1 : -2147483648 ≤ n) (n2 : n ≤ 2147483647) (v1 : -9223372036854775808 ≤ v) (v2 : v ≤ 9223372036854775807) (ho : m < n) (hs : v < 0) :
    Calls Try.prog 6 #[.int .i32 m, .int .i32 n, .int .i64 v] w fun e w' => e = .returned (.bool true) ∧ Below w.heap.size w w' := by
  have mb := small_mul m1 m2 n1 n2
  obtain ⟨p, hp⟩ : ∃ p, p = m * n := ⟨_, rfl⟩
  rw [← hp] at mb
  have p1 := mb.1
  have p2 := mb.2
  obtain ⟨sA, LA, cA⟩ := Can.ex (m)
  obtain ⟨sB, LB, cB⟩ := Can.ex (n)
  obtain ⟨sS, LS, cS⟩ := Can.ex (m + n)
  obtain ⟨sD, LD, cD⟩ := Can.ex (m - n)
  obtain ⟨sP, LP, cP⟩ := Can.ex (p)
  obtain ⟨sN, LN, cN⟩ := Can.ex (-m)
  obtain ⟨sV, LV, cV⟩ := Can.ex (v)
  have bA : LA.length ≤ 2 := by rw [cA.2]; exact len64i (by omega) (by omega)
  have bB : LB.length ≤ 2 := by rw [cB.2]; exact len64i (by omega) (by omega)
  have bS : LS.length ≤ 2 := by rw [cS.2]; exact len64i (by omega) (by omega)
  have bD : LD.length ≤ 2 := by rw [cD.2]; exact len64i (by omega) (by omega)
  have bP : LP.length ≤ 2 := by rw [cP.2]; exact len64i (by omega) (by omega)
  have bN : LN.length ≤ 2 := by rw [cN.2]; exact len64i (by omega) (by omega)
  have bV : LV.length ≤ 2 := by rw [cV.2]; exact len64i (by omega) (by omega)
  have kA := fun (W : World) => q_of (W := W) m cA (by omega) (by omega)
  have kB := fun (W : World) => q_of (W := W) n cB (by omega) (by omega)
  have kV := fun (W : World) => q_of (W := W) v cV (by omega) (by omega)
  have kS := fun (W : World) {p1 : Option Addr} {q1 : Nat} {p2 : Option Addr} {q2 : Nat} (h1 : Reads W (.slice p1 LA.length q1) LA) (h2 : Reads W (.slice p2 LB.length q2) LB) => q_add cA.is cB.is cS (rfl) (by omega) (by omega) h1 h2
  have kD := fun (W : World) {p1 : Option Addr} {q1 : Nat} {p2 : Option Addr} {q2 : Nat} (h1 : Reads W (.slice p1 LA.length q1) LA) (h2 : Reads W (.slice p2 LB.length q2) LB) => q_sub cA.is cB.is cD (rfl) (by omega) (by omega) h1 h2
  have kP := fun (W : World) {p1 : Option Addr} {q1 : Nat} {p2 : Option Addr} {q2 : Nat} (h1 : Reads W (.slice p1 LA.length q1) LA) (h2 : Reads W (.slice p2 LB.length q2) LB) => q_mul cA.is cB.is cP (hp) (by omega) (by omega) h1 h2
  have kN := fun (W : World) {p1 : Option Addr} {q1 : Nat} (h1 : Reads W (.slice p1 LA.length q1) LA) => q_neg cA.is cN rfl (by omega) h1
  have lS := fun (W : World) {p1 : Option Addr} {q1 : Nat} (h1 : Reads W (.slice p1 LS.length q1) LS) => q_small (m + n) cS (by omega) (by omega) h1
  have lD := fun (W : World) {p1 : Option Addr} {q1 : Nat} (h1 : Reads W (.slice p1 LD.length q1) LD) => q_small (m - n) cD (by omega) (by omega) h1
  have lP := fun (W : World) {p1 : Option Addr} {q1 : Nat} (h1 : Reads W (.slice p1 LP.length q1) LP) => q_small (p) cP (by omega) (by omega) h1
  have lN := fun (W : World) {p1 : Option Addr} {q1 : Nat} (h1 : Reads W (.slice p1 LN.length q1) LN) => q_small (-m) cN (by omega) (by omega) h1
  have lV := fun (W : World) {p1 : Option Addr} {q1 : Nat} (h1 : Reads W (.slice p1 LV.length q1) LV) => q_small (v) cV (by omega) (by omega) h1
  have kC := fun (W : World) {p1 : Option Addr} {q1 : Nat} {p2 : Option Addr} {q2 : Nat} (h1 : Reads W (.slice p1 LA.length q1) LA) (h2 : Reads W (.slice p2 LB.length q2) LB) => q_cmp (-1) cA.is cB.is (by simp only [sgz]; split <;> (try split) <;> omega) (by omega) (by omega) h1 h2
  obtain ⟨zv', hzv⟩ : ∃ z, z = sgz v 0 := ⟨_, rfl⟩
  have kG := fun (W : World) {p1 : Option Addr} {q1 : Nat} (h1 : Reads W (.slice p1 LV.length q1) LV) => q_sign zv' cV.is hzv.symm (by omega) h1
  have hz1 : zv' < 0 := by rw [hzv]; simp only [sgz]; split <;> (try split) <;> omega
  have hz2 : decide (zv' < 0) = true := decide_eq_true hz1
  have hz3 : decide (v < 0) = true := decide_eq_true hs
  have ep : m * n = p := hp.symm
  have oe : (m == n) = false := beq_false_of_ne (by omega)
  have ol : decide (m < n) = true := decide_eq_true ho
  have r0 := Below.refl w.heap.size w
  clear mb hp hzv bA cA bB cB bS cS bD cD bP cP bN cN bV cV
  go_enter Try.func6, Try.ntmps6
  go_wp2_with (first
    | (go_at_call 19; with_reducible refine (kA _).mono ?_; rintro e w1 ⟨x1, y1, rfl, gA, rr⟩; replace r0 := then_below r0 rr; clear rr; have al := (Below.refl w1.heap.size w1).alloc (Nat.le_refl _) (.cells #[.bool sA, .slice x1 LA.length y1] 25); replace gA := gA.below al; replace r0 := then_below r0 al; have D := Box2.new w1 25 (.bool sA) (.slice x1 LA.length y1); clear al; have z0 := D.c0; have y0 := D.c1)
    | (go_at_call 19; with_reducible refine (kB _).mono ?_; rintro e w2 ⟨x2, y2, rfl, gB, rr⟩; replace gA := gA.below rr; replace D := D.below rr; replace r0 := then_below r0 rr; clear rr; have al := (Below.refl w2.heap.size w2).alloc (Nat.le_refl _) (.cells #[.bool sB, .slice x2 LB.length y2] 25); replace gA := gA.below al; replace gB := gB.below al; replace D := D.below al; replace r0 := then_below r0 al; have E := Box2.new w2 25 (.bool sB) (.slice x2 LB.length y2); clear al; clear z0 y0; have z0 := D.c0; have y0 := D.c1; have z1 := E.c0; have y1 := E.c1)
    | (go_at_call 9; with_reducible refine (ialive_any _).mono ?_; rintro e w3 ⟨rfl, rr⟩; replace gA := gA.below rr; replace gB := gB.below rr; replace D := D.below rr; replace E := E.below rr; replace r0 := then_below r0 rr; clear rr; clear z0 y0 z1 y1; have z0 := D.c0; have y0 := D.c1; have z1 := E.c0; have y1 := E.c1)
    | (go_at_call 10; with_reducible refine (kS w3 gA gB).mono ?_; rintro e w4 ⟨x4, y4, rfl, gS, rr⟩; replace gA := gA.below rr; replace gB := gB.below rr; replace D := D.below rr; replace E := E.below rr; replace r0 := then_below r0 rr; clear rr; clear z0 y0 z1 y1; have z0 := D.c0; have y0 := D.c1; have z1 := E.c0; have y1 := E.c1)
    | (go_at_call 20; with_reducible refine (lS w4 gS).mono ?_; rintro e w5 ⟨rfl, rr⟩; replace gA := gA.below rr; replace gB := gB.below rr; replace D := D.below rr; replace E := E.below rr; replace r0 := then_below r0 rr; clear rr; clear z0 y0 z1 y1; have z0 := D.c0; have y0 := D.c1; have z1 := E.c0; have y1 := E.c1)
    | (go_at_call 16; with_reducible refine (kD w5 gA gB).mono ?_; rintro e w6 ⟨x6, y6, rfl, gD, rr⟩; replace gA := gA.below rr; replace gB := gB.below rr; replace D := D.below rr; replace E := E.below rr; replace r0 := then_below r0 rr; clear rr; clear z0 y0 z1 y1; have z0 := D.c0; have y0 := D.c1; have z1 := E.c0; have y1 := E.c1)
    | (go_at_call 20; with_reducible refine (lD w6 gD).mono ?_; rintro e w7 ⟨rfl, rr⟩; replace gA := gA.below rr; replace gB := gB.below rr; replace D := D.below rr; replace E := E.below rr; replace r0 := then_below r0 rr; clear rr; clear z0 y0 z1 y1; have z0 := D.c0; have y0 := D.c1; have z1 := E.c0; have y1 := E.c1)
    | (go_at_call 11; with_reducible refine (kP w7 gA gB).mono ?_; rintro e w8 ⟨x8, y8, rfl, gP, rr⟩; replace gA := gA.below rr; replace gB := gB.below rr; replace D := D.below rr; replace E := E.below rr; replace r0 := then_below r0 rr; clear rr; clear z0 y0 z1 y1; have z0 := D.c0; have y0 := D.c1; have z1 := E.c0; have y1 := E.c1)
    | (go_at_call 20; with_reducible refine (lP w8 gP).mono ?_; rintro e w9 ⟨rfl, rr⟩; replace gA := gA.below rr; replace gB := gB.below rr; replace D := D.below rr; replace E := E.below rr; replace r0 := then_below r0 rr; clear rr; clear z0 y0 z1 y1; have z0 := D.c0; have y0 := D.c1; have z1 := E.c0; have y1 := E.c1)
    | (go_at_call 15; with_reducible refine (kN w9 gA).mono ?_; rintro e w10 ⟨x10, y10, rfl, gN, rr⟩; replace gA := gA.below rr; replace gB := gB.below rr; replace D := D.below rr; replace E := E.below rr; replace r0 := then_below r0 rr; clear rr; clear z0 y0 z1 y1; have z0 := D.c0; have y0 := D.c1; have z1 := E.c0; have y1 := E.c1)
    | (go_at_call 20; with_reducible refine (lN w10 gN).mono ?_; rintro e w11 ⟨rfl, rr⟩; replace gA := gA.below rr; replace gB := gB.below rr; replace D := D.below rr; replace E := E.below rr; replace r0 := then_below r0 rr; clear rr; clear z0 y0 z1 y1; have z0 := D.c0; have y0 := D.c1; have z1 := E.c0; have y1 := E.c1)
    | (go_at_call 18; with_reducible refine (kC w11 gA gB).mono ?_; rintro e w12 ⟨rfl, rr⟩; replace gA := gA.below rr; replace gB := gB.below rr; replace D := D.below rr; replace E := E.below rr; replace r0 := then_below r0 rr; clear rr; clear z0 y0 z1 y1; have z0 := D.c0; have y0 := D.c1; have z1 := E.c0; have y1 := E.c1)
    | (go_at_call 18; with_reducible refine (kC w12 gA gB).mono ?_; rintro e w13 ⟨rfl, rr⟩; replace gA := gA.below rr; replace gB := gB.below rr; replace D := D.below rr; replace E := E.below rr; replace r0 := then_below r0 rr; clear rr; clear z0 y0 z1 y1; have z0 := D.c0; have y0 := D.c1; have z1 := E.c0; have y1 := E.c1)
    | (go_at_call 19; with_reducible refine (kV w13).mono ?_; rintro e w14 ⟨x14, y14, rfl, gV, rr⟩; replace gA := gA.below rr; replace gB := gB.below rr; replace D := D.below rr; replace E := E.below rr; replace r0 := then_below r0 rr; clear rr; clear z0 y0 z1 y1; have z0 := D.c0; have y0 := D.c1; have z1 := E.c0; have y1 := E.c1)
    | (go_at_call 20; with_reducible refine (lV w14 gV).mono ?_; rintro e w15 ⟨rfl, rr⟩; replace gA := gA.below rr; replace gB := gB.below rr; replace D := D.below rr; replace E := E.below rr; replace r0 := then_below r0 rr; clear rr; clear z0 y0 z1 y1; have z0 := D.c0; have y0 := D.c1; have z1 := E.c0; have y1 := E.c1)
    | (go_at_call 19; with_reducible refine (kV w15).mono ?_; rintro e w16 ⟨x16, y16, rfl, gV2, rr⟩; replace gA := gA.below rr; replace gB := gB.below rr; replace D := D.below rr; replace E := E.below rr; replace r0 := then_below r0 rr; clear rr; clear z0 y0 z1 y1; have z0 := D.c0; have y0 := D.c1; have z1 := E.c0; have y1 := E.c1)
    | (go_at_call 17; with_reducible refine (kG w16 gV2).mono ?_; rintro e w17 ⟨rfl, rr⟩; replace gA := gA.below rr; replace gB := gB.below rr; replace D := D.below rr; replace E := E.below rr; replace r0 := then_below r0 rr; clear rr; clear z0 y0 z1 y1; have z0 := D.c0; have y0 := D.c1; have z1 := E.c0; have y1 := E.c1))
  go_ret
  exact ⟨rfl, r0⟩

set_option maxRecDepth 100000 in
set_option maxHeartbeats 4000000 in
theorem ismall_lt_pos {w : World} {m n v : Int} (m1 : -2147483648 ≤ m) (m2 : m ≤ 2147483647) (n1 : -2147483648 ≤ n) (n2 : n ≤ 2147483647) (v1 : -9223372036854775808 ≤ v) (v2 : v ≤ 9223372036854775807) (ho : m < n) (hs : ¬ v < 0) :
    Calls Try.prog 6 #[.int .i32 m, .int .i32 n, .int .i64 v] w fun e w' => e = .returned (.bool true) ∧ Below w.heap.size w w' := by
  have mb := small_mul m1 m2 n1 n2
  obtain ⟨p, hp⟩ : ∃ p, p = m * n := ⟨_, rfl⟩
  rw [← hp] at mb
  have p1 := mb.1
  have p2 := mb.2
  obtain ⟨sA, LA, cA⟩ := Can.ex (m)
  obtain ⟨sB, LB, cB⟩ := Can.ex (n)
  obtain ⟨sS, LS, cS⟩ := Can.ex (m + n)
  obtain ⟨sD, LD, cD⟩ := Can.ex (m - n)
  obtain ⟨sP, LP, cP⟩ := Can.ex (p)
  obtain ⟨sN, LN, cN⟩ := Can.ex (-m)
  obtain ⟨sV, LV, cV⟩ := Can.ex (v)
  have bA : LA.length ≤ 2 := by rw [cA.2]; exact len64i (by omega) (by omega)
  have bB : LB.length ≤ 2 := by rw [cB.2]; exact len64i (by omega) (by omega)
  have bS : LS.length ≤ 2 := by rw [cS.2]; exact len64i (by omega) (by omega)
  have bD : LD.length ≤ 2 := by rw [cD.2]; exact len64i (by omega) (by omega)
  have bP : LP.length ≤ 2 := by rw [cP.2]; exact len64i (by omega) (by omega)
  have bN : LN.length ≤ 2 := by rw [cN.2]; exact len64i (by omega) (by omega)
  have bV : LV.length ≤ 2 := by rw [cV.2]; exact len64i (by omega) (by omega)
  have kA := fun (W : World) => q_of (W := W) m cA (by omega) (by omega)
  have kB := fun (W : World) => q_of (W := W) n cB (by omega) (by omega)
  have kV := fun (W : World) => q_of (W := W) v cV (by omega) (by omega)
  have kS := fun (W : World) {p1 : Option Addr} {q1 : Nat} {p2 : Option Addr} {q2 : Nat} (h1 : Reads W (.slice p1 LA.length q1) LA) (h2 : Reads W (.slice p2 LB.length q2) LB) => q_add cA.is cB.is cS (rfl) (by omega) (by omega) h1 h2
  have kD := fun (W : World) {p1 : Option Addr} {q1 : Nat} {p2 : Option Addr} {q2 : Nat} (h1 : Reads W (.slice p1 LA.length q1) LA) (h2 : Reads W (.slice p2 LB.length q2) LB) => q_sub cA.is cB.is cD (rfl) (by omega) (by omega) h1 h2
  have kP := fun (W : World) {p1 : Option Addr} {q1 : Nat} {p2 : Option Addr} {q2 : Nat} (h1 : Reads W (.slice p1 LA.length q1) LA) (h2 : Reads W (.slice p2 LB.length q2) LB) => q_mul cA.is cB.is cP (hp) (by omega) (by omega) h1 h2
  have kN := fun (W : World) {p1 : Option Addr} {q1 : Nat} (h1 : Reads W (.slice p1 LA.length q1) LA) => q_neg cA.is cN rfl (by omega) h1
  have lS := fun (W : World) {p1 : Option Addr} {q1 : Nat} (h1 : Reads W (.slice p1 LS.length q1) LS) => q_small (m + n) cS (by omega) (by omega) h1
  have lD := fun (W : World) {p1 : Option Addr} {q1 : Nat} (h1 : Reads W (.slice p1 LD.length q1) LD) => q_small (m - n) cD (by omega) (by omega) h1
  have lP := fun (W : World) {p1 : Option Addr} {q1 : Nat} (h1 : Reads W (.slice p1 LP.length q1) LP) => q_small (p) cP (by omega) (by omega) h1
  have lN := fun (W : World) {p1 : Option Addr} {q1 : Nat} (h1 : Reads W (.slice p1 LN.length q1) LN) => q_small (-m) cN (by omega) (by omega) h1
  have lV := fun (W : World) {p1 : Option Addr} {q1 : Nat} (h1 : Reads W (.slice p1 LV.length q1) LV) => q_small (v) cV (by omega) (by omega) h1
  have kC := fun (W : World) {p1 : Option Addr} {q1 : Nat} {p2 : Option Addr} {q2 : Nat} (h1 : Reads W (.slice p1 LA.length q1) LA) (h2 : Reads W (.slice p2 LB.length q2) LB) => q_cmp (-1) cA.is cB.is (by simp only [sgz]; split <;> (try split) <;> omega) (by omega) (by omega) h1 h2
  obtain ⟨zv', hzv⟩ : ∃ z, z = sgz v 0 := ⟨_, rfl⟩
  have kG := fun (W : World) {p1 : Option Addr} {q1 : Nat} (h1 : Reads W (.slice p1 LV.length q1) LV) => q_sign zv' cV.is hzv.symm (by omega) h1
  have hz1 : ¬ zv' < 0 := by rw [hzv]; simp only [sgz]; split <;> (try split) <;> omega
  have hz2 : decide (zv' < 0) = false := decide_eq_false hz1
  have hz3 : decide (v < 0) = false := decide_eq_false hs
  have ep : m * n = p := hp.symm
  have oe : (m == n) = false := beq_false_of_ne (by omega)
  have ol : decide (m < n) = true := decide_eq_true ho
  have r0 := Below.refl w.heap.size w
  clear mb hp hzv bA cA bB cB bS cS bD cD bP cP bN cN bV cV
  go_enter Try.func6, Try.ntmps6
  go_wp2_with (first
    | (go_at_call 19; with_reducible refine (kA _).mono ?_; rintro e w1 ⟨x1, y1, rfl, gA, rr⟩; replace r0 := then_below r0 rr; clear rr; have al := (Below.refl w1.heap.size w1).alloc (Nat.le_refl _) (.cells #[.bool sA, .slice x1 LA.length y1] 25); replace gA := gA.below al; replace r0 := then_below r0 al; have D := Box2.new w1 25 (.bool sA) (.slice x1 LA.length y1); clear al; have z0 := D.c0; have y0 := D.c1)
    | (go_at_call 19; with_reducible refine (kB _).mono ?_; rintro e w2 ⟨x2, y2, rfl, gB, rr⟩; replace gA := gA.below rr; replace D := D.below rr; replace r0 := then_below r0 rr; clear rr; have al := (Below.refl w2.heap.size w2).alloc (Nat.le_refl _) (.cells #[.bool sB, .slice x2 LB.length y2] 25); replace gA := gA.below al; replace gB := gB.below al; replace D := D.below al; replace r0 := then_below r0 al; have E := Box2.new w2 25 (.bool sB) (.slice x2 LB.length y2); clear al; clear z0 y0; have z0 := D.c0; have y0 := D.c1; have z1 := E.c0; have y1 := E.c1)
    | (go_at_call 9; with_reducible refine (ialive_any _).mono ?_; rintro e w3 ⟨rfl, rr⟩; replace gA := gA.below rr; replace gB := gB.below rr; replace D := D.below rr; replace E := E.below rr; replace r0 := then_below r0 rr; clear rr; clear z0 y0 z1 y1; have z0 := D.c0; have y0 := D.c1; have z1 := E.c0; have y1 := E.c1)
    | (go_at_call 10; with_reducible refine (kS w3 gA gB).mono ?_; rintro e w4 ⟨x4, y4, rfl, gS, rr⟩; replace gA := gA.below rr; replace gB := gB.below rr; replace D := D.below rr; replace E := E.below rr; replace r0 := then_below r0 rr; clear rr; clear z0 y0 z1 y1; have z0 := D.c0; have y0 := D.c1; have z1 := E.c0; have y1 := E.c1)
    | (go_at_call 20; with_reducible refine (lS w4 gS).mono ?_; rintro e w5 ⟨rfl, rr⟩; replace gA := gA.below rr; replace gB := gB.below rr; replace D := D.below rr; replace E := E.below rr; replace r0 := then_below r0 rr; clear rr; clear z0 y0 z1 y1; have z0 := D.c0; have y0 := D.c1; have z1 := E.c0; have y1 := E.c1)
    | (go_at_call 16; with_reducible refine (kD w5 gA gB).mono ?_; rintro e w6 ⟨x6, y6, rfl, gD, rr⟩; replace gA := gA.below rr; replace gB := gB.below rr; replace D := D.below rr; replace E := E.below rr; replace r0 := then_below r0 rr; clear rr; clear z0 y0 z1 y1; have z0 := D.c0; have y0 := D.c1; have z1 := E.c0; have y1 := E.c1)
    | (go_at_call 20; with_reducible refine (lD w6 gD).mono ?_; rintro e w7 ⟨rfl, rr⟩; replace gA := gA.below rr; replace gB := gB.below rr; replace D := D.below rr; replace E := E.below rr; replace r0 := then_below r0 rr; clear rr; clear z0 y0 z1 y1; have z0 := D.c0; have y0 := D.c1; have z1 := E.c0; have y1 := E.c1)
    | (go_at_call 11; with_reducible refine (kP w7 gA gB).mono ?_; rintro e w8 ⟨x8, y8, rfl, gP, rr⟩; replace gA := gA.below rr; replace gB := gB.below rr; replace D := D.below rr; replace E := E.below rr; replace r0 := then_below r0 rr; clear rr; clear z0 y0 z1 y1; have z0 := D.c0; have y0 := D.c1; have z1 := E.c0; have y1 := E.c1)
    | (go_at_call 20; with_reducible refine (lP w8 gP).mono ?_; rintro e w9 ⟨rfl, rr⟩; replace gA := gA.below rr; replace gB := gB.below rr; replace D := D.below rr; replace E := E.below rr; replace r0 := then_below r0 rr; clear rr; clear z0 y0 z1 y1; have z0 := D.c0; have y0 := D.c1; have z1 := E.c0; have y1 := E.c1)
    | (go_at_call 15; with_reducible refine (kN w9 gA).mono ?_; rintro e w10 ⟨x10, y10, rfl, gN, rr⟩; replace gA := gA.below rr; replace gB := gB.below rr; replace D := D.below rr; replace E := E.below rr; replace r0 := then_below r0 rr; clear rr; clear z0 y0 z1 y1; have z0 := D.c0; have y0 := D.c1; have z1 := E.c0; have y1 := E.c1)
    | (go_at_call 20; with_reducible refine (lN w10 gN).mono ?_; rintro e w11 ⟨rfl, rr⟩; replace gA := gA.below rr; replace gB := gB.below rr; replace D := D.below rr; replace E := E.below rr; replace r0 := then_below r0 rr; clear rr; clear z0 y0 z1 y1; have z0 := D.c0; have y0 := D.c1; have z1 := E.c0; have y1 := E.c1)
    | (go_at_call 18; with_reducible refine (kC w11 gA gB).mono ?_; rintro e w12 ⟨rfl, rr⟩; replace gA := gA.below rr; replace gB := gB.below rr; replace D := D.below rr; replace E := E.below rr; replace r0 := then_below r0 rr; clear rr; clear z0 y0 z1 y1; have z0 := D.c0; have y0 := D.c1; have z1 := E.c0; have y1 := E.c1)
    | (go_at_call 18; with_reducible refine (kC w12 gA gB).mono ?_; rintro e w13 ⟨rfl, rr⟩; replace gA := gA.below rr; replace gB := gB.below rr; replace D := D.below rr; replace E := E.below rr; replace r0 := then_below r0 rr; clear rr; clear z0 y0 z1 y1; have z0 := D.c0; have y0 := D.c1; have z1 := E.c0; have y1 := E.c1)
    | (go_at_call 19; with_reducible refine (kV w13).mono ?_; rintro e w14 ⟨x14, y14, rfl, gV, rr⟩; replace gA := gA.below rr; replace gB := gB.below rr; replace D := D.below rr; replace E := E.below rr; replace r0 := then_below r0 rr; clear rr; clear z0 y0 z1 y1; have z0 := D.c0; have y0 := D.c1; have z1 := E.c0; have y1 := E.c1)
    | (go_at_call 20; with_reducible refine (lV w14 gV).mono ?_; rintro e w15 ⟨rfl, rr⟩; replace gA := gA.below rr; replace gB := gB.below rr; replace D := D.below rr; replace E := E.below rr; replace r0 := then_below r0 rr; clear rr; clear z0 y0 z1 y1; have z0 := D.c0; have y0 := D.c1; have z1 := E.c0; have y1 := E.c1)
    | (go_at_call 19; with_reducible refine (kV w15).mono ?_; rintro e w16 ⟨x16, y16, rfl, gV2, rr⟩; replace gA := gA.below rr; replace gB := gB.below rr; replace D := D.below rr; replace E := E.below rr; replace r0 := then_below r0 rr; clear rr; clear z0 y0 z1 y1; have z0 := D.c0; have y0 := D.c1; have z1 := E.c0; have y1 := E.c1)
    | (go_at_call 17; with_reducible refine (kG w16 gV2).mono ?_; rintro e w17 ⟨rfl, rr⟩; replace gA := gA.below rr; replace gB := gB.below rr; replace D := D.below rr; replace E := E.below rr; replace r0 := then_below r0 rr; clear rr; clear z0 y0 z1 y1; have z0 := D.c0; have y0 := D.c1; have z1 := E.c0; have y1 := E.c1))
  go_ret
  exact ⟨rfl, r0⟩

set_option maxRecDepth 100000 in
set_option maxHeartbeats 4000000 in
theorem ismall_eq_neg {w : World} {m n v : Int} (m1 : -2147483648 ≤ m) (m2 : m ≤ 2147483647) (n1 : -2147483648 ≤ n) (n2 : n ≤ 2147483647) (v1 : -9223372036854775808 ≤ v) (v2 : v ≤ 9223372036854775807) (ho : m = n) (hs : v < 0) :
    Calls Try.prog 6 #[.int .i32 m, .int .i32 n, .int .i64 v] w fun e w' => e = .returned (.bool true) ∧ Below w.heap.size w w' := by
  have mb := small_mul m1 m2 n1 n2
  obtain ⟨p, hp⟩ : ∃ p, p = m * n := ⟨_, rfl⟩
  rw [← hp] at mb
  have p1 := mb.1
  have p2 := mb.2
  obtain ⟨sA, LA, cA⟩ := Can.ex (m)
  obtain ⟨sB, LB, cB⟩ := Can.ex (n)
  obtain ⟨sS, LS, cS⟩ := Can.ex (m + n)
  obtain ⟨sD, LD, cD⟩ := Can.ex (m - n)
  obtain ⟨sP, LP, cP⟩ := Can.ex (p)
  obtain ⟨sN, LN, cN⟩ := Can.ex (-m)
  obtain ⟨sV, LV, cV⟩ := Can.ex (v)
  have bA : LA.length ≤ 2 := by rw [cA.2]; exact len64i (by omega) (by omega)
  have bB : LB.length ≤ 2 := by rw [cB.2]; exact len64i (by omega) (by omega)
  have bS : LS.length ≤ 2 := by rw [cS.2]; exact len64i (by omega) (by omega)
  have bD : LD.length ≤ 2 := by rw [cD.2]; exact len64i (by omega) (by omega)
  have bP : LP.length ≤ 2 := by rw [cP.2]; exact len64i (by omega) (by omega)
  have bN : LN.length ≤ 2 := by rw [cN.2]; exact len64i (by omega) (by omega)
  have bV : LV.length ≤ 2 := by rw [cV.2]; exact len64i (by omega) (by omega)
  have kA := fun (W : World) => q_of (W := W) m cA (by omega) (by omega)
  have kB := fun (W : World) => q_of (W := W) n cB (by omega) (by omega)
  have kV := fun (W : World) => q_of (W := W) v cV (by omega) (by omega)
  have kS := fun (W : World) {p1 : Option Addr} {q1 : Nat} {p2 : Option Addr} {q2 : Nat} (h1 : Reads W (.slice p1 LA.length q1) LA) (h2 : Reads W (.slice p2 LB.length q2) LB) => q_add cA.is cB.is cS (rfl) (by omega) (by omega) h1 h2
  have kD := fun (W : World) {p1 : Option Addr} {q1 : Nat} {p2 : Option Addr} {q2 : Nat} (h1 : Reads W (.slice p1 LA.length q1) LA) (h2 : Reads W (.slice p2 LB.length q2) LB) => q_sub cA.is cB.is cD (rfl) (by omega) (by omega) h1 h2
  have kP := fun (W : World) {p1 : Option Addr} {q1 : Nat} {p2 : Option Addr} {q2 : Nat} (h1 : Reads W (.slice p1 LA.length q1) LA) (h2 : Reads W (.slice p2 LB.length q2) LB) => q_mul cA.is cB.is cP (hp) (by omega) (by omega) h1 h2
  have kN := fun (W : World) {p1 : Option Addr} {q1 : Nat} (h1 : Reads W (.slice p1 LA.length q1) LA) => q_neg cA.is cN rfl (by omega) h1
  have lS := fun (W : World) {p1 : Option Addr} {q1 : Nat} (h1 : Reads W (.slice p1 LS.length q1) LS) => q_small (m + n) cS (by omega) (by omega) h1
  have lD := fun (W : World) {p1 : Option Addr} {q1 : Nat} (h1 : Reads W (.slice p1 LD.length q1) LD) => q_small (m - n) cD (by omega) (by omega) h1
  have lP := fun (W : World) {p1 : Option Addr} {q1 : Nat} (h1 : Reads W (.slice p1 LP.length q1) LP) => q_small (p) cP (by omega) (by omega) h1
  have lN := fun (W : World) {p1 : Option Addr} {q1 : Nat} (h1 : Reads W (.slice p1 LN.length q1) LN) => q_small (-m) cN (by omega) (by omega) h1
  have lV := fun (W : World) {p1 : Option Addr} {q1 : Nat} (h1 : Reads W (.slice p1 LV.length q1) LV) => q_small (v) cV (by omega) (by omega) h1
  have kC := fun (W : World) {p1 : Option Addr} {q1 : Nat} {p2 : Option Addr} {q2 : Nat} (h1 : Reads W (.slice p1 LA.length q1) LA) (h2 : Reads W (.slice p2 LB.length q2) LB) => q_cmp (0) cA.is cB.is (by simp only [sgz]; split <;> (try split) <;> omega) (by omega) (by omega) h1 h2
  obtain ⟨zv', hzv⟩ : ∃ z, z = sgz v 0 := ⟨_, rfl⟩
  have kG := fun (W : World) {p1 : Option Addr} {q1 : Nat} (h1 : Reads W (.slice p1 LV.length q1) LV) => q_sign zv' cV.is hzv.symm (by omega) h1
  have hz1 : zv' < 0 := by rw [hzv]; simp only [sgz]; split <;> (try split) <;> omega
  have hz2 : decide (zv' < 0) = true := decide_eq_true hz1
  have hz3 : decide (v < 0) = true := decide_eq_true hs
  have ep : m * n = p := hp.symm
  have oe : (m == n) = true := by rw [ho]; simp
  have ol : decide (m < n) = false := decide_eq_false (by omega)
  have r0 := Below.refl w.heap.size w
  have HO := Lib.hid ho
  clear mb hp hzv ho bA cA bB cB bS cS bD cD bP cP bN cN bV cV
  go_enter Try.func6, Try.ntmps6
  go_wp2_with (first
    | (go_at_call 19; with_reducible refine (kA _).mono ?_; rintro e w1 ⟨x1, y1, rfl, gA, rr⟩; replace r0 := then_below r0 rr; clear rr; have al := (Below.refl w1.heap.size w1).alloc (Nat.le_refl _) (.cells #[.bool sA, .slice x1 LA.length y1] 25); replace gA := gA.below al; replace r0 := then_below r0 al; have D := Box2.new w1 25 (.bool sA) (.slice x1 LA.length y1); clear al; have z0 := D.c0; have y0 := D.c1)
    | (go_at_call 19; with_reducible refine (kB _).mono ?_; rintro e w2 ⟨x2, y2, rfl, gB, rr⟩; replace gA := gA.below rr; replace D := D.below rr; replace r0 := then_below r0 rr; clear rr; have al := (Below.refl w2.heap.size w2).alloc (Nat.le_refl _) (.cells #[.bool sB, .slice x2 LB.length y2] 25); replace gA := gA.below al; replace gB := gB.below al; replace D := D.below al; replace r0 := then_below r0 al; have E := Box2.new w2 25 (.bool sB) (.slice x2 LB.length y2); clear al; clear z0 y0; have z0 := D.c0; have y0 := D.c1; have z1 := E.c0; have y1 := E.c1)
    | (go_at_call 9; with_reducible refine (ialive_any _).mono ?_; rintro e w3 ⟨rfl, rr⟩; replace gA := gA.below rr; replace gB := gB.below rr; replace D := D.below rr; replace E := E.below rr; replace r0 := then_below r0 rr; clear rr; clear z0 y0 z1 y1; have z0 := D.c0; have y0 := D.c1; have z1 := E.c0; have y1 := E.c1)
    | (go_at_call 10; with_reducible refine (kS w3 gA gB).mono ?_; rintro e w4 ⟨x4, y4, rfl, gS, rr⟩; replace gA := gA.below rr; replace gB := gB.below rr; replace D := D.below rr; replace E := E.below rr; replace r0 := then_below r0 rr; clear rr; clear z0 y0 z1 y1; have z0 := D.c0; have y0 := D.c1; have z1 := E.c0; have y1 := E.c1)
    | (go_at_call 20; with_reducible refine (lS w4 gS).mono ?_; rintro e w5 ⟨rfl, rr⟩; replace gA := gA.below rr; replace gB := gB.below rr; replace D := D.below rr; replace E := E.below rr; replace r0 := then_below r0 rr; clear rr; clear z0 y0 z1 y1; have z0 := D.c0; have y0 := D.c1; have z1 := E.c0; have y1 := E.c1)
    | (go_at_call 16; with_reducible refine (kD w5 gA gB).mono ?_; rintro e w6 ⟨x6, y6, rfl, gD, rr⟩; replace gA := gA.below rr; replace gB := gB.below rr; replace D := D.below rr; replace E := E.below rr; replace r0 := then_below r0 rr; clear rr; clear z0 y0 z1 y1; have z0 := D.c0; have y0 := D.c1; have z1 := E.c0; have y1 := E.c1)
    | (go_at_call 20; with_reducible refine (lD w6 gD).mono ?_; rintro e w7 ⟨rfl, rr⟩; replace gA := gA.below rr; replace gB := gB.below rr; replace D := D.below rr; replace E := E.below rr; replace r0 := then_below r0 rr; clear rr; clear z0 y0 z1 y1; have z0 := D.c0; have y0 := D.c1; have z1 := E.c0; have y1 := E.c1)
    | (go_at_call 11; with_reducible refine (kP w7 gA gB).mono ?_; rintro e w8 ⟨x8, y8, rfl, gP, rr⟩; replace gA := gA.below rr; replace gB := gB.below rr; replace D := D.below rr; replace E := E.below rr; replace r0 := then_below r0 rr; clear rr; clear z0 y0 z1 y1; have z0 := D.c0; have y0 := D.c1; have z1 := E.c0; have y1 := E.c1)
    | (go_at_call 20; with_reducible refine (lP w8 gP).mono ?_; rintro e w9 ⟨rfl, rr⟩; replace gA := gA.below rr; replace gB := gB.below rr; replace D := D.below rr; replace E := E.below rr; replace r0 := then_below r0 rr; clear rr; clear z0 y0 z1 y1; have z0 := D.c0; have y0 := D.c1; have z1 := E.c0; have y1 := E.c1)
    | (go_at_call 15; with_reducible refine (kN w9 gA).mono ?_; rintro e w10 ⟨x10, y10, rfl, gN, rr⟩; replace gA := gA.below rr; replace gB := gB.below rr; replace D := D.below rr; replace E := E.below rr; replace r0 := then_below r0 rr; clear rr; clear z0 y0 z1 y1; have z0 := D.c0; have y0 := D.c1; have z1 := E.c0; have y1 := E.c1)
    | (go_at_call 20; with_reducible refine (lN w10 gN).mono ?_; rintro e w11 ⟨rfl, rr⟩; replace gA := gA.below rr; replace gB := gB.below rr; replace D := D.below rr; replace E := E.below rr; replace r0 := then_below r0 rr; clear rr; clear z0 y0 z1 y1; have z0 := D.c0; have y0 := D.c1; have z1 := E.c0; have y1 := E.c1)
    | (go_at_call 18; with_reducible refine (kC w11 gA gB).mono ?_; rintro e w12 ⟨rfl, rr⟩; replace gA := gA.below rr; replace gB := gB.below rr; replace D := D.below rr; replace E := E.below rr; replace r0 := then_below r0 rr; clear rr; clear z0 y0 z1 y1; have z0 := D.c0; have y0 := D.c1; have z1 := E.c0; have y1 := E.c1)
    | (go_at_call 18; with_reducible refine (kC w12 gA gB).mono ?_; rintro e w13 ⟨rfl, rr⟩; replace gA := gA.below rr; replace gB := gB.below rr; replace D := D.below rr; replace E := E.below rr; replace r0 := then_below r0 rr; clear rr; clear z0 y0 z1 y1; have z0 := D.c0; have y0 := D.c1; have z1 := E.c0; have y1 := E.c1)
    | (go_at_call 19; with_reducible refine (kV w13).mono ?_; rintro e w14 ⟨x14, y14, rfl, gV, rr⟩; replace gA := gA.below rr; replace gB := gB.below rr; replace D := D.below rr; replace E := E.below rr; replace r0 := then_below r0 rr; clear rr; clear z0 y0 z1 y1; have z0 := D.c0; have y0 := D.c1; have z1 := E.c0; have y1 := E.c1)
    | (go_at_call 20; with_reducible refine (lV w14 gV).mono ?_; rintro e w15 ⟨rfl, rr⟩; replace gA := gA.below rr; replace gB := gB.below rr; replace D := D.below rr; replace E := E.below rr; replace r0 := then_below r0 rr; clear rr; clear z0 y0 z1 y1; have z0 := D.c0; have y0 := D.c1; have z1 := E.c0; have y1 := E.c1)
    | (go_at_call 19; with_reducible refine (kV w15).mono ?_; rintro e w16 ⟨x16, y16, rfl, gV2, rr⟩; replace gA := gA.below rr; replace gB := gB.below rr; replace D := D.below rr; replace E := E.below rr; replace r0 := then_below r0 rr; clear rr; clear z0 y0 z1 y1; have z0 := D.c0; have y0 := D.c1; have z1 := E.c0; have y1 := E.c1)
    | (go_at_call 17; with_reducible refine (kG w16 gV2).mono ?_; rintro e w17 ⟨rfl, rr⟩; replace gA := gA.below rr; replace gB := gB.below rr; replace D := D.below rr; replace E := E.below rr; replace r0 := then_below r0 rr; clear rr; clear z0 y0 z1 y1; have z0 := D.c0; have y0 := D.c1; have z1 := E.c0; have y1 := E.c1))
  go_ret
  exact ⟨rfl, r0⟩

set_option maxRecDepth 100000 in
set_option maxHeartbeats 4000000 in
theorem ismall_eq_pos {w : World} {m n v : Int} (m1 : -2147483648 ≤ m) (m2 : m ≤ 2147483647) (n1 : -2147483648 ≤ n) (n2 : n ≤ 2147483647) (v1 : -9223372036854775808 ≤ v) (v2 : v ≤ 9223372036854775807) (ho : m = n) (hs : ¬ v < 0) :
    Calls Try.prog 6 #[.int .i32 m, .int .i32 n, .int .i64 v] w fun e w' => e = .returned (.bool true) ∧ Below w.heap.size w w' := by
  have mb := small_mul m1 m2 n1 n2
  obtain ⟨p, hp⟩ : ∃ p, p = m * n := ⟨_, rfl⟩
  rw [← hp] at mb
  have p1 := mb.1
  have p2 := mb.2
  obtain ⟨sA, LA, cA⟩ := Can.ex (m)
  obtain ⟨sB, LB, cB⟩ := Can.ex (n)
  obtain ⟨sS, LS, cS⟩ := Can.ex (m + n)
  obtain ⟨sD, LD, cD⟩ := Can.ex (m - n)
  obtain ⟨sP, LP, cP⟩ := Can.ex (p)
  obtain ⟨sN, LN, cN⟩ := Can.ex (-m)
  obtain ⟨sV, LV, cV⟩ := Can.ex (v)
  have bA : LA.length ≤ 2 := by rw [cA.2]; exact len64i (by omega) (by omega)
  have bB : LB.length ≤ 2 := by rw [cB.2]; exact len64i (by omega) (by omega)
  have bS : LS.length ≤ 2 := by rw [cS.2]; exact len64i (by omega) (by omega)
  have bD : LD.length ≤ 2 := by rw [cD.2]; exact len64i (by omega) (by omega)
  have bP : LP.length ≤ 2 := by rw [cP.2]; exact len64i (by omega) (by omega)
  have bN : LN.length ≤ 2 := by rw [cN.2]; exact len64i (by omega) (by omega)
  have bV : LV.length ≤ 2 := by rw [cV.2]; exact len64i (by omega) (by omega)
  have kA := fun (W : World) => q_of (W := W) m cA (by omega) (by omega)
  have kB := fun (W : World) => q_of (W := W) n cB (by omega) (by omega)
  have kV := fun (W : World) => q_of (W := W) v cV (by omega) (by omega)
  have kS := fun (W : World) {p1 : Option Addr} {q1 : Nat} {p2 : Option Addr} {q2 : Nat} (h1 : Reads W (.slice p1 LA.length q1) LA) (h2 : Reads W (.slice p2 LB.length q2) LB) => q_add cA.is cB.is cS (rfl) (by omega) (by omega) h1 h2
  have kD := fun (W : World) {p1 : Option Addr} {q1 : Nat} {p2 : Option Addr} {q2 : Nat} (h1 : Reads W (.slice p1 LA.length q1) LA) (h2 : Reads W (.slice p2 LB.length q2) LB) => q_sub cA.is cB.is cD (rfl) (by omega) (by omega) h1 h2
  have kP := fun (W : World) {p1 : Option Addr} {q1 : Nat} {p2 : Option Addr} {q2 : Nat} (h1 : Reads W (.slice p1 LA.length q1) LA) (h2 : Reads W (.slice p2 LB.length q2) LB) => q_mul cA.is cB.is cP (hp) (by omega) (by omega) h1 h2
  have kN := fun (W : World) {p1 : Option Addr} {q1 : Nat} (h1 : Reads W (.slice p1 LA.length q1) LA) => q_neg cA.is cN rfl (by omega) h1
  have lS := fun (W : World) {p1 : Option Addr} {q1 : Nat} (h1 : Reads W (.slice p1 LS.length q1) LS) => q_small (m + n) cS (by omega) (by omega) h1
  have lD := fun (W : World) {p1 : Option Addr} {q1 : Nat} (h1 : Reads W (.slice p1 LD.length q1) LD) => q_small (m - n) cD (by omega) (by omega) h1
  have lP := fun (W : World) {p1 : Option Addr} {q1 : Nat} (h1 : Reads W (.slice p1 LP.length q1) LP) => q_small (p) cP (by omega) (by omega) h1
  have lN := fun (W : World) {p1 : Option Addr} {q1 : Nat} (h1 : Reads W (.slice p1 LN.length q1) LN) => q_small (-m) cN (by omega) (by omega) h1
  have lV := fun (W : World) {p1 : Option Addr} {q1 : Nat} (h1 : Reads W (.slice p1 LV.length q1) LV) => q_small (v) cV (by omega) (by omega) h1
  have kC := fun (W : World) {p1 : Option Addr} {q1 : Nat} {p2 : Option Addr} {q2 : Nat} (h1 : Reads W (.slice p1 LA.length q1) LA) (h2 : Reads W (.slice p2 LB.length q2) LB) => q_cmp (0) cA.is cB.is (by simp only [sgz]; split <;> (try split) <;> omega) (by omega) (by omega) h1 h2
  obtain ⟨zv', hzv⟩ : ∃ z, z = sgz v 0 := ⟨_, rfl⟩
  have kG := fun (W : World) {p1 : Option Addr} {q1 : Nat} (h1 : Reads W (.slice p1 LV.length q1) LV) => q_sign zv' cV.is hzv.symm (by omega) h1
  have hz1 : ¬ zv' < 0 := by rw [hzv]; simp only [sgz]; split <;> (try split) <;> omega
  have hz2 : decide (zv' < 0) = false := decide_eq_false hz1
  have hz3 : decide (v < 0) = false := decide_eq_false hs
  have ep : m * n = p := hp.symm
  have oe : (m == n) = true := by rw [ho]; simp
  have ol : decide (m < n) = false := decide_eq_false (by omega)
  have r0 := Below.refl w.heap.size w
  have HO := Lib.hid ho
  clear mb hp hzv ho bA cA bB cB bS cS bD cD bP cP bN cN bV cV
  go_enter Try.func6, Try.ntmps6
  go_wp2_with (first
    | (go_at_call 19; with_reducible refine (kA _).mono ?_; rintro e w1 ⟨x1, y1, rfl, gA, rr⟩; replace r0 := then_below r0 rr; clear rr; have al := (Below.refl w1.heap.size w1).alloc (Nat.le_refl _) (.cells #[.bool sA, .slice x1 LA.length y1] 25); replace gA := gA.below al; replace r0 := then_below r0 al; have D := Box2.new w1 25 (.bool sA) (.slice x1 LA.length y1); clear al; have z0 := D.c0; have y0 := D.c1)
    | (go_at_call 19; with_reducible refine (kB _).mono ?_; rintro e w2 ⟨x2, y2, rfl, gB, rr⟩; replace gA := gA.below rr; replace D := D.below rr; replace r0 := then_below r0 rr; clear rr; have al := (Below.refl w2.heap.size w2).alloc (Nat.le_refl _) (.cells #[.bool sB, .slice x2 LB.length y2] 25); replace gA := gA.below al; replace gB := gB.below al; replace D := D.below al; replace r0 := then_below r0 al; have E := Box2.new w2 25 (.bool sB) (.slice x2 LB.length y2); clear al; clear z0 y0; have z0 := D.c0; have y0 := D.c1; have z1 := E.c0; have y1 := E.c1)
    | (go_at_call 9; with_reducible refine (ialive_any _).mono ?_; rintro e w3 ⟨rfl, rr⟩; replace gA := gA.below rr; replace gB := gB.below rr; replace D := D.below rr; replace E := E.below rr; replace r0 := then_below r0 rr; clear rr; clear z0 y0 z1 y1; have z0 := D.c0; have y0 := D.c1; have z1 := E.c0; have y1 := E.c1)
    | (go_at_call 10; with_reducible refine (kS w3 gA gB).mono ?_; rintro e w4 ⟨x4, y4, rfl, gS, rr⟩; replace gA := gA.below rr; replace gB := gB.below rr; replace D := D.below rr; replace E := E.below rr; replace r0 := then_below r0 rr; clear rr; clear z0 y0 z1 y1; have z0 := D.c0; have y0 := D.c1; have z1 := E.c0; have y1 := E.c1)
    | (go_at_call 20; with_reducible refine (lS w4 gS).mono ?_; rintro e w5 ⟨rfl, rr⟩; replace gA := gA.below rr; replace gB := gB.below rr; replace D := D.below rr; replace E := E.below rr; replace r0 := then_below r0 rr; clear rr; clear z0 y0 z1 y1; have z0 := D.c0; have y0 := D.c1; have z1 := E.c0; have y1 := E.c1)
    | (go_at_call 16; with_reducible refine (kD w5 gA gB).mono ?_; rintro e w6 ⟨x6, y6, rfl, gD, rr⟩; replace gA := gA.below rr; replace gB := gB.below rr; replace D := D.below rr; replace E := E.below rr; replace r0 := then_below r0 rr; clear rr; clear z0 y0 z1 y1; have z0 := D.c0; have y0 := D.c1; have z1 := E.c0; have y1 := E.c1)
    | (go_at_call 20; with_reducible refine (lD w6 gD).mono ?_; rintro e w7 ⟨rfl, rr⟩; replace gA := gA.below rr; replace gB := gB.below rr; replace D := D.below rr; replace E := E.below rr; replace r0 := then_below r0 rr; clear rr; clear z0 y0 z1 y1; have z0 := D.c0; have y0 := D.c1; have z1 := E.c0; have y1 := E.c1)
    | (go_at_call 11; with_reducible refine (kP w7 gA gB).mono ?_; rintro e w8 ⟨x8, y8, rfl, gP, rr⟩; replace gA := gA.below rr; replace gB := gB.below rr; replace D := D.below rr; replace E := E.below rr; replace r0 := then_below r0 rr; clear rr; clear z0 y0 z1 y1; have z0 := D.c0; have y0 := D.c1; have z1 := E.c0; have y1 := E.c1)
    | (go_at_call 20; with_reducible refine (lP w8 gP).mono ?_; rintro e w9 ⟨rfl, rr⟩; replace gA := gA.below rr; replace gB := gB.below rr; replace D := D.below rr; replace E := E.below rr; replace r0 := then_below r0 rr; clear rr; clear z0 y0 z1 y1; have z0 := D.c0; have y0 := D.c1; have z1 := E.c0; have y1 := E.c1)
    | (go_at_call 15; with_reducible refine (kN w9 gA).mono ?_; rintro e w10 ⟨x10, y10, rfl, gN, rr⟩; replace gA := gA.below rr; replace gB := gB.below rr; replace D := D.below rr; replace E := E.below rr; replace r0 := then_below r0 rr; clear rr; clear z0 y0 z1 y1; have z0 := D.c0; have y0 := D.c1; have z1 := E.c0; have y1 := E.c1)
    | (go_at_call 20; with_reducible refine (lN w10 gN).mono ?_; rintro e w11 ⟨rfl, rr⟩; replace gA := gA.below rr; replace gB := gB.below rr; replace D := D.below rr; replace E := E.below rr; replace r0 := then_below r0 rr; clear rr; clear z0 y0 z1 y1; have z0 := D.c0; have y0 := D.c1; have z1 := E.c0; have y1 := E.c1)
    | (go_at_call 18; with_reducible refine (kC w11 gA gB).mono ?_; rintro e w12 ⟨rfl, rr⟩; replace gA := gA.below rr; replace gB := gB.below rr; replace D := D.below rr; replace E := E.below rr; replace r0 := then_below r0 rr; clear rr; clear z0 y0 z1 y1; have z0 := D.c0; have y0 := D.c1; have z1 := E.c0; have y1 := E.c1)
    | (go_at_call 18; with_reducible refine (kC w12 gA gB).mono ?_; rintro e w13 ⟨rfl, rr⟩; replace gA := gA.below rr; replace gB := gB.below rr; replace D := D.below rr; replace E := E.below rr; replace r0 := then_below r0 rr; clear rr; clear z0 y0 z1 y1; have z0 := D.c0; have y0 := D.c1; have z1 := E.c0; have y1 := E.c1)
    | (go_at_call 19; with_reducible refine (kV w13).mono ?_; rintro e w14 ⟨x14, y14, rfl, gV, rr⟩; replace gA := gA.below rr; replace gB := gB.below rr; replace D := D.below rr; replace E := E.below rr; replace r0 := then_below r0 rr; clear rr; clear z0 y0 z1 y1; have z0 := D.c0; have y0 := D.c1; have z1 := E.c0; have y1 := E.c1)
    | (go_at_call 20; with_reducible refine (lV w14 gV).mono ?_; rintro e w15 ⟨rfl, rr⟩; replace gA := gA.below rr; replace gB := gB.below rr; replace D := D.below rr; replace E := E.below rr; replace r0 := then_below r0 rr; clear rr; clear z0 y0 z1 y1; have z0 := D.c0; have y0 := D.c1; have z1 := E.c0; have y1 := E.c1)
    | (go_at_call 19; with_reducible refine (kV w15).mono ?_; rintro e w16 ⟨x16, y16, rfl, gV2, rr⟩; replace gA := gA.below rr; replace gB := gB.below rr; replace D := D.below rr; replace E := E.below rr; replace r0 := then_below r0 rr; clear rr; clear z0 y0 z1 y1; have z0 := D.c0; have y0 := D.c1; have z1 := E.c0; have y1 := E.c1)
    | (go_at_call 17; with_reducible refine (kG w16 gV2).mono ?_; rintro e w17 ⟨rfl, rr⟩; replace gA := gA.below rr; replace gB := gB.below rr; replace D := D.below rr; replace E := E.below rr; replace r0 := then_below r0 rr; clear rr; clear z0 y0 z1 y1; have z0 := D.c0; have y0 := D.c1; have z1 := E.c0; have y1 := E.c1))
  go_ret
  exact ⟨rfl, r0⟩

set_option maxRecDepth 100000 in
set_option maxHeartbeats 4000000 in
theorem ismall_gt_neg {w : World} {m n v : Int} (m1 : -2147483648 ≤ m) (m2 : m ≤ 2147483647) (n1 : -2147483648 ≤ n) (n2 : n ≤ 2147483647) (v1 : -9223372036854775808 ≤ v) (v2 : v ≤ 9223372036854775807) (ho : n < m) (hs : v < 0) :
    Calls Try.prog 6 #[.int .i32 m, .int .i32 n, .int .i64 v] w fun e w' => e = .returned (.bool true) ∧ Below w.heap.size w w' := by
  have mb := small_mul m1 m2 n1 n2
  obtain ⟨p, hp⟩ : ∃ p, p = m * n := ⟨_, rfl⟩
  rw [← hp] at mb
  have p1 := mb.1
  have p2 := mb.2
  obtain ⟨sA, LA, cA⟩ := Can.ex (m)
  obtain ⟨sB, LB, cB⟩ := Can.ex (n)
  obtain ⟨sS, LS, cS⟩ := Can.ex (m + n)
  obtain ⟨sD, LD, cD⟩ := Can.ex (m - n)
  obtain ⟨sP, LP, cP⟩ := Can.ex (p)
  obtain ⟨sN, LN, cN⟩ := Can.ex (-m)
  obtain ⟨sV, LV, cV⟩ := Can.ex (v)
  have bA : LA.length ≤ 2 := by rw [cA.2]; exact len64i (by omega) (by omega)
  have bB : LB.length ≤ 2 := by rw [cB.2]; exact len64i (by omega) (by omega)
  have bS : LS.length ≤ 2 := by rw [cS.2]; exact len64i (by omega) (by omega)
  have bD : LD.length ≤ 2 := by rw [cD.2]; exact len64i (by omega) (by omega)
  have bP : LP.length ≤ 2 := by rw [cP.2]; exact len64i (by omega) (by omega)
  have bN : LN.length ≤ 2 := by rw [cN.2]; exact len64i (by omega) (by omega)
  have bV : LV.length ≤ 2 := by rw [cV.2]; exact len64i (by omega) (by omega)
  have kA := fun (W : World) => q_of (W := W) m cA (by omega) (by omega)
  have kB := fun (W : World) => q_of (W := W) n cB (by omega) (by omega)
  have kV := fun (W : World) => q_of (W := W) v cV (by omega) (by omega)
  have kS := fun (W : World) {p1 : Option Addr} {q1 : Nat} {p2 : Option Addr} {q2 : Nat} (h1 : Reads W (.slice p1 LA.length q1) LA) (h2 : Reads W (.slice p2 LB.length q2) LB) => q_add cA.is cB.is cS (rfl) (by omega) (by omega) h1 h2
  have kD := fun (W : World) {p1 : Option Addr} {q1 : Nat} {p2 : Option Addr} {q2 : Nat} (h1 : Reads W (.slice p1 LA.length q1) LA) (h2 : Reads W (.slice p2 LB.length q2) LB) => q_sub cA.is cB.is cD (rfl) (by omega) (by omega) h1 h2
  have kP := fun (W : World) {p1 : Option Addr} {q1 : Nat} {p2 : Option Addr} {q2 : Nat} (h1 : Reads W (.slice p1 LA.length q1) LA) (h2 : Reads W (.slice p2 LB.length q2) LB) => q_mul cA.is cB.is cP (hp) (by omega) (by omega) h1 h2
  have kN := fun (W : World) {p1 : Option Addr} {q1 : Nat} (h1 : Reads W (.slice p1 LA.length q1) LA) => q_neg cA.is cN rfl (by omega) h1
  have lS := fun (W : World) {p1 : Option Addr} {q1 : Nat} (h1 : Reads W (.slice p1 LS.length q1) LS) => q_small (m + n) cS (by omega) (by omega) h1
  have lD := fun (W : World) {p1 : Option Addr} {q1 : Nat} (h1 : Reads W (.slice p1 LD.length q1) LD) => q_small (m - n) cD (by omega) (by omega) h1
  have lP := fun (W : World) {p1 : Option Addr} {q1 : Nat} (h1 : Reads W (.slice p1 LP.length q1) LP) => q_small (p) cP (by omega) (by omega) h1
  have lN := fun (W : World) {p1 : Option Addr} {q1 : Nat} (h1 : Reads W (.slice p1 LN.length q1) LN) => q_small (-m) cN (by omega) (by omega) h1
  have lV := fun (W : World) {p1 : Option Addr} {q1 : Nat} (h1 : Reads W (.slice p1 LV.length q1) LV) => q_small (v) cV (by omega) (by omega) h1
  have kC := fun (W : World) {p1 : Option Addr} {q1 : Nat} {p2 : Option Addr} {q2 : Nat} (h1 : Reads W (.slice p1 LA.length q1) LA) (h2 : Reads W (.slice p2 LB.length q2) LB) => q_cmp (1) cA.is cB.is (by simp only [sgz]; split <;> (try split) <;> omega) (by omega) (by omega) h1 h2
  obtain ⟨zv', hzv⟩ : ∃ z, z = sgz v 0 := ⟨_, rfl⟩
  have kG := fun (W : World) {p1 : Option Addr} {q1 : Nat} (h1 : Reads W (.slice p1 LV.length q1) LV) => q_sign zv' cV.is hzv.symm (by omega) h1
  have hz1 : zv' < 0 := by rw [hzv]; simp only [sgz]; split <;> (try split) <;> omega
  have hz2 : decide (zv' < 0) = true := decide_eq_true hz1
  have hz3 : decide (v < 0) = true := decide_eq_true hs
  have ep : m * n = p := hp.symm
  have oe : (m == n) = false := beq_false_of_ne (by omega)
  have ol : decide (m < n) = false := decide_eq_false (by omega)
  have r0 := Below.refl w.heap.size w
  clear mb hp hzv bA cA bB cB bS cS bD cD bP cP bN cN bV cV
  go_enter Try.func6, Try.ntmps6
  go_wp2_with (first
    | (go_at_call 19; with_reducible refine (kA _).mono ?_; rintro e w1 ⟨x1, y1, rfl, gA, rr⟩; replace r0 := then_below r0 rr; clear rr; have al := (Below.refl w1.heap.size w1).alloc (Nat.le_refl _) (.cells #[.bool sA, .slice x1 LA.length y1] 25); replace gA := gA.below al; replace r0 := then_below r0 al; have D := Box2.new w1 25 (.bool sA) (.slice x1 LA.length y1); clear al; have z0 := D.c0; have y0 := D.c1)
    | (go_at_call 19; with_reducible refine (kB _).mono ?_; rintro e w2 ⟨x2, y2, rfl, gB, rr⟩; replace gA := gA.below rr; replace D := D.below rr; replace r0 := then_below r0 rr; clear rr; have al := (Below.refl w2.heap.size w2).alloc (Nat.le_refl _) (.cells #[.bool sB, .slice x2 LB.length y2] 25); replace gA := gA.below al; replace gB := gB.below al; replace D := D.below al; replace r0 := then_below r0 al; have E := Box2.new w2 25 (.bool sB) (.slice x2 LB.length y2); clear al; clear z0 y0; have z0 := D.c0; have y0 := D.c1; have z1 := E.c0; have y1 := E.c1)
    | (go_at_call 9; with_reducible refine (ialive_any _).mono ?_; rintro e w3 ⟨rfl, rr⟩; replace gA := gA.below rr; replace gB := gB.below rr; replace D := D.below rr; replace E := E.below rr; replace r0 := then_below r0 rr; clear rr; clear z0 y0 z1 y1; have z0 := D.c0; have y0 := D.c1; have z1 := E.c0; have y1 := E.c1)
    | (go_at_call 10; with_reducible refine (kS w3 gA gB).mono ?_; rintro e w4 ⟨x4, y4, rfl, gS, rr⟩; replace gA := gA.below rr; replace gB := gB.below rr; replace D := D.below rr; replace E := E.below rr; replace r0 := then_below r0 rr; clear rr; clear z0 y0 z1 y1; have z0 := D.c0; have y0 := D.c1; have z1 := E.c0; have y1 := E.c1)
    | (go_at_call 20; with_reducible refine (lS w4 gS).mono ?_; rintro e w5 ⟨rfl, rr⟩; replace gA := gA.below rr; replace gB := gB.below rr; replace D := D.below rr; replace E := E.below rr; replace r0 := then_below r0 rr; clear rr; clear z0 y0 z1 y1; have z0 := D.c0; have y0 := D.c1; have z1 := E.c0; have y1 := E.c1)
    | (go_at_call 16; with_reducible refine (kD w5 gA gB).mono ?_; rintro e w6 ⟨x6, y6, rfl, gD, rr⟩; replace gA := gA.below rr; replace gB := gB.below rr; replace D := D.below rr; replace E := E.below rr; replace r0 := then_below r0 rr; clear rr; clear z0 y0 z1 y1; have z0 := D.c0; have y0 := D.c1; have z1 := E.c0; have y1 := E.c1)
    | (go_at_call 20; with_reducible refine (lD w6 gD).mono ?_; rintro e w7 ⟨rfl, rr⟩; replace gA := gA.below rr; replace gB := gB.below rr; replace D := D.below rr; replace E := E.below rr; replace r0 := then_below r0 rr; clear rr; clear z0 y0 z1 y1; have z0 := D.c0; have y0 := D.c1; have z1 := E.c0; have y1 := E.c1)
    | (go_at_call 11; with_reducible refine (kP w7 gA gB).mono ?_; rintro e w8 ⟨x8, y8, rfl, gP, rr⟩; replace gA := gA.below rr; replace gB := gB.below rr; replace D := D.below rr; replace E := E.below rr; replace r0 := then_below r0 rr; clear rr; clear z0 y0 z1 y1; have z0 := D.c0; have y0 := D.c1; have z1 := E.c0; have y1 := E.c1)
    | (go_at_call 20; with_reducible refine (lP w8 gP).mono ?_; rintro e w9 ⟨rfl, rr⟩; replace gA := gA.below rr; replace gB := gB.below rr; replace D := D.below rr; replace E := E.below rr; replace r0 := then_below r0 rr; clear rr; clear z0 y0 z1 y1; have z0 := D.c0; have y0 := D.c1; have z1 := E.c0; have y1 := E.c1)
    | (go_at_call 15; with_reducible refine (kN w9 gA).mono ?_; rintro e w10 ⟨x10, y10, rfl, gN, rr⟩; replace gA := gA.below rr; replace gB := gB.below rr; replace D := D.below rr; replace E := E.below rr; replace r0 := then_below r0 rr; clear rr; clear z0 y0 z1 y1; have z0 := D.c0; have y0 := D.c1; have z1 := E.c0; have y1 := E.c1)
    | (go_at_call 20; with_reducible refine (lN w10 gN).mono ?_; rintro e w11 ⟨rfl, rr⟩; replace gA := gA.below rr; replace gB := gB.below rr; replace D := D.below rr; replace E := E.below rr; replace r0 := then_below r0 rr; clear rr; clear z0 y0 z1 y1; have z0 := D.c0; have y0 := D.c1; have z1 := E.c0; have y1 := E.c1)
    | (go_at_call 18; with_reducible refine (kC w11 gA gB).mono ?_; rintro e w12 ⟨rfl, rr⟩; replace gA := gA.below rr; replace gB := gB.below rr; replace D := D.below rr; replace E := E.below rr; replace r0 := then_below r0 rr; clear rr; clear z0 y0 z1 y1; have z0 := D.c0; have y0 := D.c1; have z1 := E.c0; have y1 := E.c1)
    | (go_at_call 18; with_reducible refine (kC w12 gA gB).mono ?_; rintro e w13 ⟨rfl, rr⟩; replace gA := gA.below rr; replace gB := gB.below rr; replace D := D.below rr; replace E := E.below rr; replace r0 := then_below r0 rr; clear rr; clear z0 y0 z1 y1; have z0 := D.c0; have y0 := D.c1; have z1 := E.c0; have y1 := E.c1)
    | (go_at_call 19; with_reducible refine (kV w13).mono ?_; rintro e w14 ⟨x14, y14, rfl, gV, rr⟩; replace gA := gA.below rr; replace gB := gB.below rr; replace D := D.below rr; replace E := E.below rr; replace r0 := then_below r0 rr; clear rr; clear z0 y0 z1 y1; have z0 := D.c0; have y0 := D.c1; have z1 := E.c0; have y1 := E.c1)
    | (go_at_call 20; with_reducible refine (lV w14 gV).mono ?_; rintro e w15 ⟨rfl, rr⟩; replace gA := gA.below rr; replace gB := gB.below rr; replace D := D.below rr; replace E := E.below rr; replace r0 := then_below r0 rr; clear rr; clear z0 y0 z1 y1; have z0 := D.c0; have y0 := D.c1; have z1 := E.c0; have y1 := E.c1)
    | (go_at_call 19; with_reducible refine (kV w15).mono ?_; rintro e w16 ⟨x16, y16, rfl, gV2, rr⟩; replace gA := gA.below rr; replace gB := gB.below rr; replace D := D.below rr; replace E := E.below rr; replace r0 := then_below r0 rr; clear rr; clear z0 y0 z1 y1; have z0 := D.c0; have y0 := D.c1; have z1 := E.c0; have y1 := E.c1)
    | (go_at_call 17; with_reducible refine (kG w16 gV2).mono ?_; rintro e w17 ⟨rfl, rr⟩; replace gA := gA.below rr; replace gB := gB.below rr; replace D := D.below rr; replace E := E.below rr; replace r0 := then_below r0 rr; clear rr; clear z0 y0 z1 y1; have z0 := D.c0; have y0 := D.c1; have z1 := E.c0; have y1 := E.c1))
  go_ret
  exact ⟨rfl, r0⟩

set_option maxRecDepth 100000 in
set_option maxHeartbeats 4000000 in
theorem ismall_gt_pos {w : World} {m n v : Int} (m1 : -2147483648 ≤ m) (m2 : m ≤ 2147483647) (n1 : -2147483648 ≤ n) (n2 : n ≤ 2147483647) (v1 : -9223372036854775808 ≤ v) (v2 : v ≤ 9223372036854775807) (ho : n < m) (hs : ¬ v < 0) :
    Calls Try.prog 6 #[.int .i32 m, .int .i32 n, .int .i64 v] w fun e w' => e = .returned (.bool true) ∧ Below w.heap.size w w' := by
  have mb := small_mul m1 m2 n1 n2
  obtain ⟨p, hp⟩ : ∃ p, p = m * n := ⟨_, rfl⟩
  rw [← hp] at mb
  have p1 := mb.1
  have p2 := mb.2
  obtain ⟨sA, LA, cA⟩ := Can.ex (m)
  obtain ⟨sB, LB, cB⟩ := Can.ex (n)
  obtain ⟨sS, LS, cS⟩ := Can.ex (m + n)
  obtain ⟨sD, LD, cD⟩ := Can.ex (m - n)
  obtain ⟨sP, LP, cP⟩ := Can.ex (p)
  obtain ⟨sN, LN, cN⟩ := Can.ex (-m)
  obtain ⟨sV, LV, cV⟩ := Can.ex (v)
  have bA : LA.length ≤ 2 := by rw [cA.2]; exact len64i (by omega) (by omega)
  have bB : LB.length ≤ 2 := by rw [cB.2]; exact len64i (by omega) (by omega)
  have bS : LS.length ≤ 2 := by rw [cS.2]; exact len64i (by omega) (by omega)
  have bD : LD.length ≤ 2 := by rw [cD.2]; exact len64i (by omega) (by omega)
  have bP : LP.length ≤ 2 := by rw [cP.2]; exact len64i (by omega) (by omega)
  have bN : LN.length ≤ 2 := by rw [cN.2]; exact len64i (by omega) (by omega)
  have bV : LV.length ≤ 2 := by rw [cV.2]; exact len64i (by omega) (by omega)
  have kA := fun (W : World) => q_of (W := W) m cA (by omega) (by omega)
  have kB := fun (W : World) => q_of (W := W) n cB (by omega) (by omega)
  have kV := fun (W : World) => q_of (W := W) v cV (by omega) (by omega)
  have kS := fun (W : World) {p1 : Option Addr} {q1 : Nat} {p2 : Option Addr} {q2 : Nat} (h1 : Reads W (.slice p1 LA.length q1) LA) (h2 : Reads W (.slice p2 LB.length q2) LB) => q_add cA.is cB.is cS (rfl) (by omega) (by omega) h1 h2
  have kD := fun (W : World) {p1 : Option Addr} {q1 : Nat} {p2 : Option Addr} {q2 : Nat} (h1 : Reads W (.slice p1 LA.length q1) LA) (h2 : Reads W (.slice p2 LB.length q2) LB) => q_sub cA.is cB.is cD (rfl) (by omega) (by omega) h1 h2
  have kP := fun (W : World) {p1 : Option Addr} {q1 : Nat} {p2 : Option Addr} {q2 : Nat} (h1 : Reads W (.slice p1 LA.length q1) LA) (h2 : Reads W (.slice p2 LB.length q2) LB) => q_mul cA.is cB.is cP (hp) (by omega) (by omega) h1 h2
  have kN := fun (W : World) {p1 : Option Addr} {q1 : Nat} (h1 : Reads W (.slice p1 LA.length q1) LA) => q_neg cA.is cN rfl (by omega) h1
  have lS := fun (W : World) {p1 : Option Addr} {q1 : Nat} (h1 : Reads W (.slice p1 LS.length q1) LS) => q_small (m + n) cS (by omega) (by omega) h1
  have lD := fun (W : World) {p1 : Option Addr} {q1 : Nat} (h1 : Reads W (.slice p1 LD.length q1) LD) => q_small (m - n) cD (by omega) (by omega) h1
  have lP := fun (W : World) {p1 : Option Addr} {q1 : Nat} (h1 : Reads W (.slice p1 LP.length q1) LP) => q_small (p) cP (by omega) (by omega) h1
  have lN := fun (W : World) {p1 : Option Addr} {q1 : Nat} (h1 : Reads W (.slice p1 LN.length q1) LN) => q_small (-m) cN (by omega) (by omega) h1
  have lV := fun (W : World) {p1 : Option Addr} {q1 : Nat} (h1 : Reads W (.slice p1 LV.length q1) LV) => q_small (v) cV (by omega) (by omega) h1
  have kC := fun (W : World) {p1 : Option Addr} {q1 : Nat} {p2 : Option Addr} {q2 : Nat} (h1 : Reads W (.slice p1 LA.length q1) LA) (h2 : Reads W (.slice p2 LB.length q2) LB) => q_cmp (1) cA.is cB.is (by simp only [sgz]; split <;> (try split) <;> omega) (by omega) (by omega) h1 h2
  obtain ⟨zv', hzv⟩ : ∃ z, z = sgz v 0 := ⟨_, rfl⟩
  have kG := fun (W : World) {p1 : Option Addr} {q1 : Nat} (h1 : Reads W (.slice p1 LV.length q1) LV) => q_sign zv' cV.is hzv.symm (by omega) h1
  have hz1 : ¬ zv' < 0 := by rw [hzv]; simp only [sgz]; split <;> (try split) <;> omega
  have hz2 : decide (zv' < 0) = false := decide_eq_false hz1
  have hz3 : decide (v < 0) = false := decide_eq_false hs
  have ep : m * n = p := hp.symm
  have oe : (m == n) = false := beq_false_of_ne (by omega)
  have ol : decide (m < n) = false := decide_eq_false (by omega)
  have r0 := Below.refl w.heap.size w
  clear mb hp hzv bA cA bB cB bS cS bD cD bP cP bN cN bV cV
  go_enter Try.func6, Try.ntmps6
  go_wp2_with (first
    | (go_at_call 19; with_reducible refine (kA _).mono ?_; rintro e w1 ⟨x1, y1, rfl, gA, rr⟩; replace r0 := then_below r0 rr; clear rr; have al := (Below.refl w1.heap.size w1).alloc (Nat.le_refl _) (.cells #[.bool sA, .slice x1 LA.length y1] 25); replace gA := gA.below al; replace r0 := then_below r0 al; have D := Box2.new w1 25 (.bool sA) (.slice x1 LA.length y1); clear al; have z0 := D.c0; have y0 := D.c1)
    | (go_at_call 19; with_reducible refine (kB _).mono ?_; rintro e w2 ⟨x2, y2, rfl, gB, rr⟩; replace gA := gA.below rr; replace D := D.below rr; replace r0 := then_below r0 rr; clear rr; have al := (Below.refl w2.heap.size w2).alloc (Nat.le_refl _) (.cells #[.bool sB, .slice x2 LB.length y2] 25); replace gA := gA.below al; replace gB := gB.below al; replace D := D.below al; replace r0 := then_below r0 al; have E := Box2.new w2 25 (.bool sB) (.slice x2 LB.length y2); clear al; clear z0 y0; have z0 := D.c0; have y0 := D.c1; have z1 := E.c0; have y1 := E.c1)
    | (go_at_call 9; with_reducible refine (ialive_any _).mono ?_; rintro e w3 ⟨rfl, rr⟩; replace gA := gA.below rr; replace gB := gB.below rr; replace D := D.below rr; replace E := E.below rr; replace r0 := then_below r0 rr; clear rr; clear z0 y0 z1 y1; have z0 := D.c0; have y0 := D.c1; have z1 := E.c0; have y1 := E.c1)
    | (go_at_call 10; with_reducible refine (kS w3 gA gB).mono ?_; rintro e w4 ⟨x4, y4, rfl, gS, rr⟩; replace gA := gA.below rr; replace gB := gB.below rr; replace D := D.below rr; replace E := E.below rr; replace r0 := then_below r0 rr; clear rr; clear z0 y0 z1 y1; have z0 := D.c0; have y0 := D.c1; have z1 := E.c0; have y1 := E.c1)
    | (go_at_call 20; with_reducible refine (lS w4 gS).mono ?_; rintro e w5 ⟨rfl, rr⟩; replace gA := gA.below rr; replace gB := gB.below rr; replace D := D.below rr; replace E := E.below rr; replace r0 := then_below r0 rr; clear rr; clear z0 y0 z1 y1; have z0 := D.c0; have y0 := D.c1; have z1 := E.c0; have y1 := E.c1)
    | (go_at_call 16; with_reducible refine (kD w5 gA gB).mono ?_; rintro e w6 ⟨x6, y6, rfl, gD, rr⟩; replace gA := gA.below rr; replace gB := gB.below rr; replace D := D.below rr; replace E := E.below rr; replace r0 := then_below r0 rr; clear rr; clear z0 y0 z1 y1; have z0 := D.c0; have y0 := D.c1; have z1 := E.c0; have y1 := E.c1)
    | (go_at_call 20; with_reducible refine (lD w6 gD).mono ?_; rintro e w7 ⟨rfl, rr⟩; replace gA := gA.below rr; replace gB := gB.below rr; replace D := D.below rr; replace E := E.below rr; replace r0 := then_below r0 rr; clear rr; clear z0 y0 z1 y1; have z0 := D.c0; have y0 := D.c1; have z1 := E.c0; have y1 := E.c1)
    | (go_at_call 11; with_reducible refine (kP w7 gA gB).mono ?_; rintro e w8 ⟨x8, y8, rfl, gP, rr⟩; replace gA := gA.below rr; replace gB := gB.below rr; replace D := D.below rr; replace E := E.below rr; replace r0 := then_below r0 rr; clear rr; clear z0 y0 z1 y1; have z0 := D.c0; have y0 := D.c1; have z1 := E.c0; have y1 := E.c1)
    | (go_at_call 20; with_reducible refine (lP w8 gP).mono ?_; rintro e w9 ⟨rfl, rr⟩; replace gA := gA.below rr; replace gB := gB.below rr; replace D := D.below rr; replace E := E.below rr; replace r0 := then_below r0 rr; clear rr; clear z0 y0 z1 y1; have z0 := D.c0; have y0 := D.c1; have z1 := E.c0; have y1 := E.c1)
    | (go_at_call 15; with_reducible refine (kN w9 gA).mono ?_; rintro e w10 ⟨x10, y10, rfl, gN, rr⟩; replace gA := gA.below rr; replace gB := gB.below rr; replace D := D.below rr; replace E := E.below rr; replace r0 := then_below r0 rr; clear rr; clear z0 y0 z1 y1; have z0 := D.c0; have y0 := D.c1; have z1 := E.c0; have y1 := E.c1)
    | (go_at_call 20; with_reducible refine (lN w10 gN).mono ?_; rintro e w11 ⟨rfl, rr⟩; replace gA := gA.below rr; replace gB := gB.below rr; replace D := D.below rr; replace E := E.below rr; replace r0 := then_below r0 rr; clear rr; clear z0 y0 z1 y1; have z0 := D.c0; have y0 := D.c1; have z1 := E.c0; have y1 := E.c1)
    | (go_at_call 18; with_reducible refine (kC w11 gA gB).mono ?_; rintro e w12 ⟨rfl, rr⟩; replace gA := gA.below rr; replace gB := gB.below rr; replace D := D.below rr; replace E := E.below rr; replace r0 := then_below r0 rr; clear rr; clear z0 y0 z1 y1; have z0 := D.c0; have y0 := D.c1; have z1 := E.c0; have y1 := E.c1)
    | (go_at_call 18; with_reducible refine (kC w12 gA gB).mono ?_; rintro e w13 ⟨rfl, rr⟩; replace gA := gA.below rr; replace gB := gB.below rr; replace D := D.below rr; replace E := E.below rr; replace r0 := then_below r0 rr; clear rr; clear z0 y0 z1 y1; have z0 := D.c0; have y0 := D.c1; have z1 := E.c0; have y1 := E.c1)
    | (go_at_call 19; with_reducible refine (kV w13).mono ?_; rintro e w14 ⟨x14, y14, rfl, gV, rr⟩; replace gA := gA.below rr; replace gB := gB.below rr; replace D := D.below rr; replace E := E.below rr; replace r0 := then_below r0 rr; clear rr; clear z0 y0 z1 y1; have z0 := D.c0; have y0 := D.c1; have z1 := E.c0; have y1 := E.c1)
    | (go_at_call 20; with_reducible refine (lV w14 gV).mono ?_; rintro e w15 ⟨rfl, rr⟩; replace gA := gA.below rr; replace gB := gB.below rr; replace D := D.below rr; replace E := E.below rr; replace r0 := then_below r0 rr; clear rr; clear z0 y0 z1 y1; have z0 := D.c0; have y0 := D.c1; have z1 := E.c0; have y1 := E.c1)
    | (go_at_call 19; with_reducible refine (kV w15).mono ?_; rintro e w16 ⟨x16, y16, rfl, gV2, rr⟩; replace gA := gA.below rr; replace gB := gB.below rr; replace D := D.below rr; replace E := E.below rr; replace r0 := then_below r0 rr; clear rr; clear z0 y0 z1 y1; have z0 := D.c0; have y0 := D.c1; have z1 := E.c0; have y1 := E.c1)
    | (go_at_call 17; with_reducible refine (kG w16 gV2).mono ?_; rintro e w17 ⟨rfl, rr⟩; replace gA := gA.below rr; replace gB := gB.below rr; replace D := D.below rr; replace E := E.below rr; replace r0 := then_below r0 rr; clear rr; clear z0 y0 z1 y1; have z0 := D.c0; have y0 := D.c1; have z1 := E.c0; have y1 := E.c1))
  go_ret
  exact ⟨rfl, r0⟩

end Go.Proofs.Ytjcoaoacgcpooaa
