/- NatsGreatest: its walks. -/
import Derived.Test.YtbcipningfdgoaaAliveB
import Derived.Test.YtbcipningfdgoaaGcdL
import Derived.Test.YtbcipningfdgoaaFormD
import Derived.Test.YtbcipningfdgoaaGreat
namespace Go.Proofs.Ytbcipningfdgoaa
open Go Go.Proofs Go.RowKit Go.Shelf Nu

theorem gcd_nilr {w : World} {p1 : Option Addr} {q1 A : Nat} (h1 : Reads w (.slice p1 (digs A).length q1) (digs A)) (l1 : (digs A).length ≤ 80000) :
    Calls Try.prog 20 #[.slice p1 (digs A).length q1, .slice none 0 0] w fun e w' => ∃ a c, e = .returned (.slice a (digs A).length c) ∧ Reads w' (.slice a (digs A).length c) (digs A) ∧ Below w.heap.size w w' := by
  refine (gcd_any h1 (Reads.nil w) l1 (by simp) (sm_digs _) Sm.nil A (by rw [nv_digs, show nv [] = 0 from rfl, Nat.gcd_zero_right])).mono ?_
  rintro e w' ⟨v, rfl, f, hb⟩
  obtain ⟨a, c, rfl⟩ := f.reads.form
  exact ⟨a, c, rfl, f.reads, hb⟩
theorem one_digs {U : Nat} (h : U = 1) : [1] = digs U := by rw [h]; exact (digs_lit (sm1 (by decide)) (by decide) rfl).symm

set_option maxRecDepth 100000 in
set_option maxHeartbeats 2000000 in
theorem greatest_zero {w : World} {a1 b1 c1 : Option Addr} {ca cb cc A B C : Nat} (ga : Reads w (.slice a1 (digs A).length ca) (digs A)) (gb : Reads w (.slice b1 (digs B).length cb) (digs B)) (gc : Reads w (.slice c1 (digs C).length cc) (digs C)) (LA : (digs A).length ≤ 40) (LB : (digs B).length ≤ 40) (LC : (digs C).length ≤ 10) (h0 : Nat.gcd A B = 0) :
    Calls Try.prog 6 #[.slice a1 (digs A).length ca, .slice b1 (digs B).length cb, .slice c1 (digs C).length cc] w fun e w' => e = .returned (.bool true) ∧ Below w.heap.size w w' := by
  have hA : A = 0 := by have := Nat.gcd_dvd_left A B; rw [h0] at this; exact Nat.zero_dvd.1 this
  have hB : B = 0 := by have := Nat.gcd_dvd_right A B; rw [h0] at this; exact Nat.zero_dvd.1 this
  obtain ⟨G, hG⟩ : ∃ G, G = Nat.gcd A B := ⟨_, rfl⟩
  have LG : (digs G).length ≤ 40 := by rw [hG]; rw [h0, digs_zero]; simp
  obtain ⟨X, hX⟩ : ∃ X, X = A * C := ⟨_, rfl⟩
  have LX : (digs X).length ≤ 50 := by rw [hX]; have := digs_mul_le A C; omega
  obtain ⟨Y, hY⟩ : ∃ Y, Y = B * C := ⟨_, rfl⟩
  have LY : (digs Y).length ≤ 50 := by rw [hY]; have := digs_mul_le B C; omega
  obtain ⟨Z, hZ⟩ : ∃ Z, Z = G * C := ⟨_, rfl⟩
  have LZ : (digs Z).length ≤ 50 := by rw [hZ]; have := digs_mul_le G C; omega
  have j5 : ((digs G).length : Int) = 0 := by rw [hG, h0, digs_zero]; rfl
  have j6 : ((digs A).length : Int) = 0 := by rw [hA, digs_zero]; rfl
  have j7 : ((digs B).length : Int) = 0 := by rw [hB, digs_zero]; rfl
  have j1 : ¬ 40 < ((digs A).length : Int) := by omega
  have j2 : ¬ 40 < ((digs B).length : Int) := by omega
  have j3 : ¬ 10 < ((digs C).length : Int) := by omega
  have k1 := fun (W : World) {p1 : Option Addr} {q1 : Nat} (h1 : Reads W (.slice p1 (digs A).length q1) (digs A)) => d_check  h1 (by omega)
  have k2 := fun (W : World) {p1 : Option Addr} {q1 : Nat} (h1 : Reads W (.slice p1 (digs B).length q1) (digs B)) => d_check  h1 (by omega)
  have k3 := fun (W : World) {p1 : Option Addr} {q1 : Nat} (h1 : Reads W (.slice p1 (digs C).length q1) (digs C)) => d_check  h1 (by omega)
  have k4 := fun (W : World) {p1 : Option Addr} {q1 : Nat} {p2 : Option Addr} {q2 : Nat} (h1 : Reads W (.slice p1 (digs A).length q1) (digs A)) (h2 : Reads W (.slice p2 (digs B).length q2) (digs B)) => d_gcd G h1 h2 (by omega) (by omega) (hG)
  have k5 := fun (W : World) {p1 : Option Addr} {q1 : Nat} {p2 : Option Addr} {q2 : Nat} (h1 : Reads W (.slice p1 (digs B).length q1) (digs B)) (h2 : Reads W (.slice p2 (digs A).length q2) (digs A)) => d_gcd G h1 h2 (by omega) (by omega) (by rw [hG, Nat.gcd_comm])
  have k6 := fun (W : World) {p1 : Option Addr} {q1 : Nat} {p2 : Option Addr} {q2 : Nat} (h1 : Reads W (.slice p1 (digs G).length q1) (digs G)) (h2 : Reads W (.slice p2 (digs G).length q2) (digs G)) => d_same true h1 h2 (by omega) (by omega) (by simp)
  have k7 := fun (W : World) {p1 : Option Addr} {q1 : Nat} {p2 : Option Addr} {q2 : Nat} (h1 : Reads W (.slice p1 (digs A).length q1) (digs A)) (h2 : Reads W (.slice p2 (digs C).length q2) (digs C)) => d_mul X h1 h2 (by omega) (by omega) (hX)
  have k8 := fun (W : World) {p1 : Option Addr} {q1 : Nat} {p2 : Option Addr} {q2 : Nat} (h1 : Reads W (.slice p1 (digs B).length q1) (digs B)) (h2 : Reads W (.slice p2 (digs C).length q2) (digs C)) => d_mul Y h1 h2 (by omega) (by omega) (hY)
  have k9 := fun (W : World) {p1 : Option Addr} {q1 : Nat} {p2 : Option Addr} {q2 : Nat} (h1 : Reads W (.slice p1 (digs X).length q1) (digs X)) (h2 : Reads W (.slice p2 (digs Y).length q2) (digs Y)) => d_gcd Z h1 h2 (by omega) (by omega) (by rw [hZ, hX, hY, hG, Nat.gcd_mul_right])
  have k10 := fun (W : World) {p1 : Option Addr} {q1 : Nat} {p2 : Option Addr} {q2 : Nat} (h1 : Reads W (.slice p1 (digs G).length q1) (digs G)) (h2 : Reads W (.slice p2 (digs C).length q2) (digs C)) => d_mul Z h1 h2 (by omega) (by omega) (hZ)
  have k11 := fun (W : World) {p1 : Option Addr} {q1 : Nat} {p2 : Option Addr} {q2 : Nat} (h1 : Reads W (.slice p1 (digs Z).length q1) (digs Z)) (h2 : Reads W (.slice p2 (digs Z).length q2) (digs Z)) => d_same true h1 h2 (by omega) (by omega) (by simp)
  have k12 := fun (W : World) {p1 : Option Addr} {q1 : Nat} (h1 : Reads W (.slice p1 (digs A).length q1) (digs A)) => gcd_nilr h1 (by omega)
  have k13 := fun (W : World) {p1 : Option Addr} {q1 : Nat} {p2 : Option Addr} {q2 : Nat} (h1 : Reads W (.slice p1 (digs A).length q1) (digs A)) (h2 : Reads W (.slice p2 (digs A).length q2) (digs A)) => d_same true h1 h2 (by omega) (by omega) (by simp)
  clear hG LG hA hB hX LX hY LY hZ LZ h0 LA LB LC
  have r0 := Below.refl w.heap.size w
  go_enter Try.func6, Try.ntmps6
  go_wp2_with (first
    | (go_at_call 11; with_reducible refine (alive_any w).mono ?_; rintro e w1 ⟨rfl, r1⟩; replace r0 := then_below r0 r1; replace ga := ga.below r1; replace gb := gb.below r1; replace gc := gc.below r1)
    | (go_at_call 14; with_reducible refine (k1 w1 ga).mono ?_; rintro e w2 ⟨rfl, r2⟩; replace r0 := then_below r0 r2; replace ga := ga.below r2; replace gb := gb.below r2; replace gc := gc.below r2)
    | (go_at_call 14; with_reducible refine (k2 w2 gb).mono ?_; rintro e w3 ⟨rfl, r3⟩; replace r0 := then_below r0 r3; replace ga := ga.below r3; replace gb := gb.below r3; replace gc := gc.below r3)
    | (go_at_call 14; with_reducible refine (k3 w3 gc).mono ?_; rintro e w4 ⟨rfl, r4⟩; replace r0 := then_below r0 r4; replace ga := ga.below r4; replace gb := gb.below r4; replace gc := gc.below r4)
    | (go_at_call 20; with_reducible refine (k4 w4 ga gb).mono ?_; rintro e w5 ⟨x5_0, y5_0, rfl, gg, r5⟩; replace r0 := then_below r0 r5; replace ga := ga.below r5; replace gb := gb.below r5; replace gc := gc.below r5)
    | (go_at_call 20; with_reducible refine (k5 w5 gb ga).mono ?_; rintro e w6 ⟨x6_0, y6_0, rfl, gh, r6⟩; replace r0 := then_below r0 r6; replace ga := ga.below r6; replace gb := gb.below r6; replace gc := gc.below r6; replace gg := gg.below r6)
    | (go_at_call 15; with_reducible refine (k6 w6 gh gg).mono ?_; rintro e w7 ⟨rfl, r7⟩; replace r0 := then_below r0 r7; replace ga := ga.below r7; replace gb := gb.below r7; replace gc := gc.below r7; replace gg := gg.below r7)
    | (go_at_call 13; with_reducible refine (k7 w7 ga gc).mono ?_; rintro e w8 ⟨x8_0, y8_0, rfl, gx, r8⟩; replace r0 := then_below r0 r8; replace ga := ga.below r8; replace gb := gb.below r8; replace gc := gc.below r8; replace gg := gg.below r8)
    | (go_at_call 13; with_reducible refine (k8 w8 gb gc).mono ?_; rintro e w9 ⟨x9_0, y9_0, rfl, gy, r9⟩; replace r0 := then_below r0 r9; replace ga := ga.below r9; replace gc := gc.below r9; replace gg := gg.below r9; replace gx := gx.below r9)
    | (go_at_call 20; with_reducible refine (k9 w9 gx gy).mono ?_; rintro e w10 ⟨x10_0, y10_0, rfl, gz, r10⟩; replace r0 := then_below r0 r10; replace ga := ga.below r10; replace gc := gc.below r10; replace gg := gg.below r10)
    | (go_at_call 13; with_reducible refine (k10 w10 gg gc).mono ?_; rintro e w11 ⟨x11_0, y11_0, rfl, gzz, r11⟩; replace r0 := then_below r0 r11; replace ga := ga.below r11; replace gz := gz.below r11)
    | (go_at_call 15; with_reducible refine (k11 w11 gz gzz).mono ?_; rintro e w12 ⟨rfl, r12⟩; replace r0 := then_below r0 r12; replace ga := ga.below r12)
    | (go_at_call 20; with_reducible refine (k12 w12 ga).mono ?_; rintro e w13 ⟨x13_0, y13_0, rfl, gt, r13⟩; replace r0 := then_below r0 r13; replace ga := ga.below r13)
    | (go_at_call 15; with_reducible refine (k13 w13 gt ga).mono ?_; rintro e w14 ⟨rfl, r14⟩; replace r0 := then_below r0 r14))
  go_ret
  exact ⟨rfl, r0⟩

set_option maxRecDepth 100000 in
set_option maxHeartbeats 2000000 in
theorem greatest_near {w : World} {a1 b1 c1 : Option Addr} {ca cb cc A B C : Nat} (ga : Reads w (.slice a1 (digs A).length ca) (digs A)) (gb : Reads w (.slice b1 (digs B).length cb) (digs B)) (gc : Reads w (.slice c1 (digs C).length cc) (digs C)) (LA : (digs A).length ≤ 40) (LB : (digs B).length ≤ 40) (LC : (digs C).length ≤ 10) (h0 : Nat.gcd A B ≠ 0) :
    Calls Try.prog 6 #[.slice a1 (digs A).length ca, .slice b1 (digs B).length cb, .slice c1 (digs C).length cc] w fun e w' => e = .returned (.bool true) ∧ Below w.heap.size w w' := by
  have lG : (digs (Nat.gcd A B)).length ≤ 40 := by
    rcases Nat.eq_zero_or_pos A with h | h
    · rw [h, Nat.gcd_zero_left]; exact LB
    · exact Nat.le_trans (digs_mono (Nat.gcd_le_left B h)) LA
  obtain ⟨G, hG⟩ : ∃ G, G = Nat.gcd A B := ⟨_, rfl⟩
  have LG : (digs G).length ≤ 40 := by rw [hG]; exact lG
  obtain ⟨X, hX⟩ : ∃ X, X = A * C := ⟨_, rfl⟩
  have LX : (digs X).length ≤ 50 := by rw [hX]; have := digs_mul_le A C; omega
  obtain ⟨Y, hY⟩ : ∃ Y, Y = B * C := ⟨_, rfl⟩
  have LY : (digs Y).length ≤ 50 := by rw [hY]; have := digs_mul_le B C; omega
  obtain ⟨Z, hZ⟩ : ∃ Z, Z = G * C := ⟨_, rfl⟩
  have LZ : (digs Z).length ≤ 50 := by rw [hZ]; have := digs_mul_le G C; omega
  obtain ⟨P, hP⟩ : ∃ P, P = A / G := ⟨_, rfl⟩
  have LP : (digs P).length ≤ 40 := by rw [hP]; exact Nat.le_trans (digs_mono (Nat.div_le_self _ _)) LA
  obtain ⟨R, hR⟩ : ∃ R, R = A % G := ⟨_, rfl⟩
  have LR : (digs R).length ≤ 0 := by rw [hR]; rw [hG, Nat.mod_eq_zero_of_dvd (Nat.gcd_dvd_left A B), digs_zero]; simp
  obtain ⟨Q, hQ⟩ : ∃ Q, Q = B / G := ⟨_, rfl⟩
  have LQ : (digs Q).length ≤ 40 := by rw [hQ]; exact Nat.le_trans (digs_mono (Nat.div_le_self _ _)) LB
  obtain ⟨S, hS⟩ : ∃ S, S = B % G := ⟨_, rfl⟩
  have LS : (digs S).length ≤ 0 := by rw [hS]; rw [hG, Nat.mod_eq_zero_of_dvd (Nat.gcd_dvd_right A B), digs_zero]; simp
  have hG0 : G ≠ 0 := by rw [hG]; exact h0
  have hU1 : Nat.gcd P Q = 1 := by rw [hP, hQ, hG]; exact Nat.coprime_div_gcd_div_gcd (Nat.pos_of_ne_zero h0)
  obtain ⟨U, hU⟩ : ∃ U, U = Nat.gcd P Q := ⟨_, rfl⟩
  have LU : (digs U).length ≤ 1 := by rw [hU]; rw [hU1, ← one_digs rfl]; simp
  have HU := Lib.hid (one_digs (hU.trans hU1))
  have j5 : (((digs G).length : Int) == 0) = false := beq_false_of_ne (by have := digs_len_pos hG0; omega)
  have j6 : ((digs G).length == 0) = false := beq_false_of_ne (by have := digs_len_pos hG0; omega)
  have j1 : ¬ 40 < ((digs A).length : Int) := by omega
  have j2 : ¬ 40 < ((digs B).length : Int) := by omega
  have j3 : ¬ 10 < ((digs C).length : Int) := by omega
  have k1 := fun (W : World) {p1 : Option Addr} {q1 : Nat} (h1 : Reads W (.slice p1 (digs A).length q1) (digs A)) => d_check  h1 (by omega)
  have k2 := fun (W : World) {p1 : Option Addr} {q1 : Nat} (h1 : Reads W (.slice p1 (digs B).length q1) (digs B)) => d_check  h1 (by omega)
  have k3 := fun (W : World) {p1 : Option Addr} {q1 : Nat} (h1 : Reads W (.slice p1 (digs C).length q1) (digs C)) => d_check  h1 (by omega)
  have k4 := fun (W : World) {p1 : Option Addr} {q1 : Nat} {p2 : Option Addr} {q2 : Nat} (h1 : Reads W (.slice p1 (digs A).length q1) (digs A)) (h2 : Reads W (.slice p2 (digs B).length q2) (digs B)) => d_gcd G h1 h2 (by omega) (by omega) (hG)
  have k5 := fun (W : World) {p1 : Option Addr} {q1 : Nat} {p2 : Option Addr} {q2 : Nat} (h1 : Reads W (.slice p1 (digs B).length q1) (digs B)) (h2 : Reads W (.slice p2 (digs A).length q2) (digs A)) => d_gcd G h1 h2 (by omega) (by omega) (by rw [hG, Nat.gcd_comm])
  have k6 := fun (W : World) {p1 : Option Addr} {q1 : Nat} {p2 : Option Addr} {q2 : Nat} (h1 : Reads W (.slice p1 (digs G).length q1) (digs G)) (h2 : Reads W (.slice p2 (digs G).length q2) (digs G)) => d_same true h1 h2 (by omega) (by omega) (by simp)
  have k7 := fun (W : World) {p1 : Option Addr} {q1 : Nat} {p2 : Option Addr} {q2 : Nat} (h1 : Reads W (.slice p1 (digs A).length q1) (digs A)) (h2 : Reads W (.slice p2 (digs C).length q2) (digs C)) => d_mul X h1 h2 (by omega) (by omega) (hX)
  have k8 := fun (W : World) {p1 : Option Addr} {q1 : Nat} {p2 : Option Addr} {q2 : Nat} (h1 : Reads W (.slice p1 (digs B).length q1) (digs B)) (h2 : Reads W (.slice p2 (digs C).length q2) (digs C)) => d_mul Y h1 h2 (by omega) (by omega) (hY)
  have k9 := fun (W : World) {p1 : Option Addr} {q1 : Nat} {p2 : Option Addr} {q2 : Nat} (h1 : Reads W (.slice p1 (digs X).length q1) (digs X)) (h2 : Reads W (.slice p2 (digs Y).length q2) (digs Y)) => d_gcd Z h1 h2 (by omega) (by omega) (by rw [hZ, hX, hY, hG, Nat.gcd_mul_right])
  have k10 := fun (W : World) {p1 : Option Addr} {q1 : Nat} {p2 : Option Addr} {q2 : Nat} (h1 : Reads W (.slice p1 (digs G).length q1) (digs G)) (h2 : Reads W (.slice p2 (digs C).length q2) (digs C)) => d_mul Z h1 h2 (by omega) (by omega) (hZ)
  have k11 := fun (W : World) {p1 : Option Addr} {q1 : Nat} {p2 : Option Addr} {q2 : Nat} (h1 : Reads W (.slice p1 (digs Z).length q1) (digs Z)) (h2 : Reads W (.slice p2 (digs Z).length q2) (digs Z)) => d_same true h1 h2 (by omega) (by omega) (by simp)
  have k12 := fun (W : World) {p1 : Option Addr} {q1 : Nat} (h1 : Reads W (.slice p1 (digs A).length q1) (digs A)) => gcd_nilr h1 (by omega)
  have k13 := fun (W : World) {p1 : Option Addr} {q1 : Nat} {p2 : Option Addr} {q2 : Nat} (h1 : Reads W (.slice p1 (digs A).length q1) (digs A)) (h2 : Reads W (.slice p2 (digs A).length q2) (digs A)) => d_same true h1 h2 (by omega) (by omega) (by simp)
  have k14 := fun (W : World) {p1 : Option Addr} {q1 : Nat} {p2 : Option Addr} {q2 : Nat} (h1 : Reads W (.slice p1 (digs A).length q1) (digs A)) (h2 : Reads W (.slice p2 (digs G).length q2) (digs G)) => d_quo P R h1 h2 (by omega) (by omega) (hG0) (hP) (hR)
  have k15 := fun (W : World) {p1 : Option Addr} {q1 : Nat} {p2 : Option Addr} {q2 : Nat} (h1 : Reads W (.slice p1 (digs B).length q1) (digs B)) (h2 : Reads W (.slice p2 (digs G).length q2) (digs G)) => d_quo Q S h1 h2 (by omega) (by omega) (hG0) (hQ) (hS)
  have k16 := fun (W : World) {p1 : Option Addr} {q1 : Nat} {p2 : Option Addr} {q2 : Nat} (h1 : Reads W (.slice p1 (digs P).length q1) (digs P)) (h2 : Reads W (.slice p2 (digs Q).length q2) (digs Q)) => d_gcd U h1 h2 (by omega) (by omega) (hU)
  have hR0 : ((digs R).length : Int) = 0 := by omega
  have hS0 : ((digs S).length : Int) = 0 := by omega
  have lU : (digs U).length ≤ 1 := LU
  clear hG LG hX LX hY LY hZ LZ hP LP hR LR hQ LQ hS LS hU LU lG hG0 hU1 h0 LA LB LC
  have r0 := Below.refl w.heap.size w
  go_enter Try.func6, Try.ntmps6
  go_wp2_with (first
    | (go_at_call 11; with_reducible refine (alive_any w).mono ?_; rintro e w1 ⟨rfl, r1⟩; replace r0 := then_below r0 r1; replace ga := ga.below r1; replace gb := gb.below r1; replace gc := gc.below r1)
    | (go_at_call 14; with_reducible refine (k1 w1 ga).mono ?_; rintro e w2 ⟨rfl, r2⟩; replace r0 := then_below r0 r2; replace ga := ga.below r2; replace gb := gb.below r2; replace gc := gc.below r2)
    | (go_at_call 14; with_reducible refine (k2 w2 gb).mono ?_; rintro e w3 ⟨rfl, r3⟩; replace r0 := then_below r0 r3; replace ga := ga.below r3; replace gb := gb.below r3; replace gc := gc.below r3)
    | (go_at_call 14; with_reducible refine (k3 w3 gc).mono ?_; rintro e w4 ⟨rfl, r4⟩; replace r0 := then_below r0 r4; replace ga := ga.below r4; replace gb := gb.below r4; replace gc := gc.below r4)
    | (go_at_call 20; with_reducible refine (k4 w4 ga gb).mono ?_; rintro e w5 ⟨x5_0, y5_0, rfl, gg, r5⟩; replace r0 := then_below r0 r5; replace ga := ga.below r5; replace gb := gb.below r5; replace gc := gc.below r5)
    | (go_at_call 20; with_reducible refine (k5 w5 gb ga).mono ?_; rintro e w6 ⟨x6_0, y6_0, rfl, gh, r6⟩; replace r0 := then_below r0 r6; replace ga := ga.below r6; replace gb := gb.below r6; replace gc := gc.below r6; replace gg := gg.below r6)
    | (go_at_call 15; with_reducible refine (k6 w6 gh gg).mono ?_; rintro e w7 ⟨rfl, r7⟩; replace r0 := then_below r0 r7; replace ga := ga.below r7; replace gb := gb.below r7; replace gc := gc.below r7; replace gg := gg.below r7)
    | (go_at_call 13; with_reducible refine (k7 w7 ga gc).mono ?_; rintro e w8 ⟨x8_0, y8_0, rfl, gx, r8⟩; replace r0 := then_below r0 r8; replace ga := ga.below r8; replace gb := gb.below r8; replace gc := gc.below r8; replace gg := gg.below r8)
    | (go_at_call 13; with_reducible refine (k8 w8 gb gc).mono ?_; rintro e w9 ⟨x9_0, y9_0, rfl, gy, r9⟩; replace r0 := then_below r0 r9; replace ga := ga.below r9; replace gb := gb.below r9; replace gc := gc.below r9; replace gg := gg.below r9; replace gx := gx.below r9)
    | (go_at_call 20; with_reducible refine (k9 w9 gx gy).mono ?_; rintro e w10 ⟨x10_0, y10_0, rfl, gz, r10⟩; replace r0 := then_below r0 r10; replace ga := ga.below r10; replace gb := gb.below r10; replace gc := gc.below r10; replace gg := gg.below r10)
    | (go_at_call 13; with_reducible refine (k10 w10 gg gc).mono ?_; rintro e w11 ⟨x11_0, y11_0, rfl, gzz, r11⟩; replace r0 := then_below r0 r11; replace ga := ga.below r11; replace gb := gb.below r11; replace gg := gg.below r11; replace gz := gz.below r11)
    | (go_at_call 15; with_reducible refine (k11 w11 gz gzz).mono ?_; rintro e w12 ⟨rfl, r12⟩; replace r0 := then_below r0 r12; replace ga := ga.below r12; replace gb := gb.below r12; replace gg := gg.below r12)
    | (go_at_call 20; with_reducible refine (k12 w12 ga).mono ?_; rintro e w13 ⟨x13_0, y13_0, rfl, gt, r13⟩; replace r0 := then_below r0 r13; replace ga := ga.below r13; replace gb := gb.below r13; replace gg := gg.below r13)
    | (go_at_call 15; with_reducible refine (k13 w13 gt ga).mono ?_; rintro e w14 ⟨rfl, r14⟩; replace r0 := then_below r0 r14; replace ga := ga.below r14; replace gb := gb.below r14; replace gg := gg.below r14)
    | (go_at_call 16; with_reducible refine (k14 w14 ga gg).mono ?_; rintro e w15 ⟨x15_0, y15_0, x15_1, y15_1, rfl, gp, gr, r15⟩; replace r0 := then_below r0 r15; replace gb := gb.below r15; replace gg := gg.below r15)
    | (go_at_call 16; with_reducible refine (k15 w15 gb gg).mono ?_; rintro e w16 ⟨x16_0, y16_0, x16_1, y16_1, rfl, gq, gs, r16⟩; replace r0 := then_below r0 r16; replace gp := gp.below r16)
    | (go_at_call 20; with_reducible refine (k16 w16 gp gq).mono ?_; rintro e w17 ⟨x17_0, y17_0, rfl, gu, r17⟩; replace r0 := then_below r0 r17)
    | (go_at_call 15; have ks := alive_same w17 gu (by omega) (l2 := [1]) HU.out (vs := #[.int .u32 1]) (by first | rfl | simp [u32v]) (m := 1) (by rfl); with_reducible refine ks.mono ?_; clear ks; rintro e w18 ⟨rfl, r18⟩; replace r0 := then_below r0 r18))
  go_ret
  exact ⟨rfl, r0⟩

set_option maxRecDepth 100000 in
set_option maxHeartbeats 2000000 in
theorem greatest_far {w : World} {a1 b1 c1 : Option Addr} {na nb nc ca cb cc : Nat} (h : 40 < na ∨ (¬ 40 < na ∧ 40 < nb) ∨ (¬ 40 < na ∧ ¬ 40 < nb ∧ 10 < nc)) :
    Calls Try.prog 6 #[.slice a1 na ca, .slice b1 nb cb, .slice c1 nc cc] w fun e w' => e = .returned (.bool true) ∧ Below w.heap.size w w' := by

  have r0 := Below.refl w.heap.size w
  have hh : 40 < (na : Int) ∨ (¬ 40 < (na : Int) ∧ 40 < (nb : Int)) ∨ (¬ 40 < (na : Int) ∧ ¬ 40 < (nb : Int) ∧ 10 < (nc : Int)) := by omega
  clear h
  rcases hh with h1 | ⟨h1, h2⟩ | ⟨h1, h2, h3⟩
  all_goals
    go_enter Try.func6, Try.ntmps6
    go_wp2_with (first
      | (go_at_call 11; with_reducible refine (alive_any w).mono ?_; rintro e w1 ⟨rfl, r1⟩; replace r0 := then_below r0 r1)
      | (go_at_call 11; with_reducible refine (alive_any w1).mono ?_; rintro e w2 ⟨rfl, r2⟩; replace r0 := then_below r0 r2))
    go_ret
    exact ⟨rfl, r0⟩

set_option maxRecDepth 100000 in
set_option maxHeartbeats 2000000 in
theorem greatest_bada {w : World} {a1 b1 c1' : Option Addr} {ca cb cc : Nat} {la lb lc : List Nat} (ga : Reads w (.slice a1 la.length ca) la) (_gb : Reads w (.slice b1 lb.length cb) lb) (_gc : Reads w (.slice c1' lc.length cc) lc) (LA : la.length ≤ 40) (LB : lb.length ≤ 40) (LC : lc.length ≤ 10) (h : chk la = false) :
    Calls Try.prog 6 #[.slice a1 la.length ca, .slice b1 lb.length cb, .slice c1' lc.length cc] w fun e w' => e = .returned (.bool true) ∧ Below w.heap.size w w' := by
  have j1 : ¬ 40 < (la.length : Int) := by omega
  have j2 : ¬ 40 < (lb.length : Int) := by omega
  have j3 : ¬ 10 < (lc.length : Int) := by omega
  have c1 := fun (W : World) (g : Reads W (.slice a1 la.length ca) la) => check_any g (by omega)
  rw [h] at c1

  clear LA LB LC h
  have r0 := Below.refl w.heap.size w
  go_enter Try.func6, Try.ntmps6
  go_wp2_with (first
    | (go_at_call 11; with_reducible refine (alive_any w).mono ?_; rintro e w1 ⟨rfl, r1⟩; replace r0 := then_below r0 r1; replace ga := ga.below r1)
    | (go_at_call 14; with_reducible refine (c1 w1 ga).mono ?_; rintro e w2 ⟨rfl, q2⟩; have r2 : Below w1.heap.size w1 w2 := q2 ▸ Below.refl _ _; clear q2; replace r0 := then_below r0 r2)
    | (go_at_call 11; with_reducible refine (alive_any w2).mono ?_; rintro e w3 ⟨rfl, r3⟩; replace r0 := then_below r0 r3))
  go_ret
  exact ⟨rfl, r0⟩

set_option maxRecDepth 100000 in
set_option maxHeartbeats 2000000 in
theorem greatest_badb {w : World} {a1 b1 c1' : Option Addr} {ca cb cc : Nat} {la lb lc : List Nat} (ga : Reads w (.slice a1 la.length ca) la) (gb : Reads w (.slice b1 lb.length cb) lb) (_gc : Reads w (.slice c1' lc.length cc) lc) (LA : la.length ≤ 40) (LB : lb.length ≤ 40) (LC : lc.length ≤ 10) (h1 : chk la = true) (h : chk lb = false) :
    Calls Try.prog 6 #[.slice a1 la.length ca, .slice b1 lb.length cb, .slice c1' lc.length cc] w fun e w' => e = .returned (.bool true) ∧ Below w.heap.size w w' := by
  have j1 : ¬ 40 < (la.length : Int) := by omega
  have j2 : ¬ 40 < (lb.length : Int) := by omega
  have j3 : ¬ 10 < (lc.length : Int) := by omega
  have c1 := fun (W : World) (g : Reads W (.slice a1 la.length ca) la) => check_form g (by omega) h1
  have c2 := fun (W : World) (g : Reads W (.slice b1 lb.length cb) lb) => check_any g (by omega)
  rw [h] at c2

  clear LA LB LC h h1
  have r0 := Below.refl w.heap.size w
  go_enter Try.func6, Try.ntmps6
  go_wp2_with (first
    | (go_at_call 11; with_reducible refine (alive_any w).mono ?_; rintro e w1 ⟨rfl, r1⟩; replace r0 := then_below r0 r1; replace ga := ga.below r1; replace gb := gb.below r1)
    | (go_at_call 14; with_reducible refine (c1 w1 ga).mono ?_; rintro e w2 ⟨rfl, q2⟩; have r2 : Below w1.heap.size w1 w2 := q2 ▸ Below.refl _ _; clear q2; replace r0 := then_below r0 r2; replace gb := gb.below r2)
    | (go_at_call 14; with_reducible refine (c2 w2 gb).mono ?_; rintro e w3 ⟨rfl, q3⟩; have r3 : Below w2.heap.size w2 w3 := q3 ▸ Below.refl _ _; clear q3; replace r0 := then_below r0 r3)
    | (go_at_call 11; with_reducible refine (alive_any w3).mono ?_; rintro e w4 ⟨rfl, r4⟩; replace r0 := then_below r0 r4))
  go_ret
  exact ⟨rfl, r0⟩

set_option maxRecDepth 100000 in
set_option maxHeartbeats 2000000 in
theorem greatest_badc {w : World} {a1 b1 c1' : Option Addr} {ca cb cc : Nat} {la lb lc : List Nat} (ga : Reads w (.slice a1 la.length ca) la) (gb : Reads w (.slice b1 lb.length cb) lb) (gc : Reads w (.slice c1' lc.length cc) lc) (LA : la.length ≤ 40) (LB : lb.length ≤ 40) (LC : lc.length ≤ 10) (h1 : chk la = true) (h2 : chk lb = true) (h : chk lc = false) :
    Calls Try.prog 6 #[.slice a1 la.length ca, .slice b1 lb.length cb, .slice c1' lc.length cc] w fun e w' => e = .returned (.bool true) ∧ Below w.heap.size w w' := by
  have j1 : ¬ 40 < (la.length : Int) := by omega
  have j2 : ¬ 40 < (lb.length : Int) := by omega
  have j3 : ¬ 10 < (lc.length : Int) := by omega
  have c1 := fun (W : World) (g : Reads W (.slice a1 la.length ca) la) => check_form g (by omega) h1
  have c2 := fun (W : World) (g : Reads W (.slice b1 lb.length cb) lb) => check_form g (by omega) h2
  have c3 := fun (W : World) (g : Reads W (.slice c1' lc.length cc) lc) => check_any g (by omega)
  rw [h] at c3

  clear LA LB LC h h1 h2
  have r0 := Below.refl w.heap.size w
  go_enter Try.func6, Try.ntmps6
  go_wp2_with (first
    | (go_at_call 11; with_reducible refine (alive_any w).mono ?_; rintro e w1 ⟨rfl, r1⟩; replace r0 := then_below r0 r1; replace ga := ga.below r1; replace gb := gb.below r1; replace gc := gc.below r1)
    | (go_at_call 14; with_reducible refine (c1 w1 ga).mono ?_; rintro e w2 ⟨rfl, q2⟩; have r2 : Below w1.heap.size w1 w2 := q2 ▸ Below.refl _ _; clear q2; replace r0 := then_below r0 r2; replace gb := gb.below r2; replace gc := gc.below r2)
    | (go_at_call 14; with_reducible refine (c2 w2 gb).mono ?_; rintro e w3 ⟨rfl, q3⟩; have r3 : Below w2.heap.size w2 w3 := q3 ▸ Below.refl _ _; clear q3; replace r0 := then_below r0 r3; replace gc := gc.below r3)
    | (go_at_call 14; with_reducible refine (c3 w3 gc).mono ?_; rintro e w4 ⟨rfl, q4⟩; have r4 : Below w3.heap.size w3 w4 := q4 ▸ Below.refl _ _; clear q4; replace r0 := then_below r0 r4)
    | (go_at_call 11; with_reducible refine (alive_any w4).mono ?_; rintro e w5 ⟨rfl, r5⟩; replace r0 := then_below r0 r5))
  go_ret
  exact ⟨rfl, r0⟩

end Go.Proofs.Ytbcipningfdgoaa
