/- Fractions: RatsOrder: its walks. -/
import Derived.Deep.RegionHeld3
import Derived.IntWalk
import Derived.Test.YthloknddhfphnaaGreatDoorGRatAlive
import Derived.Test.YthloknddhfphnaaGreatDoorGRatCmp
import Derived.Test.YthloknddhfphnaaGreatDoorGRatLess
set_option linter.unusedSimpArgs false
set_option linter.unusedVariables false
namespace Go.Proofs.YthloknddhfphnaaGreatDoor
open Go Go.Proofs Go.RowKit Go.Shelf Nu

attribute [local go_sem] Oper.semAt_some

theorem rsg_lt {X Y : Rat} (h : X < Y) : rsg X Y = -1 := by unfold rsg; rw [if_pos h]
theorem rsg_gt {X Y : Rat} (h : Y < X) : rsg X Y = 1 := by unfold rsg; rw [if_neg (by grind), if_pos h]
theorem rsg_id (X : Rat) : rsg X X = 0 := by unfold rsg; rw [if_neg (by grind), if_neg (by grind)]
theorem order_facts {X Y C : Rat} {z zc za zb : Int} (hz : rsg X Y = z) (hc : rsg C 0 = zc) (ha : rsg X C = za) (hb : rsg Y C = zb) :
    (-1 ≤ z ∧ z ≤ 1) ∧ (-1 ≤ zc ∧ zc ≤ 1) ∧ rsg Y X = -z ∧ decide (X = Y) = (z == 0) ∧ rsg (X + C) (Y + C) = z ∧ rsg (X - Y) 0 = z ∧ rsg (X * C) (Y * C) = z * zc ∧ (0 < z ∨ (¬ 0 < z ∧ 0 < zb) ∨ (¬ 0 < z ∧ ¬ 0 < zb ∧ za ≤ 0)) := by
  have t3 : ∀ A B : Rat, A < B ∨ A = B ∨ B < A := fun A B => by grind
  have sg : ∀ {A B : Rat} {s : Int}, rsg A B = s → -1 ≤ s ∧ s ≤ 1 := by
    intro A B s h
    rw [← h]; unfold rsg; split <;> (try split) <;> omega
  have hlast : 0 < z ∨ (¬ 0 < z ∧ 0 < zb) ∨ (¬ 0 < z ∧ ¬ 0 < zb ∧ za ≤ 0) := by
    by_cases h1 : 0 < z
    · exact .inl h1
    by_cases h2 : 0 < zb
    · exact .inr (.inl ⟨h1, h2⟩)
    refine .inr (.inr ⟨h1, h2, ?_⟩)
    have k1 : X ≤ Y := by
      rcases t3 X Y with h | h | h
      · grind
      · grind
      · exfalso; rw [rsg_gt h] at hz; omega
    have k2 : Y ≤ C := by
      rcases t3 Y C with h | h | h
      · grind
      · grind
      · exfalso; rw [rsg_gt h] at hb; omega
    rcases t3 X C with h | h | h
    · rw [rsg_lt h] at ha; omega
    · rw [h, rsg_id] at ha; omega
    · exfalso; grind
  refine ⟨sg hz, sg hc, ?_, ?_, ?_, ?_, ?_, hlast⟩
  · rcases t3 X Y with h | h | h
    · rw [rsg_lt h] at hz; rw [rsg_gt h]; omega
    · subst h; rw [rsg_id] at hz; rw [rsg_id]; omega
    · rw [rsg_gt h] at hz; rw [rsg_lt h]; omega
  · rcases t3 X Y with h | h | h
    · rw [rsg_lt h] at hz; rw [← hz, decide_eq_false (by grind)]; rfl
    · subst h; rw [rsg_id] at hz; rw [← hz, decide_eq_true rfl]; rfl
    · rw [rsg_gt h] at hz; rw [← hz, decide_eq_false (by grind)]; rfl
  · rcases t3 X Y with h | h | h
    · rw [rsg_lt (by grind : X + C < Y + C), ← hz, rsg_lt h]
    · subst h; rw [rsg_id, ← hz, rsg_id]
    · rw [rsg_gt (by grind : Y + C < X + C), ← hz, rsg_gt h]
  · rcases t3 X Y with h | h | h
    · rw [rsg_lt (by grind : X - Y < 0), ← hz, rsg_lt h]
    · subst h; rw [show X - X = (0 : Rat) by grind, rsg_id, ← hz, rsg_id]
    · rw [rsg_gt (by grind : 0 < X - Y), ← hz, rsg_gt h]
  · rcases t3 C 0 with k | k | k
    · have e : zc = -1 := by rw [← hc, rsg_lt k]
      subst e
      rcases t3 X Y with h | h | h
      · have := Rat.mul_lt_mul_of_pos_right h (show 0 < -C by grind)
        rw [rsg_gt (by grind : Y * C < X * C), ← hz, rsg_lt h]; rfl
      · subst h; rw [rsg_id, ← hz, rsg_id]; rfl
      · have := Rat.mul_lt_mul_of_pos_right h (show 0 < -C by grind)
        rw [rsg_lt (by grind : X * C < Y * C), ← hz, rsg_gt h]; rfl
    · subst k
      have e : zc = 0 := by rw [← hc, rsg_id]
      subst e
      rw [Rat.mul_zero, Rat.mul_zero, rsg_id]; omega
    · have e : zc = 1 := by rw [← hc, rsg_gt k]
      subst e
      rcases t3 X Y with h | h | h
      · rw [rsg_lt (Rat.mul_lt_mul_of_pos_right h k), ← hz, rsg_lt h]; rfl
      · subst h; rw [rsg_id, ← hz, rsg_id]; rfl
      · rw [rsg_gt (Rat.mul_lt_mul_of_pos_right h k), ← hz, rsg_gt h]; rfl

set_option maxRecDepth 100000 in
set_option maxHeartbeats 16000000 in
theorem rorder_near {w : World} {n1 n2 n3 : Bool} {p1 o1 p2 o2 p3 o3 : Option Addr} {q1 r1 q2 r2 q3 r3 : Nat} {l1 d1 l2 d2 l3 d3 : List Nat} {X1 X2 X3 : Rat} (c1 : RCan n1 l1 d1 X1) (c2 : RCan n2 l2 d2 X2) (c3 : RCan n3 l3 d3 X3) (m1 : l1.length + d1.length ≤ 25) (m2 : l2.length + d2.length ≤ 25) (m3 : l3.length + d3.length ≤ 25) (g1 : Reads w (.slice p1 l1.length q1) l1) (h1 : Reads w (.slice o1 d1.length r1) d1) (g2 : Reads w (.slice p2 l2.length q2) l2) (h2 : Reads w (.slice o2 d2.length r2) d2) (g3 : Reads w (.slice p3 l3.length q3) l3) (h3 : Reads w (.slice o3 d3.length r3) d3) :
    Calls Tryz.prog 5 #[.agg #[.bool n1, .slice p1 l1.length q1, .slice o1 d1.length r1], .agg #[.bool n2, .slice p2 l2.length q2, .slice o2 d2.length r2], .agg #[.bool n3, .slice p3 l3.length q3, .slice o3 d3.length r3]] w fun e w' => e = .returned (.bool true) ∧ Below w.heap.size w w' := by
  have R1 : rl X1 ≤ 26 := by have := c1.is.len; omega
  have R2 : rl X2 ≤ 26 := by have := c2.is.len; omega
  have R3 : rl X3 ≤ 26 := by have := c3.is.len; omega
  obtain ⟨sS, LS, DS, cS⟩ := RCan.ex (X1 + X3)
  have RS : rl (X1 + X3) ≤ 105 := by have := rl_sum (X := X1) (Y := X3) (.inl rfl); omega
  have bS : LS.length ≤ 9999 ∧ DS.length ≤ 9999 := by have := cS.len; omega
  obtain ⟨sT, LT, DT, cT⟩ := RCan.ex (X2 + X3)
  have RT : rl (X2 + X3) ≤ 105 := by have := rl_sum (X := X2) (Y := X3) (.inl rfl); omega
  have bT : LT.length ≤ 9999 ∧ DT.length ≤ 9999 := by have := cT.len; omega
  obtain ⟨sD, LD, DD, cD⟩ := RCan.ex (X1 - X2)
  have RD : rl (X1 - X2) ≤ 105 := by have := rl_sum (X := X1) (Y := X2) (.inr rfl); omega
  have bD : LD.length ≤ 9999 ∧ DD.length ≤ 9999 := by have := cD.len; omega
  obtain ⟨sP, LP, DP, cP⟩ := RCan.ex (X1 * X3)
  have RP : rl (X1 * X3) ≤ 52 := by have := rl_mul (X := X1) (Y := X3) rfl; omega
  have bP : LP.length ≤ 9999 ∧ DP.length ≤ 9999 := by have := cP.len; omega
  obtain ⟨sQ, LQ, DQ, cQ⟩ := RCan.ex (X2 * X3)
  have RQ : rl (X2 * X3) ≤ 52 := by have := rl_mul (X := X2) (Y := X3) rfl; omega
  have bQ : LQ.length ≤ 9999 ∧ DQ.length ≤ 9999 := by have := cQ.len; omega
  obtain ⟨z, hz⟩ : ∃ z, rsg X1 X2 = z := ⟨_, rfl⟩
  obtain ⟨zc, hzc⟩ : ∃ z, rsg X3 0 = z := ⟨_, rfl⟩
  obtain ⟨za, hza⟩ : ∃ z, rsg X1 X3 = z := ⟨_, rfl⟩
  obtain ⟨zb, hzb⟩ : ∃ z, rsg X2 X3 = z := ⟨_, rfl⟩
  obtain ⟨⟨i1, i2⟩, ⟨i3, i4⟩, e1, e2, e3, e4, e5, hl⟩ := order_facts hz hzc hza hzb
  have hL := Lib.hid hl
  have j1 : decide (z < -1) = false := decide_eq_false (by omega)
  have j2 : decide (1 < z) = false := decide_eq_false (by omega)
  have jw : IntKind.i64.wrap (-z) = -z := by have := IntWalk.i64_in (-z) (by omega); exact this
  have mz : -1 ≤ z * zc ∧ z * zc ≤ 1 := by rcases (show z = -1 ∨ z = 0 ∨ z = 1 by omega) with h | h | h <;> subst h <;> omega
  have jv : IntKind.i64.wrap (z * zc) = z * zc := by have := IntWalk.i64_in (z * zc) (by omega); exact this
  have tok7 : True := trivial
  have tok8 : True := trivial
  have tok9 : True := trivial
  have tok10 : True := trivial
  have tok11 : True := trivial
  have tok12 : True := trivial
  have tok13 : True := trivial
  have tok14 : True := trivial
  have tok15 : True := trivial
  have tok16 : True := trivial
  have tok17 : True := trivial
  have k1 := fun (W : World) (g1 : Reads W (.slice p1 l1.length q1) l1) (h1 : Reads W (.slice o1 d1.length r1) d1) => rcheck_yes c1 (by omega) (by omega) g1 h1
  have k2 := fun (W : World) (g1 : Reads W (.slice p2 l2.length q2) l2) (h1 : Reads W (.slice o2 d2.length r2) d2) => rcheck_yes c2 (by omega) (by omega) g1 h1
  have k3 := fun (W : World) (g1 : Reads W (.slice p3 l3.length q3) l3) (h1 : Reads W (.slice o3 d3.length r3) d3) => rcheck_yes c3 (by omega) (by omega) g1 h1
  have k4 := fun (W : World) (g1 : Reads W (.slice p1 l1.length q1) l1) (h1 : Reads W (.slice o1 d1.length r1) d1) (g2 : Reads W (.slice p2 l2.length q2) l2) (h2 : Reads W (.slice o2 d2.length r2) d2) => r_cmp (z) (hz) c1.is c2.is (by omega) (by omega) (by omega) (by omega) g1 h1 g2 h2
  have k5 := fun (W : World) (g1 : Reads W (.slice p2 l2.length q2) l2) (h1 : Reads W (.slice o2 d2.length r2) d2) (g2 : Reads W (.slice p1 l1.length q1) l1) (h2 : Reads W (.slice o1 d1.length r1) d1) => r_cmp (-z) (e1) c2.is c1.is (by omega) (by omega) (by omega) (by omega) g1 h1 g2 h2
  have k6 := fun (W : World) (g1 : Reads W (.slice p1 l1.length q1) l1) (h1 : Reads W (.slice o1 d1.length r1) d1) (g2 : Reads W (.slice p2 l2.length q2) l2) (h2 : Reads W (.slice o2 d2.length r2) d2) => r_same (z == 0) c1 c2 (e2) (by omega) (by omega) (by omega) (by omega) g1 h1 g2 h2
  have k7 := fun (W : World) (g1 : Reads W (.slice p1 l1.length q1) l1) (h1 : Reads W (.slice o1 d1.length r1) d1) (g2 : Reads W (.slice p3 l3.length q3) l3) (h2 : Reads W (.slice o3 d3.length r3) d3) => r_add c1.is c3.is cS (rfl) (by omega) (by omega) (by omega) (by omega) g1 h1 g2 h2
  have k8 := fun (W : World) (g1 : Reads W (.slice p2 l2.length q2) l2) (h1 : Reads W (.slice o2 d2.length r2) d2) (g2 : Reads W (.slice p3 l3.length q3) l3) (h2 : Reads W (.slice o3 d3.length r3) d3) => r_add c2.is c3.is cT (rfl) (by omega) (by omega) (by omega) (by omega) g1 h1 g2 h2
  have k9 := fun (W : World) {aa1 oo1 : Option Addr} {ee1 ff1 : Nat} {aa2 oo2 : Option Addr} {ee2 ff2 : Nat} (g1 : Reads W (.slice aa1 LS.length ee1) LS) (h1 : Reads W (.slice oo1 DS.length ff1) DS) (g2 : Reads W (.slice aa2 LT.length ee2) LT) (h2 : Reads W (.slice oo2 DT.length ff2) DT) => r_cmp (z) (e3) cS.is cT.is (by omega) (by omega) (by omega) (by omega) g1 h1 g2 h2
  have k10 := fun (W : World) (g1 : Reads W (.slice p1 l1.length q1) l1) (h1 : Reads W (.slice o1 d1.length r1) d1) (g2 : Reads W (.slice p2 l2.length q2) l2) (h2 : Reads W (.slice o2 d2.length r2) d2) => r_sub c1.is c2.is cD (rfl) (by omega) (by omega) (by omega) (by omega) g1 h1 g2 h2
  have k11 := fun (W : World) {aa1 oo1 : Option Addr} {ee1 ff1 : Nat} (g1 : Reads W (.slice aa1 LD.length ee1) LD) (h1 : Reads W (.slice oo1 DD.length ff1) DD) => r_sign (z) cD.is (e4) (by omega) (by omega) g1 h1
  have k12 := fun (W : World) (g1 : Reads W (.slice p1 l1.length q1) l1) (h1 : Reads W (.slice o1 d1.length r1) d1) (g2 : Reads W (.slice p3 l3.length q3) l3) (h2 : Reads W (.slice o3 d3.length r3) d3) => r_mul c1.is c3.is cP (rfl) (by omega) (by omega) (by omega) (by omega) g1 h1 g2 h2
  have k13 := fun (W : World) (g1 : Reads W (.slice p2 l2.length q2) l2) (h1 : Reads W (.slice o2 d2.length r2) d2) (g2 : Reads W (.slice p3 l3.length q3) l3) (h2 : Reads W (.slice o3 d3.length r3) d3) => r_mul c2.is c3.is cQ (rfl) (by omega) (by omega) (by omega) (by omega) g1 h1 g2 h2
  have k14 := fun (W : World) {aa1 oo1 : Option Addr} {ee1 ff1 : Nat} {aa2 oo2 : Option Addr} {ee2 ff2 : Nat} (g1 : Reads W (.slice aa1 LP.length ee1) LP) (h1 : Reads W (.slice oo1 DP.length ff1) DP) (g2 : Reads W (.slice aa2 LQ.length ee2) LQ) (h2 : Reads W (.slice oo2 DQ.length ff2) DQ) => r_cmp (z * zc) (e5) cP.is cQ.is (by omega) (by omega) (by omega) (by omega) g1 h1 g2 h2
  have k15 := fun (W : World) (g1 : Reads W (.slice p3 l3.length q3) l3) (h1 : Reads W (.slice o3 d3.length r3) d3) => r_sign (zc) c3.is (hzc) (by omega) (by omega) g1 h1
  have k16 := fun (W : World) (g1 : Reads W (.slice p2 l2.length q2) l2) (h1 : Reads W (.slice o2 d2.length r2) d2) (g2 : Reads W (.slice p3 l3.length q3) l3) (h2 : Reads W (.slice o3 d3.length r3) d3) => r_cmp (zb) (hzb) c2.is c3.is (by omega) (by omega) (by omega) (by omega) g1 h1 g2 h2
  have k17 := fun (W : World) (g1 : Reads W (.slice p1 l1.length q1) l1) (h1 : Reads W (.slice o1 d1.length r1) d1) (g2 : Reads W (.slice p3 l3.length q3) l3) (h2 : Reads W (.slice o3 d3.length r3) d3) => r_cmp (za) (hza) c1.is c3.is (by omega) (by omega) (by omega) (by omega) g1 h1 g2 h2
  have hG : Hid (false = List.any [(n1, (p1, l1.length, q1), (o1, d1.length, r1)), (n2, (p2, l2.length, q2), (o2, d2.length, r2)), (n3, (p3, l3.length, q3), (o3, d3.length, r3))] fun t : Q7 => decide (25 < t.2.1.2.1 + t.2.2.2.1)) := Lib.hid (by simp; omega)
  have hZ : Hid (∀ t ∈ ([(n1, (p1, l1.length, q1), (o1, d1.length, r1)), (n2, (p2, l2.length, q2), (o2, d2.length, r2)), (n3, (p3, l3.length, q3), (o3, d3.length, r3))] : List Q7), t.2.1.2.1 ≤ 70368744177664 ∧ t.2.2.2.1 ≤ 70368744177664) := Lib.hid (by simp; omega)
  have M : Mem w [(w.heap.size + 1 + 1, 27, [.bool n3, .slice p3 l3.length q3, .slice o3 d3.length r3]), (w.heap.size + 1, 27, [.bool n2, .slice p2 l2.length q2, .slice o2 d2.length r2]), (w.heap.size, 27, [.bool n1, .slice p1 l1.length q1, .slice o1 d1.length r1])] [(.slice o3 d3.length r3, d3), (.slice p3 l3.length q3, l3), (.slice o2 d2.length r2, d2), (.slice p2 l2.length q2, l2), (.slice o1 d1.length r1, d1), (.slice p1 l1.length q1, l1)] (((w.alloc (.cells #[.bool n1, .slice p1 l1.length q1, .slice o1 d1.length r1] 27)).alloc (.cells #[.bool n2, .slice p2 l2.length q2, .slice o2 d2.length r2] 27)).alloc (.cells #[.bool n3, .slice p3 l3.length q3, .slice o3 d3.length r3] 27)) := by
    have M := ((((((((((Mem.start w).add g1).add h1).add g2).add h2).add g3).add h3).new 27 [.bool n1, .slice p1 l1.length q1, .slice o1 d1.length r1]).new 27 [.bool n2, .slice p2 l2.length q2, .slice o2 d2.length r2]).new 27 [.bool n3, .slice p3 l3.length q3, .slice o3 d3.length r3])
    simpa only [World.size_alloc] using M
  clear g1 h1 m1 R1 c1 g2 h2 m2 R2 c2 g3 h3 m3 R3 c3 cS RS bS cT RT bT cD RD bD cP RP bP cQ RQ bQ hz hzc hza hzb i1 i2 i3 i4 e1 e2 e3 e4 e5 hl mz 
  go_enter Tryz.func5, Tryz.ntmps5
  go_wp2_with (first
    | (go_at_call 10; with_reducible refine (r_alive _).mono ?_; rintro e w1 ⟨rfl, rr⟩; have M' := M.up rr; clear M rr ; have M := M'; clear M'; have z1_2_0 := M.cell 2 rfl 0 rfl; have z1_2_1 := M.cell 2 rfl 1 rfl; have z1_2_2 := M.cell 2 rfl 2 rfl; have z1_1_0 := M.cell 1 rfl 0 rfl; have z1_1_1 := M.cell 1 rfl 1 rfl; have z1_1_2 := M.cell 1 rfl 2 rfl; have z1_0_0 := M.cell 0 rfl 0 rfl; have z1_0_1 := M.cell 0 rfl 1 rfl; have z1_0_2 := M.cell 0 rfl 2 rfl)
    | (go_at_call 11; have kg := rgreat_lit w1 25 [(n1, (p1, l1.length, q1), (o1, d1.length, r1)), (n2, (p2, l2.length, q2), (o2, d2.length, r2)), (n3, (p3, l3.length, q3), (o3, d3.length, r3))] (vs := #[.bool n1, .slice p1 l1.length q1, .slice o1 d1.length r1, .bool n2, .slice p2 l2.length q2, .slice o2 d2.length r2, .bool n3, .slice p3 l3.length q3, .slice o3 d3.length r3]) (by simp [q7v]) (m := 3) rfl (by simp) (by decide) hZ.out false hG.out; rw [show ((25 : Nat) : Int) = 25 from rfl] at kg; with_reducible refine kg.mono ?_; clear kg; rintro e w2 ⟨rfl, rr⟩; have M' := M.up rr; clear M rr; have M := M'; clear M'; clear z1_2_0 z1_2_1 z1_2_2 z1_1_0 z1_1_1 z1_1_2 z1_0_0 z1_0_1 z1_0_2; have z2_2_0 := M.cell 2 rfl 0 rfl; have z2_2_1 := M.cell 2 rfl 1 rfl; have z2_2_2 := M.cell 2 rfl 2 rfl; have z2_1_0 := M.cell 1 rfl 0 rfl; have z2_1_1 := M.cell 1 rfl 1 rfl; have z2_1_2 := M.cell 1 rfl 2 rfl; have z2_0_0 := M.cell 0 rfl 0 rfl; have z2_0_1 := M.cell 0 rfl 1 rfl; have z2_0_2 := M.cell 0 rfl 2 rfl)
    | (go_at_call 14; with_reducible refine (k1 _ (M.get 5 rfl) (M.get 4 rfl)).mono ?_; rintro e w3 ⟨rfl, rr⟩; have M' := M.up rr; clear M rr ; have M := M'; clear M'; clear z2_2_0 z2_2_1 z2_2_2 z2_1_0 z2_1_1 z2_1_2 z2_0_0 z2_0_1 z2_0_2; have z3_2_0 := M.cell 2 rfl 0 rfl; have z3_2_1 := M.cell 2 rfl 1 rfl; have z3_2_2 := M.cell 2 rfl 2 rfl; have z3_1_0 := M.cell 1 rfl 0 rfl; have z3_1_1 := M.cell 1 rfl 1 rfl; have z3_1_2 := M.cell 1 rfl 2 rfl; have z3_0_0 := M.cell 0 rfl 0 rfl; have z3_0_1 := M.cell 0 rfl 1 rfl; have z3_0_2 := M.cell 0 rfl 2 rfl)
    | (go_at_call 14; with_reducible refine (k2 _ (M.get 3 rfl) (M.get 2 rfl)).mono ?_; rintro e w4 ⟨rfl, rr⟩; have M' := M.up rr; clear M rr ; have M := M'; clear M'; clear z3_2_0 z3_2_1 z3_2_2 z3_1_0 z3_1_1 z3_1_2 z3_0_0 z3_0_1 z3_0_2; have z4_2_0 := M.cell 2 rfl 0 rfl; have z4_2_1 := M.cell 2 rfl 1 rfl; have z4_2_2 := M.cell 2 rfl 2 rfl; have z4_1_0 := M.cell 1 rfl 0 rfl; have z4_1_1 := M.cell 1 rfl 1 rfl; have z4_1_2 := M.cell 1 rfl 2 rfl; have z4_0_0 := M.cell 0 rfl 0 rfl; have z4_0_1 := M.cell 0 rfl 1 rfl; have z4_0_2 := M.cell 0 rfl 2 rfl)
    | (go_at_call 14; with_reducible refine (k3 _ (M.get 1 rfl) (M.get 0 rfl)).mono ?_; rintro e w5 ⟨rfl, rr⟩; have M' := M.up rr; clear M rr ; have M := M'; clear M'; clear z4_2_0 z4_2_1 z4_2_2 z4_1_0 z4_1_1 z4_1_2 z4_0_0 z4_0_1 z4_0_2; have z5_2_0 := M.cell 2 rfl 0 rfl; have z5_2_1 := M.cell 2 rfl 1 rfl; have z5_2_2 := M.cell 2 rfl 2 rfl; have z5_1_0 := M.cell 1 rfl 0 rfl; have z5_1_1 := M.cell 1 rfl 1 rfl; have z5_1_2 := M.cell 1 rfl 2 rfl; have z5_0_0 := M.cell 0 rfl 0 rfl; have z5_0_1 := M.cell 0 rfl 1 rfl; have z5_0_2 := M.cell 0 rfl 2 rfl)
    | (go_at_call 20; with_reducible refine (k4 _ (M.get 5 rfl) (M.get 4 rfl) (M.get 3 rfl) (M.get 2 rfl)).mono ?_; rintro e w6 ⟨rfl, rr⟩; have M' := M.up rr; clear M rr ; have M := M'; clear M'; clear z5_2_0 z5_2_1 z5_2_2 z5_1_0 z5_1_1 z5_1_2 z5_0_0 z5_0_1 z5_0_2; have z6_2_0 := M.cell 2 rfl 0 rfl; have z6_2_1 := M.cell 2 rfl 1 rfl; have z6_2_2 := M.cell 2 rfl 2 rfl; have z6_1_0 := M.cell 1 rfl 0 rfl; have z6_1_1 := M.cell 1 rfl 1 rfl; have z6_1_2 := M.cell 1 rfl 2 rfl; have z6_0_0 := M.cell 0 rfl 0 rfl; have z6_0_1 := M.cell 0 rfl 1 rfl; have z6_0_2 := M.cell 0 rfl 2 rfl))
  replace M := M.drew
  clear z6_2_0 z6_2_1 z6_2_2 z6_1_0 z6_1_1 z6_1_2 z6_0_0 z6_0_1 z6_0_2
  go_region_held3 (fun W => W.cell? ⟨w.heap.size, 0, none⟩ = some (.bool n1) ∧ W.cell? ⟨w.heap.size, 1, none⟩ = some (.slice p1 l1.length q1) ∧ W.cell? ⟨w.heap.size, 2, none⟩ = some (.slice o1 d1.length r1) ∧ W.cell? ⟨w.heap.size + 1, 0, none⟩ = some (.bool n2) ∧ W.cell? ⟨w.heap.size + 1, 1, none⟩ = some (.slice p2 l2.length q2) ∧ W.cell? ⟨w.heap.size + 1, 2, none⟩ = some (.slice o2 d2.length r2) ∧ W.cell? ⟨w.heap.size + 1 + 1, 0, none⟩ = some (.bool n3) ∧ W.cell? ⟨w.heap.size + 1 + 1, 1, none⟩ = some (.slice p3 l3.length q3) ∧ W.cell? ⟨w.heap.size + 1 + 1, 2, none⟩ = some (.slice o3 d3.length r3)) (exact ⟨M.cell 2 rfl 0 rfl, M.cell 2 rfl 1 rfl, M.cell 2 rfl 2 rfl, M.cell 1 rfl 0 rfl, M.cell 1 rfl 1 rfl, M.cell 1 rfl 2 rfl, M.cell 0 rfl 0 rfl, M.cell 0 rfl 1 rfl, M.cell 0 rfl 2 rfl⟩) (first
    | (go_at_call 20; clear tok7; with_reducible refine (k5 _ (M.get 3 rfl) (M.get 2 rfl) (M.get 5 rfl) (M.get 4 rfl)).mono ?_; rintro e w7 ⟨rfl, rr⟩; have M' := M.up rr; clear M rr ; have M := M'; clear M')
    | (go_at_call 15; clear tok8; with_reducible refine (k6 _ (M.get 5 rfl) (M.get 4 rfl) (M.get 3 rfl) (M.get 2 rfl)).mono ?_; rintro e w8 ⟨rfl, rr⟩; have M' := M.up rr; clear M rr ; have M := M'; clear M')
    | (go_at_call 12; clear tok9; with_reducible refine (k7 _ (M.get 5 rfl) (M.get 4 rfl) (M.get 1 rfl) (M.get 0 rfl)).mono ?_; rintro e w9 ⟨aS, eS, uS, fS, rfl, g, g', rr⟩; have M' := ((M.up rr).add g).add g'; clear M rr g g'; have M := M'; clear M')
    | (go_at_call 12; clear tok10; with_reducible refine (k8 _ (M.get 5 rfl) (M.get 4 rfl) (M.get 3 rfl) (M.get 2 rfl)).mono ?_; rintro e w10 ⟨aT, eT, uT, fT, rfl, g, g', rr⟩; have M' := ((M.up rr).add g).add g'; clear M rr g g'; have M := M'; clear M')
    | (go_at_call 20; clear tok11; with_reducible refine (k9 _ (M.get 3 rfl) (M.get 2 rfl) (M.get 1 rfl) (M.get 0 rfl)).mono ?_; rintro e w11 ⟨rfl, rr⟩; have M' := M.up rr; clear M rr ; have M := M'; clear M')
    | (go_at_call 16; clear tok12; with_reducible refine (k10 _ (M.get 9 rfl) (M.get 8 rfl) (M.get 7 rfl) (M.get 6 rfl)).mono ?_; rintro e w12 ⟨aD, eD, uD, fD, rfl, g, g', rr⟩; have M' := ((M.up rr).add g).add g'; clear M rr g g'; have M := M'; clear M')
    | (go_at_call 19; clear tok13; with_reducible refine (k11 _ (M.get 1 rfl) (M.get 0 rfl)).mono ?_; rintro e w13 ⟨rfl, rr⟩; have M' := M.up rr; clear M rr ; have M := M'; clear M')
    | (go_at_call 13; clear tok14; with_reducible refine (k12 _ (M.get 11 rfl) (M.get 10 rfl) (M.get 7 rfl) (M.get 6 rfl)).mono ?_; rintro e w14 ⟨aP, eP, uP, fP, rfl, g, g', rr⟩; have M' := ((M.up rr).add g).add g'; clear M rr g g'; have M := M'; clear M')
    | (go_at_call 13; clear tok15; with_reducible refine (k13 _ (M.get 11 rfl) (M.get 10 rfl) (M.get 9 rfl) (M.get 8 rfl)).mono ?_; rintro e w15 ⟨aQ, eQ, uQ, fQ, rfl, g, g', rr⟩; have M' := ((M.up rr).add g).add g'; clear M rr g g'; have M := M'; clear M')
    | (go_at_call 20; clear tok16; with_reducible refine (k14 _ (M.get 3 rfl) (M.get 2 rfl) (M.get 1 rfl) (M.get 0 rfl)).mono ?_; rintro e w16 ⟨rfl, rr⟩; have M' := M.up rr; clear M rr ; have M := M'; clear M')
    | (go_at_call 19; clear tok17; with_reducible refine (k15 _ (M.get 11 rfl) (M.get 10 rfl)).mono ?_; rintro e w17 ⟨rfl, rr⟩; have M' := M.up rr; clear M rr ; have M := M'; clear M'))
  have M' : Mem w [(w.heap.size + 1 + 1, 27, [.bool n3, .slice p3 l3.length q3, .slice o3 d3.length r3]), (w.heap.size + 1, 27, [.bool n2, .slice p2 l2.length q2, .slice o2 d2.length r2]), (w.heap.size, 27, [.bool n1, .slice p1 l1.length q1, .slice o1 d1.length r1])] [(.slice o3 d3.length r3, d3), (.slice p3 l3.length q3, l3), (.slice o2 d2.length r2, d2), (.slice p2 l2.length q2, l2), (.slice o1 d1.length r1, d1), (.slice p1 l1.length q1, l1)] _ := M.less 10 rfl
  clear M; have M := M'; clear M'
  clear j1 j2 jw jv
  have z17_2_0 := M.cell 2 rfl 0 rfl; have z17_2_1 := M.cell 2 rfl 1 rfl; have z17_2_2 := M.cell 2 rfl 2 rfl; have z17_1_0 := M.cell 1 rfl 0 rfl; have z17_1_1 := M.cell 1 rfl 1 rfl; have z17_1_2 := M.cell 1 rfl 2 rfl; have z17_0_0 := M.cell 0 rfl 0 rfl; have z17_0_1 := M.cell 0 rfl 1 rfl; have z17_0_2 := M.cell 0 rfl 2 rfl
  rcases hL.out with h | ⟨h, h'⟩ | ⟨h, h', h''⟩
  · have s1 : decide (0 < z) = true := decide_eq_true (by omega)
    clear hL h
    go_wp2
    go_ret
    exact ⟨rfl, M.below⟩
  · have s1 : decide (0 < z) = false := decide_eq_false (by omega)
    have s2 : decide (0 < zb) = true := decide_eq_true (by omega)
    clear hL h h'
    go_wp2_with (first
      | (go_at_call 20; with_reducible refine (k16 _ (M.get 3 rfl) (M.get 2 rfl) (M.get 1 rfl) (M.get 0 rfl)).mono ?_; rintro e w18 ⟨rfl, rr⟩; have M' := M.up rr; clear M rr ; have M := M'; clear M'; clear z17_2_0 z17_2_1 z17_2_2 z17_1_0 z17_1_1 z17_1_2 z17_0_0 z17_0_1 z17_0_2; have z18_2_0 := M.cell 2 rfl 0 rfl; have z18_2_1 := M.cell 2 rfl 1 rfl; have z18_2_2 := M.cell 2 rfl 2 rfl; have z18_1_0 := M.cell 1 rfl 0 rfl; have z18_1_1 := M.cell 1 rfl 1 rfl; have z18_1_2 := M.cell 1 rfl 2 rfl; have z18_0_0 := M.cell 0 rfl 0 rfl; have z18_0_1 := M.cell 0 rfl 1 rfl; have z18_0_2 := M.cell 0 rfl 2 rfl))
    go_ret
    exact ⟨rfl, M.below⟩
  · have s1 : decide (0 < z) = false := decide_eq_false (by omega)
    have s2 : decide (0 < zb) = false := decide_eq_false (by omega)
    have s3 : decide (za ≤ 0) = true := decide_eq_true (by omega)
    clear hL h h' h''
    go_wp2_with (first
      | (go_at_call 20; with_reducible refine (k16 _ (M.get 3 rfl) (M.get 2 rfl) (M.get 1 rfl) (M.get 0 rfl)).mono ?_; rintro e w18 ⟨rfl, rr⟩; have M' := M.up rr; clear M rr ; have M := M'; clear M'; clear z17_2_0 z17_2_1 z17_2_2 z17_1_0 z17_1_1 z17_1_2 z17_0_0 z17_0_1 z17_0_2; have z18_2_0 := M.cell 2 rfl 0 rfl; have z18_2_1 := M.cell 2 rfl 1 rfl; have z18_2_2 := M.cell 2 rfl 2 rfl; have z18_1_0 := M.cell 1 rfl 0 rfl; have z18_1_1 := M.cell 1 rfl 1 rfl; have z18_1_2 := M.cell 1 rfl 2 rfl; have z18_0_0 := M.cell 0 rfl 0 rfl; have z18_0_1 := M.cell 0 rfl 1 rfl; have z18_0_2 := M.cell 0 rfl 2 rfl)
      | (go_at_call 20; with_reducible refine (k17 _ (M.get 5 rfl) (M.get 4 rfl) (M.get 1 rfl) (M.get 0 rfl)).mono ?_; rintro e w19 ⟨rfl, rr⟩; have M' := M.up rr; clear M rr ; have M := M'; clear M'; clear z18_2_0 z18_2_1 z18_2_2 z18_1_0 z18_1_1 z18_1_2 z18_0_0 z18_0_1 z18_0_2; have z19_2_0 := M.cell 2 rfl 0 rfl; have z19_2_1 := M.cell 2 rfl 1 rfl; have z19_2_2 := M.cell 2 rfl 2 rfl; have z19_1_0 := M.cell 1 rfl 0 rfl; have z19_1_1 := M.cell 1 rfl 1 rfl; have z19_1_2 := M.cell 1 rfl 2 rfl; have z19_0_0 := M.cell 0 rfl 0 rfl; have z19_0_1 := M.cell 0 rfl 1 rfl; have z19_0_2 := M.cell 0 rfl 2 rfl))
    go_ret
    exact ⟨rfl, M.below⟩
end Go.Proofs.YthloknddhfphnaaGreatDoor
