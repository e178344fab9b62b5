/- Fractions: RatsBetween: its walk, where they stay. -/
import Derived.Deep.RegionHeld3
import Derived.Test.YthloknddhfphnaaGreatDoorGRatAlive
import Derived.Test.YthloknddhfphnaaGreatDoorGRatCmp
import Derived.Test.YthloknddhfphnaaGreatDoorGRatsBetweenM
set_option linter.unusedSimpArgs false
set_option linter.unusedVariables false
namespace Go.Proofs.YthloknddhfphnaaGreatDoor
open Go Go.Proofs Go.RowKit Go.Shelf Nu

attribute [local go_sem] Oper.semAt_some

set_option maxRecDepth 100000 in
set_option maxHeartbeats 16000000 in
theorem rbetween_stay {w : World} {n1 n2 : Bool} {p1 o1 p2 o2 : Option Addr} {q1 r1 q2 r2 : Nat} {l1 d1 l2 d2 : List Nat} {X1 X2 : Rat} {u1 u2 : Int} (c1 : RCan n1 l1 d1 X1) (c2 : RCan n2 l2 d2 X2) (m1 : l1.length + d1.length ≤ 20) (m2 : l2.length + d2.length ≤ 20) (g1 : Reads w (.slice p1 l1.length q1) l1) (h1 : Reads w (.slice o1 d1.length r1) d1) (g2 : Reads w (.slice p2 l2.length q2) l2) (h2 : Reads w (.slice o2 d2.length r2) d2) (hs : ¬ 0 < rsg X1 X2) (e1 : 0 ≤ u1) (f1 : u1 ≤ 255) (e2 : 0 ≤ u2) (f2 : u2 ≤ 255) :
    Calls Tryz.prog 9 #[.agg #[.bool n1, .slice p1 l1.length q1, .slice o1 d1.length r1], .agg #[.bool n2, .slice p2 l2.length q2, .slice o2 d2.length r2], .agg #[.int .u8 u1, .int .u8 u2]] w fun e w' => e = .returned (.bool true) ∧ Below w.heap.size w w' := by
  have R1 : rl X1 ≤ 21 := by have := c1.is.len; omega
  have R2 : rl X2 ≤ 21 := by have := c2.is.len; omega
  obtain ⟨p, hp⟩ : ∃ p : Int, p = u1 + 1 := ⟨_, rfl⟩
  obtain ⟨v, hv⟩ : ∃ v : Int, v = u2 + 1 := ⟨_, rfl⟩
  obtain ⟨r, hr⟩ : ∃ r : Int, r = p + v := ⟨_, rfl⟩
  obtain ⟨z0, hz0⟩ : ∃ z, rsg X1 X2 = z := ⟨_, rfl⟩
  obtain ⟨z, hz⟩ : ∃ z, rsg X1 X2 = z := ⟨_, rfl⟩
  rw [hz0] at hs
  have js : decide (0 < z0) = false := decide_eq_false hs
  obtain ⟨⟨e3, e4⟩, e5, e6⟩ := between_facts hz (show 0 < p by omega) (show 0 < v by omega) hr
  have fw1 : IntKind.i64.wrap u1 = u1 := IntWalk.i64_in u1 (by omega)
  have fw2 : IntKind.i64.wrap u2 = u2 := IntWalk.i64_in u2 (by omega)
  have fw3 : IntKind.i64.wrap (u1 + 1) = p := by rw [hp]; exact IntWalk.i64_in _ (by omega)
  have fw4 : IntKind.i64.wrap (u2 + 1) = v := by rw [hv]; exact IntWalk.i64_in _ (by omega)
  have fw5 : IntKind.i64.wrap (p + v) = r := by rw [hr]; exact IntWalk.i64_in _ (by omega)
  have bp : 1 ≤ p ∧ p ≤ 256 := by omega
  have bv : 1 ≤ v ∧ v ≤ 256 := by omega
  have br : 2 ≤ r ∧ r ≤ 512 := by omega
  obtain ⟨sS, LS, DS, cS⟩ := RCan.ex (X1 + X2)
  have RS : rl (X1 + X2) ≤ 85 := by have := rl_sum (X := X1) (Y := X2) (.inl rfl); omega
  have bS : LS.length ≤ 9999 ∧ DS.length ≤ 9999 := by have := cS.len; omega
  obtain ⟨sI, LI, DI, cI⟩ := RCan.ex (((1 : Int) : Rat) / ((2 : Int) : Rat))
  have RI : rl (((1 : Int) : Rat) / ((2 : Int) : Rat)) ≤ 6 := by exact rl_quot (by decide) (by decide) (by decide)
  have bI : LI.length ≤ 9999 ∧ DI.length ≤ 9999 := by have := cI.len; omega
  obtain ⟨sH, LH, DH, cH⟩ := RCan.ex ((X1 + X2) * (((1 : Int) : Rat) / ((2 : Int) : Rat)))
  have RH : rl ((X1 + X2) * (((1 : Int) : Rat) / ((2 : Int) : Rat))) ≤ 91 := by have := rl_mul (X := (X1 + X2)) (Y := ((1 : Int) : Rat) / ((2 : Int) : Rat)) rfl; omega
  have bH : LH.length ≤ 9999 ∧ DH.length ≤ 9999 := by have := cH.len; omega
  obtain ⟨sJ, LJ, DJ, cJ⟩ := RCan.ex (((p : Int) : Rat) / ((r : Int) : Rat))
  have RJ : rl (((p : Int) : Rat) / ((r : Int) : Rat)) ≤ 6 := by exact rl_quot (by omega) (by omega) (by omega)
  have bJ : LJ.length ≤ 9999 ∧ DJ.length ≤ 9999 := by have := cJ.len; omega
  obtain ⟨sA, LA, DA, cA⟩ := RCan.ex (X1 * (((p : Int) : Rat) / ((r : Int) : Rat)))
  have RA : rl (X1 * (((p : Int) : Rat) / ((r : Int) : Rat))) ≤ 27 := by have := rl_mul (X := X1) (Y := ((p : Int) : Rat) / ((r : Int) : Rat)) rfl; omega
  have bA : LA.length ≤ 9999 ∧ DA.length ≤ 9999 := by have := cA.len; omega
  obtain ⟨sK, LK, DK, cK⟩ := RCan.ex (((v : Int) : Rat) / ((r : Int) : Rat))
  have RK : rl (((v : Int) : Rat) / ((r : Int) : Rat)) ≤ 6 := by exact rl_quot (by omega) (by omega) (by omega)
  have bK : LK.length ≤ 9999 ∧ DK.length ≤ 9999 := by have := cK.len; omega
  obtain ⟨sB, LB, DB, cB⟩ := RCan.ex (X2 * (((v : Int) : Rat) / ((r : Int) : Rat)))
  have RB : rl (X2 * (((v : Int) : Rat) / ((r : Int) : Rat))) ≤ 27 := by have := rl_mul (X := X2) (Y := ((v : Int) : Rat) / ((r : Int) : Rat)) rfl; omega
  have bB : LB.length ≤ 9999 ∧ DB.length ≤ 9999 := by have := cB.len; omega
  obtain ⟨sC, LC, DC, cC⟩ := RCan.ex (X1 * (((p : Int) : Rat) / ((r : Int) : Rat)) + X2 * (((v : Int) : Rat) / ((r : Int) : Rat)))
  have RC : rl (X1 * (((p : Int) : Rat) / ((r : Int) : Rat)) + X2 * (((v : Int) : Rat) / ((r : Int) : Rat))) ≤ 109 := by have := rl_sum (X := (X1 * (((p : Int) : Rat) / ((r : Int) : Rat)))) (Y := (X2 * (((v : Int) : Rat) / ((r : Int) : Rat)))) (.inl rfl); omega
  have bC : LC.length ≤ 9999 ∧ DC.length ≤ 9999 := by have := cC.len; omega
  obtain ⟨sD, LD, DD, cD⟩ := RCan.ex ((X1 + X2) * (((1 : Int) : Rat) / ((2 : Int) : Rat)) - X1)
  have RD : rl ((X1 + X2) * (((1 : Int) : Rat) / ((2 : Int) : Rat)) - X1) ≤ 225 := by have := rl_sum (X := ((X1 + X2) * (((1 : Int) : Rat) / ((2 : Int) : Rat)))) (Y := X1) (.inr rfl); omega
  have bD : LD.length ≤ 9999 ∧ DD.length ≤ 9999 := by have := cD.len; omega
  obtain ⟨sE, LE, DE, cE⟩ := RCan.ex (X2 - (X1 + X2) * (((1 : Int) : Rat) / ((2 : Int) : Rat)))
  have RE : rl (X2 - (X1 + X2) * (((1 : Int) : Rat) / ((2 : Int) : Rat))) ≤ 225 := by have := rl_sum (X := X2) (Y := ((X1 + X2) * (((1 : Int) : Rat) / ((2 : Int) : Rat)))) (.inr rfl); omega
  have bE : LE.length ≤ 9999 ∧ DE.length ≤ 9999 := by have := cE.len; omega
  have tok10 : True := trivial
  have tok11 : True := trivial
  have tok12 : True := trivial
  have tok13 : True := trivial
  have tok14 : True := trivial
  have tok15 : True := trivial
  have tok16 : True := trivial
  have k1 := fun (W : World) (g1 : Reads W (.slice p1 l1.length q1) l1) (h1 : Reads W (.slice o1 d1.length r1) d1) => rcheck_yes c1 (by omega) (by omega) g1 h1
  have k2 := fun (W : World) (g1 : Reads W (.slice p2 l2.length q2) l2) (h1 : Reads W (.slice o2 d2.length r2) d2) => rcheck_yes c2 (by omega) (by omega) g1 h1
  have k3 := fun (W : World) (g1 : Reads W (.slice p1 l1.length q1) l1) (h1 : Reads W (.slice o1 d1.length r1) d1) (g2 : Reads W (.slice p2 l2.length q2) l2) (h2 : Reads W (.slice o2 d2.length r2) d2) => r_cmp (z0) (hz0) c1.is c2.is (by omega) (by omega) (by omega) (by omega) g1 h1 g2 h2
  have k4 := fun (W : World) (g1 : Reads W (.slice p1 l1.length q1) l1) (h1 : Reads W (.slice o1 d1.length r1) d1) (g2 : Reads W (.slice p2 l2.length q2) l2) (h2 : Reads W (.slice o2 d2.length r2) d2) => r_add c1.is c2.is cS (rfl) (by omega) (by omega) (by omega) (by omega) g1 h1 g2 h2
  have k5 := fun (W : World) => r_lof (1) (2) W cI rfl (by decide) (by decide) (by decide) (by decide) (by decide)
  have k6 := fun (W : World) {aa1 oo1 : Option Addr} {ee1 ff1 : Nat} {aa2 oo2 : Option Addr} {ee2 ff2 : Nat} (g1 : Reads W (.slice aa1 LS.length ee1) LS) (h1 : Reads W (.slice oo1 DS.length ff1) DS) (g2 : Reads W (.slice aa2 LI.length ee2) LI) (h2 : Reads W (.slice oo2 DI.length ff2) DI) => r_mul cS.is cI.is cH (rfl) (by omega) (by omega) (by omega) (by omega) g1 h1 g2 h2
  have k7 := fun (W : World) => r_lof (p) (r) W cJ rfl (by omega) (by omega) (by omega) (by omega) (by omega)
  have k8 := fun (W : World) {aa2 oo2 : Option Addr} {ee2 ff2 : Nat} (g1 : Reads W (.slice p1 l1.length q1) l1) (h1 : Reads W (.slice o1 d1.length r1) d1) (g2 : Reads W (.slice aa2 LJ.length ee2) LJ) (h2 : Reads W (.slice oo2 DJ.length ff2) DJ) => r_mul c1.is cJ.is cA (rfl) (by omega) (by omega) (by omega) (by omega) g1 h1 g2 h2
  have k9 := fun (W : World) => r_lof (v) (r) W cK rfl (by omega) (by omega) (by omega) (by omega) (by omega)
  have k10 := fun (W : World) {aa2 oo2 : Option Addr} {ee2 ff2 : Nat} (g1 : Reads W (.slice p2 l2.length q2) l2) (h1 : Reads W (.slice o2 d2.length r2) d2) (g2 : Reads W (.slice aa2 LK.length ee2) LK) (h2 : Reads W (.slice oo2 DK.length ff2) DK) => r_mul c2.is cK.is cB (rfl) (by omega) (by omega) (by omega) (by omega) g1 h1 g2 h2
  have k11 := fun (W : World) {aa1 oo1 : Option Addr} {ee1 ff1 : Nat} {aa2 oo2 : Option Addr} {ee2 ff2 : Nat} (g1 : Reads W (.slice aa1 LA.length ee1) LA) (h1 : Reads W (.slice oo1 DA.length ff1) DA) (g2 : Reads W (.slice aa2 LB.length ee2) LB) (h2 : Reads W (.slice oo2 DB.length ff2) DB) => r_add cA.is cB.is cC (rfl) (by omega) (by omega) (by omega) (by omega) g1 h1 g2 h2
  have k12 := fun (W : World) (g1 : Reads W (.slice p1 l1.length q1) l1) (h1 : Reads W (.slice o1 d1.length r1) d1) (g2 : Reads W (.slice p2 l2.length q2) l2) (h2 : Reads W (.slice o2 d2.length r2) d2) => r_cmp (z) (hz) c1.is c2.is (by omega) (by omega) (by omega) (by omega) g1 h1 g2 h2
  have k13 := fun (W : World) {aa1 oo1 : Option Addr} {ee1 ff1 : Nat} (g1 : Reads W (.slice aa1 LH.length ee1) LH) (h1 : Reads W (.slice oo1 DH.length ff1) DH) (g2 : Reads W (.slice p1 l1.length q1) l1) (h2 : Reads W (.slice o1 d1.length r1) d1) => r_sub cH.is c1.is cD (rfl) (by omega) (by omega) (by omega) (by omega) g1 h1 g2 h2
  have k14 := fun (W : World) {aa2 oo2 : Option Addr} {ee2 ff2 : Nat} (g1 : Reads W (.slice p2 l2.length q2) l2) (h1 : Reads W (.slice o2 d2.length r2) d2) (g2 : Reads W (.slice aa2 LH.length ee2) LH) (h2 : Reads W (.slice oo2 DH.length ff2) DH) => r_sub c2.is cH.is cE (rfl) (by omega) (by omega) (by omega) (by omega) g1 h1 g2 h2
  have k15 := fun (W : World) {aa1 oo1 : Option Addr} {ee1 ff1 : Nat} {aa2 oo2 : Option Addr} {ee2 ff2 : Nat} (g1 : Reads W (.slice aa1 LD.length ee1) LD) (h1 : Reads W (.slice oo1 DD.length ff1) DD) (g2 : Reads W (.slice aa2 LE.length ee2) LE) (h2 : Reads W (.slice oo2 DE.length ff2) DE) => r_same true cD cE (decide_eq_true (by grind)) (by omega) (by omega) (by omega) (by omega) g1 h1 g2 h2
  have k16 := fun (W : World) {aa2 oo2 : Option Addr} {ee2 ff2 : Nat} (g1 : Reads W (.slice p1 l1.length q1) l1) (h1 : Reads W (.slice o1 d1.length r1) d1) (g2 : Reads W (.slice aa2 LH.length ee2) LH) (h2 : Reads W (.slice oo2 DH.length ff2) DH) => r_cmp (z) (e3) c1.is cH.is (by omega) (by omega) (by omega) (by omega) g1 h1 g2 h2
  have k17 := fun (W : World) {aa1 oo1 : Option Addr} {ee1 ff1 : Nat} (g1 : Reads W (.slice aa1 LH.length ee1) LH) (h1 : Reads W (.slice oo1 DH.length ff1) DH) (g2 : Reads W (.slice p2 l2.length q2) l2) (h2 : Reads W (.slice o2 d2.length r2) d2) => r_cmp (z) (e4) cH.is c2.is (by omega) (by omega) (by omega) (by omega) g1 h1 g2 h2
  have k18 := fun (W : World) {aa2 oo2 : Option Addr} {ee2 ff2 : Nat} (g1 : Reads W (.slice p1 l1.length q1) l1) (h1 : Reads W (.slice o1 d1.length r1) d1) (g2 : Reads W (.slice aa2 LC.length ee2) LC) (h2 : Reads W (.slice oo2 DC.length ff2) DC) => r_cmp (z) (e5) c1.is cC.is (by omega) (by omega) (by omega) (by omega) g1 h1 g2 h2
  have k19 := fun (W : World) {aa1 oo1 : Option Addr} {ee1 ff1 : Nat} (g1 : Reads W (.slice aa1 LC.length ee1) LC) (h1 : Reads W (.slice oo1 DC.length ff1) DC) (g2 : Reads W (.slice p2 l2.length q2) l2) (h2 : Reads W (.slice o2 d2.length r2) d2) => r_cmp (z) (e6) cC.is c2.is (by omega) (by omega) (by omega) (by omega) g1 h1 g2 h2
  have hG : Hid (false = List.any [(n1, (p1, l1.length, q1), (o1, d1.length, r1)), (n2, (p2, l2.length, q2), (o2, d2.length, r2))] fun t : Q7 => decide (20 < t.2.1.2.1 + t.2.2.2.1)) := Lib.hid (by simp; omega)
  have hZ : Hid (∀ t ∈ ([(n1, (p1, l1.length, q1), (o1, d1.length, r1)), (n2, (p2, l2.length, q2), (o2, d2.length, r2))] : List Q7), t.2.1.2.1 ≤ 70368744177664 ∧ t.2.2.2.1 ≤ 70368744177664) := Lib.hid (by simp; omega)
  have M : Mem w [(w.heap.size + 1 + 1, 54, [.int .u8 u1, .int .u8 u2]), (w.heap.size + 1, 27, [.bool n2, .slice p2 l2.length q2, .slice o2 d2.length r2]), (w.heap.size, 27, [.bool n1, .slice p1 l1.length q1, .slice o1 d1.length r1])] [(.slice o2 d2.length r2, d2), (.slice p2 l2.length q2, l2), (.slice o1 d1.length r1, d1), (.slice p1 l1.length q1, l1)] (((w.alloc (.cells #[.bool n1, .slice p1 l1.length q1, .slice o1 d1.length r1] 27)).alloc (.cells #[.bool n2, .slice p2 l2.length q2, .slice o2 d2.length r2] 27)).alloc (.cells #[.int .u8 u1, .int .u8 u2] 54)) := by
    have M := ((((((((Mem.start w).add g1).add h1).add g2).add h2).new 27 [.bool n1, .slice p1 l1.length q1, .slice o1 d1.length r1]).new 27 [.bool n2, .slice p2 l2.length q2, .slice o2 d2.length r2]).new 54 [.int .u8 u1, .int .u8 u2])
    simpa only [World.size_alloc] using M
  clear g1 h1 m1 R1 c1 g2 h2 m2 R2 c2 cS RS bS cI RI bI cH RH bH cJ RJ bJ cA RA bA cK RK bK cB RB bB cC RC bC cD RD bD cE RE bE hp hv hr hz0 hz hs e3 e4 e5 e6 bp bv br e1 f1 e2 f2 
  go_enter Tryz.func9, Tryz.ntmps9
  go_wp2_with (first
    | (go_at_call 10; with_reducible refine (r_alive _).mono ?_; rintro e w1 ⟨rfl, rr⟩; have M' := M.up rr; clear M rr ; have M := M'; clear M'; have z1_2_0 := M.cell 2 rfl 0 rfl; have z1_2_1 := M.cell 2 rfl 1 rfl; have z1_2_2 := M.cell 2 rfl 2 rfl; have z1_1_0 := M.cell 1 rfl 0 rfl; have z1_1_1 := M.cell 1 rfl 1 rfl; have z1_1_2 := M.cell 1 rfl 2 rfl; have z1_0_0 := M.cell 0 rfl 0 rfl; have z1_0_1 := M.cell 0 rfl 1 rfl)
    | (go_at_call 11; have kg := rgreat_lit w1 20 [(n1, (p1, l1.length, q1), (o1, d1.length, r1)), (n2, (p2, l2.length, q2), (o2, d2.length, r2))] (vs := #[.bool n1, .slice p1 l1.length q1, .slice o1 d1.length r1, .bool n2, .slice p2 l2.length q2, .slice o2 d2.length r2]) (by simp [q7v]) (m := 2) rfl (by simp) (by decide) hZ.out false hG.out; rw [show ((20 : Nat) : Int) = 20 from rfl] at kg; with_reducible refine kg.mono ?_; clear kg; rintro e w2 ⟨rfl, rr⟩; have M' := M.up rr; clear M rr; have M := M'; clear M'; clear z1_2_0 z1_2_1 z1_2_2 z1_1_0 z1_1_1 z1_1_2 z1_0_0 z1_0_1; have z2_2_0 := M.cell 2 rfl 0 rfl; have z2_2_1 := M.cell 2 rfl 1 rfl; have z2_2_2 := M.cell 2 rfl 2 rfl; have z2_1_0 := M.cell 1 rfl 0 rfl; have z2_1_1 := M.cell 1 rfl 1 rfl; have z2_1_2 := M.cell 1 rfl 2 rfl; have z2_0_0 := M.cell 0 rfl 0 rfl; have z2_0_1 := M.cell 0 rfl 1 rfl)
    | (go_at_call 14; with_reducible refine (k1 _ (M.get 3 rfl) (M.get 2 rfl)).mono ?_; rintro e w3 ⟨rfl, rr⟩; have M' := M.up rr; clear M rr ; have M := M'; clear M'; clear z2_2_0 z2_2_1 z2_2_2 z2_1_0 z2_1_1 z2_1_2 z2_0_0 z2_0_1; have z3_2_0 := M.cell 2 rfl 0 rfl; have z3_2_1 := M.cell 2 rfl 1 rfl; have z3_2_2 := M.cell 2 rfl 2 rfl; have z3_1_0 := M.cell 1 rfl 0 rfl; have z3_1_1 := M.cell 1 rfl 1 rfl; have z3_1_2 := M.cell 1 rfl 2 rfl; have z3_0_0 := M.cell 0 rfl 0 rfl; have z3_0_1 := M.cell 0 rfl 1 rfl)
    | (go_at_call 14; with_reducible refine (k2 _ (M.get 1 rfl) (M.get 0 rfl)).mono ?_; rintro e w4 ⟨rfl, rr⟩; have M' := M.up rr; clear M rr ; have M := M'; clear M'; clear z3_2_0 z3_2_1 z3_2_2 z3_1_0 z3_1_1 z3_1_2 z3_0_0 z3_0_1; have z4_2_0 := M.cell 2 rfl 0 rfl; have z4_2_1 := M.cell 2 rfl 1 rfl; have z4_2_2 := M.cell 2 rfl 2 rfl; have z4_1_0 := M.cell 1 rfl 0 rfl; have z4_1_1 := M.cell 1 rfl 1 rfl; have z4_1_2 := M.cell 1 rfl 2 rfl; have z4_0_0 := M.cell 0 rfl 0 rfl; have z4_0_1 := M.cell 0 rfl 1 rfl)
    | (go_at_call 20; with_reducible refine (k3 _ (M.get 3 rfl) (M.get 2 rfl) (M.get 1 rfl) (M.get 0 rfl)).mono ?_; rintro e w5 ⟨rfl, rr⟩; have M' := M.up rr; clear M rr ; have M := M'; clear M'; clear z4_2_0 z4_2_1 z4_2_2 z4_1_0 z4_1_1 z4_1_2 z4_0_0 z4_0_1; have z5_2_0 := M.cell 2 rfl 0 rfl; have z5_2_1 := M.cell 2 rfl 1 rfl; have z5_2_2 := M.cell 2 rfl 2 rfl; have z5_1_0 := M.cell 1 rfl 0 rfl; have z5_1_1 := M.cell 1 rfl 1 rfl; have z5_1_2 := M.cell 1 rfl 2 rfl; have z5_0_0 := M.cell 0 rfl 0 rfl; have z5_0_1 := M.cell 0 rfl 1 rfl)
    | (go_at_call 12; with_reducible refine (k4 _ (M.get 3 rfl) (M.get 2 rfl) (M.get 1 rfl) (M.get 0 rfl)).mono ?_; rintro e w6 ⟨aS, eS, uS, fS, rfl, g, g', rr⟩; have M' := ((M.up rr).add g).add g'; clear M rr g g'; have M := M'; clear M'; clear z5_2_0 z5_2_1 z5_2_2 z5_1_0 z5_1_1 z5_1_2 z5_0_0 z5_0_1)
    | (go_at_call 17; with_reducible refine (k5 _).mono ?_; rintro e w7 ⟨aI, eI, uI, fI, rfl, g, g', rr⟩; have M' := ((M.up rr).add g).add g'; clear M rr g g'; have M := M'; clear M')
    | (go_at_call 13; with_reducible refine (k6 _ (M.get 3 rfl) (M.get 2 rfl) (M.get 1 rfl) (M.get 0 rfl)).mono ?_; rintro e w8 ⟨aH, eH, uH, fH, rfl, g, g', rr⟩; have M' := (((M.up rr).add g).add g').new 27 [.bool sH, .slice aH LH.length eH, .slice uH DH.length fH]; clear M rr g g'; have M := M'; clear M'; have z8_1_0 := M.cell 1 rfl 0 rfl; have z8_1_1 := M.cell 1 rfl 1 rfl; have z8_0_0 := M.cell 0 rfl 0 rfl; have z8_0_1 := M.cell 0 rfl 1 rfl; have z8_0_2 := M.cell 0 rfl 2 rfl))
  clear fw1 fw2 fw3 fw4
  clear z8_1_0 z8_1_1 z8_0_0 z8_0_1 z8_0_2
  apply region_cut_nssssssssss (Fact := (fun b11 aJ eJ uJ fJ aA eA uA fA aK eK uK fK aB eB uB fB aC eC uC fC W => Mem w [(b11, 27, [.bool sC, .slice aC LC.length eC, .slice uC DC.length fC]), (w8.heap.size, 27, [.bool sH, .slice aH LH.length eH, .slice uH DH.length fH]), (w.heap.size + 1 + 1, 54, [.int .u8 u1, .int .u8 u2]), (w.heap.size + 1, 27, [.bool n2, .slice p2 l2.length q2, .slice o2 d2.length r2]), (w.heap.size, 27, [.bool n1, .slice p1 l1.length q1, .slice o1 d1.length r1])] [(.slice uC DC.length fC, DC), (.slice aC LC.length eC, LC), (.slice uB DB.length fB, DB), (.slice aB LB.length eB, LB), (.slice uK DK.length fK, DK), (.slice aK LK.length eK, LK), (.slice uA DA.length fA, DA), (.slice aA LA.length eA, LA), (.slice uJ DJ.length fJ, DJ), (.slice aJ LJ.length eJ, LJ), (.slice uH DH.length fH, DH), (.slice aH LH.length eH, LH), (.slice uI DI.length fI, DI), (.slice aI LI.length eI, LI), (.slice uS DS.length fS, DS), (.slice aS LS.length eS, LS), (.slice o2 d2.length r2, d2), (.slice p2 l2.length q2, l2), (.slice o1 d1.length r1, d1), (.slice p1 l1.length q1, l1)] W))
  case first =>
    refine region_mem (S := (fun W => BoxN W (w.heap.size) 27 #[.bool n1, .slice p1 l1.length q1, .slice o1 d1.length r1] ∧ BoxN W (w.heap.size + 1) 27 #[.bool n2, .slice p2 l2.length q2, .slice o2 d2.length r2])) M (by kernel_rfl) ?_
    intro V0 M
    have hS0 : (fun W => BoxN W (w.heap.size) 27 #[.bool n1, .slice p1 l1.length q1, .slice o1 d1.length r1] ∧ BoxN W (w.heap.size + 1) 27 #[.bool n2, .slice p2 l2.length q2, .slice o2 d2.length r2]) V0 := ⟨M.box 3 rfl, M.box 2 rfl⟩
    refine wpAnyH_take (i := 0) (oi := ⟨_, _, _, _, _, _⟩) (v := (.agg #[.bool n1, .slice p1 l1.length q1, .slice o1 d1.length r1])) rfl (by kernel_rfl) (by kernel_rfl) (by kernel_rfl) (fun _ _ _ h => nomatch h.1) (Or.inl ⟨by rfl, fun W3 hS => by obtain ⟨hS1, hS2⟩ := hS; have c1_0 := hS1.cell 0 _ rfl; have c1_1 := hS1.cell 1 _ rfl; have c1_2 := hS1.cell 2 _ rfl; go_simp⟩) hS0 ?_
    try simp only [Act.put, List.setIfInBounds_toArray, List.set_cons_zero, List.set_cons_succ]
    refine wpAnyH_take (i := 1) (oi := ⟨_, _, _, _, _, _⟩) (v := (.int .i64 p)) rfl (by kernel_rfl) (by kernel_rfl) (by kernel_rfl) (fun _ _ _ h => nomatch h.1) (Or.inl ⟨by rfl, fun W3 hS => by obtain ⟨hS1, hS2⟩ := hS; go_simp⟩) hS0 ?_
    try simp only [Act.put, List.setIfInBounds_toArray, List.set_cons_zero, List.set_cons_succ]
    refine wpAnyH_take (i := 2) (oi := ⟨_, _, _, _, _, _⟩) (v := (.int .i64 p)) rfl (by kernel_rfl) (by kernel_rfl) (by kernel_rfl) (fun _ _ _ h => nomatch h.1) (Or.inl ⟨by rfl, fun W3 hS => by obtain ⟨hS1, hS2⟩ := hS; go_simp⟩) hS0 ?_
    try simp only [Act.put, List.setIfInBounds_toArray, List.set_cons_zero, List.set_cons_succ]
    refine wpAnyH_take (i := 3) (oi := ⟨_, _, _, _, _, _⟩) (v := (.int .i64 v)) rfl (by kernel_rfl) (by kernel_rfl) (by kernel_rfl) (fun _ _ _ h => nomatch h.1) (Or.inl ⟨by rfl, fun W3 hS => by obtain ⟨hS1, hS2⟩ := hS; go_simp⟩) hS0 ?_
    try simp only [Act.put, List.setIfInBounds_toArray, List.set_cons_zero, List.set_cons_succ]
    refine wpAnyH_take (i := 4) (oi := ⟨_, _, _, _, _, _⟩) (v := (.int .i64 r)) rfl (by kernel_rfl) (by kernel_rfl) (by kernel_rfl) (fun _ _ _ h => nomatch h.1) (Or.inl ⟨by rfl, fun W3 hS => by obtain ⟨hS1, hS2⟩ := hS; go_simp⟩) hS0 ?_
    try simp only [Act.put, List.setIfInBounds_toArray, List.set_cons_zero, List.set_cons_succ]
    refine wpAnyH_take (i := 7) (oi := ⟨_, _, _, _, _, _⟩) (v := (.agg #[.bool n2, .slice p2 l2.length q2, .slice o2 d2.length r2])) rfl (by kernel_rfl) (by kernel_rfl) (by kernel_rfl) (fun _ _ _ h => nomatch h.1) (Or.inl ⟨by rfl, fun W3 hS => by obtain ⟨hS1, hS2⟩ := hS; have c2_0 := hS2.cell 0 _ rfl; have c2_1 := hS2.cell 1 _ rfl; have c2_2 := hS2.cell 2 _ rfl; go_simp⟩) hS0 ?_
    try simp only [Act.put, List.setIfInBounds_toArray, List.set_cons_zero, List.set_cons_succ]
    refine wpAnyH_take (i := 8) (oi := ⟨_, _, _, _, _, _⟩) (v := (.int .i64 v)) rfl (by kernel_rfl) (by kernel_rfl) (by kernel_rfl) (fun _ _ _ h => nomatch h.1) (Or.inl ⟨by rfl, fun W3 hS => by obtain ⟨hS1, hS2⟩ := hS; go_simp⟩) hS0 ?_
    try simp only [Act.put, List.setIfInBounds_toArray, List.set_cons_zero, List.set_cons_succ]
    refine wpAnyH_take (i := 9) (oi := ⟨_, _, _, _, _, _⟩) (v := (.int .i64 p)) rfl (by kernel_rfl) (by kernel_rfl) (by kernel_rfl) (fun _ _ _ h => nomatch h.1) (Or.inl ⟨by rfl, fun W3 hS => by obtain ⟨hS1, hS2⟩ := hS; go_simp⟩) hS0 ?_
    try simp only [Act.put, List.setIfInBounds_toArray, List.set_cons_zero, List.set_cons_succ]
    refine wpAnyH_take (i := 10) (oi := ⟨_, _, _, _, _, _⟩) (v := (.int .i64 v)) rfl (by kernel_rfl) (by kernel_rfl) (by kernel_rfl) (fun _ _ _ h => nomatch h.1) (Or.inl ⟨by rfl, fun W3 hS => by obtain ⟨hS1, hS2⟩ := hS; go_simp⟩) hS0 ?_
    try simp only [Act.put, List.setIfInBounds_toArray, List.set_cons_zero, List.set_cons_succ]
    refine wpAnyH_take (i := 11) (oi := ⟨_, _, _, _, _, _⟩) (v := (.int .i64 r)) rfl (by kernel_rfl) (by kernel_rfl) (by kernel_rfl) (fun _ _ _ h => nomatch h.1) (Or.inl ⟨by rfl, fun W3 hS => by obtain ⟨hS1, hS2⟩ := hS; go_simp⟩) hS0 ?_
    try simp only [Act.put, List.setIfInBounds_toArray, List.set_cons_zero, List.set_cons_succ]
    clear hS0
    try simp only [Act.put, List.setIfInBounds_toArray, List.set_cons_zero, List.set_cons_succ]
    refine wpAnyH_all (rs := [5, 15]) (by kernel_rfl) (by simp) ?_
    intro i hi
    have hi2 : i = 5 ∨ i = 15 := by simpa using hi
    clear hi
    rcases hi2 with rfl | rfl
    · refine wpOp_intro rfl (fun K1 hK => ?_)
      go_simp
      refine (k7 _).mono ?_
      rintro e V1_5 ⟨aJ, eJ, uJ, fJ, rfl, g, g', rr⟩
      have M' := ((M.up rr).add g).add g'
      clear M rr g g'
      have M := M'; clear M'
      refine hK _ _ ⟨⟨M.box 3 rfl, M.box 2 rfl⟩, ?_⟩
      clear hK K1
      refine wpAnyH_all (rs := [6, 15]) (by kernel_rfl) (by simp) ?_
      intro i hi
      have hi2 : i = 6 ∨ i = 15 := by simpa using hi
      clear hi
      rcases hi2 with rfl | rfl
      · refine wpOp_intro rfl (fun K2 hK => ?_)
        go_simp
        refine (k8 _ (M.get 11 rfl) (M.get 10 rfl) (M.get 1 rfl) (M.get 0 rfl)).mono ?_
        rintro e V2_6 ⟨aA, eA, uA, fA, rfl, g, g', rr⟩
        have M' := ((M.up rr).add g).add g'
        clear M rr g g'
        have M := M'; clear M'
        refine hK _ _ ⟨⟨M.box 3 rfl, M.box 2 rfl⟩, ?_⟩
        clear hK K2
        refine wpAnyH_all (rs := [12, 15]) (by kernel_rfl) (by simp) ?_
        intro i hi
        have hi2 : i = 12 ∨ i = 15 := by simpa using hi
        clear hi
        rcases hi2 with rfl | rfl
        · refine wpOp_intro rfl (fun K3 hK => ?_)
          go_simp
          refine (k9 _).mono ?_
          rintro e V3_12 ⟨aK, eK, uK, fK, rfl, g, g', rr⟩
          have M' := ((M.up rr).add g).add g'
          clear M rr g g'
          have M := M'; clear M'
          refine hK _ _ ⟨⟨M.box 3 rfl, M.box 2 rfl⟩, ?_⟩
          clear hK K3
          refine wpAnyH_all (rs := [13, 15]) (by kernel_rfl) (by simp) ?_
          intro i hi
          have hi2 : i = 13 ∨ i = 15 := by simpa using hi
          clear hi
          rcases hi2 with rfl | rfl
          · refine wpOp_intro rfl (fun K4 hK => ?_)
            go_simp
            refine (k10 _ (M.get 13 rfl) (M.get 12 rfl) (M.get 1 rfl) (M.get 0 rfl)).mono ?_
            rintro e V4_13 ⟨aB, eB, uB, fB, rfl, g, g', rr⟩
            have M' := ((M.up rr).add g).add g'
            clear M rr g g'
            have M := M'; clear M'
            refine hK _ _ ⟨⟨M.box 3 rfl, M.box 2 rfl⟩, ?_⟩
            clear hK K4
            refine wpAnyH_all (rs := [14, 15]) (by kernel_rfl) (by simp) ?_
            intro i hi
            have hi2 : i = 14 ∨ i = 15 := by simpa using hi
            clear hi
            rcases hi2 with rfl | rfl
            · refine wpOp_intro rfl (fun K5 hK => ?_)
              go_simp
              refine (k11 _ (M.get 5 rfl) (M.get 4 rfl) (M.get 1 rfl) (M.get 0 rfl)).mono ?_
              rintro e V5_14 ⟨aC, eC, uC, fC, rfl, g, g', rr⟩
              have M' := ((M.up rr).add g).add g'
              clear M rr g g'
              have M := M'; clear M'
              refine hK _ _ ⟨⟨M.box 3 rfl, M.box 2 rfl⟩, ?_⟩
              clear hK K5
              refine wpAnyH_all (rs := [15]) (by kernel_rfl) (by simp) ?_
              intro i hi
              obtain rfl : i = 15 := by simpa using hi
              refine wpOp_intro rfl (fun K6 hK => ?_)
              clear hi
              go_simp
              obtain ⟨b11, V6_15, hV, hb, M'⟩ := M.fresh 27 [.bool false, .slice none 0 0, .slice none 0 0]
              rw [← hV, ← hb]
              clear M hV hb; have M := M'; clear M'
              refine hK _ _ ⟨⟨M.box 4 rfl, M.box 3 rfl⟩, ?_⟩
              clear hK K6
              have f0_0 := M.fr 0 rfl 0; have f0_1 := M.fr 0 rfl 1; have f0_2 := M.fr 0 rfl 2
              have z0_0 := M.cell 0 rfl 0 rfl; have z0_1 := M.cell 0 rfl 1 rfl; have z0_2 := M.cell 0 rfl 2 rfl
              refine wpAnyH_all (rs := [16]) (by kernel_rfl) (by simp) ?_
              intro i hi
              obtain rfl : i = 16 := by simpa using hi
              refine wpOp_intro rfl (fun Ks7 hK => ?_)
              clear hi
              go_simp
              have M' := (((M.put 0 rfl rfl 0 (.bool sC)).put 0 rfl rfl 1 (.slice aC LC.length eC)).put 0 rfl rfl 2 (.slice uC DC.length fC))
              clear M f0_0 z0_0 f0_1 z0_1 f0_2 z0_2
              have M : Mem w [(b11, 27, [.bool sC, .slice aC LC.length eC, .slice uC DC.length fC]), (w8.heap.size, 27, [.bool sH, .slice aH LH.length eH, .slice uH DH.length fH]), (w.heap.size + 1 + 1, 54, [.int .u8 u1, .int .u8 u2]), (w.heap.size + 1, 27, [.bool n2, .slice p2 l2.length q2, .slice o2 d2.length r2]), (w.heap.size, 27, [.bool n1, .slice p1 l1.length q1, .slice o1 d1.length r1])] [(.slice uC DC.length fC, DC), (.slice aC LC.length eC, LC), (.slice uB DB.length fB, DB), (.slice aB LB.length eB, LB), (.slice uK DK.length fK, DK), (.slice aK LK.length eK, LK), (.slice uA DA.length fA, DA), (.slice aA LA.length eA, LA), (.slice uJ DJ.length fJ, DJ), (.slice aJ LJ.length eJ, LJ), (.slice uH DH.length fH, DH), (.slice aH LH.length eH, LH), (.slice uI DI.length fI, DI), (.slice aI LI.length eI, LI), (.slice uS DS.length fS, DS), (.slice aS LS.length eS, LS), (.slice o2 d2.length r2, d2), (.slice p2 l2.length q2, l2), (.slice o1 d1.length r1, d1), (.slice p1 l1.length q1, l1)] _ := M'
              clear M'
              refine hK _ _ ⟨⟨M.box 4 rfl, M.box 3 rfl⟩, ?_⟩
              clear hK Ks7
              refine wpAnyH_done (by kernel_rfl) ?_ _
              exact ⟨rfl, b11, aJ, eJ, uJ, fJ, aA, eA, uA, fA, aK, eK, uK, fK, aB, eB, uB, fB, aC, eC, uC, fC, rfl, M⟩
            · refine wpOp_intro rfl (fun K5 hK => ?_)
              go_simp
              obtain ⟨b11, V5_15, hV, hb, M'⟩ := M.fresh 27 [.bool false, .slice none 0 0, .slice none 0 0]
              rw [← hV, ← hb]
              clear M hV hb; have M := M'; clear M'
              refine hK _ _ ⟨⟨M.box 4 rfl, M.box 3 rfl⟩, ?_⟩
              clear hK K5
              refine wpAnyH_all (rs := [14]) (by kernel_rfl) (by simp) ?_
              intro i hi
              obtain rfl : i = 14 := by simpa using hi
              refine wpOp_intro rfl (fun K8 hK => ?_)
              clear hi
              go_simp
              refine (k11 _ (M.get 5 rfl) (M.get 4 rfl) (M.get 1 rfl) (M.get 0 rfl)).mono ?_
              rintro e V8_14 ⟨aC, eC, uC, fC, rfl, g, g', rr⟩
              have M' := ((M.up rr).add g).add g'
              clear M rr g g'
              have M := M'; clear M'
              refine hK _ _ ⟨⟨M.box 4 rfl, M.box 3 rfl⟩, ?_⟩
              clear hK K8
              have f0_0 := M.fr 0 rfl 0; have f0_1 := M.fr 0 rfl 1; have f0_2 := M.fr 0 rfl 2
              have z0_0 := M.cell 0 rfl 0 rfl; have z0_1 := M.cell 0 rfl 1 rfl; have z0_2 := M.cell 0 rfl 2 rfl
              refine wpAnyH_all (rs := [16]) (by kernel_rfl) (by simp) ?_
              intro i hi
              obtain rfl : i = 16 := by simpa using hi
              refine wpOp_intro rfl (fun Ks9 hK => ?_)
              clear hi
              go_simp
              have M' := (((M.put 0 rfl rfl 0 (.bool sC)).put 0 rfl rfl 1 (.slice aC LC.length eC)).put 0 rfl rfl 2 (.slice uC DC.length fC))
              clear M f0_0 z0_0 f0_1 z0_1 f0_2 z0_2
              have M : Mem w [(b11, 27, [.bool sC, .slice aC LC.length eC, .slice uC DC.length fC]), (w8.heap.size, 27, [.bool sH, .slice aH LH.length eH, .slice uH DH.length fH]), (w.heap.size + 1 + 1, 54, [.int .u8 u1, .int .u8 u2]), (w.heap.size + 1, 27, [.bool n2, .slice p2 l2.length q2, .slice o2 d2.length r2]), (w.heap.size, 27, [.bool n1, .slice p1 l1.length q1, .slice o1 d1.length r1])] [(.slice uC DC.length fC, DC), (.slice aC LC.length eC, LC), (.slice uB DB.length fB, DB), (.slice aB LB.length eB, LB), (.slice uK DK.length fK, DK), (.slice aK LK.length eK, LK), (.slice uA DA.length fA, DA), (.slice aA LA.length eA, LA), (.slice uJ DJ.length fJ, DJ), (.slice aJ LJ.length eJ, LJ), (.slice uH DH.length fH, DH), (.slice aH LH.length eH, LH), (.slice uI DI.length fI, DI), (.slice aI LI.length eI, LI), (.slice uS DS.length fS, DS), (.slice aS LS.length eS, LS), (.slice o2 d2.length r2, d2), (.slice p2 l2.length q2, l2), (.slice o1 d1.length r1, d1), (.slice p1 l1.length q1, l1)] _ := M'
              clear M'
              refine hK _ _ ⟨⟨M.box 4 rfl, M.box 3 rfl⟩, ?_⟩
              clear hK Ks9
              refine wpAnyH_done (by kernel_rfl) ?_ _
              exact ⟨rfl, b11, aJ, eJ, uJ, fJ, aA, eA, uA, fA, aK, eK, uK, fK, aB, eB, uB, fB, aC, eC, uC, fC, rfl, M⟩
          · refine wpOp_intro rfl (fun K4 hK => ?_)
            go_simp
            obtain ⟨b11, V4_15, hV, hb, M'⟩ := M.fresh 27 [.bool false, .slice none 0 0, .slice none 0 0]
            rw [← hV, ← hb]
            clear M hV hb; have M := M'; clear M'
            refine hK _ _ ⟨⟨M.box 4 rfl, M.box 3 rfl⟩, ?_⟩
            clear hK K4
            refine wpAnyH_all (rs := [13]) (by kernel_rfl) (by simp) ?_
            intro i hi
            obtain rfl : i = 13 := by simpa using hi
            refine wpOp_intro rfl (fun K10 hK => ?_)
            clear hi
            go_simp
            refine (k10 _ (M.get 13 rfl) (M.get 12 rfl) (M.get 1 rfl) (M.get 0 rfl)).mono ?_
            rintro e V10_13 ⟨aB, eB, uB, fB, rfl, g, g', rr⟩
            have M' := ((M.up rr).add g).add g'
            clear M rr g g'
            have M := M'; clear M'
            refine hK _ _ ⟨⟨M.box 4 rfl, M.box 3 rfl⟩, ?_⟩
            clear hK K10
            refine wpAnyH_all (rs := [14]) (by kernel_rfl) (by simp) ?_
            intro i hi
            obtain rfl : i = 14 := by simpa using hi
            refine wpOp_intro rfl (fun K11 hK => ?_)
            clear hi
            go_simp
            refine (k11 _ (M.get 5 rfl) (M.get 4 rfl) (M.get 1 rfl) (M.get 0 rfl)).mono ?_
            rintro e V11_14 ⟨aC, eC, uC, fC, rfl, g, g', rr⟩
            have M' := ((M.up rr).add g).add g'
            clear M rr g g'
            have M := M'; clear M'
            refine hK _ _ ⟨⟨M.box 4 rfl, M.box 3 rfl⟩, ?_⟩
            clear hK K11
            have f0_0 := M.fr 0 rfl 0; have f0_1 := M.fr 0 rfl 1; have f0_2 := M.fr 0 rfl 2
            have z0_0 := M.cell 0 rfl 0 rfl; have z0_1 := M.cell 0 rfl 1 rfl; have z0_2 := M.cell 0 rfl 2 rfl
            refine wpAnyH_all (rs := [16]) (by kernel_rfl) (by simp) ?_
            intro i hi
            obtain rfl : i = 16 := by simpa using hi
            refine wpOp_intro rfl (fun Ks12 hK => ?_)
            clear hi
            go_simp
            have M' := (((M.put 0 rfl rfl 0 (.bool sC)).put 0 rfl rfl 1 (.slice aC LC.length eC)).put 0 rfl rfl 2 (.slice uC DC.length fC))
            clear M f0_0 z0_0 f0_1 z0_1 f0_2 z0_2
            have M : Mem w [(b11, 27, [.bool sC, .slice aC LC.length eC, .slice uC DC.length fC]), (w8.heap.size, 27, [.bool sH, .slice aH LH.length eH, .slice uH DH.length fH]), (w.heap.size + 1 + 1, 54, [.int .u8 u1, .int .u8 u2]), (w.heap.size + 1, 27, [.bool n2, .slice p2 l2.length q2, .slice o2 d2.length r2]), (w.heap.size, 27, [.bool n1, .slice p1 l1.length q1, .slice o1 d1.length r1])] [(.slice uC DC.length fC, DC), (.slice aC LC.length eC, LC), (.slice uB DB.length fB, DB), (.slice aB LB.length eB, LB), (.slice uK DK.length fK, DK), (.slice aK LK.length eK, LK), (.slice uA DA.length fA, DA), (.slice aA LA.length eA, LA), (.slice uJ DJ.length fJ, DJ), (.slice aJ LJ.length eJ, LJ), (.slice uH DH.length fH, DH), (.slice aH LH.length eH, LH), (.slice uI DI.length fI, DI), (.slice aI LI.length eI, LI), (.slice uS DS.length fS, DS), (.slice aS LS.length eS, LS), (.slice o2 d2.length r2, d2), (.slice p2 l2.length q2, l2), (.slice o1 d1.length r1, d1), (.slice p1 l1.length q1, l1)] _ := M'
            clear M'
            refine hK _ _ ⟨⟨M.box 4 rfl, M.box 3 rfl⟩, ?_⟩
            clear hK Ks12
            refine wpAnyH_done (by kernel_rfl) ?_ _
            exact ⟨rfl, b11, aJ, eJ, uJ, fJ, aA, eA, uA, fA, aK, eK, uK, fK, aB, eB, uB, fB, aC, eC, uC, fC, rfl, M⟩
        · refine wpOp_intro rfl (fun K3 hK => ?_)
          go_simp
          obtain ⟨b11, V3_15, hV, hb, M'⟩ := M.fresh 27 [.bool false, .slice none 0 0, .slice none 0 0]
          rw [← hV, ← hb]
          clear M hV hb; have M := M'; clear M'
          refine hK _ _ ⟨⟨M.box 4 rfl, M.box 3 rfl⟩, ?_⟩
          clear hK K3
          refine wpAnyH_all (rs := [12]) (by kernel_rfl) (by simp) ?_
          intro i hi
          obtain rfl : i = 12 := by simpa using hi
          refine wpOp_intro rfl (fun K13 hK => ?_)
          clear hi
          go_simp
          refine (k9 _).mono ?_
          rintro e V13_12 ⟨aK, eK, uK, fK, rfl, g, g', rr⟩
          have M' := ((M.up rr).add g).add g'
          clear M rr g g'
          have M := M'; clear M'
          refine hK _ _ ⟨⟨M.box 4 rfl, M.box 3 rfl⟩, ?_⟩
          clear hK K13
          refine wpAnyH_all (rs := [13]) (by kernel_rfl) (by simp) ?_
          intro i hi
          obtain rfl : i = 13 := by simpa using hi
          refine wpOp_intro rfl (fun K14 hK => ?_)
          clear hi
          go_simp
          refine (k10 _ (M.get 13 rfl) (M.get 12 rfl) (M.get 1 rfl) (M.get 0 rfl)).mono ?_
          rintro e V14_13 ⟨aB, eB, uB, fB, rfl, g, g', rr⟩
          have M' := ((M.up rr).add g).add g'
          clear M rr g g'
          have M := M'; clear M'
          refine hK _ _ ⟨⟨M.box 4 rfl, M.box 3 rfl⟩, ?_⟩
          clear hK K14
          refine wpAnyH_all (rs := [14]) (by kernel_rfl) (by simp) ?_
          intro i hi
          obtain rfl : i = 14 := by simpa using hi
          refine wpOp_intro rfl (fun K15 hK => ?_)
          clear hi
          go_simp
          refine (k11 _ (M.get 5 rfl) (M.get 4 rfl) (M.get 1 rfl) (M.get 0 rfl)).mono ?_
          rintro e V15_14 ⟨aC, eC, uC, fC, rfl, g, g', rr⟩
          have M' := ((M.up rr).add g).add g'
          clear M rr g g'
          have M := M'; clear M'
          refine hK _ _ ⟨⟨M.box 4 rfl, M.box 3 rfl⟩, ?_⟩
          clear hK K15
          have f0_0 := M.fr 0 rfl 0; have f0_1 := M.fr 0 rfl 1; have f0_2 := M.fr 0 rfl 2
          have z0_0 := M.cell 0 rfl 0 rfl; have z0_1 := M.cell 0 rfl 1 rfl; have z0_2 := M.cell 0 rfl 2 rfl
          refine wpAnyH_all (rs := [16]) (by kernel_rfl) (by simp) ?_
          intro i hi
          obtain rfl : i = 16 := by simpa using hi
          refine wpOp_intro rfl (fun Ks16 hK => ?_)
          clear hi
          go_simp
          have M' := (((M.put 0 rfl rfl 0 (.bool sC)).put 0 rfl rfl 1 (.slice aC LC.length eC)).put 0 rfl rfl 2 (.slice uC DC.length fC))
          clear M f0_0 z0_0 f0_1 z0_1 f0_2 z0_2
          have M : Mem w [(b11, 27, [.bool sC, .slice aC LC.length eC, .slice uC DC.length fC]), (w8.heap.size, 27, [.bool sH, .slice aH LH.length eH, .slice uH DH.length fH]), (w.heap.size + 1 + 1, 54, [.int .u8 u1, .int .u8 u2]), (w.heap.size + 1, 27, [.bool n2, .slice p2 l2.length q2, .slice o2 d2.length r2]), (w.heap.size, 27, [.bool n1, .slice p1 l1.length q1, .slice o1 d1.length r1])] [(.slice uC DC.length fC, DC), (.slice aC LC.length eC, LC), (.slice uB DB.length fB, DB), (.slice aB LB.length eB, LB), (.slice uK DK.length fK, DK), (.slice aK LK.length eK, LK), (.slice uA DA.length fA, DA), (.slice aA LA.length eA, LA), (.slice uJ DJ.length fJ, DJ), (.slice aJ LJ.length eJ, LJ), (.slice uH DH.length fH, DH), (.slice aH LH.length eH, LH), (.slice uI DI.length fI, DI), (.slice aI LI.length eI, LI), (.slice uS DS.length fS, DS), (.slice aS LS.length eS, LS), (.slice o2 d2.length r2, d2), (.slice p2 l2.length q2, l2), (.slice o1 d1.length r1, d1), (.slice p1 l1.length q1, l1)] _ := M'
          clear M'
          refine hK _ _ ⟨⟨M.box 4 rfl, M.box 3 rfl⟩, ?_⟩
          clear hK Ks16
          refine wpAnyH_done (by kernel_rfl) ?_ _
          exact ⟨rfl, b11, aJ, eJ, uJ, fJ, aA, eA, uA, fA, aK, eK, uK, fK, aB, eB, uB, fB, aC, eC, uC, fC, rfl, M⟩
      · refine wpOp_intro rfl (fun K2 hK => ?_)
        go_simp
        obtain ⟨b11, V2_15, hV, hb, M'⟩ := M.fresh 27 [.bool false, .slice none 0 0, .slice none 0 0]
        rw [← hV, ← hb]
        clear M hV hb; have M := M'; clear M'
        refine hK _ _ ⟨⟨M.box 4 rfl, M.box 3 rfl⟩, ?_⟩
        clear hK K2
        refine wpAnyH_all (rs := [6]) (by kernel_rfl) (by simp) ?_
        intro i hi
        obtain rfl : i = 6 := by simpa using hi
        refine wpOp_intro rfl (fun K17 hK => ?_)
        clear hi
        go_simp
        refine (k8 _ (M.get 11 rfl) (M.get 10 rfl) (M.get 1 rfl) (M.get 0 rfl)).mono ?_
        rintro e V17_6 ⟨aA, eA, uA, fA, rfl, g, g', rr⟩
        have M' := ((M.up rr).add g).add g'
        clear M rr g g'
        have M := M'; clear M'
        refine hK _ _ ⟨⟨M.box 4 rfl, M.box 3 rfl⟩, ?_⟩
        clear hK K17
        refine wpAnyH_all (rs := [12]) (by kernel_rfl) (by simp) ?_
        intro i hi
        obtain rfl : i = 12 := by simpa using hi
        refine wpOp_intro rfl (fun K18 hK => ?_)
        clear hi
        go_simp
        refine (k9 _).mono ?_
        rintro e V18_12 ⟨aK, eK, uK, fK, rfl, g, g', rr⟩
        have M' := ((M.up rr).add g).add g'
        clear M rr g g'
        have M := M'; clear M'
        refine hK _ _ ⟨⟨M.box 4 rfl, M.box 3 rfl⟩, ?_⟩
        clear hK K18
        refine wpAnyH_all (rs := [13]) (by kernel_rfl) (by simp) ?_
        intro i hi
        obtain rfl : i = 13 := by simpa using hi
        refine wpOp_intro rfl (fun K19 hK => ?_)
        clear hi
        go_simp
        refine (k10 _ (M.get 13 rfl) (M.get 12 rfl) (M.get 1 rfl) (M.get 0 rfl)).mono ?_
        rintro e V19_13 ⟨aB, eB, uB, fB, rfl, g, g', rr⟩
        have M' := ((M.up rr).add g).add g'
        clear M rr g g'
        have M := M'; clear M'
        refine hK _ _ ⟨⟨M.box 4 rfl, M.box 3 rfl⟩, ?_⟩
        clear hK K19
        refine wpAnyH_all (rs := [14]) (by kernel_rfl) (by simp) ?_
        intro i hi
        obtain rfl : i = 14 := by simpa using hi
        refine wpOp_intro rfl (fun K20 hK => ?_)
        clear hi
        go_simp
        refine (k11 _ (M.get 5 rfl) (M.get 4 rfl) (M.get 1 rfl) (M.get 0 rfl)).mono ?_
        rintro e V20_14 ⟨aC, eC, uC, fC, rfl, g, g', rr⟩
        have M' := ((M.up rr).add g).add g'
        clear M rr g g'
        have M := M'; clear M'
        refine hK _ _ ⟨⟨M.box 4 rfl, M.box 3 rfl⟩, ?_⟩
        clear hK K20
        have f0_0 := M.fr 0 rfl 0; have f0_1 := M.fr 0 rfl 1; have f0_2 := M.fr 0 rfl 2
        have z0_0 := M.cell 0 rfl 0 rfl; have z0_1 := M.cell 0 rfl 1 rfl; have z0_2 := M.cell 0 rfl 2 rfl
        refine wpAnyH_all (rs := [16]) (by kernel_rfl) (by simp) ?_
        intro i hi
        obtain rfl : i = 16 := by simpa using hi
        refine wpOp_intro rfl (fun Ks21 hK => ?_)
        clear hi
        go_simp
        have M' := (((M.put 0 rfl rfl 0 (.bool sC)).put 0 rfl rfl 1 (.slice aC LC.length eC)).put 0 rfl rfl 2 (.slice uC DC.length fC))
        clear M f0_0 z0_0 f0_1 z0_1 f0_2 z0_2
        have M : Mem w [(b11, 27, [.bool sC, .slice aC LC.length eC, .slice uC DC.length fC]), (w8.heap.size, 27, [.bool sH, .slice aH LH.length eH, .slice uH DH.length fH]), (w.heap.size + 1 + 1, 54, [.int .u8 u1, .int .u8 u2]), (w.heap.size + 1, 27, [.bool n2, .slice p2 l2.length q2, .slice o2 d2.length r2]), (w.heap.size, 27, [.bool n1, .slice p1 l1.length q1, .slice o1 d1.length r1])] [(.slice uC DC.length fC, DC), (.slice aC LC.length eC, LC), (.slice uB DB.length fB, DB), (.slice aB LB.length eB, LB), (.slice uK DK.length fK, DK), (.slice aK LK.length eK, LK), (.slice uA DA.length fA, DA), (.slice aA LA.length eA, LA), (.slice uJ DJ.length fJ, DJ), (.slice aJ LJ.length eJ, LJ), (.slice uH DH.length fH, DH), (.slice aH LH.length eH, LH), (.slice uI DI.length fI, DI), (.slice aI LI.length eI, LI), (.slice uS DS.length fS, DS), (.slice aS LS.length eS, LS), (.slice o2 d2.length r2, d2), (.slice p2 l2.length q2, l2), (.slice o1 d1.length r1, d1), (.slice p1 l1.length q1, l1)] _ := M'
        clear M'
        refine hK _ _ ⟨⟨M.box 4 rfl, M.box 3 rfl⟩, ?_⟩
        clear hK Ks21
        refine wpAnyH_done (by kernel_rfl) ?_ _
        exact ⟨rfl, b11, aJ, eJ, uJ, fJ, aA, eA, uA, fA, aK, eK, uK, fK, aB, eB, uB, fB, aC, eC, uC, fC, rfl, M⟩
    · refine wpOp_intro rfl (fun K1 hK => ?_)
      go_simp
      obtain ⟨b11, V1_15, hV, hb, M'⟩ := M.fresh 27 [.bool false, .slice none 0 0, .slice none 0 0]
      rw [← hV, ← hb]
      clear M hV hb; have M := M'; clear M'
      refine hK _ _ ⟨⟨M.box 4 rfl, M.box 3 rfl⟩, ?_⟩
      clear hK K1
      refine wpAnyH_all (rs := [5]) (by kernel_rfl) (by simp) ?_
      intro i hi
      obtain rfl : i = 5 := by simpa using hi
      refine wpOp_intro rfl (fun K22 hK => ?_)
      clear hi
      go_simp
      refine (k7 _).mono ?_
      rintro e V22_5 ⟨aJ, eJ, uJ, fJ, rfl, g, g', rr⟩
      have M' := ((M.up rr).add g).add g'
      clear M rr g g'
      have M := M'; clear M'
      refine hK _ _ ⟨⟨M.box 4 rfl, M.box 3 rfl⟩, ?_⟩
      clear hK K22
      refine wpAnyH_all (rs := [6]) (by kernel_rfl) (by simp) ?_
      intro i hi
      obtain rfl : i = 6 := by simpa using hi
      refine wpOp_intro rfl (fun K23 hK => ?_)
      clear hi
      go_simp
      refine (k8 _ (M.get 11 rfl) (M.get 10 rfl) (M.get 1 rfl) (M.get 0 rfl)).mono ?_
      rintro e V23_6 ⟨aA, eA, uA, fA, rfl, g, g', rr⟩
      have M' := ((M.up rr).add g).add g'
      clear M rr g g'
      have M := M'; clear M'
      refine hK _ _ ⟨⟨M.box 4 rfl, M.box 3 rfl⟩, ?_⟩
      clear hK K23
      refine wpAnyH_all (rs := [12]) (by kernel_rfl) (by simp) ?_
      intro i hi
      obtain rfl : i = 12 := by simpa using hi
      refine wpOp_intro rfl (fun K24 hK => ?_)
      clear hi
      go_simp
      refine (k9 _).mono ?_
      rintro e V24_12 ⟨aK, eK, uK, fK, rfl, g, g', rr⟩
      have M' := ((M.up rr).add g).add g'
      clear M rr g g'
      have M := M'; clear M'
      refine hK _ _ ⟨⟨M.box 4 rfl, M.box 3 rfl⟩, ?_⟩
      clear hK K24
      refine wpAnyH_all (rs := [13]) (by kernel_rfl) (by simp) ?_
      intro i hi
      obtain rfl : i = 13 := by simpa using hi
      refine wpOp_intro rfl (fun K25 hK => ?_)
      clear hi
      go_simp
      refine (k10 _ (M.get 13 rfl) (M.get 12 rfl) (M.get 1 rfl) (M.get 0 rfl)).mono ?_
      rintro e V25_13 ⟨aB, eB, uB, fB, rfl, g, g', rr⟩
      have M' := ((M.up rr).add g).add g'
      clear M rr g g'
      have M := M'; clear M'
      refine hK _ _ ⟨⟨M.box 4 rfl, M.box 3 rfl⟩, ?_⟩
      clear hK K25
      refine wpAnyH_all (rs := [14]) (by kernel_rfl) (by simp) ?_
      intro i hi
      obtain rfl : i = 14 := by simpa using hi
      refine wpOp_intro rfl (fun K26 hK => ?_)
      clear hi
      go_simp
      refine (k11 _ (M.get 5 rfl) (M.get 4 rfl) (M.get 1 rfl) (M.get 0 rfl)).mono ?_
      rintro e V26_14 ⟨aC, eC, uC, fC, rfl, g, g', rr⟩
      have M' := ((M.up rr).add g).add g'
      clear M rr g g'
      have M := M'; clear M'
      refine hK _ _ ⟨⟨M.box 4 rfl, M.box 3 rfl⟩, ?_⟩
      clear hK K26
      have f0_0 := M.fr 0 rfl 0; have f0_1 := M.fr 0 rfl 1; have f0_2 := M.fr 0 rfl 2
      have z0_0 := M.cell 0 rfl 0 rfl; have z0_1 := M.cell 0 rfl 1 rfl; have z0_2 := M.cell 0 rfl 2 rfl
      refine wpAnyH_all (rs := [16]) (by kernel_rfl) (by simp) ?_
      intro i hi
      obtain rfl : i = 16 := by simpa using hi
      refine wpOp_intro rfl (fun Ks27 hK => ?_)
      clear hi
      go_simp
      have M' := (((M.put 0 rfl rfl 0 (.bool sC)).put 0 rfl rfl 1 (.slice aC LC.length eC)).put 0 rfl rfl 2 (.slice uC DC.length fC))
      clear M f0_0 z0_0 f0_1 z0_1 f0_2 z0_2
      have M : Mem w [(b11, 27, [.bool sC, .slice aC LC.length eC, .slice uC DC.length fC]), (w8.heap.size, 27, [.bool sH, .slice aH LH.length eH, .slice uH DH.length fH]), (w.heap.size + 1 + 1, 54, [.int .u8 u1, .int .u8 u2]), (w.heap.size + 1, 27, [.bool n2, .slice p2 l2.length q2, .slice o2 d2.length r2]), (w.heap.size, 27, [.bool n1, .slice p1 l1.length q1, .slice o1 d1.length r1])] [(.slice uC DC.length fC, DC), (.slice aC LC.length eC, LC), (.slice uB DB.length fB, DB), (.slice aB LB.length eB, LB), (.slice uK DK.length fK, DK), (.slice aK LK.length eK, LK), (.slice uA DA.length fA, DA), (.slice aA LA.length eA, LA), (.slice uJ DJ.length fJ, DJ), (.slice aJ LJ.length eJ, LJ), (.slice uH DH.length fH, DH), (.slice aH LH.length eH, LH), (.slice uI DI.length fI, DI), (.slice aI LI.length eI, LI), (.slice uS DS.length fS, DS), (.slice aS LS.length eS, LS), (.slice o2 d2.length r2, d2), (.slice p2 l2.length q2, l2), (.slice o1 d1.length r1, d1), (.slice p1 l1.length q1, l1)] _ := M'
      clear M'
      refine hK _ _ ⟨⟨M.box 4 rfl, M.box 3 rfl⟩, ?_⟩
      clear hK Ks27
      refine wpAnyH_done (by kernel_rfl) ?_ _
      exact ⟨rfl, b11, aJ, eJ, uJ, fJ, aA, eA, uA, fA, aK, eK, uK, fK, aB, eB, uB, fB, aC, eC, uC, fC, rfl, M⟩
  intro b11 aJ eJ uJ fJ aA eA uA fA aK eK uK fK aB eB uB fB aC eC uC fC V M
  clear fw5
  have z8_4_0 := M.cell 4 rfl 0 rfl; have z8_4_1 := M.cell 4 rfl 1 rfl; have z8_4_2 := M.cell 4 rfl 2 rfl; have z8_3_0 := M.cell 3 rfl 0 rfl; have z8_3_1 := M.cell 3 rfl 1 rfl; have z8_3_2 := M.cell 3 rfl 2 rfl
  go_wp2_with (first
    | (go_at_call 20; with_reducible refine (k12 _ (M.get 19 rfl) (M.get 18 rfl) (M.get 17 rfl) (M.get 16 rfl)).mono ?_; rintro e w9 ⟨rfl, rr⟩; have M' := M.up rr; clear M rr ; have M := M'; clear M'; clear z8_4_0 z8_4_1 z8_4_2 z8_3_0 z8_3_1 z8_3_2))
  replace M := M.drew
  go_region_held3 (fun W => W.cell? ⟨w.heap.size, 0, none⟩ = some (.bool n1) ∧ W.cell? ⟨w.heap.size, 1, none⟩ = some (.slice p1 l1.length q1) ∧ W.cell? ⟨w.heap.size, 2, none⟩ = some (.slice o1 d1.length r1) ∧ W.cell? ⟨w.heap.size + 1, 0, none⟩ = some (.bool n2) ∧ W.cell? ⟨w.heap.size + 1, 1, none⟩ = some (.slice p2 l2.length q2) ∧ W.cell? ⟨w.heap.size + 1, 2, none⟩ = some (.slice o2 d2.length r2) ∧ W.cell? ⟨w8.heap.size, 0, none⟩ = some (.bool sH) ∧ W.cell? ⟨w8.heap.size, 1, none⟩ = some (.slice aH LH.length eH) ∧ W.cell? ⟨w8.heap.size, 2, none⟩ = some (.slice uH DH.length fH) ∧ W.cell? ⟨b11, 0, none⟩ = some (.bool sC) ∧ W.cell? ⟨b11, 1, none⟩ = some (.slice aC LC.length eC) ∧ W.cell? ⟨b11, 2, none⟩ = some (.slice uC DC.length fC)) (exact ⟨M.cell 4 rfl 0 rfl, M.cell 4 rfl 1 rfl, M.cell 4 rfl 2 rfl, M.cell 3 rfl 0 rfl, M.cell 3 rfl 1 rfl, M.cell 3 rfl 2 rfl, M.cell 1 rfl 0 rfl, M.cell 1 rfl 1 rfl, M.cell 1 rfl 2 rfl, M.cell 0 rfl 0 rfl, M.cell 0 rfl 1 rfl, M.cell 0 rfl 2 rfl⟩) (first
    | (go_at_call 16; clear tok10; with_reducible refine (k13 _ (M.get 11 rfl) (M.get 10 rfl) (M.get 19 rfl) (M.get 18 rfl)).mono ?_; rintro e w10 ⟨aD, eD, uD, fD, rfl, g, g', rr⟩; have M' := ((M.up rr).add g).add g'; clear M rr g g'; have M := M'; clear M')
    | (go_at_call 16; clear tok11; with_reducible refine (k14 _ (M.get 19 rfl) (M.get 18 rfl) (M.get 13 rfl) (M.get 12 rfl)).mono ?_; rintro e w11 ⟨aE, eE, uE, fE, rfl, g, g', rr⟩; have M' := ((M.up rr).add g).add g'; clear M rr g g'; have M := M'; clear M')
    | (go_at_call 15; clear tok12; with_reducible refine (k15 _ (M.get 3 rfl) (M.get 2 rfl) (M.get 1 rfl) (M.get 0 rfl)).mono ?_; rintro e w12 ⟨rfl, rr⟩; have M' := M.up rr; clear M rr ; have M := M'; clear M')
    | (go_at_call 20; clear tok13; with_reducible refine (k16 _ (M.get 23 rfl) (M.get 22 rfl) (M.get 15 rfl) (M.get 14 rfl)).mono ?_; rintro e w13 ⟨rfl, rr⟩; have M' := M.up rr; clear M rr ; have M := M'; clear M')
    | (go_at_call 20; clear tok14; with_reducible refine (k17 _ (M.get 15 rfl) (M.get 14 rfl) (M.get 21 rfl) (M.get 20 rfl)).mono ?_; rintro e w14 ⟨rfl, rr⟩; have M' := M.up rr; clear M rr ; have M := M'; clear M')
    | (go_at_call 20; clear tok15; with_reducible refine (k18 _ (M.get 23 rfl) (M.get 22 rfl) (M.get 5 rfl) (M.get 4 rfl)).mono ?_; rintro e w15 ⟨rfl, rr⟩; have M' := M.up rr; clear M rr ; have M := M'; clear M')
    | (go_at_call 20; clear tok16; with_reducible refine (k19 _ (M.get 5 rfl) (M.get 4 rfl) (M.get 21 rfl) (M.get 20 rfl)).mono ?_; rintro e w16 ⟨rfl, rr⟩; have M' := M.up rr; clear M rr ; have M := M'; clear M'))
  go_wp2
  go_ret
  exact ⟨rfl, M.below⟩
end Go.Proofs.YthloknddhfphnaaGreatDoor
