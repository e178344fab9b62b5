/- Fractions: RatsField: its walks. -/
import Derived.Deep.RegionHeld3
import Derived.Test.YthloknddhfphnaaGreatDoorGRatAlive
import Derived.Test.YthloknddhfphnaaGreatDoorGRatCmp
import Derived.Test.YthloknddhfphnaaGreatDoorGRatLess
set_option linter.unusedSimpArgs false
set_option linter.unusedVariables false
namespace Go.Proofs.YthloknddhfphnaaGreatDoor
open Go Go.Proofs Go.RowKit Go.Shelf Nu

attribute [local go_sem] Oper.semAt_some

set_option maxRecDepth 100000 in
set_option maxHeartbeats 16000000 in
theorem rfield_near {w : World} {n1 n2 n3 : Bool} {p1 o1 p2 o2 p3 o3 : Option Addr} {q1 r1 q2 r2 q3 r3 : Nat} {l1 d1 l2 d2 l3 d3 : List Nat} {X1 X2 X3 : Rat} (i1 : RIs n1 l1 d1 X1) (i2 : RIs n2 l2 d2 X2) (i3 : RIs n3 l3 d3 X3) (m1 : l1.length + d1.length ≤ 20) (m2 : l2.length + d2.length ≤ 20) (m3 : l3.length + d3.length ≤ 20) (g1 : Reads w (.slice p1 l1.length q1) l1) (h1 : Reads w (.slice o1 d1.length r1) d1) (g2 : Reads w (.slice p2 l2.length q2) l2) (h2 : Reads w (.slice o2 d2.length r2) d2) (g3 : Reads w (.slice p3 l3.length q3) l3) (h3 : Reads w (.slice o3 d3.length r3) d3) :
    Calls Tryz.prog 3 #[.agg #[.bool n1, .slice p1 l1.length q1, .slice o1 d1.length r1], .agg #[.bool n2, .slice p2 l2.length q2, .slice o2 d2.length r2], .agg #[.bool n3, .slice p3 l3.length q3, .slice o3 d3.length r3]] w fun e w' => e = .returned (.bool true) ∧ Below w.heap.size w w' := by
  have R1 : rl X1 ≤ 21 := by have := i1.len; omega
  have R2 : rl X2 ≤ 21 := by have := i2.len; omega
  have R3 : rl X3 ≤ 21 := by have := i3.len; omega
  obtain ⟨sS, LS, DS, cS⟩ := RCan.ex (X1 + X2)
  have RS : rl (X1 + X2) ≤ 85 := by have := rl_sum (X := X1) (Y := X2) (.inl rfl); omega
  have bS : LS.length ≤ 9999 ∧ DS.length ≤ 9999 := by have := cS.len; omega
  obtain ⟨sP, LP, DP, cP⟩ := RCan.ex (X1 * X2)
  have RP : rl (X1 * X2) ≤ 42 := by have := rl_mul (X := X1) (Y := X2) rfl; omega
  have bP : LP.length ≤ 9999 ∧ DP.length ≤ 9999 := by have := cP.len; omega
  obtain ⟨sA, LA, DA, cA⟩ := RCan.ex (X2 + X1)
  have RA : rl (X2 + X1) ≤ 85 := by have := rl_sum (X := X2) (Y := X1) (.inl rfl); omega
  have bA : LA.length ≤ 9999 ∧ DA.length ≤ 9999 := by have := cA.len; omega
  obtain ⟨sB, LB, DB, cB⟩ := RCan.ex (X2 * X1)
  have RB : rl (X2 * X1) ≤ 42 := by have := rl_mul (X := X2) (Y := X1) rfl; omega
  have bB : LB.length ≤ 9999 ∧ DB.length ≤ 9999 := by have := cB.len; omega
  obtain ⟨sC, LC, DC, cC⟩ := RCan.ex (X1 + X2 + X3)
  have RC : rl (X1 + X2 + X3) ≤ 213 := by have := rl_sum (X := (X1 + X2)) (Y := X3) (.inl rfl); omega
  have bC : LC.length ≤ 9999 ∧ DC.length ≤ 9999 := by have := cC.len; omega
  obtain ⟨sD, LD, DD, cD⟩ := RCan.ex (X2 + X3)
  have RD : rl (X2 + X3) ≤ 85 := by have := rl_sum (X := X2) (Y := X3) (.inl rfl); omega
  have bD : LD.length ≤ 9999 ∧ DD.length ≤ 9999 := by have := cD.len; omega
  obtain ⟨sE, LE, DE, cE⟩ := RCan.ex (X1 + (X2 + X3))
  have RE : rl (X1 + (X2 + X3)) ≤ 213 := by have := rl_sum (X := X1) (Y := (X2 + X3)) (.inl rfl); omega
  have bE : LE.length ≤ 9999 ∧ DE.length ≤ 9999 := by have := cE.len; omega
  obtain ⟨sG, LG, DG, cG⟩ := RCan.ex (X1 * X2 * X3)
  have RG : rl (X1 * X2 * X3) ≤ 63 := by have := rl_mul (X := (X1 * X2)) (Y := X3) rfl; omega
  have bG : LG.length ≤ 9999 ∧ DG.length ≤ 9999 := by have := cG.len; omega
  obtain ⟨sH, LH, DH, cH⟩ := RCan.ex (X2 * X3)
  have RH : rl (X2 * X3) ≤ 42 := by have := rl_mul (X := X2) (Y := X3) rfl; omega
  have bH : LH.length ≤ 9999 ∧ DH.length ≤ 9999 := by have := cH.len; omega
  obtain ⟨sI, LI, DI, cI⟩ := RCan.ex (X1 * (X2 * X3))
  have RI : rl (X1 * (X2 * X3)) ≤ 63 := by have := rl_mul (X := X1) (Y := (X2 * X3)) rfl; omega
  have bI : LI.length ≤ 9999 ∧ DI.length ≤ 9999 := by have := cI.len; omega
  obtain ⟨sJ, LJ, DJ, cJ⟩ := RCan.ex ((X1 + X2) * X3)
  have RJ : rl ((X1 + X2) * X3) ≤ 106 := by have := rl_mul (X := (X1 + X2)) (Y := X3) rfl; omega
  have bJ : LJ.length ≤ 9999 ∧ DJ.length ≤ 9999 := by have := cJ.len; omega
  obtain ⟨sK, LK, DK, cK⟩ := RCan.ex (X1 * X3)
  have RK : rl (X1 * X3) ≤ 42 := by have := rl_mul (X := X1) (Y := X3) rfl; omega
  have bK : LK.length ≤ 9999 ∧ DK.length ≤ 9999 := by have := cK.len; omega
  obtain ⟨sL, LL, DL, cL⟩ := RCan.ex (X2 * X3)
  have RL : rl (X2 * X3) ≤ 42 := by have := rl_mul (X := X2) (Y := X3) rfl; omega
  have bL : LL.length ≤ 9999 ∧ DL.length ≤ 9999 := by have := cL.len; omega
  obtain ⟨sN, LN, DN, cN⟩ := RCan.ex (X1 * X3 + X2 * X3)
  have RN : rl (X1 * X3 + X2 * X3) ≤ 169 := by have := rl_sum (X := (X1 * X3)) (Y := (X2 * X3)) (.inl rfl); omega
  have bN : LN.length ≤ 9999 ∧ DN.length ≤ 9999 := by have := cN.len; omega
  have tok5 : True := trivial
  have tok6 : True := trivial
  have tok7 : True := trivial
  have tok8 : True := trivial
  have tok9 : True := trivial
  have tok10 : True := trivial
  have tok11 : True := trivial
  have tok12 : True := trivial
  have tok13 : True := trivial
  have tok14 : True := trivial
  have tok15 : True := trivial
  have tok16 : True := trivial
  have tok17 : True := trivial
  have tok18 : True := trivial
  have tok19 : True := trivial
  have tok20 : True := trivial
  have tok21 : True := trivial
  have tok22 : True := trivial
  have tok23 : True := trivial
  have k1 := fun (W : World) (g1 : Reads W (.slice p1 l1.length q1) l1) (h1 : Reads W (.slice o1 d1.length r1) d1) (g2 : Reads W (.slice p2 l2.length q2) l2) (h2 : Reads W (.slice o2 d2.length r2) d2) => r_add i1 i2 cS (rfl) (by omega) (by omega) (by omega) (by omega) g1 h1 g2 h2
  have k2 := fun (W : World) (g1 : Reads W (.slice p1 l1.length q1) l1) (h1 : Reads W (.slice o1 d1.length r1) d1) (g2 : Reads W (.slice p2 l2.length q2) l2) (h2 : Reads W (.slice o2 d2.length r2) d2) => r_mul i1 i2 cP (rfl) (by omega) (by omega) (by omega) (by omega) g1 h1 g2 h2
  have k3 := fun (W : World) {aa1 oo1 : Option Addr} {ee1 ff1 : Nat} (g1 : Reads W (.slice aa1 LS.length ee1) LS) (h1 : Reads W (.slice oo1 DS.length ff1) DS) => rcheck_yes cS (by omega) (by omega) g1 h1
  have k4 := fun (W : World) {aa1 oo1 : Option Addr} {ee1 ff1 : Nat} (g1 : Reads W (.slice aa1 LP.length ee1) LP) (h1 : Reads W (.slice oo1 DP.length ff1) DP) => rcheck_yes cP (by omega) (by omega) g1 h1
  have k5 := fun (W : World) (g1 : Reads W (.slice p2 l2.length q2) l2) (h1 : Reads W (.slice o2 d2.length r2) d2) (g2 : Reads W (.slice p1 l1.length q1) l1) (h2 : Reads W (.slice o1 d1.length r1) d1) => r_add i2 i1 cA (rfl) (by omega) (by omega) (by omega) (by omega) g1 h1 g2 h2
  have k6 := fun (W : World) {aa1 oo1 : Option Addr} {ee1 ff1 : Nat} {aa2 oo2 : Option Addr} {ee2 ff2 : Nat} (g1 : Reads W (.slice aa1 LS.length ee1) LS) (h1 : Reads W (.slice oo1 DS.length ff1) DS) (g2 : Reads W (.slice aa2 LA.length ee2) LA) (h2 : Reads W (.slice oo2 DA.length ff2) DA) => r_same true cS cA (decide_eq_true (by grind)) (by omega) (by omega) (by omega) (by omega) g1 h1 g2 h2
  have k7 := fun (W : World) (g1 : Reads W (.slice p2 l2.length q2) l2) (h1 : Reads W (.slice o2 d2.length r2) d2) (g2 : Reads W (.slice p1 l1.length q1) l1) (h2 : Reads W (.slice o1 d1.length r1) d1) => r_mul i2 i1 cB (rfl) (by omega) (by omega) (by omega) (by omega) g1 h1 g2 h2
  have k8 := fun (W : World) {aa1 oo1 : Option Addr} {ee1 ff1 : Nat} {aa2 oo2 : Option Addr} {ee2 ff2 : Nat} (g1 : Reads W (.slice aa1 LP.length ee1) LP) (h1 : Reads W (.slice oo1 DP.length ff1) DP) (g2 : Reads W (.slice aa2 LB.length ee2) LB) (h2 : Reads W (.slice oo2 DB.length ff2) DB) => r_same true cP cB (decide_eq_true (by grind)) (by omega) (by omega) (by omega) (by omega) g1 h1 g2 h2
  have k9 := fun (W : World) {aa1 oo1 : Option Addr} {ee1 ff1 : Nat} (g1 : Reads W (.slice aa1 LS.length ee1) LS) (h1 : Reads W (.slice oo1 DS.length ff1) DS) (g2 : Reads W (.slice p3 l3.length q3) l3) (h2 : Reads W (.slice o3 d3.length r3) d3) => r_add cS.is i3 cC (rfl) (by omega) (by omega) (by omega) (by omega) g1 h1 g2 h2
  have k10 := fun (W : World) (g1 : Reads W (.slice p2 l2.length q2) l2) (h1 : Reads W (.slice o2 d2.length r2) d2) (g2 : Reads W (.slice p3 l3.length q3) l3) (h2 : Reads W (.slice o3 d3.length r3) d3) => r_add i2 i3 cD (rfl) (by omega) (by omega) (by omega) (by omega) g1 h1 g2 h2
  have k11 := fun (W : World) {aa2 oo2 : Option Addr} {ee2 ff2 : Nat} (g1 : Reads W (.slice p1 l1.length q1) l1) (h1 : Reads W (.slice o1 d1.length r1) d1) (g2 : Reads W (.slice aa2 LD.length ee2) LD) (h2 : Reads W (.slice oo2 DD.length ff2) DD) => r_add i1 cD.is cE (rfl) (by omega) (by omega) (by omega) (by omega) g1 h1 g2 h2
  have k12 := fun (W : World) {aa1 oo1 : Option Addr} {ee1 ff1 : Nat} {aa2 oo2 : Option Addr} {ee2 ff2 : Nat} (g1 : Reads W (.slice aa1 LC.length ee1) LC) (h1 : Reads W (.slice oo1 DC.length ff1) DC) (g2 : Reads W (.slice aa2 LE.length ee2) LE) (h2 : Reads W (.slice oo2 DE.length ff2) DE) => r_same true cC cE (decide_eq_true (by grind)) (by omega) (by omega) (by omega) (by omega) g1 h1 g2 h2
  have k13 := fun (W : World) {aa1 oo1 : Option Addr} {ee1 ff1 : Nat} (g1 : Reads W (.slice aa1 LP.length ee1) LP) (h1 : Reads W (.slice oo1 DP.length ff1) DP) (g2 : Reads W (.slice p3 l3.length q3) l3) (h2 : Reads W (.slice o3 d3.length r3) d3) => r_mul cP.is i3 cG (rfl) (by omega) (by omega) (by omega) (by omega) g1 h1 g2 h2
  have k14 := fun (W : World) (g1 : Reads W (.slice p2 l2.length q2) l2) (h1 : Reads W (.slice o2 d2.length r2) d2) (g2 : Reads W (.slice p3 l3.length q3) l3) (h2 : Reads W (.slice o3 d3.length r3) d3) => r_mul i2 i3 cH (rfl) (by omega) (by omega) (by omega) (by omega) g1 h1 g2 h2
  have k15 := fun (W : World) {aa2 oo2 : Option Addr} {ee2 ff2 : Nat} (g1 : Reads W (.slice p1 l1.length q1) l1) (h1 : Reads W (.slice o1 d1.length r1) d1) (g2 : Reads W (.slice aa2 LH.length ee2) LH) (h2 : Reads W (.slice oo2 DH.length ff2) DH) => r_mul i1 cH.is cI (rfl) (by omega) (by omega) (by omega) (by omega) g1 h1 g2 h2
  have k16 := fun (W : World) {aa1 oo1 : Option Addr} {ee1 ff1 : Nat} {aa2 oo2 : Option Addr} {ee2 ff2 : Nat} (g1 : Reads W (.slice aa1 LG.length ee1) LG) (h1 : Reads W (.slice oo1 DG.length ff1) DG) (g2 : Reads W (.slice aa2 LI.length ee2) LI) (h2 : Reads W (.slice oo2 DI.length ff2) DI) => r_same true cG cI (decide_eq_true (by grind)) (by omega) (by omega) (by omega) (by omega) g1 h1 g2 h2
  have k17 := fun (W : World) {aa1 oo1 : Option Addr} {ee1 ff1 : Nat} (g1 : Reads W (.slice aa1 LS.length ee1) LS) (h1 : Reads W (.slice oo1 DS.length ff1) DS) (g2 : Reads W (.slice p3 l3.length q3) l3) (h2 : Reads W (.slice o3 d3.length r3) d3) => r_mul cS.is i3 cJ (rfl) (by omega) (by omega) (by omega) (by omega) g1 h1 g2 h2
  have k18 := fun (W : World) (g1 : Reads W (.slice p1 l1.length q1) l1) (h1 : Reads W (.slice o1 d1.length r1) d1) (g2 : Reads W (.slice p3 l3.length q3) l3) (h2 : Reads W (.slice o3 d3.length r3) d3) => r_mul i1 i3 cK (rfl) (by omega) (by omega) (by omega) (by omega) g1 h1 g2 h2
  have k19 := fun (W : World) (g1 : Reads W (.slice p2 l2.length q2) l2) (h1 : Reads W (.slice o2 d2.length r2) d2) (g2 : Reads W (.slice p3 l3.length q3) l3) (h2 : Reads W (.slice o3 d3.length r3) d3) => r_mul i2 i3 cL (rfl) (by omega) (by omega) (by omega) (by omega) g1 h1 g2 h2
  have k20 := fun (W : World) {aa1 oo1 : Option Addr} {ee1 ff1 : Nat} {aa2 oo2 : Option Addr} {ee2 ff2 : Nat} (g1 : Reads W (.slice aa1 LK.length ee1) LK) (h1 : Reads W (.slice oo1 DK.length ff1) DK) (g2 : Reads W (.slice aa2 LL.length ee2) LL) (h2 : Reads W (.slice oo2 DL.length ff2) DL) => r_add cK.is cL.is cN (rfl) (by omega) (by omega) (by omega) (by omega) g1 h1 g2 h2
  have k21 := fun (W : World) {aa1 oo1 : Option Addr} {ee1 ff1 : Nat} {aa2 oo2 : Option Addr} {ee2 ff2 : Nat} (g1 : Reads W (.slice aa1 LJ.length ee1) LJ) (h1 : Reads W (.slice oo1 DJ.length ff1) DJ) (g2 : Reads W (.slice aa2 LN.length ee2) LN) (h2 : Reads W (.slice oo2 DN.length ff2) DN) => r_same true cJ cN (decide_eq_true (by grind)) (by omega) (by omega) (by omega) (by omega) g1 h1 g2 h2
  have hG : Hid (false = List.any [(n1, (p1, l1.length, q1), (o1, d1.length, r1)), (n2, (p2, l2.length, q2), (o2, d2.length, r2)), (n3, (p3, l3.length, q3), (o3, d3.length, r3))] fun t : Q7 => decide (20 < t.2.1.2.1 + t.2.2.2.1)) := Lib.hid (by simp; omega)
  have hZ : Hid (∀ t ∈ ([(n1, (p1, l1.length, q1), (o1, d1.length, r1)), (n2, (p2, l2.length, q2), (o2, d2.length, r2)), (n3, (p3, l3.length, q3), (o3, d3.length, r3))] : List Q7), t.2.1.2.1 ≤ 70368744177664 ∧ t.2.2.2.1 ≤ 70368744177664) := Lib.hid (by simp; omega)
  have M : Mem w [(w.heap.size + 1 + 1, 27, [.bool n3, .slice p3 l3.length q3, .slice o3 d3.length r3]), (w.heap.size + 1, 27, [.bool n2, .slice p2 l2.length q2, .slice o2 d2.length r2]), (w.heap.size, 27, [.bool n1, .slice p1 l1.length q1, .slice o1 d1.length r1])] [(.slice o3 d3.length r3, d3), (.slice p3 l3.length q3, l3), (.slice o2 d2.length r2, d2), (.slice p2 l2.length q2, l2), (.slice o1 d1.length r1, d1), (.slice p1 l1.length q1, l1)] (((w.alloc (.cells #[.bool n1, .slice p1 l1.length q1, .slice o1 d1.length r1] 27)).alloc (.cells #[.bool n2, .slice p2 l2.length q2, .slice o2 d2.length r2] 27)).alloc (.cells #[.bool n3, .slice p3 l3.length q3, .slice o3 d3.length r3] 27)) := by
    have M := ((((((((((Mem.start w).add g1).add h1).add g2).add h2).add g3).add h3).new 27 [.bool n1, .slice p1 l1.length q1, .slice o1 d1.length r1]).new 27 [.bool n2, .slice p2 l2.length q2, .slice o2 d2.length r2]).new 27 [.bool n3, .slice p3 l3.length q3, .slice o3 d3.length r3])
    simpa only [World.size_alloc] using M
  clear g1 h1 m1 R1 i1 g2 h2 m2 R2 i2 g3 h3 m3 R3 i3 cS RS bS cP RP bP cA RA bA cB RB bB cC RC bC cD RD bD cE RE bE cG RG bG cH RH bH cI RI bI cJ RJ bJ cK RK bK cL RL bL cN RN bN 
  go_enter Tryz.func3, Tryz.ntmps3
  go_wp2_with (first
    | (go_at_call 10; with_reducible refine (r_alive _).mono ?_; rintro e w1 ⟨rfl, rr⟩; have M' := M.up rr; clear M rr ; have M := M'; clear M'; have z1_2_0 := M.cell 2 rfl 0 rfl; have z1_2_1 := M.cell 2 rfl 1 rfl; have z1_2_2 := M.cell 2 rfl 2 rfl; have z1_1_0 := M.cell 1 rfl 0 rfl; have z1_1_1 := M.cell 1 rfl 1 rfl; have z1_1_2 := M.cell 1 rfl 2 rfl; have z1_0_0 := M.cell 0 rfl 0 rfl; have z1_0_1 := M.cell 0 rfl 1 rfl; have z1_0_2 := M.cell 0 rfl 2 rfl)
    | (go_at_call 11; have kg := rgreat_lit w1 20 [(n1, (p1, l1.length, q1), (o1, d1.length, r1)), (n2, (p2, l2.length, q2), (o2, d2.length, r2)), (n3, (p3, l3.length, q3), (o3, d3.length, r3))] (vs := #[.bool n1, .slice p1 l1.length q1, .slice o1 d1.length r1, .bool n2, .slice p2 l2.length q2, .slice o2 d2.length r2, .bool n3, .slice p3 l3.length q3, .slice o3 d3.length r3]) (by simp [q7v]) (m := 3) rfl (by simp) (by decide) hZ.out false hG.out; rw [show ((20 : Nat) : Int) = 20 from rfl] at kg; with_reducible refine kg.mono ?_; clear kg; rintro e w2 ⟨rfl, rr⟩; have M' := M.up rr; clear M rr; have M := M'; clear M'; clear z1_2_0 z1_2_1 z1_2_2 z1_1_0 z1_1_1 z1_1_2 z1_0_0 z1_0_1 z1_0_2; have z2_2_0 := M.cell 2 rfl 0 rfl; have z2_2_1 := M.cell 2 rfl 1 rfl; have z2_2_2 := M.cell 2 rfl 2 rfl; have z2_1_0 := M.cell 1 rfl 0 rfl; have z2_1_1 := M.cell 1 rfl 1 rfl; have z2_1_2 := M.cell 1 rfl 2 rfl; have z2_0_0 := M.cell 0 rfl 0 rfl; have z2_0_1 := M.cell 0 rfl 1 rfl; have z2_0_2 := M.cell 0 rfl 2 rfl)
    | (go_at_call 12; with_reducible refine (k1 _ (M.get 5 rfl) (M.get 4 rfl) (M.get 3 rfl) (M.get 2 rfl)).mono ?_; rintro e w3 ⟨aS, eS, uS, fS, rfl, g, g', rr⟩; have M' := (((M.up rr).add g).add g').new 27 [.bool sS, .slice aS LS.length eS, .slice uS DS.length fS]; clear M rr g g'; have M := M'; clear M'; clear z2_2_0 z2_2_1 z2_2_2 z2_1_0 z2_1_1 z2_1_2 z2_0_0 z2_0_1 z2_0_2; have z3_3_0 := M.cell 3 rfl 0 rfl; have z3_3_1 := M.cell 3 rfl 1 rfl; have z3_3_2 := M.cell 3 rfl 2 rfl; have z3_2_0 := M.cell 2 rfl 0 rfl; have z3_2_1 := M.cell 2 rfl 1 rfl; have z3_2_2 := M.cell 2 rfl 2 rfl; have z3_1_0 := M.cell 1 rfl 0 rfl; have z3_1_1 := M.cell 1 rfl 1 rfl; have z3_1_2 := M.cell 1 rfl 2 rfl; have z3_0_0 := M.cell 0 rfl 0 rfl; have z3_0_1 := M.cell 0 rfl 1 rfl; have z3_0_2 := M.cell 0 rfl 2 rfl)
    | (go_at_call 13; with_reducible refine (k2 _ (M.get 7 rfl) (M.get 6 rfl) (M.get 5 rfl) (M.get 4 rfl)).mono ?_; rintro e w4 ⟨aP, eP, uP, fP, rfl, g, g', rr⟩; have M' := (((M.up rr).add g).add g').new 27 [.bool sP, .slice aP LP.length eP, .slice uP DP.length fP]; clear M rr g g'; have M := M'; clear M'; clear z3_3_0 z3_3_1 z3_3_2 z3_2_0 z3_2_1 z3_2_2 z3_1_0 z3_1_1 z3_1_2 z3_0_0 z3_0_1 z3_0_2; have z4_4_0 := M.cell 4 rfl 0 rfl; have z4_4_1 := M.cell 4 rfl 1 rfl; have z4_4_2 := M.cell 4 rfl 2 rfl; have z4_3_0 := M.cell 3 rfl 0 rfl; have z4_3_1 := M.cell 3 rfl 1 rfl; have z4_3_2 := M.cell 3 rfl 2 rfl; have z4_2_0 := M.cell 2 rfl 0 rfl; have z4_2_1 := M.cell 2 rfl 1 rfl; have z4_2_2 := M.cell 2 rfl 2 rfl; have z4_1_0 := M.cell 1 rfl 0 rfl; have z4_1_1 := M.cell 1 rfl 1 rfl; have z4_1_2 := M.cell 1 rfl 2 rfl; have z4_0_0 := M.cell 0 rfl 0 rfl; have z4_0_1 := M.cell 0 rfl 1 rfl; have z4_0_2 := M.cell 0 rfl 2 rfl))
  replace M := M.drew
  clear z4_4_0 z4_4_1 z4_4_2 z4_3_0 z4_3_1 z4_3_2 z4_2_0 z4_2_1 z4_2_2 z4_1_0 z4_1_1 z4_1_2 z4_0_0 z4_0_1 z4_0_2
  go_region_held3 (fun W => W.cell? ⟨w.heap.size, 0, none⟩ = some (.bool n1) ∧ W.cell? ⟨w.heap.size, 1, none⟩ = some (.slice p1 l1.length q1) ∧ W.cell? ⟨w.heap.size, 2, none⟩ = some (.slice o1 d1.length r1) ∧ W.cell? ⟨w.heap.size + 1, 0, none⟩ = some (.bool n2) ∧ W.cell? ⟨w.heap.size + 1, 1, none⟩ = some (.slice p2 l2.length q2) ∧ W.cell? ⟨w.heap.size + 1, 2, none⟩ = some (.slice o2 d2.length r2) ∧ W.cell? ⟨w.heap.size + 1 + 1, 0, none⟩ = some (.bool n3) ∧ W.cell? ⟨w.heap.size + 1 + 1, 1, none⟩ = some (.slice p3 l3.length q3) ∧ W.cell? ⟨w.heap.size + 1 + 1, 2, none⟩ = some (.slice o3 d3.length r3) ∧ W.cell? ⟨w3.heap.size, 0, none⟩ = some (.bool sS) ∧ W.cell? ⟨w3.heap.size, 1, none⟩ = some (.slice aS LS.length eS) ∧ W.cell? ⟨w3.heap.size, 2, none⟩ = some (.slice uS DS.length fS) ∧ W.cell? ⟨w4.heap.size, 0, none⟩ = some (.bool sP) ∧ W.cell? ⟨w4.heap.size, 1, none⟩ = some (.slice aP LP.length eP) ∧ W.cell? ⟨w4.heap.size, 2, none⟩ = some (.slice uP DP.length fP)) (exact ⟨M.cell 4 rfl 0 rfl, M.cell 4 rfl 1 rfl, M.cell 4 rfl 2 rfl, M.cell 3 rfl 0 rfl, M.cell 3 rfl 1 rfl, M.cell 3 rfl 2 rfl, M.cell 2 rfl 0 rfl, M.cell 2 rfl 1 rfl, M.cell 2 rfl 2 rfl, M.cell 1 rfl 0 rfl, M.cell 1 rfl 1 rfl, M.cell 1 rfl 2 rfl, M.cell 0 rfl 0 rfl, M.cell 0 rfl 1 rfl, M.cell 0 rfl 2 rfl⟩) (first
    | (go_at_call 14; clear tok5; with_reducible refine (k3 _ (M.get 3 rfl) (M.get 2 rfl)).mono ?_; rintro e w5 ⟨rfl, rr⟩; have M' := M.up rr; clear M rr ; have M := M'; clear M')
    | (go_at_call 14; clear tok6; with_reducible refine (k4 _ (M.get 1 rfl) (M.get 0 rfl)).mono ?_; rintro e w6 ⟨rfl, rr⟩; have M' := M.up rr; clear M rr ; have M := M'; clear M')
    | (go_at_call 12; clear tok7; with_reducible refine (k5 _ (M.get 7 rfl) (M.get 6 rfl) (M.get 9 rfl) (M.get 8 rfl)).mono ?_; rintro e w7 ⟨aA, eA, uA, fA, rfl, g, g', rr⟩; have M' := ((M.up rr).add g).add g'; clear M rr g g'; have M := M'; clear M')
    | (go_at_call 15; clear tok8; with_reducible refine (k6 _ (M.get 5 rfl) (M.get 4 rfl) (M.get 1 rfl) (M.get 0 rfl)).mono ?_; rintro e w8 ⟨rfl, rr⟩; have M' := M.up rr; clear M rr ; have M := M'; clear M')
    | (go_at_call 13; clear tok9; with_reducible refine (k7 _ (M.get 9 rfl) (M.get 8 rfl) (M.get 11 rfl) (M.get 10 rfl)).mono ?_; rintro e w9 ⟨aB, eB, uB, fB, rfl, g, g', rr⟩; have M' := ((M.up rr).add g).add g'; clear M rr g g'; have M := M'; clear M')
    | (go_at_call 15; clear tok10; with_reducible refine (k8 _ (M.get 5 rfl) (M.get 4 rfl) (M.get 1 rfl) (M.get 0 rfl)).mono ?_; rintro e w10 ⟨rfl, rr⟩; have M' := M.up rr; clear M rr ; have M := M'; clear M')
    | (go_at_call 12; clear tok11; with_reducible refine (k9 _ (M.get 7 rfl) (M.get 6 rfl) (M.get 9 rfl) (M.get 8 rfl)).mono ?_; rintro e w11 ⟨aC, eC, uC, fC, rfl, g, g', rr⟩; have M' := ((M.up rr).add g).add g'; clear M rr g g'; have M := M'; clear M')
    | (go_at_call 12; clear tok12; with_reducible refine (k10 _ (M.get 13 rfl) (M.get 12 rfl) (M.get 11 rfl) (M.get 10 rfl)).mono ?_; rintro e w12 ⟨aD, eD, uD, fD, rfl, g, g', rr⟩; have M' := ((M.up rr).add g).add g'; clear M rr g g'; have M := M'; clear M')
    | (go_at_call 12; clear tok13; with_reducible refine (k11 _ (M.get 17 rfl) (M.get 16 rfl) (M.get 1 rfl) (M.get 0 rfl)).mono ?_; rintro e w13 ⟨aE, eE, uE, fE, rfl, g, g', rr⟩; have M' := ((M.up rr).add g).add g'; clear M rr g g'; have M := M'; clear M')
    | (go_at_call 15; clear tok14; with_reducible refine (k12 _ (M.get 5 rfl) (M.get 4 rfl) (M.get 1 rfl) (M.get 0 rfl)).mono ?_; rintro e w14 ⟨rfl, rr⟩; have M' := M.up rr; clear M rr ; have M := M'; clear M')
    | (go_at_call 13; clear tok15; with_reducible refine (k13 _ (M.get 11 rfl) (M.get 10 rfl) (M.get 15 rfl) (M.get 14 rfl)).mono ?_; rintro e w15 ⟨aG, eG, uG, fG, rfl, g, g', rr⟩; have M' := ((M.up rr).add g).add g'; clear M rr g g'; have M := M'; clear M')
    | (go_at_call 13; clear tok16; with_reducible refine (k14 _ (M.get 19 rfl) (M.get 18 rfl) (M.get 17 rfl) (M.get 16 rfl)).mono ?_; rintro e w16 ⟨aH, eH, uH, fH, rfl, g, g', rr⟩; have M' := ((M.up rr).add g).add g'; clear M rr g g'; have M := M'; clear M')
    | (go_at_call 13; clear tok17; with_reducible refine (k15 _ (M.get 23 rfl) (M.get 22 rfl) (M.get 1 rfl) (M.get 0 rfl)).mono ?_; rintro e w17 ⟨aI, eI, uI, fI, rfl, g, g', rr⟩; have M' := ((M.up rr).add g).add g'; clear M rr g g'; have M := M'; clear M')
    | (go_at_call 15; clear tok18; with_reducible refine (k16 _ (M.get 5 rfl) (M.get 4 rfl) (M.get 1 rfl) (M.get 0 rfl)).mono ?_; rintro e w18 ⟨rfl, rr⟩; have M' := M.up rr; clear M rr ; have M := M'; clear M')
    | (go_at_call 13; clear tok19; with_reducible refine (k17 _ (M.get 19 rfl) (M.get 18 rfl) (M.get 21 rfl) (M.get 20 rfl)).mono ?_; rintro e w19 ⟨aJ, eJ, uJ, fJ, rfl, g, g', rr⟩; have M' := ((M.up rr).add g).add g'; clear M rr g g'; have M := M'; clear M')
    | (go_at_call 13; clear tok20; with_reducible refine (k18 _ (M.get 27 rfl) (M.get 26 rfl) (M.get 23 rfl) (M.get 22 rfl)).mono ?_; rintro e w20 ⟨aK, eK, uK, fK, rfl, g, g', rr⟩; have M' := ((M.up rr).add g).add g'; clear M rr g g'; have M := M'; clear M')
    | (go_at_call 13; clear tok21; with_reducible refine (k19 _ (M.get 27 rfl) (M.get 26 rfl) (M.get 25 rfl) (M.get 24 rfl)).mono ?_; rintro e w21 ⟨aL, eL, uL, fL, rfl, g, g', rr⟩; have M' := ((M.up rr).add g).add g'; clear M rr g g'; have M := M'; clear M')
    | (go_at_call 12; clear tok22; with_reducible refine (k20 _ (M.get 3 rfl) (M.get 2 rfl) (M.get 1 rfl) (M.get 0 rfl)).mono ?_; rintro e w22 ⟨aN, eN, uN, fN, rfl, g, g', rr⟩; have M' := ((M.up rr).add g).add g'; clear M rr g g'; have M := M'; clear M')
    | (go_at_call 15; clear tok23; with_reducible refine (k21 _ (M.get 7 rfl) (M.get 6 rfl) (M.get 1 rfl) (M.get 0 rfl)).mono ?_; rintro e w23 ⟨rfl, rr⟩; have M' := M.up rr; clear M rr ; have M := M'; clear M'))
  all_goals
    go_wp2
    go_ret
    exact ⟨rfl, M.below⟩
end Go.Proofs.YthloknddhfphnaaGreatDoor
