/- Fractions: RatsUndone: its walk, by 0. -/
import Derived.Deep.RegionHeld3
import Derived.Test.YthloknddhfphnaaGreatDoorGRatAlive
import Derived.Test.YthloknddhfphnaaGreatDoorGRatCmp
import Derived.Test.YthloknddhfphnaaGreatDoorGRatLess
set_option linter.unusedSimpArgs false
set_option linter.unusedVariables false
namespace Go.Proofs.YthloknddhfphnaaGreatDoor
open Go Go.Proofs Go.RowKit Go.Shelf Nu

attribute [local go_sem] Oper.semAt_some

set_option maxRecDepth 100000 in
set_option maxHeartbeats 16000000 in
theorem rundone_z {w : World} {n1 n2 : Bool} {p1 o1 p2 o2 : Option Addr} {q1 r1 q2 r2 : Nat} {l1 d1 l2 d2 : List Nat} {X1 X2 : Rat} (c1 : RCan n1 l1 d1 X1) (c2 : RCan n2 l2 d2 X2) (m1 : l1.length + d1.length ≤ 25) (m2 : l2.length + d2.length ≤ 25) (g1 : Reads w (.slice p1 l1.length q1) l1) (h1 : Reads w (.slice o1 d1.length r1) d1) (g2 : Reads w (.slice p2 l2.length q2) l2) (h2 : Reads w (.slice o2 d2.length r2) d2) (h0 : X2 = 0) :
    Calls Tryz.prog 4 #[.agg #[.bool n1, .slice p1 l1.length q1, .slice o1 d1.length r1], .agg #[.bool n2, .slice p2 l2.length q2, .slice o2 d2.length r2]] w fun e w' => e = .returned (.bool true) ∧ Below w.heap.size w w' := by
  have R1 : rl X1 ≤ 26 := by have := c1.is.len; omega
  have R2 : rl X2 ≤ 26 := by have := c2.is.len; omega
  obtain ⟨sS, LS, DS, cS⟩ := RCan.ex (X1 + X2)
  have RS : rl (X1 + X2) ≤ 105 := by have := rl_sum (X := X1) (Y := X2) (.inl rfl); omega
  have bS : LS.length ≤ 9999 ∧ DS.length ≤ 9999 := by have := cS.len; omega
  obtain ⟨sT, LT, DT, cT⟩ := RCan.ex (X1)
  have RT : rl (X1) ≤ 26 := by exact R1
  have bT : LT.length ≤ 9999 ∧ DT.length ≤ 9999 := by have := cT.len; omega
  obtain ⟨sU, LU, DU, cU⟩ := RCan.ex (X1 - X1)
  have RU : rl (X1 - X1) ≤ 105 := by have := rl_sum (X := X1) (Y := X1) (.inr rfl); omega
  have bU : LU.length ≤ 9999 ∧ DU.length ≤ 9999 := by have := cU.len; omega
  obtain ⟨sO, LO, DO, cO⟩ := RCan.ex (((0 : Int) : Rat) / ((1 : Int) : Rat))
  have RO : rl (((0 : Int) : Rat) / ((1 : Int) : Rat)) ≤ 3 := by rw [show ((0 : Int) : Rat) / ((1 : Int) : Rat) = ((0 : Int) : Rat) by grind]; have := rl_int 0; have h2 : (digs (0 : Int).natAbs).length ≤ 2 := len64 (by decide); omega
  have bO : LO.length ≤ 9999 ∧ DO.length ≤ 9999 := by have := cO.len; omega
  obtain ⟨sD, LD, DD, cD⟩ := RCan.ex (X1 - X2)
  have RD : rl (X1 - X2) ≤ 105 := by have := rl_sum (X := X1) (Y := X2) (.inr rfl); omega
  have bD : LD.length ≤ 9999 ∧ DD.length ≤ 9999 := by have := cD.len; omega
  obtain ⟨sE, LE, DE, cE⟩ := RCan.ex (X1)
  have RE : rl (X1) ≤ 26 := by exact R1
  have bE : LE.length ≤ 9999 ∧ DE.length ≤ 9999 := by have := cE.len; omega
  obtain ⟨sP, LP, DP, cP⟩ := RCan.ex (X1 * X2)
  have RP : rl (X1 * X2) ≤ 52 := by have := rl_mul (X := X1) (Y := X2) rfl; omega
  have bP : LP.length ≤ 9999 ∧ DP.length ≤ 9999 := by have := cP.len; omega
  obtain ⟨sI, LI, DI, cI⟩ := RCan.ex (((1 : Int) : Rat) / ((1 : Int) : Rat))
  have RI : rl (((1 : Int) : Rat) / ((1 : Int) : Rat)) ≤ 3 := by rw [show ((1 : Int) : Rat) / ((1 : Int) : Rat) = ((1 : Int) : Rat) by grind]; have := rl_int 1; have h2 : (digs (1 : Int).natAbs).length ≤ 2 := len64 (by decide); omega
  have bI : LI.length ≤ 9999 ∧ DI.length ≤ 9999 := by have := cI.len; omega
  have tok5 : True := trivial
  have tok6 : True := trivial
  have tok7 : True := trivial
  have tok8 : True := trivial
  have tok9 : True := trivial
  have tok10 : True := trivial
  have tok11 : True := trivial
  have tok12 : True := trivial
  have tok13 : True := trivial
  have k1 := fun (W : World) (g1 : Reads W (.slice p1 l1.length q1) l1) (h1 : Reads W (.slice o1 d1.length r1) d1) => rcheck_yes c1 (by omega) (by omega) g1 h1
  have k2 := fun (W : World) (g1 : Reads W (.slice p2 l2.length q2) l2) (h1 : Reads W (.slice o2 d2.length r2) d2) => rcheck_yes c2 (by omega) (by omega) g1 h1
  have k3 := fun (W : World) (g1 : Reads W (.slice p1 l1.length q1) l1) (h1 : Reads W (.slice o1 d1.length r1) d1) (g2 : Reads W (.slice p2 l2.length q2) l2) (h2 : Reads W (.slice o2 d2.length r2) d2) => r_add c1.is c2.is cS (rfl) (by omega) (by omega) (by omega) (by omega) g1 h1 g2 h2
  have k4 := fun (W : World) {aa1 oo1 : Option Addr} {ee1 ff1 : Nat} (g1 : Reads W (.slice aa1 LS.length ee1) LS) (h1 : Reads W (.slice oo1 DS.length ff1) DS) (g2 : Reads W (.slice p2 l2.length q2) l2) (h2 : Reads W (.slice o2 d2.length r2) d2) => r_sub cS.is c2.is cT (by grind) (by omega) (by omega) (by omega) (by omega) g1 h1 g2 h2
  have k5 := fun (W : World) {aa1 oo1 : Option Addr} {ee1 ff1 : Nat} (g1 : Reads W (.slice aa1 LT.length ee1) LT) (h1 : Reads W (.slice oo1 DT.length ff1) DT) (g2 : Reads W (.slice p1 l1.length q1) l1) (h2 : Reads W (.slice o1 d1.length r1) d1) => r_same true cT c1 (decide_eq_true rfl) (by omega) (by omega) (by omega) (by omega) g1 h1 g2 h2
  have k6 := fun (W : World) (g1 : Reads W (.slice p1 l1.length q1) l1) (h1 : Reads W (.slice o1 d1.length r1) d1) (g2 : Reads W (.slice p1 l1.length q1) l1) (h2 : Reads W (.slice o1 d1.length r1) d1) => r_sub c1.is c1.is cU (rfl) (by omega) (by omega) (by omega) (by omega) g1 h1 g2 h2
  have k7 := fun (W : World) => r_lof (0) (1) W cO rfl (by decide) (by decide) (by decide) (by decide) (by decide)
  have k8 := fun (W : World) {aa1 oo1 : Option Addr} {ee1 ff1 : Nat} {aa2 oo2 : Option Addr} {ee2 ff2 : Nat} (g1 : Reads W (.slice aa1 LU.length ee1) LU) (h1 : Reads W (.slice oo1 DU.length ff1) DU) (g2 : Reads W (.slice aa2 LO.length ee2) LO) (h2 : Reads W (.slice oo2 DO.length ff2) DO) => r_same true cU cO (decide_eq_true (by grind)) (by omega) (by omega) (by omega) (by omega) g1 h1 g2 h2
  have k9 := fun (W : World) (g1 : Reads W (.slice p1 l1.length q1) l1) (h1 : Reads W (.slice o1 d1.length r1) d1) (g2 : Reads W (.slice p2 l2.length q2) l2) (h2 : Reads W (.slice o2 d2.length r2) d2) => r_sub c1.is c2.is cD (rfl) (by omega) (by omega) (by omega) (by omega) g1 h1 g2 h2
  have k10 := fun (W : World) {aa1 oo1 : Option Addr} {ee1 ff1 : Nat} (g1 : Reads W (.slice aa1 LD.length ee1) LD) (h1 : Reads W (.slice oo1 DD.length ff1) DD) (g2 : Reads W (.slice p2 l2.length q2) l2) (h2 : Reads W (.slice o2 d2.length r2) d2) => r_add cD.is c2.is cE (by grind) (by omega) (by omega) (by omega) (by omega) g1 h1 g2 h2
  have k11 := fun (W : World) {aa1 oo1 : Option Addr} {ee1 ff1 : Nat} (g1 : Reads W (.slice aa1 LE.length ee1) LE) (h1 : Reads W (.slice oo1 DE.length ff1) DE) (g2 : Reads W (.slice p1 l1.length q1) l1) (h2 : Reads W (.slice o1 d1.length r1) d1) => r_same true cE c1 (decide_eq_true rfl) (by omega) (by omega) (by omega) (by omega) g1 h1 g2 h2
  have k12 := fun (W : World) (g1 : Reads W (.slice p1 l1.length q1) l1) (h1 : Reads W (.slice o1 d1.length r1) d1) (g2 : Reads W (.slice p2 l2.length q2) l2) (h2 : Reads W (.slice o2 d2.length r2) d2) => r_mul c1.is c2.is cP (rfl) (by omega) (by omega) (by omega) (by omega) g1 h1 g2 h2
  have k13 := fun (W : World) {aa1 oo1 : Option Addr} {ee1 ff1 : Nat} (g1 : Reads W (.slice aa1 LP.length ee1) LP) (h1 : Reads W (.slice oo1 DP.length ff1) DP) (g2 : Reads W (.slice p2 l2.length q2) l2) (h2 : Reads W (.slice o2 d2.length r2) d2) => r_div_zero cP c2 h0 (by omega) (by omega) (by omega) (by omega) g1 h1 g2 h2
  have k14 := fun (W : World) (g1 : Reads W (.slice p1 l1.length q1) l1) (h1 : Reads W (.slice o1 d1.length r1) d1) (g2 : Reads W (.slice p2 l2.length q2) l2) (h2 : Reads W (.slice o2 d2.length r2) d2) => r_div_zero c1 c2 h0 (by omega) (by omega) (by omega) (by omega) g1 h1 g2 h2
  have k15 := fun (W : World) => r_lof (1) (1) W cI rfl (by decide) (by decide) (by decide) (by decide) (by decide)
  have k16 := fun (W : World) {aa1 oo1 : Option Addr} {ee1 ff1 : Nat} (g1 : Reads W (.slice aa1 LI.length ee1) LI) (h1 : Reads W (.slice oo1 DI.length ff1) DI) (g2 : Reads W (.slice p2 l2.length q2) l2) (h2 : Reads W (.slice o2 d2.length r2) d2) => r_div_zero cI c2 h0 (by omega) (by omega) (by omega) (by omega) g1 h1 g2 h2
  have k17 := fun (W : World) (g1 : Reads W (.slice p2 l2.length q2) l2) (h1 : Reads W (.slice o2 d2.length r2) d2) => r_sign (0) c2.is (by rw [h0]; unfold rsg; rw [if_neg (by grind), if_neg (by grind)]) (by omega) (by omega) g1 h1
  have hG : Hid (false = List.any [(n1, (p1, l1.length, q1), (o1, d1.length, r1)), (n2, (p2, l2.length, q2), (o2, d2.length, r2))] fun t : Q7 => decide (25 < t.2.1.2.1 + t.2.2.2.1)) := Lib.hid (by simp; omega)
  have hZ : Hid (∀ t ∈ ([(n1, (p1, l1.length, q1), (o1, d1.length, r1)), (n2, (p2, l2.length, q2), (o2, d2.length, r2))] : List Q7), t.2.1.2.1 ≤ 70368744177664 ∧ t.2.2.2.1 ≤ 70368744177664) := Lib.hid (by simp; omega)
  have M : Mem w [(w.heap.size + 1, 27, [.bool n2, .slice p2 l2.length q2, .slice o2 d2.length r2]), (w.heap.size, 27, [.bool n1, .slice p1 l1.length q1, .slice o1 d1.length r1])] [(.slice o2 d2.length r2, d2), (.slice p2 l2.length q2, l2), (.slice o1 d1.length r1, d1), (.slice p1 l1.length q1, l1)] ((w.alloc (.cells #[.bool n1, .slice p1 l1.length q1, .slice o1 d1.length r1] 27)).alloc (.cells #[.bool n2, .slice p2 l2.length q2, .slice o2 d2.length r2] 27)) := by
    have M := (((((((Mem.start w).add g1).add h1).add g2).add h2).new 27 [.bool n1, .slice p1 l1.length q1, .slice o1 d1.length r1]).new 27 [.bool n2, .slice p2 l2.length q2, .slice o2 d2.length r2])
    simpa only [World.size_alloc] using M
  clear g1 h1 m1 R1 c1 g2 h2 m2 R2 c2 cS RS bS cT RT bT cU RU bU cO RO bO cD RD bD cE RE bE cP RP bP cI RI bI h0 
  go_enter Tryz.func4, Tryz.ntmps4
  go_wp2_with (first
    | (go_at_call 10; with_reducible refine (r_alive _).mono ?_; rintro e w1 ⟨rfl, rr⟩; have M' := M.up rr; clear M rr ; have M := M'; clear M'; have z1_1_0 := M.cell 1 rfl 0 rfl; have z1_1_1 := M.cell 1 rfl 1 rfl; have z1_1_2 := M.cell 1 rfl 2 rfl; have z1_0_0 := M.cell 0 rfl 0 rfl; have z1_0_1 := M.cell 0 rfl 1 rfl; have z1_0_2 := M.cell 0 rfl 2 rfl)
    | (go_at_call 11; have kg := rgreat_lit w1 25 [(n1, (p1, l1.length, q1), (o1, d1.length, r1)), (n2, (p2, l2.length, q2), (o2, d2.length, r2))] (vs := #[.bool n1, .slice p1 l1.length q1, .slice o1 d1.length r1, .bool n2, .slice p2 l2.length q2, .slice o2 d2.length r2]) (by simp [q7v]) (m := 2) rfl (by simp) (by decide) hZ.out false hG.out; rw [show ((25 : Nat) : Int) = 25 from rfl] at kg; with_reducible refine kg.mono ?_; clear kg; rintro e w2 ⟨rfl, rr⟩; have M' := M.up rr; clear M rr; have M := M'; clear M'; clear z1_1_0 z1_1_1 z1_1_2 z1_0_0 z1_0_1 z1_0_2; have z2_1_0 := M.cell 1 rfl 0 rfl; have z2_1_1 := M.cell 1 rfl 1 rfl; have z2_1_2 := M.cell 1 rfl 2 rfl; have z2_0_0 := M.cell 0 rfl 0 rfl; have z2_0_1 := M.cell 0 rfl 1 rfl; have z2_0_2 := M.cell 0 rfl 2 rfl)
    | (go_at_call 14; with_reducible refine (k1 _ (M.get 3 rfl) (M.get 2 rfl)).mono ?_; rintro e w3 ⟨rfl, rr⟩; have M' := M.up rr; clear M rr ; have M := M'; clear M'; clear z2_1_0 z2_1_1 z2_1_2 z2_0_0 z2_0_1 z2_0_2; have z3_1_0 := M.cell 1 rfl 0 rfl; have z3_1_1 := M.cell 1 rfl 1 rfl; have z3_1_2 := M.cell 1 rfl 2 rfl; have z3_0_0 := M.cell 0 rfl 0 rfl; have z3_0_1 := M.cell 0 rfl 1 rfl; have z3_0_2 := M.cell 0 rfl 2 rfl)
    | (go_at_call 14; with_reducible refine (k2 _ (M.get 1 rfl) (M.get 0 rfl)).mono ?_; rintro e w4 ⟨rfl, rr⟩; have M' := M.up rr; clear M rr ; have M := M'; clear M'; clear z3_1_0 z3_1_1 z3_1_2 z3_0_0 z3_0_1 z3_0_2; have z4_1_0 := M.cell 1 rfl 0 rfl; have z4_1_1 := M.cell 1 rfl 1 rfl; have z4_1_2 := M.cell 1 rfl 2 rfl; have z4_0_0 := M.cell 0 rfl 0 rfl; have z4_0_1 := M.cell 0 rfl 1 rfl; have z4_0_2 := M.cell 0 rfl 2 rfl))
  replace M := M.drew
  clear z4_1_0 z4_1_1 z4_1_2 z4_0_0 z4_0_1 z4_0_2
  go_region_held3 (fun W => W.cell? ⟨w.heap.size, 0, none⟩ = some (.bool n1) ∧ W.cell? ⟨w.heap.size, 1, none⟩ = some (.slice p1 l1.length q1) ∧ W.cell? ⟨w.heap.size, 2, none⟩ = some (.slice o1 d1.length r1) ∧ W.cell? ⟨w.heap.size + 1, 0, none⟩ = some (.bool n2) ∧ W.cell? ⟨w.heap.size + 1, 1, none⟩ = some (.slice p2 l2.length q2) ∧ W.cell? ⟨w.heap.size + 1, 2, none⟩ = some (.slice o2 d2.length r2)) (exact ⟨M.cell 1 rfl 0 rfl, M.cell 1 rfl 1 rfl, M.cell 1 rfl 2 rfl, M.cell 0 rfl 0 rfl, M.cell 0 rfl 1 rfl, M.cell 0 rfl 2 rfl⟩) (first
    | (go_at_call 12; clear tok5; with_reducible refine (k3 _ (M.get 3 rfl) (M.get 2 rfl) (M.get 1 rfl) (M.get 0 rfl)).mono ?_; rintro e w5 ⟨aS, eS, uS, fS, rfl, g, g', rr⟩; have M' := ((M.up rr).add g).add g'; clear M rr g g'; have M := M'; clear M')
    | (go_at_call 16; clear tok6; with_reducible refine (k4 _ (M.get 1 rfl) (M.get 0 rfl) (M.get 3 rfl) (M.get 2 rfl)).mono ?_; rintro e w6 ⟨aT, eT, uT, fT, rfl, g, g', rr⟩; have M' := ((M.up rr).add g).add g'; clear M rr g g'; have M := M'; clear M')
    | (go_at_call 15; clear tok7; with_reducible refine (k5 _ (M.get 1 rfl) (M.get 0 rfl) (M.get 7 rfl) (M.get 6 rfl)).mono ?_; rintro e w7 ⟨rfl, rr⟩; have M' := M.up rr; clear M rr ; have M := M'; clear M')
    | (go_at_call 16; clear tok8; with_reducible refine (k6 _ (M.get 7 rfl) (M.get 6 rfl) (M.get 7 rfl) (M.get 6 rfl)).mono ?_; rintro e w8 ⟨aU, eU, uU, fU, rfl, g, g', rr⟩; have M' := ((M.up rr).add g).add g'; clear M rr g g'; have M := M'; clear M')
    | (go_at_call 17; clear tok9; with_reducible refine (k7 _).mono ?_; rintro e w9 ⟨aO, eO, uO, fO, rfl, g, g', rr⟩; have M' := ((M.up rr).add g).add g'; clear M rr g g'; have M := M'; clear M')
    | (go_at_call 15; clear tok10; with_reducible refine (k8 _ (M.get 3 rfl) (M.get 2 rfl) (M.get 1 rfl) (M.get 0 rfl)).mono ?_; rintro e w10 ⟨rfl, rr⟩; have M' := M.up rr; clear M rr ; have M := M'; clear M')
    | (go_at_call 16; clear tok11; with_reducible refine (k9 _ (M.get 11 rfl) (M.get 10 rfl) (M.get 9 rfl) (M.get 8 rfl)).mono ?_; rintro e w11 ⟨aD, eD, uD, fD, rfl, g, g', rr⟩; have M' := ((M.up rr).add g).add g'; clear M rr g g'; have M := M'; clear M')
    | (go_at_call 12; clear tok12; with_reducible refine (k10 _ (M.get 1 rfl) (M.get 0 rfl) (M.get 11 rfl) (M.get 10 rfl)).mono ?_; rintro e w12 ⟨aE, eE, uE, fE, rfl, g, g', rr⟩; have M' := ((M.up rr).add g).add g'; clear M rr g g'; have M := M'; clear M')
    | (go_at_call 15; clear tok13; with_reducible refine (k11 _ (M.get 1 rfl) (M.get 0 rfl) (M.get 15 rfl) (M.get 14 rfl)).mono ?_; rintro e w13 ⟨rfl, rr⟩; have M' := M.up rr; clear M rr ; have M := M'; clear M'))
  go_wp2
  have M' : Mem w [(w.heap.size + 1, 27, [.bool n2, .slice p2 l2.length q2, .slice o2 d2.length r2]), (w.heap.size, 27, [.bool n1, .slice p1 l1.length q1, .slice o1 d1.length r1])] [(.slice o2 d2.length r2, d2), (.slice p2 l2.length q2, l2), (.slice o1 d1.length r1, d1), (.slice p1 l1.length q1, l1)] _ := M.less 12 rfl
  clear M; have M := M'; clear M'
  apply region_cut_nss (Fact := (fun b5 aP eP uP fP W => Mem w [(b5, 27, [.bool false, .slice none 0 0, .slice none 0 0]), (w.heap.size + 1, 27, [.bool n2, .slice p2 l2.length q2, .slice o2 d2.length r2]), (w.heap.size, 27, [.bool n1, .slice p1 l1.length q1, .slice o1 d1.length r1])] [(.slice uP DP.length fP, DP), (.slice aP LP.length eP, LP), (.slice o2 d2.length r2, d2), (.slice p2 l2.length q2, l2), (.slice o1 d1.length r1, d1), (.slice p1 l1.length q1, l1)] W))
  case first =>
    refine region_mem (S := (fun W => BoxN W (w.heap.size) 27 #[.bool n1, .slice p1 l1.length q1, .slice o1 d1.length r1] ∧ BoxN W (w.heap.size + 1) 27 #[.bool n2, .slice p2 l2.length q2, .slice o2 d2.length r2])) M (by kernel_rfl) ?_
    intro V0 M
    have hS0 : (fun W => BoxN W (w.heap.size) 27 #[.bool n1, .slice p1 l1.length q1, .slice o1 d1.length r1] ∧ BoxN W (w.heap.size + 1) 27 #[.bool n2, .slice p2 l2.length q2, .slice o2 d2.length r2]) V0 := ⟨M.box 1 rfl, M.box 0 rfl⟩
    refine wpAnyH_take (i := 0) (v := (.agg #[.bool n1, .slice p1 l1.length q1, .slice o1 d1.length r1])) rfl (by kernel_rfl) (by kernel_rfl) (by kernel_rfl) (fun _ _ _ h => nomatch h.1) (Or.inl ⟨by rfl, fun W3 hS => by obtain ⟨hS1, hS2⟩ := hS; have c1_0 := hS1.cell 0 _ rfl; have c1_1 := hS1.cell 1 _ rfl; have c1_2 := hS1.cell 2 _ rfl; go_simp⟩) hS0 ?_
    refine wpAnyH_take (i := 1) (v := (.agg #[.bool n2, .slice p2 l2.length q2, .slice o2 d2.length r2])) rfl (by kernel_rfl) (by kernel_rfl) (by kernel_rfl) (fun _ _ _ h => nomatch h.1) (Or.inl ⟨by rfl, fun W3 hS => by obtain ⟨hS1, hS2⟩ := hS; have c2_0 := hS2.cell 0 _ rfl; have c2_1 := hS2.cell 1 _ rfl; have c2_2 := hS2.cell 2 _ rfl; go_simp⟩) hS0 ?_
    refine wpAnyH_take (i := 3) (v := (.agg #[.bool n2, .slice p2 l2.length q2, .slice o2 d2.length r2])) rfl (by kernel_rfl) (by kernel_rfl) (by kernel_rfl) (fun _ _ _ h => nomatch h.1) (Or.inl ⟨by rfl, fun W3 hS => by obtain ⟨hS1, hS2⟩ := hS; have c2_0 := hS2.cell 0 _ rfl; have c2_1 := hS2.cell 1 _ rfl; have c2_2 := hS2.cell 2 _ rfl; go_simp⟩) hS0 ?_
    clear hS0
    try simp only [Act.put, List.setIfInBounds_toArray, List.set_cons_zero, List.set_cons_succ]
    refine wpAnyH_all (rs := [2, 8]) (by kernel_rfl) (by simp) ?_
    intro i hi
    have hi2 : i = 2 ∨ i = 8 := by simpa using hi
    clear hi
    rcases hi2 with rfl | rfl
    · refine wpOp_intro rfl (fun K1 hK => ?_)
      go_simp
      refine (k12 _ (M.get 3 rfl) (M.get 2 rfl) (M.get 1 rfl) (M.get 0 rfl)).mono ?_
      rintro e V1_2 ⟨aP, eP, uP, fP, rfl, g, g', rr⟩
      have M' := ((M.up rr).add g).add g'
      clear M rr g g'
      have M := M'; clear M'
      refine hK _ _ ⟨⟨M.box 1 rfl, M.box 0 rfl⟩, ?_⟩
      clear hK K1
      refine wpAnyH_all (rs := [4, 8]) (by kernel_rfl) (by simp) ?_
      intro i hi
      have hi2 : i = 4 ∨ i = 8 := by simpa using hi
      clear hi
      rcases hi2 with rfl | rfl
      · refine wpOp_intro rfl (fun K2 hK => ?_)
        go_simp
        refine (k13 _ (M.get 1 rfl) (M.get 0 rfl) (M.get 3 rfl) (M.get 2 rfl)).mono ?_
        rintro e V2_4 ⟨rfl, rr⟩
        have M' := M.up rr
        clear M rr 
        have M := M'; clear M'
        refine hK _ _ ⟨⟨M.box 1 rfl, M.box 0 rfl⟩, ?_⟩
        clear hK K2
        have hS0 : (fun W => BoxN W (w.heap.size) 27 #[.bool n1, .slice p1 l1.length q1, .slice o1 d1.length r1] ∧ BoxN W (w.heap.size + 1) 27 #[.bool n2, .slice p2 l2.length q2, .slice o2 d2.length r2]) _ := ⟨M.box 1 rfl, M.box 0 rfl⟩
        refine wpAnyH_take (i := 5) (v := (.tuple #[(.agg #[.bool false, .slice none 0 0, .slice none 0 0]), .int .i64 10])) rfl (by kernel_rfl) (by kernel_rfl) (by kernel_rfl) (fun _ _ _ h => nomatch h.1) (Or.inl ⟨by rfl, fun W3 hS => by obtain ⟨hS1, hS2⟩ := hS; go_simp⟩) hS0 ?_
        refine wpAnyH_take (i := 6) (v := (.agg #[.bool false, .slice none 0 0, .slice none 0 0])) rfl (by kernel_rfl) (by kernel_rfl) (by kernel_rfl) (fun _ _ _ h => nomatch h.1) (Or.inl ⟨by rfl, fun W3 hS => by obtain ⟨hS1, hS2⟩ := hS; go_simp⟩) hS0 ?_
        refine wpAnyH_take (i := 7) (v := (.int .i64 10)) rfl (by kernel_rfl) (by kernel_rfl) (by kernel_rfl) (fun _ _ _ h => nomatch h.1) (Or.inl ⟨by rfl, fun W3 hS => by obtain ⟨hS1, hS2⟩ := hS; go_simp⟩) hS0 ?_
        clear hS0
        refine wpAnyH_all (rs := [8]) (by kernel_rfl) (by simp) ?_
        intro i hi
        obtain rfl : i = 8 := by simpa using hi
        refine wpOp_intro rfl (fun K3 hK => ?_)
        clear hi
        go_simp
        obtain ⟨b5, V3_8, hV, hb, M'⟩ := M.fresh 27 [.bool false, .slice none 0 0, .slice none 0 0]
        rw [← hV, ← hb]
        clear M hV hb; have M := M'; clear M'
        refine hK _ _ ⟨⟨M.box 2 rfl, M.box 1 rfl⟩, ?_⟩
        clear hK K3
        have f0_0 := M.fr 0 rfl 0; have f0_1 := M.fr 0 rfl 1; have f0_2 := M.fr 0 rfl 2
        have z0_0 := M.cell 0 rfl 0 rfl; have z0_1 := M.cell 0 rfl 1 rfl; have z0_2 := M.cell 0 rfl 2 rfl
        refine wpAnyH_all (rs := [9]) (by kernel_rfl) (by simp) ?_
        intro i hi
        obtain rfl : i = 9 := by simpa using hi
        refine wpOp_intro rfl (fun Ks4 hK => ?_)
        clear hi
        go_simp
        have M' := (((M.put 0 rfl rfl 0 (.bool false)).put 0 rfl rfl 1 (.slice none 0 0)).put 0 rfl rfl 2 (.slice none 0 0))
        clear M f0_0 z0_0 f0_1 z0_1 f0_2 z0_2
        have M : Mem w [(b5, 27, [.bool false, .slice none 0 0, .slice none 0 0]), (w.heap.size + 1, 27, [.bool n2, .slice p2 l2.length q2, .slice o2 d2.length r2]), (w.heap.size, 27, [.bool n1, .slice p1 l1.length q1, .slice o1 d1.length r1])] [(.slice uP DP.length fP, DP), (.slice aP LP.length eP, LP), (.slice o2 d2.length r2, d2), (.slice p2 l2.length q2, l2), (.slice o1 d1.length r1, d1), (.slice p1 l1.length q1, l1)] _ := M'
        clear M'
        refine hK _ _ ⟨⟨M.box 2 rfl, M.box 1 rfl⟩, ?_⟩
        clear hK Ks4
        have hS0 : (fun W => BoxN W (w.heap.size) 27 #[.bool n1, .slice p1 l1.length q1, .slice o1 d1.length r1] ∧ BoxN W (w.heap.size + 1) 27 #[.bool n2, .slice p2 l2.length q2, .slice o2 d2.length r2]) _ := ⟨M.box 2 rfl, M.box 1 rfl⟩
        refine wpAnyH_take (i := 10) (v := (.int .i64 10)) rfl (by kernel_rfl) (by kernel_rfl) (by kernel_rfl) (fun _ _ _ h => nomatch h.1) (Or.inl ⟨by rfl, fun W3 hS => by obtain ⟨hS1, hS2⟩ := hS; go_simp⟩) hS0 ?_
        clear hS0
        refine wpAnyH_done (by kernel_rfl) ?_ _
        exact ⟨rfl, b5, aP, eP, uP, fP, rfl, M⟩
      · refine wpOp_intro rfl (fun K2 hK => ?_)
        go_simp
        obtain ⟨b5, V2_8, hV, hb, M'⟩ := M.fresh 27 [.bool false, .slice none 0 0, .slice none 0 0]
        rw [← hV, ← hb]
        clear M hV hb; have M := M'; clear M'
        refine hK _ _ ⟨⟨M.box 2 rfl, M.box 1 rfl⟩, ?_⟩
        clear hK K2
        refine wpAnyH_all (rs := [4]) (by kernel_rfl) (by simp) ?_
        intro i hi
        obtain rfl : i = 4 := by simpa using hi
        refine wpOp_intro rfl (fun K5 hK => ?_)
        clear hi
        go_simp
        refine (k13 _ (M.get 1 rfl) (M.get 0 rfl) (M.get 3 rfl) (M.get 2 rfl)).mono ?_
        rintro e V5_4 ⟨rfl, rr⟩
        have M' := M.up rr
        clear M rr 
        have M := M'; clear M'
        refine hK _ _ ⟨⟨M.box 2 rfl, M.box 1 rfl⟩, ?_⟩
        clear hK K5
        have hS0 : (fun W => BoxN W (w.heap.size) 27 #[.bool n1, .slice p1 l1.length q1, .slice o1 d1.length r1] ∧ BoxN W (w.heap.size + 1) 27 #[.bool n2, .slice p2 l2.length q2, .slice o2 d2.length r2]) _ := ⟨M.box 2 rfl, M.box 1 rfl⟩
        refine wpAnyH_take (i := 5) (v := (.tuple #[(.agg #[.bool false, .slice none 0 0, .slice none 0 0]), .int .i64 10])) rfl (by kernel_rfl) (by kernel_rfl) (by kernel_rfl) (fun _ _ _ h => nomatch h.1) (Or.inl ⟨by rfl, fun W3 hS => by obtain ⟨hS1, hS2⟩ := hS; go_simp⟩) hS0 ?_
        refine wpAnyH_take (i := 6) (v := (.agg #[.bool false, .slice none 0 0, .slice none 0 0])) rfl (by kernel_rfl) (by kernel_rfl) (by kernel_rfl) (fun _ _ _ h => nomatch h.1) (Or.inl ⟨by rfl, fun W3 hS => by obtain ⟨hS1, hS2⟩ := hS; go_simp⟩) hS0 ?_
        refine wpAnyH_take (i := 7) (v := (.int .i64 10)) rfl (by kernel_rfl) (by kernel_rfl) (by kernel_rfl) (fun _ _ _ h => nomatch h.1) (Or.inl ⟨by rfl, fun W3 hS => by obtain ⟨hS1, hS2⟩ := hS; go_simp⟩) hS0 ?_
        clear hS0
        have f0_0 := M.fr 0 rfl 0; have f0_1 := M.fr 0 rfl 1; have f0_2 := M.fr 0 rfl 2
        have z0_0 := M.cell 0 rfl 0 rfl; have z0_1 := M.cell 0 rfl 1 rfl; have z0_2 := M.cell 0 rfl 2 rfl
        refine wpAnyH_all (rs := [9]) (by kernel_rfl) (by simp) ?_
        intro i hi
        obtain rfl : i = 9 := by simpa using hi
        refine wpOp_intro rfl (fun Ks6 hK => ?_)
        clear hi
        go_simp
        have M' := (((M.put 0 rfl rfl 0 (.bool false)).put 0 rfl rfl 1 (.slice none 0 0)).put 0 rfl rfl 2 (.slice none 0 0))
        clear M f0_0 z0_0 f0_1 z0_1 f0_2 z0_2
        have M : Mem w [(b5, 27, [.bool false, .slice none 0 0, .slice none 0 0]), (w.heap.size + 1, 27, [.bool n2, .slice p2 l2.length q2, .slice o2 d2.length r2]), (w.heap.size, 27, [.bool n1, .slice p1 l1.length q1, .slice o1 d1.length r1])] [(.slice uP DP.length fP, DP), (.slice aP LP.length eP, LP), (.slice o2 d2.length r2, d2), (.slice p2 l2.length q2, l2), (.slice o1 d1.length r1, d1), (.slice p1 l1.length q1, l1)] _ := M'
        clear M'
        refine hK _ _ ⟨⟨M.box 2 rfl, M.box 1 rfl⟩, ?_⟩
        clear hK Ks6
        have hS0 : (fun W => BoxN W (w.heap.size) 27 #[.bool n1, .slice p1 l1.length q1, .slice o1 d1.length r1] ∧ BoxN W (w.heap.size + 1) 27 #[.bool n2, .slice p2 l2.length q2, .slice o2 d2.length r2]) _ := ⟨M.box 2 rfl, M.box 1 rfl⟩
        refine wpAnyH_take (i := 10) (v := (.int .i64 10)) rfl (by kernel_rfl) (by kernel_rfl) (by kernel_rfl) (fun _ _ _ h => nomatch h.1) (Or.inl ⟨by rfl, fun W3 hS => by obtain ⟨hS1, hS2⟩ := hS; go_simp⟩) hS0 ?_
        clear hS0
        refine wpAnyH_done (by kernel_rfl) ?_ _
        exact ⟨rfl, b5, aP, eP, uP, fP, rfl, M⟩
    · refine wpOp_intro rfl (fun K1 hK => ?_)
      go_simp
      obtain ⟨b5, V1_8, hV, hb, M'⟩ := M.fresh 27 [.bool false, .slice none 0 0, .slice none 0 0]
      rw [← hV, ← hb]
      clear M hV hb; have M := M'; clear M'
      refine hK _ _ ⟨⟨M.box 2 rfl, M.box 1 rfl⟩, ?_⟩
      clear hK K1
      refine wpAnyH_all (rs := [2]) (by kernel_rfl) (by simp) ?_
      intro i hi
      obtain rfl : i = 2 := by simpa using hi
      refine wpOp_intro rfl (fun K7 hK => ?_)
      clear hi
      go_simp
      refine (k12 _ (M.get 3 rfl) (M.get 2 rfl) (M.get 1 rfl) (M.get 0 rfl)).mono ?_
      rintro e V7_2 ⟨aP, eP, uP, fP, rfl, g, g', rr⟩
      have M' := ((M.up rr).add g).add g'
      clear M rr g g'
      have M := M'; clear M'
      refine hK _ _ ⟨⟨M.box 2 rfl, M.box 1 rfl⟩, ?_⟩
      clear hK K7
      refine wpAnyH_all (rs := [4]) (by kernel_rfl) (by simp) ?_
      intro i hi
      obtain rfl : i = 4 := by simpa using hi
      refine wpOp_intro rfl (fun K8 hK => ?_)
      clear hi
      go_simp
      refine (k13 _ (M.get 1 rfl) (M.get 0 rfl) (M.get 3 rfl) (M.get 2 rfl)).mono ?_
      rintro e V8_4 ⟨rfl, rr⟩
      have M' := M.up rr
      clear M rr 
      have M := M'; clear M'
      refine hK _ _ ⟨⟨M.box 2 rfl, M.box 1 rfl⟩, ?_⟩
      clear hK K8
      have hS0 : (fun W => BoxN W (w.heap.size) 27 #[.bool n1, .slice p1 l1.length q1, .slice o1 d1.length r1] ∧ BoxN W (w.heap.size + 1) 27 #[.bool n2, .slice p2 l2.length q2, .slice o2 d2.length r2]) _ := ⟨M.box 2 rfl, M.box 1 rfl⟩
      refine wpAnyH_take (i := 5) (v := (.tuple #[(.agg #[.bool false, .slice none 0 0, .slice none 0 0]), .int .i64 10])) rfl (by kernel_rfl) (by kernel_rfl) (by kernel_rfl) (fun _ _ _ h => nomatch h.1) (Or.inl ⟨by rfl, fun W3 hS => by obtain ⟨hS1, hS2⟩ := hS; go_simp⟩) hS0 ?_
      refine wpAnyH_take (i := 6) (v := (.agg #[.bool false, .slice none 0 0, .slice none 0 0])) rfl (by kernel_rfl) (by kernel_rfl) (by kernel_rfl) (fun _ _ _ h => nomatch h.1) (Or.inl ⟨by rfl, fun W3 hS => by obtain ⟨hS1, hS2⟩ := hS; go_simp⟩) hS0 ?_
      refine wpAnyH_take (i := 7) (v := (.int .i64 10)) rfl (by kernel_rfl) (by kernel_rfl) (by kernel_rfl) (fun _ _ _ h => nomatch h.1) (Or.inl ⟨by rfl, fun W3 hS => by obtain ⟨hS1, hS2⟩ := hS; go_simp⟩) hS0 ?_
      clear hS0
      have f0_0 := M.fr 0 rfl 0; have f0_1 := M.fr 0 rfl 1; have f0_2 := M.fr 0 rfl 2
      have z0_0 := M.cell 0 rfl 0 rfl; have z0_1 := M.cell 0 rfl 1 rfl; have z0_2 := M.cell 0 rfl 2 rfl
      refine wpAnyH_all (rs := [9]) (by kernel_rfl) (by simp) ?_
      intro i hi
      obtain rfl : i = 9 := by simpa using hi
      refine wpOp_intro rfl (fun Ks9 hK => ?_)
      clear hi
      go_simp
      have M' := (((M.put 0 rfl rfl 0 (.bool false)).put 0 rfl rfl 1 (.slice none 0 0)).put 0 rfl rfl 2 (.slice none 0 0))
      clear M f0_0 z0_0 f0_1 z0_1 f0_2 z0_2
      have M : Mem w [(b5, 27, [.bool false, .slice none 0 0, .slice none 0 0]), (w.heap.size + 1, 27, [.bool n2, .slice p2 l2.length q2, .slice o2 d2.length r2]), (w.heap.size, 27, [.bool n1, .slice p1 l1.length q1, .slice o1 d1.length r1])] [(.slice uP DP.length fP, DP), (.slice aP LP.length eP, LP), (.slice o2 d2.length r2, d2), (.slice p2 l2.length q2, l2), (.slice o1 d1.length r1, d1), (.slice p1 l1.length q1, l1)] _ := M'
      clear M'
      refine hK _ _ ⟨⟨M.box 2 rfl, M.box 1 rfl⟩, ?_⟩
      clear hK Ks9
      have hS0 : (fun W => BoxN W (w.heap.size) 27 #[.bool n1, .slice p1 l1.length q1, .slice o1 d1.length r1] ∧ BoxN W (w.heap.size + 1) 27 #[.bool n2, .slice p2 l2.length q2, .slice o2 d2.length r2]) _ := ⟨M.box 2 rfl, M.box 1 rfl⟩
      refine wpAnyH_take (i := 10) (v := (.int .i64 10)) rfl (by kernel_rfl) (by kernel_rfl) (by kernel_rfl) (fun _ _ _ h => nomatch h.1) (Or.inl ⟨by rfl, fun W3 hS => by obtain ⟨hS1, hS2⟩ := hS; go_simp⟩) hS0 ?_
      clear hS0
      refine wpAnyH_done (by kernel_rfl) ?_ _
      exact ⟨rfl, b5, aP, eP, uP, fP, rfl, M⟩
  intro b5 aP eP uP fP V M
  have z13_2_0 := M.cell 2 rfl 0 rfl; have z13_2_1 := M.cell 2 rfl 1 rfl; have z13_2_2 := M.cell 2 rfl 2 rfl; have z13_1_0 := M.cell 1 rfl 0 rfl; have z13_1_1 := M.cell 1 rfl 1 rfl; have z13_1_2 := M.cell 1 rfl 2 rfl
  go_wp2_with (first
    | (go_at_call 18; with_reducible refine (k14 _ (M.get 5 rfl) (M.get 4 rfl) (M.get 3 rfl) (M.get 2 rfl)).mono ?_; rintro e w14 ⟨rfl, rr⟩; have M' := (M.up rr).new 27 [.bool false, .slice none 0 0, .slice none 0 0]; clear M rr ; have M := M'; clear M'; clear z13_2_0 z13_2_1 z13_2_2 z13_1_0 z13_1_1 z13_1_2; have z14_3_0 := M.cell 3 rfl 0 rfl; have z14_3_1 := M.cell 3 rfl 1 rfl; have z14_3_2 := M.cell 3 rfl 2 rfl; have z14_2_0 := M.cell 2 rfl 0 rfl; have z14_2_1 := M.cell 2 rfl 1 rfl; have z14_2_2 := M.cell 2 rfl 2 rfl; have z14_1_0 := M.cell 1 rfl 0 rfl; have z14_1_1 := M.cell 1 rfl 1 rfl; have z14_1_2 := M.cell 1 rfl 2 rfl; have z14_0_0 := M.cell 0 rfl 0 rfl; have z14_0_1 := M.cell 0 rfl 1 rfl; have z14_0_2 := M.cell 0 rfl 2 rfl))
  clear z14_3_0 z14_3_1 z14_3_2 z14_2_0 z14_2_1 z14_2_2 z14_1_0 z14_1_1 z14_1_2 z14_0_0 z14_0_1 z14_0_2
  apply region_cut_nss (Fact := (fun b7 aI eI uI fI W => Mem w [(b7, 27, [.bool false, .slice none 0 0, .slice none 0 0]), (w14.heap.size, 27, [.bool false, .slice none 0 0, .slice none 0 0]), (b5, 27, [.bool false, .slice none 0 0, .slice none 0 0]), (w.heap.size + 1, 27, [.bool n2, .slice p2 l2.length q2, .slice o2 d2.length r2]), (w.heap.size, 27, [.bool n1, .slice p1 l1.length q1, .slice o1 d1.length r1])] [(.slice uI DI.length fI, DI), (.slice aI LI.length eI, LI), (.slice uP DP.length fP, DP), (.slice aP LP.length eP, LP), (.slice o2 d2.length r2, d2), (.slice p2 l2.length q2, l2), (.slice o1 d1.length r1, d1), (.slice p1 l1.length q1, l1)] W))
  case first =>
    refine region_mem (S := (fun W => BoxN W (w.heap.size + 1) 27 #[.bool n2, .slice p2 l2.length q2, .slice o2 d2.length r2])) M (by kernel_rfl) ?_
    intro V0 M
    have hS0 : (fun W => BoxN W (w.heap.size + 1) 27 #[.bool n2, .slice p2 l2.length q2, .slice o2 d2.length r2]) V0 := M.box 2 rfl
    refine wpAnyH_take (i := 1) (v := (.agg #[.bool n2, .slice p2 l2.length q2, .slice o2 d2.length r2])) rfl (by kernel_rfl) (by kernel_rfl) (by kernel_rfl) (fun _ _ _ h => nomatch h.1) (Or.inl ⟨by rfl, fun W3 hS => by have hS1 := hS; have c1_0 := hS1.cell 0 _ rfl; have c1_1 := hS1.cell 1 _ rfl; have c1_2 := hS1.cell 2 _ rfl; go_simp⟩) hS0 ?_
    clear hS0
    try simp only [Act.put, List.setIfInBounds_toArray, List.set_cons_zero, List.set_cons_succ]
    refine wpAnyH_all (rs := [0, 6]) (by kernel_rfl) (by simp) ?_
    intro i hi
    have hi2 : i = 0 ∨ i = 6 := by simpa using hi
    clear hi
    rcases hi2 with rfl | rfl
    · refine wpOp_intro rfl (fun K1 hK => ?_)
      go_simp
      refine (k15 _).mono ?_
      rintro e V1_0 ⟨aI, eI, uI, fI, rfl, g, g', rr⟩
      have M' := ((M.up rr).add g).add g'
      clear M rr g g'
      have M := M'; clear M'
      refine hK _ _ ⟨M.box 2 rfl, ?_⟩
      clear hK K1
      refine wpAnyH_all (rs := [2, 6]) (by kernel_rfl) (by simp) ?_
      intro i hi
      have hi2 : i = 2 ∨ i = 6 := by simpa using hi
      clear hi
      rcases hi2 with rfl | rfl
      · refine wpOp_intro rfl (fun K2 hK => ?_)
        go_simp
        refine (k16 _ (M.get 1 rfl) (M.get 0 rfl) (M.get 5 rfl) (M.get 4 rfl)).mono ?_
        rintro e V2_2 ⟨rfl, rr⟩
        have M' := M.up rr
        clear M rr 
        have M := M'; clear M'
        refine hK _ _ ⟨M.box 2 rfl, ?_⟩
        clear hK K2
        have hS0 : (fun W => BoxN W (w.heap.size + 1) 27 #[.bool n2, .slice p2 l2.length q2, .slice o2 d2.length r2]) _ := M.box 2 rfl
        refine wpAnyH_take (i := 3) (v := (.tuple #[(.agg #[.bool false, .slice none 0 0, .slice none 0 0]), .int .i64 10])) rfl (by kernel_rfl) (by kernel_rfl) (by kernel_rfl) (fun _ _ _ h => nomatch h.1) (Or.inl ⟨by rfl, fun W3 hS => by have hS1 := hS; go_simp⟩) hS0 ?_
        refine wpAnyH_take (i := 4) (v := (.agg #[.bool false, .slice none 0 0, .slice none 0 0])) rfl (by kernel_rfl) (by kernel_rfl) (by kernel_rfl) (fun _ _ _ h => nomatch h.1) (Or.inl ⟨by rfl, fun W3 hS => by have hS1 := hS; go_simp⟩) hS0 ?_
        refine wpAnyH_take (i := 5) (v := (.int .i64 10)) rfl (by kernel_rfl) (by kernel_rfl) (by kernel_rfl) (fun _ _ _ h => nomatch h.1) (Or.inl ⟨by rfl, fun W3 hS => by have hS1 := hS; go_simp⟩) hS0 ?_
        clear hS0
        refine wpAnyH_all (rs := [6]) (by kernel_rfl) (by simp) ?_
        intro i hi
        obtain rfl : i = 6 := by simpa using hi
        refine wpOp_intro rfl (fun K3 hK => ?_)
        clear hi
        go_simp
        obtain ⟨b7, V3_6, hV, hb, M'⟩ := M.fresh 27 [.bool false, .slice none 0 0, .slice none 0 0]
        rw [← hV, ← hb]
        clear M hV hb; have M := M'; clear M'
        refine hK _ _ ⟨M.box 3 rfl, ?_⟩
        clear hK K3
        have f0_0 := M.fr 0 rfl 0; have f0_1 := M.fr 0 rfl 1; have f0_2 := M.fr 0 rfl 2
        have z0_0 := M.cell 0 rfl 0 rfl; have z0_1 := M.cell 0 rfl 1 rfl; have z0_2 := M.cell 0 rfl 2 rfl
        refine wpAnyH_all (rs := [7]) (by kernel_rfl) (by simp) ?_
        intro i hi
        obtain rfl : i = 7 := by simpa using hi
        refine wpOp_intro rfl (fun Ks4 hK => ?_)
        clear hi
        go_simp
        have M' := (((M.put 0 rfl rfl 0 (.bool false)).put 0 rfl rfl 1 (.slice none 0 0)).put 0 rfl rfl 2 (.slice none 0 0))
        clear M f0_0 z0_0 f0_1 z0_1 f0_2 z0_2
        have M : Mem w [(b7, 27, [.bool false, .slice none 0 0, .slice none 0 0]), (w14.heap.size, 27, [.bool false, .slice none 0 0, .slice none 0 0]), (b5, 27, [.bool false, .slice none 0 0, .slice none 0 0]), (w.heap.size + 1, 27, [.bool n2, .slice p2 l2.length q2, .slice o2 d2.length r2]), (w.heap.size, 27, [.bool n1, .slice p1 l1.length q1, .slice o1 d1.length r1])] [(.slice uI DI.length fI, DI), (.slice aI LI.length eI, LI), (.slice uP DP.length fP, DP), (.slice aP LP.length eP, LP), (.slice o2 d2.length r2, d2), (.slice p2 l2.length q2, l2), (.slice o1 d1.length r1, d1), (.slice p1 l1.length q1, l1)] _ := M'
        clear M'
        refine hK _ _ ⟨M.box 3 rfl, ?_⟩
        clear hK Ks4
        have hS0 : (fun W => BoxN W (w.heap.size + 1) 27 #[.bool n2, .slice p2 l2.length q2, .slice o2 d2.length r2]) _ := M.box 3 rfl
        refine wpAnyH_take (i := 8) (v := (.int .i64 10)) rfl (by kernel_rfl) (by kernel_rfl) (by kernel_rfl) (fun _ _ _ h => nomatch h.1) (Or.inl ⟨by rfl, fun W3 hS => by have hS1 := hS; go_simp⟩) hS0 ?_
        clear hS0
        refine wpAnyH_done (by kernel_rfl) ?_ _
        exact ⟨rfl, b7, aI, eI, uI, fI, rfl, M⟩
      · refine wpOp_intro rfl (fun K2 hK => ?_)
        go_simp
        obtain ⟨b7, V2_6, hV, hb, M'⟩ := M.fresh 27 [.bool false, .slice none 0 0, .slice none 0 0]
        rw [← hV, ← hb]
        clear M hV hb; have M := M'; clear M'
        refine hK _ _ ⟨M.box 3 rfl, ?_⟩
        clear hK K2
        refine wpAnyH_all (rs := [2]) (by kernel_rfl) (by simp) ?_
        intro i hi
        obtain rfl : i = 2 := by simpa using hi
        refine wpOp_intro rfl (fun K5 hK => ?_)
        clear hi
        go_simp
        refine (k16 _ (M.get 1 rfl) (M.get 0 rfl) (M.get 5 rfl) (M.get 4 rfl)).mono ?_
        rintro e V5_2 ⟨rfl, rr⟩
        have M' := M.up rr
        clear M rr 
        have M := M'; clear M'
        refine hK _ _ ⟨M.box 3 rfl, ?_⟩
        clear hK K5
        have hS0 : (fun W => BoxN W (w.heap.size + 1) 27 #[.bool n2, .slice p2 l2.length q2, .slice o2 d2.length r2]) _ := M.box 3 rfl
        refine wpAnyH_take (i := 3) (v := (.tuple #[(.agg #[.bool false, .slice none 0 0, .slice none 0 0]), .int .i64 10])) rfl (by kernel_rfl) (by kernel_rfl) (by kernel_rfl) (fun _ _ _ h => nomatch h.1) (Or.inl ⟨by rfl, fun W3 hS => by have hS1 := hS; go_simp⟩) hS0 ?_
        refine wpAnyH_take (i := 4) (v := (.agg #[.bool false, .slice none 0 0, .slice none 0 0])) rfl (by kernel_rfl) (by kernel_rfl) (by kernel_rfl) (fun _ _ _ h => nomatch h.1) (Or.inl ⟨by rfl, fun W3 hS => by have hS1 := hS; go_simp⟩) hS0 ?_
        refine wpAnyH_take (i := 5) (v := (.int .i64 10)) rfl (by kernel_rfl) (by kernel_rfl) (by kernel_rfl) (fun _ _ _ h => nomatch h.1) (Or.inl ⟨by rfl, fun W3 hS => by have hS1 := hS; go_simp⟩) hS0 ?_
        clear hS0
        have f0_0 := M.fr 0 rfl 0; have f0_1 := M.fr 0 rfl 1; have f0_2 := M.fr 0 rfl 2
        have z0_0 := M.cell 0 rfl 0 rfl; have z0_1 := M.cell 0 rfl 1 rfl; have z0_2 := M.cell 0 rfl 2 rfl
        refine wpAnyH_all (rs := [7]) (by kernel_rfl) (by simp) ?_
        intro i hi
        obtain rfl : i = 7 := by simpa using hi
        refine wpOp_intro rfl (fun Ks6 hK => ?_)
        clear hi
        go_simp
        have M' := (((M.put 0 rfl rfl 0 (.bool false)).put 0 rfl rfl 1 (.slice none 0 0)).put 0 rfl rfl 2 (.slice none 0 0))
        clear M f0_0 z0_0 f0_1 z0_1 f0_2 z0_2
        have M : Mem w [(b7, 27, [.bool false, .slice none 0 0, .slice none 0 0]), (w14.heap.size, 27, [.bool false, .slice none 0 0, .slice none 0 0]), (b5, 27, [.bool false, .slice none 0 0, .slice none 0 0]), (w.heap.size + 1, 27, [.bool n2, .slice p2 l2.length q2, .slice o2 d2.length r2]), (w.heap.size, 27, [.bool n1, .slice p1 l1.length q1, .slice o1 d1.length r1])] [(.slice uI DI.length fI, DI), (.slice aI LI.length eI, LI), (.slice uP DP.length fP, DP), (.slice aP LP.length eP, LP), (.slice o2 d2.length r2, d2), (.slice p2 l2.length q2, l2), (.slice o1 d1.length r1, d1), (.slice p1 l1.length q1, l1)] _ := M'
        clear M'
        refine hK _ _ ⟨M.box 3 rfl, ?_⟩
        clear hK Ks6
        have hS0 : (fun W => BoxN W (w.heap.size + 1) 27 #[.bool n2, .slice p2 l2.length q2, .slice o2 d2.length r2]) _ := M.box 3 rfl
        refine wpAnyH_take (i := 8) (v := (.int .i64 10)) rfl (by kernel_rfl) (by kernel_rfl) (by kernel_rfl) (fun _ _ _ h => nomatch h.1) (Or.inl ⟨by rfl, fun W3 hS => by have hS1 := hS; go_simp⟩) hS0 ?_
        clear hS0
        refine wpAnyH_done (by kernel_rfl) ?_ _
        exact ⟨rfl, b7, aI, eI, uI, fI, rfl, M⟩
    · refine wpOp_intro rfl (fun K1 hK => ?_)
      go_simp
      obtain ⟨b7, V1_6, hV, hb, M'⟩ := M.fresh 27 [.bool false, .slice none 0 0, .slice none 0 0]
      rw [← hV, ← hb]
      clear M hV hb; have M := M'; clear M'
      refine hK _ _ ⟨M.box 3 rfl, ?_⟩
      clear hK K1
      refine wpAnyH_all (rs := [0]) (by kernel_rfl) (by simp) ?_
      intro i hi
      obtain rfl : i = 0 := by simpa using hi
      refine wpOp_intro rfl (fun K7 hK => ?_)
      clear hi
      go_simp
      refine (k15 _).mono ?_
      rintro e V7_0 ⟨aI, eI, uI, fI, rfl, g, g', rr⟩
      have M' := ((M.up rr).add g).add g'
      clear M rr g g'
      have M := M'; clear M'
      refine hK _ _ ⟨M.box 3 rfl, ?_⟩
      clear hK K7
      refine wpAnyH_all (rs := [2]) (by kernel_rfl) (by simp) ?_
      intro i hi
      obtain rfl : i = 2 := by simpa using hi
      refine wpOp_intro rfl (fun K8 hK => ?_)
      clear hi
      go_simp
      refine (k16 _ (M.get 1 rfl) (M.get 0 rfl) (M.get 5 rfl) (M.get 4 rfl)).mono ?_
      rintro e V8_2 ⟨rfl, rr⟩
      have M' := M.up rr
      clear M rr 
      have M := M'; clear M'
      refine hK _ _ ⟨M.box 3 rfl, ?_⟩
      clear hK K8
      have hS0 : (fun W => BoxN W (w.heap.size + 1) 27 #[.bool n2, .slice p2 l2.length q2, .slice o2 d2.length r2]) _ := M.box 3 rfl
      refine wpAnyH_take (i := 3) (v := (.tuple #[(.agg #[.bool false, .slice none 0 0, .slice none 0 0]), .int .i64 10])) rfl (by kernel_rfl) (by kernel_rfl) (by kernel_rfl) (fun _ _ _ h => nomatch h.1) (Or.inl ⟨by rfl, fun W3 hS => by have hS1 := hS; go_simp⟩) hS0 ?_
      refine wpAnyH_take (i := 4) (v := (.agg #[.bool false, .slice none 0 0, .slice none 0 0])) rfl (by kernel_rfl) (by kernel_rfl) (by kernel_rfl) (fun _ _ _ h => nomatch h.1) (Or.inl ⟨by rfl, fun W3 hS => by have hS1 := hS; go_simp⟩) hS0 ?_
      refine wpAnyH_take (i := 5) (v := (.int .i64 10)) rfl (by kernel_rfl) (by kernel_rfl) (by kernel_rfl) (fun _ _ _ h => nomatch h.1) (Or.inl ⟨by rfl, fun W3 hS => by have hS1 := hS; go_simp⟩) hS0 ?_
      clear hS0
      have f0_0 := M.fr 0 rfl 0; have f0_1 := M.fr 0 rfl 1; have f0_2 := M.fr 0 rfl 2
      have z0_0 := M.cell 0 rfl 0 rfl; have z0_1 := M.cell 0 rfl 1 rfl; have z0_2 := M.cell 0 rfl 2 rfl
      refine wpAnyH_all (rs := [7]) (by kernel_rfl) (by simp) ?_
      intro i hi
      obtain rfl : i = 7 := by simpa using hi
      refine wpOp_intro rfl (fun Ks9 hK => ?_)
      clear hi
      go_simp
      have M' := (((M.put 0 rfl rfl 0 (.bool false)).put 0 rfl rfl 1 (.slice none 0 0)).put 0 rfl rfl 2 (.slice none 0 0))
      clear M f0_0 z0_0 f0_1 z0_1 f0_2 z0_2
      have M : Mem w [(b7, 27, [.bool false, .slice none 0 0, .slice none 0 0]), (w14.heap.size, 27, [.bool false, .slice none 0 0, .slice none 0 0]), (b5, 27, [.bool false, .slice none 0 0, .slice none 0 0]), (w.heap.size + 1, 27, [.bool n2, .slice p2 l2.length q2, .slice o2 d2.length r2]), (w.heap.size, 27, [.bool n1, .slice p1 l1.length q1, .slice o1 d1.length r1])] [(.slice uI DI.length fI, DI), (.slice aI LI.length eI, LI), (.slice uP DP.length fP, DP), (.slice aP LP.length eP, LP), (.slice o2 d2.length r2, d2), (.slice p2 l2.length q2, l2), (.slice o1 d1.length r1, d1), (.slice p1 l1.length q1, l1)] _ := M'
      clear M'
      refine hK _ _ ⟨M.box 3 rfl, ?_⟩
      clear hK Ks9
      have hS0 : (fun W => BoxN W (w.heap.size + 1) 27 #[.bool n2, .slice p2 l2.length q2, .slice o2 d2.length r2]) _ := M.box 3 rfl
      refine wpAnyH_take (i := 8) (v := (.int .i64 10)) rfl (by kernel_rfl) (by kernel_rfl) (by kernel_rfl) (fun _ _ _ h => nomatch h.1) (Or.inl ⟨by rfl, fun W3 hS => by have hS1 := hS; go_simp⟩) hS0 ?_
      clear hS0
      refine wpAnyH_done (by kernel_rfl) ?_ _
      exact ⟨rfl, b7, aI, eI, uI, fI, rfl, M⟩
  intro b7 aI eI uI fI V M
  have z14_3_0 := M.cell 3 rfl 0 rfl; have z14_3_1 := M.cell 3 rfl 1 rfl; have z14_3_2 := M.cell 3 rfl 2 rfl
  go_wp2_with (first
    | (go_at_call 19; with_reducible refine (k17 _ (M.get 5 rfl) (M.get 4 rfl)).mono ?_; rintro e w15 ⟨rfl, rr⟩; have M' := M.up rr; clear M rr ; have M := M'; clear M'; clear z14_3_0 z14_3_1 z14_3_2; have z15_4_0 := M.cell 4 rfl 0 rfl; have z15_4_1 := M.cell 4 rfl 1 rfl; have z15_4_2 := M.cell 4 rfl 2 rfl; have z15_3_0 := M.cell 3 rfl 0 rfl; have z15_3_1 := M.cell 3 rfl 1 rfl; have z15_3_2 := M.cell 3 rfl 2 rfl; have z15_2_0 := M.cell 2 rfl 0 rfl; have z15_2_1 := M.cell 2 rfl 1 rfl; have z15_2_2 := M.cell 2 rfl 2 rfl; have z15_1_0 := M.cell 1 rfl 0 rfl; have z15_1_1 := M.cell 1 rfl 1 rfl; have z15_1_2 := M.cell 1 rfl 2 rfl))
  go_ret
  exact ⟨rfl, M.below⟩
end Go.Proofs.YthloknddhfphnaaGreatDoor
