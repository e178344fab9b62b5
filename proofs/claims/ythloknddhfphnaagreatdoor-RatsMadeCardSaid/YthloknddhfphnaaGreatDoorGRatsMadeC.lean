/- Fractions: RatsMade: a walk of it. -/
import Derived.Deep.RegionHeld3
import Derived.Test.YthloknddhfphnaaGreatDoorGRatAlive
import Derived.Test.YthloknddhfphnaaGreatDoorGRatCmp
import Derived.Test.YthloknddhfphnaaGreatDoorGRatsMadeM
set_option linter.unusedSimpArgs false
set_option linter.unusedVariables false
namespace Go.Proofs.YthloknddhfphnaaGreatDoor
open Go Go.Proofs Go.RowKit Go.Shelf Nu

attribute [local go_sem] Oper.semAt_some

set_option maxRecDepth 100000 in
set_option maxHeartbeats 16000000 in
theorem rmade_c {w : World} {n1 n2 n3 : Bool} {p1 p2 p3 : Option Addr} {q1 q2 q3 : Nat} {l1 l2 l3 : List Nat} {N1 N2 N3 : Int} (c1 : Can n1 l1 N1) (c2 : Can n2 l2 N2) (c3 : Can n3 l3 N3) (m1 : l1.length ≤ 20) (m2 : l2.length ≤ 20) (m3 : l3.length ≤ 20) (g1 : Reads w (.slice p1 l1.length q1) l1) (g2 : Reads w (.slice p2 l2.length q2) l2) (g3 : Reads w (.slice p3 l3.length q3) l3) (hb0 : N2 ≠ 0) (hc0 : N3 = 0) :
    Calls Tryz.prog 7 #[.agg #[.bool n1, .slice p1 l1.length q1], .agg #[.bool n2, .slice p2 l2.length q2], .agg #[.bool n3, .slice p3 l3.length q3]] w fun e w' => e = .returned (.bool true) ∧ Below w.heap.size w w' := by
  have t1 : decide ((20 : Int) < (l1.length : Int)) = false := decide_eq_false (by omega)
  have t2 : decide ((20 : Int) < (l2.length : Int)) = false := decide_eq_false (by omega)
  have t3 : decide ((20 : Int) < (l3.length : Int)) = false := decide_eq_false (by omega)
  have y1 : (digs N1.natAbs).length ≤ 20 := by rw [← c1.2]; omega
  have y2 : (digs N2.natAbs).length ≤ 20 := by rw [← c2.2]; omega
  have y3 : (digs N3.natAbs).length ≤ 20 := by rw [← c3.2]; omega
  have y4 : (digs (1 : Int).natAbs).length ≤ 2 := len64 (by decide)
  obtain ⟨sA, LA, cA⟩ := Can.ex (N1 * N3)
  have bA : LA.length ≤ 40 := by rw [cA.2, Int.natAbs_mul]; have := digs_mul_le N1.natAbs N3.natAbs; omega
  obtain ⟨sB, LB, cB⟩ := Can.ex (N2 * N3)
  have bB : LB.length ≤ 40 := by rw [cB.2, Int.natAbs_mul]; have := digs_mul_le N2.natAbs N3.natAbs; omega
  obtain ⟨sV, LV, DV, cV⟩ := RCan.ex (((N1 : Int) : Rat) / ((N2 : Int) : Rat))
  have RV : rl (((N1 : Int) : Rat) / ((N2 : Int) : Rat)) ≤ 42 := by have := rl_over (n := N1) N2 hb0; omega
  have bV : LV.length ≤ 9999 ∧ DV.length ≤ 9999 := by have := cV.len; omega
  obtain ⟨sO, LO, cO⟩ := Can.ex (1)
  have bO : LO.length ≤ 2 := by rw [cO.2]; exact y4
  obtain ⟨sW, LW, cW⟩ := Can.ex (1)
  have bW : LW.length ≤ 2 := by rw [cW.2]; exact y4
  obtain ⟨sD, LD, DD, cD⟩ := RCan.ex (((N2 : Int) : Rat) / ((1 : Int) : Rat))
  have RD : rl (((N2 : Int) : Rat) / ((1 : Int) : Rat)) ≤ 24 := by have := rl_over (n := N2) 1 (by decide); omega
  have bD : LD.length ≤ 9999 ∧ DD.length ≤ 9999 := by have := cD.len; omega
  obtain ⟨sE, LE, DE, cE⟩ := RCan.ex (((N1 : Int) : Rat) / ((1 : Int) : Rat))
  have RE : rl (((N1 : Int) : Rat) / ((1 : Int) : Rat)) ≤ 24 := by have := rl_over (n := N1) 1 (by decide); omega
  have bE : LE.length ≤ 9999 ∧ DE.length ≤ 9999 := by have := cE.len; omega
  obtain ⟨sP, LP, DP, cP⟩ := RCan.ex (((N1 : Int) : Rat) / ((1 : Int) : Rat))
  have RP : rl (((N1 : Int) : Rat) / ((1 : Int) : Rat)) ≤ 24 := by exact RE
  have bP : LP.length ≤ 9999 ∧ DP.length ≤ 9999 := by have := cP.len; omega
  obtain ⟨z2, hz2⟩ : ∃ z, sgz N2 0 = z := ⟨_, rfl⟩
  obtain ⟨z3, hz3⟩ : ∃ z, sgz N3 0 = z := ⟨_, rfl⟩
  obtain ⟨js1, js2⟩ := sgz_some hb0 hz2
  have tok7 : True := trivial
  have tok8 : True := trivial
  have tok9 : True := trivial
  have k1 := fun (W : World) (g1 : Reads W (.slice p1 l1.length q1) l1) => q_check c1 (by omega) g1
  have k2 := fun (W : World) (g1 : Reads W (.slice p2 l2.length q2) l2) => q_check c2 (by omega) g1
  have k3 := fun (W : World) (g1 : Reads W (.slice p3 l3.length q3) l3) => q_check c3 (by omega) g1
  have k4 := fun (W : World) (g1 : Reads W (.slice p1 l1.length q1) l1) (g2 : Reads W (.slice p2 l2.length q2) l2) => r_make c1 c2 (hb0) cV (rfl) (by omega) (by omega) g1 g2
  have k5 := fun (W : World) (g1 : Reads W (.slice p1 l1.length q1) l1) (g2 : Reads W (.slice p3 l3.length q3) l3) => q_mul c1.is c3.is cA rfl (by omega) (by omega) g1 g2
  have k6 := fun (W : World) (g1 : Reads W (.slice p2 l2.length q2) l2) (g2 : Reads W (.slice p3 l3.length q3) l3) => q_mul c2.is c3.is cB rfl (by omega) (by omega) g1 g2
  have k7 := fun (W : World) {aa10 : Option Addr} {ee10 : Nat} {aa20 : Option Addr} {ee20 : Nat} (g1 : Reads W (.slice aa10 LA.length ee10) LA) (g2 : Reads W (.slice aa20 LB.length ee20) LB) => r_make_zero cA cB (by rw [hc0]; omega) (by omega) (by omega) g1 g2
  have k8 := fun (W : World) (g1 : Reads W (.slice p2 l2.length q2) l2) => q_sign (z2) c2.is (hz2) (by omega) g1
  have k9 := fun (W : World) => q_of (W := W) 1 cO (by decide) (by decide)
  have k10 := fun (W : World) {aa20 : Option Addr} {ee20 : Nat} (g1 : Reads W (.slice p2 l2.length q2) l2) (g2 : Reads W (.slice aa20 LO.length ee20) LO) => r_make c2 cO (by decide) cD (rfl) (by omega) (by omega) g1 g2
  have k11 := fun (W : World) => q_of (W := W) 1 cW (by decide) (by decide)
  have k12 := fun (W : World) {aa20 : Option Addr} {ee20 : Nat} (g1 : Reads W (.slice p1 l1.length q1) l1) (g2 : Reads W (.slice aa20 LW.length ee20) LW) => r_make c1 cW (by decide) cE (rfl) (by omega) (by omega) g1 g2
  have k13 := fun (W : World) {aa10 : Option Addr} {ee10 : Nat} {aa11 : Option Addr} {ee11 : Nat} (g1 : Reads W (.slice aa10 LV.length ee10) LV) (h1 : Reads W (.slice aa11 DV.length ee11) DV) => rcheck_yes cV (by omega) (by omega) g1 h1
  have k14 := fun (W : World) {aa10 : Option Addr} {ee10 : Nat} {aa11 : Option Addr} {ee11 : Nat} {aa20 : Option Addr} {ee20 : Nat} {aa21 : Option Addr} {ee21 : Nat} (g1 : Reads W (.slice aa10 LV.length ee10) LV) (h1 : Reads W (.slice aa11 DV.length ee11) DV) (g2 : Reads W (.slice aa20 LD.length ee20) LD) (h2 : Reads W (.slice aa21 DD.length ee21) DD) => r_mul cV.is cD.is cP (mul_back hb0) (by omega) (by omega) (by omega) (by omega) g1 h1 g2 h2
  have k15 := fun (W : World) {aa10 : Option Addr} {ee10 : Nat} {aa11 : Option Addr} {ee11 : Nat} {aa20 : Option Addr} {ee20 : Nat} {aa21 : Option Addr} {ee21 : Nat} (g1 : Reads W (.slice aa10 LP.length ee10) LP) (h1 : Reads W (.slice aa11 DP.length ee11) DP) (g2 : Reads W (.slice aa20 LE.length ee20) LE) (h2 : Reads W (.slice aa21 DE.length ee21) DE) => r_same true cP cE (decide_eq_true rfl) (by omega) (by omega) (by omega) (by omega) g1 h1 g2 h2
  have k16 := fun (W : World) (g1 : Reads W (.slice p3 l3.length q3) l3) => q_sign (0) c3.is (sgz_zero hc0) (by omega) g1
  have M : Mem w [(w.heap.size + 1 + 1, 25, [.bool n3, .slice p3 l3.length q3]), (w.heap.size + 1, 25, [.bool n2, .slice p2 l2.length q2]), (w.heap.size, 25, [.bool n1, .slice p1 l1.length q1])] [(.slice p3 l3.length q3, l3), (.slice p2 l2.length q2, l2), (.slice p1 l1.length q1, l1)] (((w.alloc (.cells #[.bool n1, .slice p1 l1.length q1] 25)).alloc (.cells #[.bool n2, .slice p2 l2.length q2] 25)).alloc (.cells #[.bool n3, .slice p3 l3.length q3] 25)) := by
    have M := (((((((Mem.start w).add g1).add g2).add g3).new 25 [.bool n1, .slice p1 l1.length q1]).new 25 [.bool n2, .slice p2 l2.length q2]).new 25 [.bool n3, .slice p3 l3.length q3])
    simpa only [World.size_alloc] using M
  clear g1 g2 g3 m1 m2 m3 c1 c2 c3 hb0 hc0 y1 y2 y3 y4 cA bA cB bB cV RV bV cO bO cW bW cD RD bD cE RE bE cP RP bP hz2 hz3
  go_enter Tryz.func7, Tryz.ntmps7
  go_wp2_with (first
    | (go_at_call 10; with_reducible refine (r_alive _).mono ?_; rintro e w1 ⟨rfl, rr⟩; have M' := M.up rr; clear M rr ; have M := M'; clear M'; have z1_2_0 := M.cell 2 rfl 0 rfl; have z1_2_1 := M.cell 2 rfl 1 rfl; have z1_1_0 := M.cell 1 rfl 0 rfl; have z1_1_1 := M.cell 1 rfl 1 rfl; have z1_0_0 := M.cell 0 rfl 0 rfl; have z1_0_1 := M.cell 0 rfl 1 rfl)
    | (go_at_call 24; with_reducible refine (k1 _ (M.get 2 rfl)).mono ?_; rintro e w2 ⟨rfl, rr⟩; have M' := M.up rr; clear M rr ; have M := M'; clear M'; clear z1_2_0 z1_2_1 z1_1_0 z1_1_1 z1_0_0 z1_0_1; have z2_2_0 := M.cell 2 rfl 0 rfl; have z2_2_1 := M.cell 2 rfl 1 rfl; have z2_1_0 := M.cell 1 rfl 0 rfl; have z2_1_1 := M.cell 1 rfl 1 rfl; have z2_0_0 := M.cell 0 rfl 0 rfl; have z2_0_1 := M.cell 0 rfl 1 rfl)
    | (go_at_call 24; with_reducible refine (k2 _ (M.get 1 rfl)).mono ?_; rintro e w3 ⟨rfl, rr⟩; have M' := M.up rr; clear M rr ; have M := M'; clear M'; clear z2_2_0 z2_2_1 z2_1_0 z2_1_1 z2_0_0 z2_0_1; have z3_2_0 := M.cell 2 rfl 0 rfl; have z3_2_1 := M.cell 2 rfl 1 rfl; have z3_1_0 := M.cell 1 rfl 0 rfl; have z3_1_1 := M.cell 1 rfl 1 rfl; have z3_0_0 := M.cell 0 rfl 0 rfl; have z3_0_1 := M.cell 0 rfl 1 rfl)
    | (go_at_call 24; with_reducible refine (k3 _ (M.get 0 rfl)).mono ?_; rintro e w4 ⟨rfl, rr⟩; have M' := M.up rr; clear M rr ; have M := M'; clear M'; clear z3_2_0 z3_2_1 z3_1_0 z3_1_1 z3_0_0 z3_0_1; have z4_2_0 := M.cell 2 rfl 0 rfl; have z4_2_1 := M.cell 2 rfl 1 rfl; have z4_1_0 := M.cell 1 rfl 0 rfl; have z4_1_1 := M.cell 1 rfl 1 rfl; have z4_0_0 := M.cell 0 rfl 0 rfl; have z4_0_1 := M.cell 0 rfl 1 rfl)
    | (go_at_call 22; with_reducible refine (k4 _ (M.get 2 rfl) (M.get 1 rfl)).mono ?_; rintro e w5 ⟨aV, eV, uV, fV, rfl, g, g', rr⟩; have M' := (((M.up rr).add g).add g').new 27 [.bool sV, .slice aV LV.length eV, .slice uV DV.length fV]; clear M rr g g'; have M := M'; clear M'; clear z4_2_0 z4_2_1 z4_1_0 z4_1_1 z4_0_0 z4_0_1; have z5_3_0 := M.cell 3 rfl 0 rfl; have z5_3_1 := M.cell 3 rfl 1 rfl; have z5_2_0 := M.cell 2 rfl 0 rfl; have z5_2_1 := M.cell 2 rfl 1 rfl; have z5_1_0 := M.cell 1 rfl 0 rfl; have z5_1_1 := M.cell 1 rfl 1 rfl; have z5_0_0 := M.cell 0 rfl 0 rfl; have z5_0_1 := M.cell 0 rfl 1 rfl; have z5_0_2 := M.cell 0 rfl 2 rfl))
  clear z5_3_0 z5_3_1 z5_2_0 z5_2_1 z5_1_0 z5_1_1 z5_0_0 z5_0_1 z5_0_2 t1 t2 t3
  apply region_cut_nss (Fact := (fun b9 aA eA aB eB W => Mem w [(b9, 27, [.bool false, .slice none 0 0, .slice none 0 0]), (w5.heap.size, 27, [.bool sV, .slice aV LV.length eV, .slice uV DV.length fV]), (w.heap.size + 1 + 1, 25, [.bool n3, .slice p3 l3.length q3]), (w.heap.size + 1, 25, [.bool n2, .slice p2 l2.length q2]), (w.heap.size, 25, [.bool n1, .slice p1 l1.length q1])] [(.slice aB LB.length eB, LB), (.slice aA LA.length eA, LA), (.slice uV DV.length fV, DV), (.slice aV LV.length eV, LV), (.slice p3 l3.length q3, l3), (.slice p2 l2.length q2, l2), (.slice p1 l1.length q1, l1)] W))
  case first =>
    refine region_mem (S := (fun W => BoxN W (w.heap.size) 25 #[.bool n1, .slice p1 l1.length q1] ∧ BoxN W (w.heap.size + 1) 25 #[.bool n2, .slice p2 l2.length q2] ∧ BoxN W (w.heap.size + 1 + 1) 25 #[.bool n3, .slice p3 l3.length q3])) M (by kernel_rfl) ?_
    intro V0 M
    have hS0 : (fun W => BoxN W (w.heap.size) 25 #[.bool n1, .slice p1 l1.length q1] ∧ BoxN W (w.heap.size + 1) 25 #[.bool n2, .slice p2 l2.length q2] ∧ BoxN W (w.heap.size + 1 + 1) 25 #[.bool n3, .slice p3 l3.length q3]) V0 := ⟨M.box 3 rfl, M.box 2 rfl, M.box 1 rfl⟩
    refine wpAnyH_take (i := 0) (oi := ⟨_, _, _, _, _, _⟩) (v := (.agg #[.bool n1, .slice p1 l1.length q1])) rfl (by kernel_rfl) (by kernel_rfl) (by kernel_rfl) (fun _ _ _ h => nomatch h.1) (Or.inl ⟨by rfl, fun W3 hS => by obtain ⟨hS1, hS2, hS3⟩ := hS; have c1_0 := hS1.cell 0 _ rfl; have c1_1 := hS1.cell 1 _ rfl; go_simp⟩) hS0 ?_
    try simp only [Act.put, List.setIfInBounds_toArray, List.set_cons_zero, List.set_cons_succ]
    refine wpAnyH_take (i := 1) (oi := ⟨_, _, _, _, _, _⟩) (v := (.agg #[.bool n3, .slice p3 l3.length q3])) rfl (by kernel_rfl) (by kernel_rfl) (by kernel_rfl) (fun _ _ _ h => nomatch h.1) (Or.inl ⟨by rfl, fun W3 hS => by obtain ⟨hS1, hS2, hS3⟩ := hS; have c3_0 := hS3.cell 0 _ rfl; have c3_1 := hS3.cell 1 _ rfl; go_simp⟩) hS0 ?_
    try simp only [Act.put, List.setIfInBounds_toArray, List.set_cons_zero, List.set_cons_succ]
    refine wpAnyH_take (i := 3) (oi := ⟨_, _, _, _, _, _⟩) (v := (.agg #[.bool n2, .slice p2 l2.length q2])) rfl (by kernel_rfl) (by kernel_rfl) (by kernel_rfl) (fun _ _ _ h => nomatch h.1) (Or.inl ⟨by rfl, fun W3 hS => by obtain ⟨hS1, hS2, hS3⟩ := hS; have c2_0 := hS2.cell 0 _ rfl; have c2_1 := hS2.cell 1 _ rfl; go_simp⟩) hS0 ?_
    try simp only [Act.put, List.setIfInBounds_toArray, List.set_cons_zero, List.set_cons_succ]
    refine wpAnyH_take (i := 4) (oi := ⟨_, _, _, _, _, _⟩) (v := (.agg #[.bool n3, .slice p3 l3.length q3])) rfl (by kernel_rfl) (by kernel_rfl) (by kernel_rfl) (fun _ _ _ h => nomatch h.1) (Or.inl ⟨by rfl, fun W3 hS => by obtain ⟨hS1, hS2, hS3⟩ := hS; have c3_0 := hS3.cell 0 _ rfl; have c3_1 := hS3.cell 1 _ rfl; go_simp⟩) hS0 ?_
    try simp only [Act.put, List.setIfInBounds_toArray, List.set_cons_zero, List.set_cons_succ]
    clear hS0
    refine wpAnyH_all (rs := [2, 10]) (by kernel_rfl) (by simp) ?_
    intro i hi
    have hi2 : i = 2 ∨ i = 10 := by simpa using hi
    clear hi
    rcases hi2 with rfl | rfl
    · refine wpOp_intro rfl (fun K1 hK => ?_)
      go_simp
      refine (k5 _ (M.get 4 rfl) (M.get 2 rfl)).mono ?_
      rintro e V1_2 ⟨aA, eA, rfl, g, rr⟩
      have M' := (M.up rr).add g
      clear M rr g
      have M := M'; clear M'
      refine hK _ _ ⟨⟨M.box 3 rfl, M.box 2 rfl, M.box 1 rfl⟩, ?_⟩
      clear hK K1
      refine wpAnyH_all (rs := [5, 10]) (by kernel_rfl) (by simp) ?_
      intro i hi
      have hi2 : i = 5 ∨ i = 10 := by simpa using hi
      clear hi
      rcases hi2 with rfl | rfl
      · refine wpOp_intro rfl (fun K2 hK => ?_)
        go_simp
        refine (k6 _ (M.get 4 rfl) (M.get 3 rfl)).mono ?_
        rintro e V2_5 ⟨aB, eB, rfl, g, rr⟩
        have M' := (M.up rr).add g
        clear M rr g
        have M := M'; clear M'
        refine hK _ _ ⟨⟨M.box 3 rfl, M.box 2 rfl, M.box 1 rfl⟩, ?_⟩
        clear hK K2
        refine wpAnyH_all (rs := [6, 10]) (by kernel_rfl) (by simp) ?_
        intro i hi
        have hi2 : i = 6 ∨ i = 10 := by simpa using hi
        clear hi
        rcases hi2 with rfl | rfl
        · refine wpOp_intro rfl (fun K3 hK => ?_)
          go_simp
          refine (k7 _ (M.get 1 rfl) (M.get 0 rfl)).mono ?_
          rintro e V3_6 ⟨rfl, rr⟩
          have M' := M.up rr
          clear M rr 
          have M := M'; clear M'
          refine hK _ _ ⟨⟨M.box 3 rfl, M.box 2 rfl, M.box 1 rfl⟩, ?_⟩
          clear hK K3
          have hS0 : (fun W => BoxN W (w.heap.size) 25 #[.bool n1, .slice p1 l1.length q1] ∧ BoxN W (w.heap.size + 1) 25 #[.bool n2, .slice p2 l2.length q2] ∧ BoxN W (w.heap.size + 1 + 1) 25 #[.bool n3, .slice p3 l3.length q3]) _ := ⟨M.box 3 rfl, M.box 2 rfl, M.box 1 rfl⟩
          refine wpAnyH_take (i := 7) (oi := ⟨_, _, _, _, _, _⟩) (v := (.tuple #[(.agg #[.bool false, .slice none 0 0, .slice none 0 0]), .int .i64 10])) rfl (by kernel_rfl) (by kernel_rfl) (by kernel_rfl) (fun _ _ _ h => nomatch h.1) (Or.inl ⟨by rfl, fun W3 hS => by go_simp⟩) hS0 ?_
          try simp only [Act.put, List.setIfInBounds_toArray, List.set_cons_zero, List.set_cons_succ]
          refine wpAnyH_take (i := 8) (oi := ⟨_, _, _, _, _, _⟩) (v := (.agg #[.bool false, .slice none 0 0, .slice none 0 0])) rfl (by kernel_rfl) (by kernel_rfl) (by kernel_rfl) (fun _ _ _ h => nomatch h.1) (Or.inl ⟨by rfl, fun W3 hS => by go_simp⟩) hS0 ?_
          try simp only [Act.put, List.setIfInBounds_toArray, List.set_cons_zero, List.set_cons_succ]
          refine wpAnyH_take (i := 9) (oi := ⟨_, _, _, _, _, _⟩) (v := (.int .i64 10)) rfl (by kernel_rfl) (by kernel_rfl) (by kernel_rfl) (fun _ _ _ h => nomatch h.1) (Or.inl ⟨by rfl, fun W3 hS => by go_simp⟩) hS0 ?_
          try simp only [Act.put, List.setIfInBounds_toArray, List.set_cons_zero, List.set_cons_succ]
          clear hS0
          refine wpAnyH_all (rs := [10]) (by kernel_rfl) (by simp) ?_
          intro i hi
          obtain rfl : i = 10 := by simpa using hi
          refine wpOp_intro rfl (fun K4 hK => ?_)
          clear hi
          go_simp
          obtain ⟨b9, V4_10, hV, hb, M'⟩ := M.fresh 27 [.bool false, .slice none 0 0, .slice none 0 0]
          rw [← hV, ← hb]
          clear M hV hb; have M := M'; clear M'
          refine hK _ _ ⟨⟨M.box 4 rfl, M.box 3 rfl, M.box 2 rfl⟩, ?_⟩
          clear hK K4
          have f0_0 := M.fr 0 rfl 0; have f0_1 := M.fr 0 rfl 1; have f0_2 := M.fr 0 rfl 2
          have z0_0 := M.cell 0 rfl 0 rfl; have z0_1 := M.cell 0 rfl 1 rfl; have z0_2 := M.cell 0 rfl 2 rfl
          refine wpAnyH_all (rs := [11]) (by kernel_rfl) (by simp) ?_
          intro i hi
          obtain rfl : i = 11 := by simpa using hi
          refine wpOp_intro rfl (fun Ks5 hK => ?_)
          clear hi
          go_simp
          have M' := (((M.put 0 rfl rfl 0 (.bool false)).put 0 rfl rfl 1 (.slice none 0 0)).put 0 rfl rfl 2 (.slice none 0 0))
          clear M f0_0 z0_0 f0_1 z0_1 f0_2 z0_2
          have M : Mem w [(b9, 27, [.bool false, .slice none 0 0, .slice none 0 0]), (w5.heap.size, 27, [.bool sV, .slice aV LV.length eV, .slice uV DV.length fV]), (w.heap.size + 1 + 1, 25, [.bool n3, .slice p3 l3.length q3]), (w.heap.size + 1, 25, [.bool n2, .slice p2 l2.length q2]), (w.heap.size, 25, [.bool n1, .slice p1 l1.length q1])] [(.slice aB LB.length eB, LB), (.slice aA LA.length eA, LA), (.slice uV DV.length fV, DV), (.slice aV LV.length eV, LV), (.slice p3 l3.length q3, l3), (.slice p2 l2.length q2, l2), (.slice p1 l1.length q1, l1)] _ := M'
          clear M'
          refine hK _ _ ⟨⟨M.box 4 rfl, M.box 3 rfl, M.box 2 rfl⟩, ?_⟩
          clear hK Ks5
          have hS0 : (fun W => BoxN W (w.heap.size) 25 #[.bool n1, .slice p1 l1.length q1] ∧ BoxN W (w.heap.size + 1) 25 #[.bool n2, .slice p2 l2.length q2] ∧ BoxN W (w.heap.size + 1 + 1) 25 #[.bool n3, .slice p3 l3.length q3]) _ := ⟨M.box 4 rfl, M.box 3 rfl, M.box 2 rfl⟩
          refine wpAnyH_take (i := 12) (oi := ⟨_, _, _, _, _, _⟩) (v := (.int .i64 10)) rfl (by kernel_rfl) (by kernel_rfl) (by kernel_rfl) (fun _ _ _ h => nomatch h.1) (Or.inl ⟨by rfl, fun W3 hS => by go_simp⟩) hS0 ?_
          try simp only [Act.put, List.setIfInBounds_toArray, List.set_cons_zero, List.set_cons_succ]
          clear hS0
          refine wpAnyH_done (by kernel_rfl) ?_ _
          exact ⟨rfl, b9, aA, eA, aB, eB, rfl, M⟩
        · refine wpOp_intro rfl (fun K3 hK => ?_)
          go_simp
          obtain ⟨b9, V3_10, hV, hb, M'⟩ := M.fresh 27 [.bool false, .slice none 0 0, .slice none 0 0]
          rw [← hV, ← hb]
          clear M hV hb; have M := M'; clear M'
          refine hK _ _ ⟨⟨M.box 4 rfl, M.box 3 rfl, M.box 2 rfl⟩, ?_⟩
          clear hK K3
          refine wpAnyH_all (rs := [6]) (by kernel_rfl) (by simp) ?_
          intro i hi
          obtain rfl : i = 6 := by simpa using hi
          refine wpOp_intro rfl (fun K6 hK => ?_)
          clear hi
          go_simp
          refine (k7 _ (M.get 1 rfl) (M.get 0 rfl)).mono ?_
          rintro e V6_6 ⟨rfl, rr⟩
          have M' := M.up rr
          clear M rr 
          have M := M'; clear M'
          refine hK _ _ ⟨⟨M.box 4 rfl, M.box 3 rfl, M.box 2 rfl⟩, ?_⟩
          clear hK K6
          have hS0 : (fun W => BoxN W (w.heap.size) 25 #[.bool n1, .slice p1 l1.length q1] ∧ BoxN W (w.heap.size + 1) 25 #[.bool n2, .slice p2 l2.length q2] ∧ BoxN W (w.heap.size + 1 + 1) 25 #[.bool n3, .slice p3 l3.length q3]) _ := ⟨M.box 4 rfl, M.box 3 rfl, M.box 2 rfl⟩
          refine wpAnyH_take (i := 7) (oi := ⟨_, _, _, _, _, _⟩) (v := (.tuple #[(.agg #[.bool false, .slice none 0 0, .slice none 0 0]), .int .i64 10])) rfl (by kernel_rfl) (by kernel_rfl) (by kernel_rfl) (fun _ _ _ h => nomatch h.1) (Or.inl ⟨by rfl, fun W3 hS => by go_simp⟩) hS0 ?_
          try simp only [Act.put, List.setIfInBounds_toArray, List.set_cons_zero, List.set_cons_succ]
          refine wpAnyH_take (i := 8) (oi := ⟨_, _, _, _, _, _⟩) (v := (.agg #[.bool false, .slice none 0 0, .slice none 0 0])) rfl (by kernel_rfl) (by kernel_rfl) (by kernel_rfl) (fun _ _ _ h => nomatch h.1) (Or.inl ⟨by rfl, fun W3 hS => by go_simp⟩) hS0 ?_
          try simp only [Act.put, List.setIfInBounds_toArray, List.set_cons_zero, List.set_cons_succ]
          refine wpAnyH_take (i := 9) (oi := ⟨_, _, _, _, _, _⟩) (v := (.int .i64 10)) rfl (by kernel_rfl) (by kernel_rfl) (by kernel_rfl) (fun _ _ _ h => nomatch h.1) (Or.inl ⟨by rfl, fun W3 hS => by go_simp⟩) hS0 ?_
          try simp only [Act.put, List.setIfInBounds_toArray, List.set_cons_zero, List.set_cons_succ]
          clear hS0
          have f0_0 := M.fr 0 rfl 0; have f0_1 := M.fr 0 rfl 1; have f0_2 := M.fr 0 rfl 2
          have z0_0 := M.cell 0 rfl 0 rfl; have z0_1 := M.cell 0 rfl 1 rfl; have z0_2 := M.cell 0 rfl 2 rfl
          refine wpAnyH_all (rs := [11]) (by kernel_rfl) (by simp) ?_
          intro i hi
          obtain rfl : i = 11 := by simpa using hi
          refine wpOp_intro rfl (fun Ks7 hK => ?_)
          clear hi
          go_simp
          have M' := (((M.put 0 rfl rfl 0 (.bool false)).put 0 rfl rfl 1 (.slice none 0 0)).put 0 rfl rfl 2 (.slice none 0 0))
          clear M f0_0 z0_0 f0_1 z0_1 f0_2 z0_2
          have M : Mem w [(b9, 27, [.bool false, .slice none 0 0, .slice none 0 0]), (w5.heap.size, 27, [.bool sV, .slice aV LV.length eV, .slice uV DV.length fV]), (w.heap.size + 1 + 1, 25, [.bool n3, .slice p3 l3.length q3]), (w.heap.size + 1, 25, [.bool n2, .slice p2 l2.length q2]), (w.heap.size, 25, [.bool n1, .slice p1 l1.length q1])] [(.slice aB LB.length eB, LB), (.slice aA LA.length eA, LA), (.slice uV DV.length fV, DV), (.slice aV LV.length eV, LV), (.slice p3 l3.length q3, l3), (.slice p2 l2.length q2, l2), (.slice p1 l1.length q1, l1)] _ := M'
          clear M'
          refine hK _ _ ⟨⟨M.box 4 rfl, M.box 3 rfl, M.box 2 rfl⟩, ?_⟩
          clear hK Ks7
          have hS0 : (fun W => BoxN W (w.heap.size) 25 #[.bool n1, .slice p1 l1.length q1] ∧ BoxN W (w.heap.size + 1) 25 #[.bool n2, .slice p2 l2.length q2] ∧ BoxN W (w.heap.size + 1 + 1) 25 #[.bool n3, .slice p3 l3.length q3]) _ := ⟨M.box 4 rfl, M.box 3 rfl, M.box 2 rfl⟩
          refine wpAnyH_take (i := 12) (oi := ⟨_, _, _, _, _, _⟩) (v := (.int .i64 10)) rfl (by kernel_rfl) (by kernel_rfl) (by kernel_rfl) (fun _ _ _ h => nomatch h.1) (Or.inl ⟨by rfl, fun W3 hS => by go_simp⟩) hS0 ?_
          try simp only [Act.put, List.setIfInBounds_toArray, List.set_cons_zero, List.set_cons_succ]
          clear hS0
          refine wpAnyH_done (by kernel_rfl) ?_ _
          exact ⟨rfl, b9, aA, eA, aB, eB, rfl, M⟩
      · refine wpOp_intro rfl (fun K2 hK => ?_)
        go_simp
        obtain ⟨b9, V2_10, hV, hb, M'⟩ := M.fresh 27 [.bool false, .slice none 0 0, .slice none 0 0]
        rw [← hV, ← hb]
        clear M hV hb; have M := M'; clear M'
        refine hK _ _ ⟨⟨M.box 4 rfl, M.box 3 rfl, M.box 2 rfl⟩, ?_⟩
        clear hK K2
        refine wpAnyH_all (rs := [5]) (by kernel_rfl) (by simp) ?_
        intro i hi
        obtain rfl : i = 5 := by simpa using hi
        refine wpOp_intro rfl (fun K8 hK => ?_)
        clear hi
        go_simp
        refine (k6 _ (M.get 4 rfl) (M.get 3 rfl)).mono ?_
        rintro e V8_5 ⟨aB, eB, rfl, g, rr⟩
        have M' := (M.up rr).add g
        clear M rr g
        have M := M'; clear M'
        refine hK _ _ ⟨⟨M.box 4 rfl, M.box 3 rfl, M.box 2 rfl⟩, ?_⟩
        clear hK K8
        refine wpAnyH_all (rs := [6]) (by kernel_rfl) (by simp) ?_
        intro i hi
        obtain rfl : i = 6 := by simpa using hi
        refine wpOp_intro rfl (fun K9 hK => ?_)
        clear hi
        go_simp
        refine (k7 _ (M.get 1 rfl) (M.get 0 rfl)).mono ?_
        rintro e V9_6 ⟨rfl, rr⟩
        have M' := M.up rr
        clear M rr 
        have M := M'; clear M'
        refine hK _ _ ⟨⟨M.box 4 rfl, M.box 3 rfl, M.box 2 rfl⟩, ?_⟩
        clear hK K9
        have hS0 : (fun W => BoxN W (w.heap.size) 25 #[.bool n1, .slice p1 l1.length q1] ∧ BoxN W (w.heap.size + 1) 25 #[.bool n2, .slice p2 l2.length q2] ∧ BoxN W (w.heap.size + 1 + 1) 25 #[.bool n3, .slice p3 l3.length q3]) _ := ⟨M.box 4 rfl, M.box 3 rfl, M.box 2 rfl⟩
        refine wpAnyH_take (i := 7) (oi := ⟨_, _, _, _, _, _⟩) (v := (.tuple #[(.agg #[.bool false, .slice none 0 0, .slice none 0 0]), .int .i64 10])) rfl (by kernel_rfl) (by kernel_rfl) (by kernel_rfl) (fun _ _ _ h => nomatch h.1) (Or.inl ⟨by rfl, fun W3 hS => by go_simp⟩) hS0 ?_
        try simp only [Act.put, List.setIfInBounds_toArray, List.set_cons_zero, List.set_cons_succ]
        refine wpAnyH_take (i := 8) (oi := ⟨_, _, _, _, _, _⟩) (v := (.agg #[.bool false, .slice none 0 0, .slice none 0 0])) rfl (by kernel_rfl) (by kernel_rfl) (by kernel_rfl) (fun _ _ _ h => nomatch h.1) (Or.inl ⟨by rfl, fun W3 hS => by go_simp⟩) hS0 ?_
        try simp only [Act.put, List.setIfInBounds_toArray, List.set_cons_zero, List.set_cons_succ]
        refine wpAnyH_take (i := 9) (oi := ⟨_, _, _, _, _, _⟩) (v := (.int .i64 10)) rfl (by kernel_rfl) (by kernel_rfl) (by kernel_rfl) (fun _ _ _ h => nomatch h.1) (Or.inl ⟨by rfl, fun W3 hS => by go_simp⟩) hS0 ?_
        try simp only [Act.put, List.setIfInBounds_toArray, List.set_cons_zero, List.set_cons_succ]
        clear hS0
        have f0_0 := M.fr 0 rfl 0; have f0_1 := M.fr 0 rfl 1; have f0_2 := M.fr 0 rfl 2
        have z0_0 := M.cell 0 rfl 0 rfl; have z0_1 := M.cell 0 rfl 1 rfl; have z0_2 := M.cell 0 rfl 2 rfl
        refine wpAnyH_all (rs := [11]) (by kernel_rfl) (by simp) ?_
        intro i hi
        obtain rfl : i = 11 := by simpa using hi
        refine wpOp_intro rfl (fun Ks10 hK => ?_)
        clear hi
        go_simp
        have M' := (((M.put 0 rfl rfl 0 (.bool false)).put 0 rfl rfl 1 (.slice none 0 0)).put 0 rfl rfl 2 (.slice none 0 0))
        clear M f0_0 z0_0 f0_1 z0_1 f0_2 z0_2
        have M : Mem w [(b9, 27, [.bool false, .slice none 0 0, .slice none 0 0]), (w5.heap.size, 27, [.bool sV, .slice aV LV.length eV, .slice uV DV.length fV]), (w.heap.size + 1 + 1, 25, [.bool n3, .slice p3 l3.length q3]), (w.heap.size + 1, 25, [.bool n2, .slice p2 l2.length q2]), (w.heap.size, 25, [.bool n1, .slice p1 l1.length q1])] [(.slice aB LB.length eB, LB), (.slice aA LA.length eA, LA), (.slice uV DV.length fV, DV), (.slice aV LV.length eV, LV), (.slice p3 l3.length q3, l3), (.slice p2 l2.length q2, l2), (.slice p1 l1.length q1, l1)] _ := M'
        clear M'
        refine hK _ _ ⟨⟨M.box 4 rfl, M.box 3 rfl, M.box 2 rfl⟩, ?_⟩
        clear hK Ks10
        have hS0 : (fun W => BoxN W (w.heap.size) 25 #[.bool n1, .slice p1 l1.length q1] ∧ BoxN W (w.heap.size + 1) 25 #[.bool n2, .slice p2 l2.length q2] ∧ BoxN W (w.heap.size + 1 + 1) 25 #[.bool n3, .slice p3 l3.length q3]) _ := ⟨M.box 4 rfl, M.box 3 rfl, M.box 2 rfl⟩
        refine wpAnyH_take (i := 12) (oi := ⟨_, _, _, _, _, _⟩) (v := (.int .i64 10)) rfl (by kernel_rfl) (by kernel_rfl) (by kernel_rfl) (fun _ _ _ h => nomatch h.1) (Or.inl ⟨by rfl, fun W3 hS => by go_simp⟩) hS0 ?_
        try simp only [Act.put, List.setIfInBounds_toArray, List.set_cons_zero, List.set_cons_succ]
        clear hS0
        refine wpAnyH_done (by kernel_rfl) ?_ _
        exact ⟨rfl, b9, aA, eA, aB, eB, rfl, M⟩
    · refine wpOp_intro rfl (fun K1 hK => ?_)
      go_simp
      obtain ⟨b9, V1_10, hV, hb, M'⟩ := M.fresh 27 [.bool false, .slice none 0 0, .slice none 0 0]
      rw [← hV, ← hb]
      clear M hV hb; have M := M'; clear M'
      refine hK _ _ ⟨⟨M.box 4 rfl, M.box 3 rfl, M.box 2 rfl⟩, ?_⟩
      clear hK K1
      refine wpAnyH_all (rs := [2]) (by kernel_rfl) (by simp) ?_
      intro i hi
      obtain rfl : i = 2 := by simpa using hi
      refine wpOp_intro rfl (fun K11 hK => ?_)
      clear hi
      go_simp
      refine (k5 _ (M.get 4 rfl) (M.get 2 rfl)).mono ?_
      rintro e V11_2 ⟨aA, eA, rfl, g, rr⟩
      have M' := (M.up rr).add g
      clear M rr g
      have M := M'; clear M'
      refine hK _ _ ⟨⟨M.box 4 rfl, M.box 3 rfl, M.box 2 rfl⟩, ?_⟩
      clear hK K11
      refine wpAnyH_all (rs := [5]) (by kernel_rfl) (by simp) ?_
      intro i hi
      obtain rfl : i = 5 := by simpa using hi
      refine wpOp_intro rfl (fun K12 hK => ?_)
      clear hi
      go_simp
      refine (k6 _ (M.get 4 rfl) (M.get 3 rfl)).mono ?_
      rintro e V12_5 ⟨aB, eB, rfl, g, rr⟩
      have M' := (M.up rr).add g
      clear M rr g
      have M := M'; clear M'
      refine hK _ _ ⟨⟨M.box 4 rfl, M.box 3 rfl, M.box 2 rfl⟩, ?_⟩
      clear hK K12
      refine wpAnyH_all (rs := [6]) (by kernel_rfl) (by simp) ?_
      intro i hi
      obtain rfl : i = 6 := by simpa using hi
      refine wpOp_intro rfl (fun K13 hK => ?_)
      clear hi
      go_simp
      refine (k7 _ (M.get 1 rfl) (M.get 0 rfl)).mono ?_
      rintro e V13_6 ⟨rfl, rr⟩
      have M' := M.up rr
      clear M rr 
      have M := M'; clear M'
      refine hK _ _ ⟨⟨M.box 4 rfl, M.box 3 rfl, M.box 2 rfl⟩, ?_⟩
      clear hK K13
      have hS0 : (fun W => BoxN W (w.heap.size) 25 #[.bool n1, .slice p1 l1.length q1] ∧ BoxN W (w.heap.size + 1) 25 #[.bool n2, .slice p2 l2.length q2] ∧ BoxN W (w.heap.size + 1 + 1) 25 #[.bool n3, .slice p3 l3.length q3]) _ := ⟨M.box 4 rfl, M.box 3 rfl, M.box 2 rfl⟩
      refine wpAnyH_take (i := 7) (oi := ⟨_, _, _, _, _, _⟩) (v := (.tuple #[(.agg #[.bool false, .slice none 0 0, .slice none 0 0]), .int .i64 10])) rfl (by kernel_rfl) (by kernel_rfl) (by kernel_rfl) (fun _ _ _ h => nomatch h.1) (Or.inl ⟨by rfl, fun W3 hS => by go_simp⟩) hS0 ?_
      try simp only [Act.put, List.setIfInBounds_toArray, List.set_cons_zero, List.set_cons_succ]
      refine wpAnyH_take (i := 8) (oi := ⟨_, _, _, _, _, _⟩) (v := (.agg #[.bool false, .slice none 0 0, .slice none 0 0])) rfl (by kernel_rfl) (by kernel_rfl) (by kernel_rfl) (fun _ _ _ h => nomatch h.1) (Or.inl ⟨by rfl, fun W3 hS => by go_simp⟩) hS0 ?_
      try simp only [Act.put, List.setIfInBounds_toArray, List.set_cons_zero, List.set_cons_succ]
      refine wpAnyH_take (i := 9) (oi := ⟨_, _, _, _, _, _⟩) (v := (.int .i64 10)) rfl (by kernel_rfl) (by kernel_rfl) (by kernel_rfl) (fun _ _ _ h => nomatch h.1) (Or.inl ⟨by rfl, fun W3 hS => by go_simp⟩) hS0 ?_
      try simp only [Act.put, List.setIfInBounds_toArray, List.set_cons_zero, List.set_cons_succ]
      clear hS0
      have f0_0 := M.fr 0 rfl 0; have f0_1 := M.fr 0 rfl 1; have f0_2 := M.fr 0 rfl 2
      have z0_0 := M.cell 0 rfl 0 rfl; have z0_1 := M.cell 0 rfl 1 rfl; have z0_2 := M.cell 0 rfl 2 rfl
      refine wpAnyH_all (rs := [11]) (by kernel_rfl) (by simp) ?_
      intro i hi
      obtain rfl : i = 11 := by simpa using hi
      refine wpOp_intro rfl (fun Ks14 hK => ?_)
      clear hi
      go_simp
      have M' := (((M.put 0 rfl rfl 0 (.bool false)).put 0 rfl rfl 1 (.slice none 0 0)).put 0 rfl rfl 2 (.slice none 0 0))
      clear M f0_0 z0_0 f0_1 z0_1 f0_2 z0_2
      have M : Mem w [(b9, 27, [.bool false, .slice none 0 0, .slice none 0 0]), (w5.heap.size, 27, [.bool sV, .slice aV LV.length eV, .slice uV DV.length fV]), (w.heap.size + 1 + 1, 25, [.bool n3, .slice p3 l3.length q3]), (w.heap.size + 1, 25, [.bool n2, .slice p2 l2.length q2]), (w.heap.size, 25, [.bool n1, .slice p1 l1.length q1])] [(.slice aB LB.length eB, LB), (.slice aA LA.length eA, LA), (.slice uV DV.length fV, DV), (.slice aV LV.length eV, LV), (.slice p3 l3.length q3, l3), (.slice p2 l2.length q2, l2), (.slice p1 l1.length q1, l1)] _ := M'
      clear M'
      refine hK _ _ ⟨⟨M.box 4 rfl, M.box 3 rfl, M.box 2 rfl⟩, ?_⟩
      clear hK Ks14
      have hS0 : (fun W => BoxN W (w.heap.size) 25 #[.bool n1, .slice p1 l1.length q1] ∧ BoxN W (w.heap.size + 1) 25 #[.bool n2, .slice p2 l2.length q2] ∧ BoxN W (w.heap.size + 1 + 1) 25 #[.bool n3, .slice p3 l3.length q3]) _ := ⟨M.box 4 rfl, M.box 3 rfl, M.box 2 rfl⟩
      refine wpAnyH_take (i := 12) (oi := ⟨_, _, _, _, _, _⟩) (v := (.int .i64 10)) rfl (by kernel_rfl) (by kernel_rfl) (by kernel_rfl) (fun _ _ _ h => nomatch h.1) (Or.inl ⟨by rfl, fun W3 hS => by go_simp⟩) hS0 ?_
      try simp only [Act.put, List.setIfInBounds_toArray, List.set_cons_zero, List.set_cons_succ]
      clear hS0
      refine wpAnyH_done (by kernel_rfl) ?_ _
      exact ⟨rfl, b9, aA, eA, aB, eB, rfl, M⟩
  intro b9 aA eA aB eB V M
  have z5_3_0 := M.cell 3 rfl 0 rfl; have z5_3_1 := M.cell 3 rfl 1 rfl
  go_wp2_with (first
    | (go_at_call 27; with_reducible refine (k8 _ (M.get 5 rfl)).mono ?_; rintro e w6 ⟨rfl, rr⟩; have M' := M.up rr; clear M rr ; have M := M'; clear M'; clear z5_3_0 z5_3_1))
  apply region_cut_nsss (Fact := (fun b11 aO eO aD eD uD fD W => Mem w [(b11, 27, [.bool sD, .slice aD LD.length eD, .slice uD DD.length fD]), (b9, 27, [.bool false, .slice none 0 0, .slice none 0 0]), (w5.heap.size, 27, [.bool sV, .slice aV LV.length eV, .slice uV DV.length fV]), (w.heap.size + 1 + 1, 25, [.bool n3, .slice p3 l3.length q3]), (w.heap.size + 1, 25, [.bool n2, .slice p2 l2.length q2]), (w.heap.size, 25, [.bool n1, .slice p1 l1.length q1])] [(.slice uD DD.length fD, DD), (.slice aD LD.length eD, LD), (.slice aO LO.length eO, LO), (.slice aB LB.length eB, LB), (.slice aA LA.length eA, LA), (.slice uV DV.length fV, DV), (.slice aV LV.length eV, LV), (.slice p3 l3.length q3, l3), (.slice p2 l2.length q2, l2), (.slice p1 l1.length q1, l1)] W))
  case first =>
    refine region_mem (S := (fun W => BoxN W (w.heap.size + 1) 25 #[.bool n2, .slice p2 l2.length q2])) M (by kernel_rfl) ?_
    intro V0 M
    have hS0 : (fun W => BoxN W (w.heap.size + 1) 25 #[.bool n2, .slice p2 l2.length q2]) V0 := M.box 3 rfl
    refine wpAnyH_take (i := 0) (oi := ⟨_, _, _, _, _, _⟩) (v := (.agg #[.bool n2, .slice p2 l2.length q2])) rfl (by kernel_rfl) (by kernel_rfl) (by kernel_rfl) (fun _ _ _ h => nomatch h.1) (Or.inl ⟨by rfl, fun W3 hS => by have hS1 := hS; have c1_0 := hS1.cell 0 _ rfl; have c1_1 := hS1.cell 1 _ rfl; go_simp⟩) hS0 ?_
    try simp only [Act.put, List.setIfInBounds_toArray, List.set_cons_zero, List.set_cons_succ]
    clear hS0
    refine wpAnyH_all (rs := [1, 6]) (by kernel_rfl) (by simp) ?_
    intro i hi
    have hi2 : i = 1 ∨ i = 6 := by simpa using hi
    clear hi
    rcases hi2 with rfl | rfl
    · refine wpOp_intro rfl (fun K1 hK => ?_)
      go_simp
      refine (k9 _).mono ?_
      rintro e V1_1 ⟨aO, eO, rfl, g, rr⟩
      have M' := (M.up rr).add g
      clear M rr g
      have M := M'; clear M'
      refine hK _ _ ⟨M.box 3 rfl, ?_⟩
      clear hK K1
      refine wpAnyH_all (rs := [2, 6]) (by kernel_rfl) (by simp) ?_
      intro i hi
      have hi2 : i = 2 ∨ i = 6 := by simpa using hi
      clear hi
      rcases hi2 with rfl | rfl
      · refine wpOp_intro rfl (fun K2 hK => ?_)
        go_simp
        refine (k10 _ (M.get 6 rfl) (M.get 0 rfl)).mono ?_
        rintro e V2_2 ⟨aD, eD, uD, fD, rfl, g, g', rr⟩
        have M' := ((M.up rr).add g).add g'
        clear M rr g g'
        have M := M'; clear M'
        refine hK _ _ ⟨M.box 3 rfl, ?_⟩
        clear hK K2
        have hS0 : (fun W => BoxN W (w.heap.size + 1) 25 #[.bool n2, .slice p2 l2.length q2]) _ := M.box 3 rfl
        refine wpAnyH_take (i := 3) (oi := ⟨_, _, _, _, _, _⟩) (v := (.tuple #[.agg #[.bool sD, .slice aD LD.length eD, .slice uD DD.length fD], .int .i64 0])) rfl (by kernel_rfl) (by kernel_rfl) (by kernel_rfl) (fun _ _ _ h => nomatch h.1) (Or.inl ⟨by rfl, fun W3 hS => by go_simp⟩) hS0 ?_
        try simp only [Act.put, List.setIfInBounds_toArray, List.set_cons_zero, List.set_cons_succ]
        refine wpAnyH_take (i := 4) (oi := ⟨_, _, _, _, _, _⟩) (v := (.agg #[.bool sD, .slice aD LD.length eD, .slice uD DD.length fD])) rfl (by kernel_rfl) (by kernel_rfl) (by kernel_rfl) (fun _ _ _ h => nomatch h.1) (Or.inl ⟨by rfl, fun W3 hS => by go_simp⟩) hS0 ?_
        try simp only [Act.put, List.setIfInBounds_toArray, List.set_cons_zero, List.set_cons_succ]
        refine wpAnyH_take (i := 5) (oi := ⟨_, _, _, _, _, _⟩) (v := (.int .i64 0)) rfl (by kernel_rfl) (by kernel_rfl) (by kernel_rfl) (fun _ _ _ h => nomatch h.1) (Or.inl ⟨by rfl, fun W3 hS => by go_simp⟩) hS0 ?_
        try simp only [Act.put, List.setIfInBounds_toArray, List.set_cons_zero, List.set_cons_succ]
        clear hS0
        refine wpAnyH_all (rs := [6]) (by kernel_rfl) (by simp) ?_
        intro i hi
        obtain rfl : i = 6 := by simpa using hi
        refine wpOp_intro rfl (fun K3 hK => ?_)
        clear hi
        go_simp
        obtain ⟨b11, V3_6, hV, hb, M'⟩ := M.fresh 27 [.bool false, .slice none 0 0, .slice none 0 0]
        rw [← hV, ← hb]
        clear M hV hb; have M := M'; clear M'
        refine hK _ _ ⟨M.box 4 rfl, ?_⟩
        clear hK K3
        have f0_0 := M.fr 0 rfl 0; have f0_1 := M.fr 0 rfl 1; have f0_2 := M.fr 0 rfl 2
        have z0_0 := M.cell 0 rfl 0 rfl; have z0_1 := M.cell 0 rfl 1 rfl; have z0_2 := M.cell 0 rfl 2 rfl
        refine wpAnyH_all (rs := [7]) (by kernel_rfl) (by simp) ?_
        intro i hi
        obtain rfl : i = 7 := by simpa using hi
        refine wpOp_intro rfl (fun Ks4 hK => ?_)
        clear hi
        go_simp
        have M' := (((M.put 0 rfl rfl 0 (.bool sD)).put 0 rfl rfl 1 (.slice aD LD.length eD)).put 0 rfl rfl 2 (.slice uD DD.length fD))
        clear M f0_0 z0_0 f0_1 z0_1 f0_2 z0_2
        have M : Mem w [(b11, 27, [.bool sD, .slice aD LD.length eD, .slice uD DD.length fD]), (b9, 27, [.bool false, .slice none 0 0, .slice none 0 0]), (w5.heap.size, 27, [.bool sV, .slice aV LV.length eV, .slice uV DV.length fV]), (w.heap.size + 1 + 1, 25, [.bool n3, .slice p3 l3.length q3]), (w.heap.size + 1, 25, [.bool n2, .slice p2 l2.length q2]), (w.heap.size, 25, [.bool n1, .slice p1 l1.length q1])] [(.slice uD DD.length fD, DD), (.slice aD LD.length eD, LD), (.slice aO LO.length eO, LO), (.slice aB LB.length eB, LB), (.slice aA LA.length eA, LA), (.slice uV DV.length fV, DV), (.slice aV LV.length eV, LV), (.slice p3 l3.length q3, l3), (.slice p2 l2.length q2, l2), (.slice p1 l1.length q1, l1)] _ := M'
        clear M'
        refine hK _ _ ⟨M.box 4 rfl, ?_⟩
        clear hK Ks4
        have hS0 : (fun W => BoxN W (w.heap.size + 1) 25 #[.bool n2, .slice p2 l2.length q2]) _ := M.box 4 rfl
        refine wpAnyH_take (i := 8) (oi := ⟨_, _, _, _, _, _⟩) (v := (.int .i64 0)) rfl (by kernel_rfl) (by kernel_rfl) (by kernel_rfl) (fun _ _ _ h => nomatch h.1) (Or.inl ⟨by rfl, fun W3 hS => by go_simp⟩) hS0 ?_
        try simp only [Act.put, List.setIfInBounds_toArray, List.set_cons_zero, List.set_cons_succ]
        clear hS0
        refine wpAnyH_done (by kernel_rfl) ?_ _
        exact ⟨rfl, b11, aO, eO, aD, eD, uD, fD, rfl, M⟩
      · refine wpOp_intro rfl (fun K2 hK => ?_)
        go_simp
        obtain ⟨b11, V2_6, hV, hb, M'⟩ := M.fresh 27 [.bool false, .slice none 0 0, .slice none 0 0]
        rw [← hV, ← hb]
        clear M hV hb; have M := M'; clear M'
        refine hK _ _ ⟨M.box 4 rfl, ?_⟩
        clear hK K2
        refine wpAnyH_all (rs := [2]) (by kernel_rfl) (by simp) ?_
        intro i hi
        obtain rfl : i = 2 := by simpa using hi
        refine wpOp_intro rfl (fun K5 hK => ?_)
        clear hi
        go_simp
        refine (k10 _ (M.get 6 rfl) (M.get 0 rfl)).mono ?_
        rintro e V5_2 ⟨aD, eD, uD, fD, rfl, g, g', rr⟩
        have M' := ((M.up rr).add g).add g'
        clear M rr g g'
        have M := M'; clear M'
        refine hK _ _ ⟨M.box 4 rfl, ?_⟩
        clear hK K5
        have hS0 : (fun W => BoxN W (w.heap.size + 1) 25 #[.bool n2, .slice p2 l2.length q2]) _ := M.box 4 rfl
        refine wpAnyH_take (i := 3) (oi := ⟨_, _, _, _, _, _⟩) (v := (.tuple #[.agg #[.bool sD, .slice aD LD.length eD, .slice uD DD.length fD], .int .i64 0])) rfl (by kernel_rfl) (by kernel_rfl) (by kernel_rfl) (fun _ _ _ h => nomatch h.1) (Or.inl ⟨by rfl, fun W3 hS => by go_simp⟩) hS0 ?_
        try simp only [Act.put, List.setIfInBounds_toArray, List.set_cons_zero, List.set_cons_succ]
        refine wpAnyH_take (i := 4) (oi := ⟨_, _, _, _, _, _⟩) (v := (.agg #[.bool sD, .slice aD LD.length eD, .slice uD DD.length fD])) rfl (by kernel_rfl) (by kernel_rfl) (by kernel_rfl) (fun _ _ _ h => nomatch h.1) (Or.inl ⟨by rfl, fun W3 hS => by go_simp⟩) hS0 ?_
        try simp only [Act.put, List.setIfInBounds_toArray, List.set_cons_zero, List.set_cons_succ]
        refine wpAnyH_take (i := 5) (oi := ⟨_, _, _, _, _, _⟩) (v := (.int .i64 0)) rfl (by kernel_rfl) (by kernel_rfl) (by kernel_rfl) (fun _ _ _ h => nomatch h.1) (Or.inl ⟨by rfl, fun W3 hS => by go_simp⟩) hS0 ?_
        try simp only [Act.put, List.setIfInBounds_toArray, List.set_cons_zero, List.set_cons_succ]
        clear hS0
        have f0_0 := M.fr 0 rfl 0; have f0_1 := M.fr 0 rfl 1; have f0_2 := M.fr 0 rfl 2
        have z0_0 := M.cell 0 rfl 0 rfl; have z0_1 := M.cell 0 rfl 1 rfl; have z0_2 := M.cell 0 rfl 2 rfl
        refine wpAnyH_all (rs := [7]) (by kernel_rfl) (by simp) ?_
        intro i hi
        obtain rfl : i = 7 := by simpa using hi
        refine wpOp_intro rfl (fun Ks6 hK => ?_)
        clear hi
        go_simp
        have M' := (((M.put 0 rfl rfl 0 (.bool sD)).put 0 rfl rfl 1 (.slice aD LD.length eD)).put 0 rfl rfl 2 (.slice uD DD.length fD))
        clear M f0_0 z0_0 f0_1 z0_1 f0_2 z0_2
        have M : Mem w [(b11, 27, [.bool sD, .slice aD LD.length eD, .slice uD DD.length fD]), (b9, 27, [.bool false, .slice none 0 0, .slice none 0 0]), (w5.heap.size, 27, [.bool sV, .slice aV LV.length eV, .slice uV DV.length fV]), (w.heap.size + 1 + 1, 25, [.bool n3, .slice p3 l3.length q3]), (w.heap.size + 1, 25, [.bool n2, .slice p2 l2.length q2]), (w.heap.size, 25, [.bool n1, .slice p1 l1.length q1])] [(.slice uD DD.length fD, DD), (.slice aD LD.length eD, LD), (.slice aO LO.length eO, LO), (.slice aB LB.length eB, LB), (.slice aA LA.length eA, LA), (.slice uV DV.length fV, DV), (.slice aV LV.length eV, LV), (.slice p3 l3.length q3, l3), (.slice p2 l2.length q2, l2), (.slice p1 l1.length q1, l1)] _ := M'
        clear M'
        refine hK _ _ ⟨M.box 4 rfl, ?_⟩
        clear hK Ks6
        have hS0 : (fun W => BoxN W (w.heap.size + 1) 25 #[.bool n2, .slice p2 l2.length q2]) _ := M.box 4 rfl
        refine wpAnyH_take (i := 8) (oi := ⟨_, _, _, _, _, _⟩) (v := (.int .i64 0)) rfl (by kernel_rfl) (by kernel_rfl) (by kernel_rfl) (fun _ _ _ h => nomatch h.1) (Or.inl ⟨by rfl, fun W3 hS => by go_simp⟩) hS0 ?_
        try simp only [Act.put, List.setIfInBounds_toArray, List.set_cons_zero, List.set_cons_succ]
        clear hS0
        refine wpAnyH_done (by kernel_rfl) ?_ _
        exact ⟨rfl, b11, aO, eO, aD, eD, uD, fD, rfl, M⟩
    · refine wpOp_intro rfl (fun K1 hK => ?_)
      go_simp
      obtain ⟨b11, V1_6, hV, hb, M'⟩ := M.fresh 27 [.bool false, .slice none 0 0, .slice none 0 0]
      rw [← hV, ← hb]
      clear M hV hb; have M := M'; clear M'
      refine hK _ _ ⟨M.box 4 rfl, ?_⟩
      clear hK K1
      refine wpAnyH_all (rs := [1]) (by kernel_rfl) (by simp) ?_
      intro i hi
      obtain rfl : i = 1 := by simpa using hi
      refine wpOp_intro rfl (fun K7 hK => ?_)
      clear hi
      go_simp
      refine (k9 _).mono ?_
      rintro e V7_1 ⟨aO, eO, rfl, g, rr⟩
      have M' := (M.up rr).add g
      clear M rr g
      have M := M'; clear M'
      refine hK _ _ ⟨M.box 4 rfl, ?_⟩
      clear hK K7
      refine wpAnyH_all (rs := [2]) (by kernel_rfl) (by simp) ?_
      intro i hi
      obtain rfl : i = 2 := by simpa using hi
      refine wpOp_intro rfl (fun K8 hK => ?_)
      clear hi
      go_simp
      refine (k10 _ (M.get 6 rfl) (M.get 0 rfl)).mono ?_
      rintro e V8_2 ⟨aD, eD, uD, fD, rfl, g, g', rr⟩
      have M' := ((M.up rr).add g).add g'
      clear M rr g g'
      have M := M'; clear M'
      refine hK _ _ ⟨M.box 4 rfl, ?_⟩
      clear hK K8
      have hS0 : (fun W => BoxN W (w.heap.size + 1) 25 #[.bool n2, .slice p2 l2.length q2]) _ := M.box 4 rfl
      refine wpAnyH_take (i := 3) (oi := ⟨_, _, _, _, _, _⟩) (v := (.tuple #[.agg #[.bool sD, .slice aD LD.length eD, .slice uD DD.length fD], .int .i64 0])) rfl (by kernel_rfl) (by kernel_rfl) (by kernel_rfl) (fun _ _ _ h => nomatch h.1) (Or.inl ⟨by rfl, fun W3 hS => by go_simp⟩) hS0 ?_
      try simp only [Act.put, List.setIfInBounds_toArray, List.set_cons_zero, List.set_cons_succ]
      refine wpAnyH_take (i := 4) (oi := ⟨_, _, _, _, _, _⟩) (v := (.agg #[.bool sD, .slice aD LD.length eD, .slice uD DD.length fD])) rfl (by kernel_rfl) (by kernel_rfl) (by kernel_rfl) (fun _ _ _ h => nomatch h.1) (Or.inl ⟨by rfl, fun W3 hS => by go_simp⟩) hS0 ?_
      try simp only [Act.put, List.setIfInBounds_toArray, List.set_cons_zero, List.set_cons_succ]
      refine wpAnyH_take (i := 5) (oi := ⟨_, _, _, _, _, _⟩) (v := (.int .i64 0)) rfl (by kernel_rfl) (by kernel_rfl) (by kernel_rfl) (fun _ _ _ h => nomatch h.1) (Or.inl ⟨by rfl, fun W3 hS => by go_simp⟩) hS0 ?_
      try simp only [Act.put, List.setIfInBounds_toArray, List.set_cons_zero, List.set_cons_succ]
      clear hS0
      have f0_0 := M.fr 0 rfl 0; have f0_1 := M.fr 0 rfl 1; have f0_2 := M.fr 0 rfl 2
      have z0_0 := M.cell 0 rfl 0 rfl; have z0_1 := M.cell 0 rfl 1 rfl; have z0_2 := M.cell 0 rfl 2 rfl
      refine wpAnyH_all (rs := [7]) (by kernel_rfl) (by simp) ?_
      intro i hi
      obtain rfl : i = 7 := by simpa using hi
      refine wpOp_intro rfl (fun Ks9 hK => ?_)
      clear hi
      go_simp
      have M' := (((M.put 0 rfl rfl 0 (.bool sD)).put 0 rfl rfl 1 (.slice aD LD.length eD)).put 0 rfl rfl 2 (.slice uD DD.length fD))
      clear M f0_0 z0_0 f0_1 z0_1 f0_2 z0_2
      have M : Mem w [(b11, 27, [.bool sD, .slice aD LD.length eD, .slice uD DD.length fD]), (b9, 27, [.bool false, .slice none 0 0, .slice none 0 0]), (w5.heap.size, 27, [.bool sV, .slice aV LV.length eV, .slice uV DV.length fV]), (w.heap.size + 1 + 1, 25, [.bool n3, .slice p3 l3.length q3]), (w.heap.size + 1, 25, [.bool n2, .slice p2 l2.length q2]), (w.heap.size, 25, [.bool n1, .slice p1 l1.length q1])] [(.slice uD DD.length fD, DD), (.slice aD LD.length eD, LD), (.slice aO LO.length eO, LO), (.slice aB LB.length eB, LB), (.slice aA LA.length eA, LA), (.slice uV DV.length fV, DV), (.slice aV LV.length eV, LV), (.slice p3 l3.length q3, l3), (.slice p2 l2.length q2, l2), (.slice p1 l1.length q1, l1)] _ := M'
      clear M'
      refine hK _ _ ⟨M.box 4 rfl, ?_⟩
      clear hK Ks9
      have hS0 : (fun W => BoxN W (w.heap.size + 1) 25 #[.bool n2, .slice p2 l2.length q2]) _ := M.box 4 rfl
      refine wpAnyH_take (i := 8) (oi := ⟨_, _, _, _, _, _⟩) (v := (.int .i64 0)) rfl (by kernel_rfl) (by kernel_rfl) (by kernel_rfl) (fun _ _ _ h => nomatch h.1) (Or.inl ⟨by rfl, fun W3 hS => by go_simp⟩) hS0 ?_
      try simp only [Act.put, List.setIfInBounds_toArray, List.set_cons_zero, List.set_cons_succ]
      clear hS0
      refine wpAnyH_done (by kernel_rfl) ?_ _
      exact ⟨rfl, b11, aO, eO, aD, eD, uD, fD, rfl, M⟩
  intro b11 aO eO aD eD uD fD V M
  go_wp2
  apply region_cut_nsss (Fact := (fun b13 aW eW aE eE uE fE W => Mem w [(b13, 27, [.bool sE, .slice aE LE.length eE, .slice uE DE.length fE]), (b11, 27, [.bool sD, .slice aD LD.length eD, .slice uD DD.length fD]), (b9, 27, [.bool false, .slice none 0 0, .slice none 0 0]), (w5.heap.size, 27, [.bool sV, .slice aV LV.length eV, .slice uV DV.length fV]), (w.heap.size + 1 + 1, 25, [.bool n3, .slice p3 l3.length q3]), (w.heap.size + 1, 25, [.bool n2, .slice p2 l2.length q2]), (w.heap.size, 25, [.bool n1, .slice p1 l1.length q1])] [(.slice uE DE.length fE, DE), (.slice aE LE.length eE, LE), (.slice aW LW.length eW, LW), (.slice uD DD.length fD, DD), (.slice aD LD.length eD, LD), (.slice aO LO.length eO, LO), (.slice aB LB.length eB, LB), (.slice aA LA.length eA, LA), (.slice uV DV.length fV, DV), (.slice aV LV.length eV, LV), (.slice p3 l3.length q3, l3), (.slice p2 l2.length q2, l2), (.slice p1 l1.length q1, l1)] W))
  case first =>
    refine region_mem (S := (fun W => BoxN W (w.heap.size) 25 #[.bool n1, .slice p1 l1.length q1])) M (by kernel_rfl) ?_
    intro V0 M
    have hS0 : (fun W => BoxN W (w.heap.size) 25 #[.bool n1, .slice p1 l1.length q1]) V0 := M.box 5 rfl
    refine wpAnyH_take (i := 0) (oi := ⟨_, _, _, _, _, _⟩) (v := (.agg #[.bool n1, .slice p1 l1.length q1])) rfl (by kernel_rfl) (by kernel_rfl) (by kernel_rfl) (fun _ _ _ h => nomatch h.1) (Or.inl ⟨by rfl, fun W3 hS => by have hS1 := hS; have c1_0 := hS1.cell 0 _ rfl; have c1_1 := hS1.cell 1 _ rfl; go_simp⟩) hS0 ?_
    try simp only [Act.put, List.setIfInBounds_toArray, List.set_cons_zero, List.set_cons_succ]
    clear hS0
    refine wpAnyH_all (rs := [1, 6]) (by kernel_rfl) (by simp) ?_
    intro i hi
    have hi2 : i = 1 ∨ i = 6 := by simpa using hi
    clear hi
    rcases hi2 with rfl | rfl
    · refine wpOp_intro rfl (fun K1 hK => ?_)
      go_simp
      refine (k11 _).mono ?_
      rintro e V1_1 ⟨aW, eW, rfl, g, rr⟩
      have M' := (M.up rr).add g
      clear M rr g
      have M := M'; clear M'
      refine hK _ _ ⟨M.box 5 rfl, ?_⟩
      clear hK K1
      refine wpAnyH_all (rs := [2, 6]) (by kernel_rfl) (by simp) ?_
      intro i hi
      have hi2 : i = 2 ∨ i = 6 := by simpa using hi
      clear hi
      rcases hi2 with rfl | rfl
      · refine wpOp_intro rfl (fun K2 hK => ?_)
        go_simp
        refine (k12 _ (M.get 10 rfl) (M.get 0 rfl)).mono ?_
        rintro e V2_2 ⟨aE, eE, uE, fE, rfl, g, g', rr⟩
        have M' := ((M.up rr).add g).add g'
        clear M rr g g'
        have M := M'; clear M'
        refine hK _ _ ⟨M.box 5 rfl, ?_⟩
        clear hK K2
        have hS0 : (fun W => BoxN W (w.heap.size) 25 #[.bool n1, .slice p1 l1.length q1]) _ := M.box 5 rfl
        refine wpAnyH_take (i := 3) (oi := ⟨_, _, _, _, _, _⟩) (v := (.tuple #[.agg #[.bool sE, .slice aE LE.length eE, .slice uE DE.length fE], .int .i64 0])) rfl (by kernel_rfl) (by kernel_rfl) (by kernel_rfl) (fun _ _ _ h => nomatch h.1) (Or.inl ⟨by rfl, fun W3 hS => by go_simp⟩) hS0 ?_
        try simp only [Act.put, List.setIfInBounds_toArray, List.set_cons_zero, List.set_cons_succ]
        refine wpAnyH_take (i := 4) (oi := ⟨_, _, _, _, _, _⟩) (v := (.agg #[.bool sE, .slice aE LE.length eE, .slice uE DE.length fE])) rfl (by kernel_rfl) (by kernel_rfl) (by kernel_rfl) (fun _ _ _ h => nomatch h.1) (Or.inl ⟨by rfl, fun W3 hS => by go_simp⟩) hS0 ?_
        try simp only [Act.put, List.setIfInBounds_toArray, List.set_cons_zero, List.set_cons_succ]
        refine wpAnyH_take (i := 5) (oi := ⟨_, _, _, _, _, _⟩) (v := (.int .i64 0)) rfl (by kernel_rfl) (by kernel_rfl) (by kernel_rfl) (fun _ _ _ h => nomatch h.1) (Or.inl ⟨by rfl, fun W3 hS => by go_simp⟩) hS0 ?_
        try simp only [Act.put, List.setIfInBounds_toArray, List.set_cons_zero, List.set_cons_succ]
        clear hS0
        refine wpAnyH_all (rs := [6]) (by kernel_rfl) (by simp) ?_
        intro i hi
        obtain rfl : i = 6 := by simpa using hi
        refine wpOp_intro rfl (fun K3 hK => ?_)
        clear hi
        go_simp
        obtain ⟨b13, V3_6, hV, hb, M'⟩ := M.fresh 27 [.bool false, .slice none 0 0, .slice none 0 0]
        rw [← hV, ← hb]
        clear M hV hb; have M := M'; clear M'
        refine hK _ _ ⟨M.box 6 rfl, ?_⟩
        clear hK K3
        have f0_0 := M.fr 0 rfl 0; have f0_1 := M.fr 0 rfl 1; have f0_2 := M.fr 0 rfl 2
        have z0_0 := M.cell 0 rfl 0 rfl; have z0_1 := M.cell 0 rfl 1 rfl; have z0_2 := M.cell 0 rfl 2 rfl
        refine wpAnyH_all (rs := [7]) (by kernel_rfl) (by simp) ?_
        intro i hi
        obtain rfl : i = 7 := by simpa using hi
        refine wpOp_intro rfl (fun Ks4 hK => ?_)
        clear hi
        go_simp
        have M' := (((M.put 0 rfl rfl 0 (.bool sE)).put 0 rfl rfl 1 (.slice aE LE.length eE)).put 0 rfl rfl 2 (.slice uE DE.length fE))
        clear M f0_0 z0_0 f0_1 z0_1 f0_2 z0_2
        have M : Mem w [(b13, 27, [.bool sE, .slice aE LE.length eE, .slice uE DE.length fE]), (b11, 27, [.bool sD, .slice aD LD.length eD, .slice uD DD.length fD]), (b9, 27, [.bool false, .slice none 0 0, .slice none 0 0]), (w5.heap.size, 27, [.bool sV, .slice aV LV.length eV, .slice uV DV.length fV]), (w.heap.size + 1 + 1, 25, [.bool n3, .slice p3 l3.length q3]), (w.heap.size + 1, 25, [.bool n2, .slice p2 l2.length q2]), (w.heap.size, 25, [.bool n1, .slice p1 l1.length q1])] [(.slice uE DE.length fE, DE), (.slice aE LE.length eE, LE), (.slice aW LW.length eW, LW), (.slice uD DD.length fD, DD), (.slice aD LD.length eD, LD), (.slice aO LO.length eO, LO), (.slice aB LB.length eB, LB), (.slice aA LA.length eA, LA), (.slice uV DV.length fV, DV), (.slice aV LV.length eV, LV), (.slice p3 l3.length q3, l3), (.slice p2 l2.length q2, l2), (.slice p1 l1.length q1, l1)] _ := M'
        clear M'
        refine hK _ _ ⟨M.box 6 rfl, ?_⟩
        clear hK Ks4
        have hS0 : (fun W => BoxN W (w.heap.size) 25 #[.bool n1, .slice p1 l1.length q1]) _ := M.box 6 rfl
        refine wpAnyH_take (i := 8) (oi := ⟨_, _, _, _, _, _⟩) (v := (.int .i64 0)) rfl (by kernel_rfl) (by kernel_rfl) (by kernel_rfl) (fun _ _ _ h => nomatch h.1) (Or.inl ⟨by rfl, fun W3 hS => by go_simp⟩) hS0 ?_
        try simp only [Act.put, List.setIfInBounds_toArray, List.set_cons_zero, List.set_cons_succ]
        clear hS0
        refine wpAnyH_done (by kernel_rfl) ?_ _
        exact ⟨rfl, b13, aW, eW, aE, eE, uE, fE, rfl, M⟩
      · refine wpOp_intro rfl (fun K2 hK => ?_)
        go_simp
        obtain ⟨b13, V2_6, hV, hb, M'⟩ := M.fresh 27 [.bool false, .slice none 0 0, .slice none 0 0]
        rw [← hV, ← hb]
        clear M hV hb; have M := M'; clear M'
        refine hK _ _ ⟨M.box 6 rfl, ?_⟩
        clear hK K2
        refine wpAnyH_all (rs := [2]) (by kernel_rfl) (by simp) ?_
        intro i hi
        obtain rfl : i = 2 := by simpa using hi
        refine wpOp_intro rfl (fun K5 hK => ?_)
        clear hi
        go_simp
        refine (k12 _ (M.get 10 rfl) (M.get 0 rfl)).mono ?_
        rintro e V5_2 ⟨aE, eE, uE, fE, rfl, g, g', rr⟩
        have M' := ((M.up rr).add g).add g'
        clear M rr g g'
        have M := M'; clear M'
        refine hK _ _ ⟨M.box 6 rfl, ?_⟩
        clear hK K5
        have hS0 : (fun W => BoxN W (w.heap.size) 25 #[.bool n1, .slice p1 l1.length q1]) _ := M.box 6 rfl
        refine wpAnyH_take (i := 3) (oi := ⟨_, _, _, _, _, _⟩) (v := (.tuple #[.agg #[.bool sE, .slice aE LE.length eE, .slice uE DE.length fE], .int .i64 0])) rfl (by kernel_rfl) (by kernel_rfl) (by kernel_rfl) (fun _ _ _ h => nomatch h.1) (Or.inl ⟨by rfl, fun W3 hS => by go_simp⟩) hS0 ?_
        try simp only [Act.put, List.setIfInBounds_toArray, List.set_cons_zero, List.set_cons_succ]
        refine wpAnyH_take (i := 4) (oi := ⟨_, _, _, _, _, _⟩) (v := (.agg #[.bool sE, .slice aE LE.length eE, .slice uE DE.length fE])) rfl (by kernel_rfl) (by kernel_rfl) (by kernel_rfl) (fun _ _ _ h => nomatch h.1) (Or.inl ⟨by rfl, fun W3 hS => by go_simp⟩) hS0 ?_
        try simp only [Act.put, List.setIfInBounds_toArray, List.set_cons_zero, List.set_cons_succ]
        refine wpAnyH_take (i := 5) (oi := ⟨_, _, _, _, _, _⟩) (v := (.int .i64 0)) rfl (by kernel_rfl) (by kernel_rfl) (by kernel_rfl) (fun _ _ _ h => nomatch h.1) (Or.inl ⟨by rfl, fun W3 hS => by go_simp⟩) hS0 ?_
        try simp only [Act.put, List.setIfInBounds_toArray, List.set_cons_zero, List.set_cons_succ]
        clear hS0
        have f0_0 := M.fr 0 rfl 0; have f0_1 := M.fr 0 rfl 1; have f0_2 := M.fr 0 rfl 2
        have z0_0 := M.cell 0 rfl 0 rfl; have z0_1 := M.cell 0 rfl 1 rfl; have z0_2 := M.cell 0 rfl 2 rfl
        refine wpAnyH_all (rs := [7]) (by kernel_rfl) (by simp) ?_
        intro i hi
        obtain rfl : i = 7 := by simpa using hi
        refine wpOp_intro rfl (fun Ks6 hK => ?_)
        clear hi
        go_simp
        have M' := (((M.put 0 rfl rfl 0 (.bool sE)).put 0 rfl rfl 1 (.slice aE LE.length eE)).put 0 rfl rfl 2 (.slice uE DE.length fE))
        clear M f0_0 z0_0 f0_1 z0_1 f0_2 z0_2
        have M : Mem w [(b13, 27, [.bool sE, .slice aE LE.length eE, .slice uE DE.length fE]), (b11, 27, [.bool sD, .slice aD LD.length eD, .slice uD DD.length fD]), (b9, 27, [.bool false, .slice none 0 0, .slice none 0 0]), (w5.heap.size, 27, [.bool sV, .slice aV LV.length eV, .slice uV DV.length fV]), (w.heap.size + 1 + 1, 25, [.bool n3, .slice p3 l3.length q3]), (w.heap.size + 1, 25, [.bool n2, .slice p2 l2.length q2]), (w.heap.size, 25, [.bool n1, .slice p1 l1.length q1])] [(.slice uE DE.length fE, DE), (.slice aE LE.length eE, LE), (.slice aW LW.length eW, LW), (.slice uD DD.length fD, DD), (.slice aD LD.length eD, LD), (.slice aO LO.length eO, LO), (.slice aB LB.length eB, LB), (.slice aA LA.length eA, LA), (.slice uV DV.length fV, DV), (.slice aV LV.length eV, LV), (.slice p3 l3.length q3, l3), (.slice p2 l2.length q2, l2), (.slice p1 l1.length q1, l1)] _ := M'
        clear M'
        refine hK _ _ ⟨M.box 6 rfl, ?_⟩
        clear hK Ks6
        have hS0 : (fun W => BoxN W (w.heap.size) 25 #[.bool n1, .slice p1 l1.length q1]) _ := M.box 6 rfl
        refine wpAnyH_take (i := 8) (oi := ⟨_, _, _, _, _, _⟩) (v := (.int .i64 0)) rfl (by kernel_rfl) (by kernel_rfl) (by kernel_rfl) (fun _ _ _ h => nomatch h.1) (Or.inl ⟨by rfl, fun W3 hS => by go_simp⟩) hS0 ?_
        try simp only [Act.put, List.setIfInBounds_toArray, List.set_cons_zero, List.set_cons_succ]
        clear hS0
        refine wpAnyH_done (by kernel_rfl) ?_ _
        exact ⟨rfl, b13, aW, eW, aE, eE, uE, fE, rfl, M⟩
    · refine wpOp_intro rfl (fun K1 hK => ?_)
      go_simp
      obtain ⟨b13, V1_6, hV, hb, M'⟩ := M.fresh 27 [.bool false, .slice none 0 0, .slice none 0 0]
      rw [← hV, ← hb]
      clear M hV hb; have M := M'; clear M'
      refine hK _ _ ⟨M.box 6 rfl, ?_⟩
      clear hK K1
      refine wpAnyH_all (rs := [1]) (by kernel_rfl) (by simp) ?_
      intro i hi
      obtain rfl : i = 1 := by simpa using hi
      refine wpOp_intro rfl (fun K7 hK => ?_)
      clear hi
      go_simp
      refine (k11 _).mono ?_
      rintro e V7_1 ⟨aW, eW, rfl, g, rr⟩
      have M' := (M.up rr).add g
      clear M rr g
      have M := M'; clear M'
      refine hK _ _ ⟨M.box 6 rfl, ?_⟩
      clear hK K7
      refine wpAnyH_all (rs := [2]) (by kernel_rfl) (by simp) ?_
      intro i hi
      obtain rfl : i = 2 := by simpa using hi
      refine wpOp_intro rfl (fun K8 hK => ?_)
      clear hi
      go_simp
      refine (k12 _ (M.get 10 rfl) (M.get 0 rfl)).mono ?_
      rintro e V8_2 ⟨aE, eE, uE, fE, rfl, g, g', rr⟩
      have M' := ((M.up rr).add g).add g'
      clear M rr g g'
      have M := M'; clear M'
      refine hK _ _ ⟨M.box 6 rfl, ?_⟩
      clear hK K8
      have hS0 : (fun W => BoxN W (w.heap.size) 25 #[.bool n1, .slice p1 l1.length q1]) _ := M.box 6 rfl
      refine wpAnyH_take (i := 3) (oi := ⟨_, _, _, _, _, _⟩) (v := (.tuple #[.agg #[.bool sE, .slice aE LE.length eE, .slice uE DE.length fE], .int .i64 0])) rfl (by kernel_rfl) (by kernel_rfl) (by kernel_rfl) (fun _ _ _ h => nomatch h.1) (Or.inl ⟨by rfl, fun W3 hS => by go_simp⟩) hS0 ?_
      try simp only [Act.put, List.setIfInBounds_toArray, List.set_cons_zero, List.set_cons_succ]
      refine wpAnyH_take (i := 4) (oi := ⟨_, _, _, _, _, _⟩) (v := (.agg #[.bool sE, .slice aE LE.length eE, .slice uE DE.length fE])) rfl (by kernel_rfl) (by kernel_rfl) (by kernel_rfl) (fun _ _ _ h => nomatch h.1) (Or.inl ⟨by rfl, fun W3 hS => by go_simp⟩) hS0 ?_
      try simp only [Act.put, List.setIfInBounds_toArray, List.set_cons_zero, List.set_cons_succ]
      refine wpAnyH_take (i := 5) (oi := ⟨_, _, _, _, _, _⟩) (v := (.int .i64 0)) rfl (by kernel_rfl) (by kernel_rfl) (by kernel_rfl) (fun _ _ _ h => nomatch h.1) (Or.inl ⟨by rfl, fun W3 hS => by go_simp⟩) hS0 ?_
      try simp only [Act.put, List.setIfInBounds_toArray, List.set_cons_zero, List.set_cons_succ]
      clear hS0
      have f0_0 := M.fr 0 rfl 0; have f0_1 := M.fr 0 rfl 1; have f0_2 := M.fr 0 rfl 2
      have z0_0 := M.cell 0 rfl 0 rfl; have z0_1 := M.cell 0 rfl 1 rfl; have z0_2 := M.cell 0 rfl 2 rfl
      refine wpAnyH_all (rs := [7]) (by kernel_rfl) (by simp) ?_
      intro i hi
      obtain rfl : i = 7 := by simpa using hi
      refine wpOp_intro rfl (fun Ks9 hK => ?_)
      clear hi
      go_simp
      have M' := (((M.put 0 rfl rfl 0 (.bool sE)).put 0 rfl rfl 1 (.slice aE LE.length eE)).put 0 rfl rfl 2 (.slice uE DE.length fE))
      clear M f0_0 z0_0 f0_1 z0_1 f0_2 z0_2
      have M : Mem w [(b13, 27, [.bool sE, .slice aE LE.length eE, .slice uE DE.length fE]), (b11, 27, [.bool sD, .slice aD LD.length eD, .slice uD DD.length fD]), (b9, 27, [.bool false, .slice none 0 0, .slice none 0 0]), (w5.heap.size, 27, [.bool sV, .slice aV LV.length eV, .slice uV DV.length fV]), (w.heap.size + 1 + 1, 25, [.bool n3, .slice p3 l3.length q3]), (w.heap.size + 1, 25, [.bool n2, .slice p2 l2.length q2]), (w.heap.size, 25, [.bool n1, .slice p1 l1.length q1])] [(.slice uE DE.length fE, DE), (.slice aE LE.length eE, LE), (.slice aW LW.length eW, LW), (.slice uD DD.length fD, DD), (.slice aD LD.length eD, LD), (.slice aO LO.length eO, LO), (.slice aB LB.length eB, LB), (.slice aA LA.length eA, LA), (.slice uV DV.length fV, DV), (.slice aV LV.length eV, LV), (.slice p3 l3.length q3, l3), (.slice p2 l2.length q2, l2), (.slice p1 l1.length q1, l1)] _ := M'
      clear M'
      refine hK _ _ ⟨M.box 6 rfl, ?_⟩
      clear hK Ks9
      have hS0 : (fun W => BoxN W (w.heap.size) 25 #[.bool n1, .slice p1 l1.length q1]) _ := M.box 6 rfl
      refine wpAnyH_take (i := 8) (oi := ⟨_, _, _, _, _, _⟩) (v := (.int .i64 0)) rfl (by kernel_rfl) (by kernel_rfl) (by kernel_rfl) (fun _ _ _ h => nomatch h.1) (Or.inl ⟨by rfl, fun W3 hS => by go_simp⟩) hS0 ?_
      try simp only [Act.put, List.setIfInBounds_toArray, List.set_cons_zero, List.set_cons_succ]
      clear hS0
      refine wpAnyH_done (by kernel_rfl) ?_ _
      exact ⟨rfl, b13, aW, eW, aE, eE, uE, fE, rfl, M⟩
  intro b13 aW eW aE eE uE fE V M
  go_wp2
  replace M := M.drew
  go_region_held3 (fun W => W.cell? ⟨w5.heap.size, 0, none⟩ = some (.bool sV) ∧ W.cell? ⟨w5.heap.size, 1, none⟩ = some (.slice aV LV.length eV) ∧ W.cell? ⟨w5.heap.size, 2, none⟩ = some (.slice uV DV.length fV) ∧ W.cell? ⟨b11, 0, none⟩ = some (.bool sD) ∧ W.cell? ⟨b11, 1, none⟩ = some (.slice aD LD.length eD) ∧ W.cell? ⟨b11, 2, none⟩ = some (.slice uD DD.length fD) ∧ W.cell? ⟨b13, 0, none⟩ = some (.bool sE) ∧ W.cell? ⟨b13, 1, none⟩ = some (.slice aE LE.length eE) ∧ W.cell? ⟨b13, 2, none⟩ = some (.slice uE DE.length fE)) (exact ⟨M.cell 3 rfl 0 rfl, M.cell 3 rfl 1 rfl, M.cell 3 rfl 2 rfl, M.cell 1 rfl 0 rfl, M.cell 1 rfl 1 rfl, M.cell 1 rfl 2 rfl, M.cell 0 rfl 0 rfl, M.cell 0 rfl 1 rfl, M.cell 0 rfl 2 rfl⟩) (first
    | (go_at_call 14; clear tok7; with_reducible refine (k13 _ (M.get 9 rfl) (M.get 8 rfl)).mono ?_; rintro e w7 ⟨rfl, rr⟩; have M' := M.up rr; clear M rr ; have M := M'; clear M')
    | (go_at_call 13; clear tok8; with_reducible refine (k14 _ (M.get 9 rfl) (M.get 8 rfl) (M.get 4 rfl) (M.get 3 rfl)).mono ?_; rintro e w8 ⟨aP, eP, uP, fP, rfl, g, g', rr⟩; have M' := ((M.up rr).add g).add g'; clear M rr g g'; have M := M'; clear M')
    | (go_at_call 15; clear tok9; with_reducible refine (k15 _ (M.get 1 rfl) (M.get 0 rfl) (M.get 3 rfl) (M.get 2 rfl)).mono ?_; rintro e w9 ⟨rfl, rr⟩; have M' := M.up rr; clear M rr ; have M := M'; clear M'))
  have z9_4_0 := M.cell 4 rfl 0 rfl; have z9_4_1 := M.cell 4 rfl 1 rfl; have z9_3_0 := M.cell 3 rfl 0 rfl; have z9_3_1 := M.cell 3 rfl 1 rfl; have z9_3_2 := M.cell 3 rfl 2 rfl; have z9_2_0 := M.cell 2 rfl 0 rfl; have z9_2_1 := M.cell 2 rfl 1 rfl; have z9_2_2 := M.cell 2 rfl 2 rfl
  go_wp2_with (first
    | (go_at_call 27; with_reducible refine (k16 _ (M.get 12 rfl)).mono ?_; rintro e w10 ⟨rfl, rr⟩; have M' := M.up rr; clear M rr ; have M := M'; clear M'; clear z9_4_0 z9_4_1 z9_3_0 z9_3_1 z9_3_2 z9_2_0 z9_2_1 z9_2_2))
  go_ret
  exact ⟨rfl, M.below⟩
end Go.Proofs.YthloknddhfphnaaGreatDoor
