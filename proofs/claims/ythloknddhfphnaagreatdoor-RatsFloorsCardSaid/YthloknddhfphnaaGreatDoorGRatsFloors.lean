/- Fractions: RatsFloors: its walks. -/
import Derived.Deep.RegionHeld3
import Derived.Test.YthloknddhfphnaaGreatDoorGRatAlive
import Derived.Test.YthloknddhfphnaaGreatDoorGRatLess
import Derived.Test.YthloknddhfphnaaGreatDoorGRatCmp
set_option linter.unusedSimpArgs false
set_option linter.unusedVariables false
namespace Go.Proofs.YthloknddhfphnaaGreatDoor
open Go Go.Proofs Go.RowKit Go.Shelf Nu

attribute [local go_sem] Oper.semAt_some

theorem floor_len (X : Rat) : (digs X.floor.natAbs).length ≤ rl X + 2 := by
  obtain ⟨q, r, hq, hr, hf⟩ := rfloor_parts X
  have h1 : q ≤ X.num.natAbs := hq ▸ Nat.div_le_self _ _
  have h2 := digs_mono h1
  have h3 := digs_add_le q 1
  have h4 : (digs 1).length = 1 := digs_one_len
  have h5 : X.floor.natAbs ≤ q + 1 := by rw [hf]; split <;> (try split) <;> omega
  have h6 := digs_mono h5
  unfold rl
  omega
theorem floor_facts {X : Rat} {N : Int} {zc zm : Int} {R : Bool} (hN : N = X.floor) (hc : rsg (((N : Int) : Rat) / ((1 : Int) : Rat)) X = zc) (hm : rsg (((N : Int) : Rat) / ((1 : Int) : Rat) + ((1 : Int) : Rat) / ((1 : Int) : Rat)) X = zm) (hR : decide (X.den = 1) = R) : zc ≤ 0 ∧ 0 < zm ∧ (¬ 0 < zc) ∧ (zc == 0) = R := by
  have e1 : ((N : Int) : Rat) / ((1 : Int) : Rat) = ((N : Int) : Rat) := by grind
  have e2 : ((1 : Int) : Rat) / ((1 : Int) : Rat) = 1 := by grind
  rw [e1] at hc
  rw [e1, e2] at hm
  have f1 : ((N : Int) : Rat) ≤ X := by rw [hN]; exact Rat.floor_le X
  have f2 : X < ((N : Int) : Rat) + 1 := by rw [hN]; have := Rat.lt_floor_add_one X; rw [Rat.intCast_add] at this; simpa using this
  have c1 : zc = if ((N : Int) : Rat) < X then -1 else 0 := by
    rw [← hc]; unfold rsg
    by_cases h : ((N : Int) : Rat) < X
    · rw [if_pos h, if_pos h]
    · rw [if_neg h, if_neg h, if_neg (by grind)]
  have c2 : zm = 1 := by
    rw [← hm]; unfold rsg
    rw [if_neg (by grind), if_pos f2]
  have c3 : (((N : Int) : Rat) < X) ↔ X.den ≠ 1 := by
    constructor
    · intro h e
      have h1 := rat_den X
      rw [e] at h1
      have h2 : X = ((X.num : Int) : Rat) := by grind
      have h3 : X.floor = X.num := by rw [rat_floor, e]; simp
      rw [hN, h3, ← h2] at h
      grind
    · intro h
      by_cases h1 : ((N : Int) : Rat) < X
      · exact h1
      · have h2 : X = ((N : Int) : Rat) := by grind
        exact absurd (by rw [h2]; rfl) h
  refine ⟨by rw [c1]; split <;> omega, by omega, by rw [c1]; split <;> omega, ?_⟩
  rw [← hR, c1]
  by_cases h : X.den = 1
  · rw [if_neg (fun k => c3.1 k h), decide_eq_true h]; rfl
  · rw [if_pos (c3.2 h), decide_eq_false h]; rfl

set_option maxRecDepth 100000 in
set_option maxHeartbeats 16000000 in
theorem rfloors_near {w : World} {n1 : Bool} {p1 o1 : Option Addr} {q1 r1 : Nat} {l1 d1 : List Nat} {X1 : Rat} (c1 : RCan n1 l1 d1 X1) (m1 : l1.length + d1.length ≤ 60) (g1 : Reads w (.slice p1 l1.length q1) l1) (h1 : Reads w (.slice o1 d1.length r1) d1) :
    Calls Tryz.prog 6 #[.agg #[.bool n1, .slice p1 l1.length q1, .slice o1 d1.length r1]] w fun e w' => e = .returned (.bool true) ∧ Below w.heap.size w w' := by
  have R1 : rl X1 ≤ 61 := by have := c1.is.len; omega
  obtain ⟨N, hN⟩ : ∃ N : Int, N = X1.floor := ⟨_, rfl⟩
  obtain ⟨sn, Ln, cn⟩ := Can.ex N
  obtain ⟨s1, L1, ce1⟩ := Can.ex (1 : Int)
  have ln : Ln.length ≤ 200 := by rw [cn.2, hN]; have := floor_len X1; omega
  have lo := can_len64 ce1 (by decide) (by decide)
  obtain ⟨sV, LV, DV, cV⟩ := RCan.ex (((N : Int) : Rat) / ((1 : Int) : Rat))
  have RV : rl (((N : Int) : Rat) / ((1 : Int) : Rat)) ≤ 210 := by rw [show ((N : Int) : Rat) / ((1 : Int) : Rat) = ((N : Int) : Rat) by grind]; have := rl_int N; rw [← cn.2] at this; omega
  have bV : LV.length ≤ 9999 ∧ DV.length ≤ 9999 := by have := cV.len; omega
  obtain ⟨sO, LO, DO, cO⟩ := RCan.ex (((1 : Int) : Rat) / ((1 : Int) : Rat))
  have RO : rl (((1 : Int) : Rat) / ((1 : Int) : Rat)) ≤ 4 := by rw [show ((1 : Int) : Rat) / ((1 : Int) : Rat) = ((1 : Int) : Rat) by grind]; have := rl_int 1; have h2 := can_len64 ce1 (by decide) (by decide); rw [ce1.2] at h2; omega
  have bO : LO.length ≤ 9999 ∧ DO.length ≤ 9999 := by have := cO.len; omega
  obtain ⟨sU, LU, DU, cU⟩ := RCan.ex (((N : Int) : Rat) / ((1 : Int) : Rat) + ((1 : Int) : Rat) / ((1 : Int) : Rat))
  have RU : rl (((N : Int) : Rat) / ((1 : Int) : Rat) + ((1 : Int) : Rat) / ((1 : Int) : Rat)) ≤ 600 := by have := rl_sum (X := ((N : Int) : Rat) / ((1 : Int) : Rat)) (Y := ((1 : Int) : Rat) / ((1 : Int) : Rat)) (.inl rfl); omega
  have bU : LU.length ≤ 9999 ∧ DU.length ≤ 9999 := by have := cU.len; omega
  obtain ⟨zc, hzc⟩ : ∃ z, rsg (((N : Int) : Rat) / ((1 : Int) : Rat)) X1 = z := ⟨_, rfl⟩
  obtain ⟨zm, hzm⟩ : ∃ z, rsg (((N : Int) : Rat) / ((1 : Int) : Rat) + ((1 : Int) : Rat) / ((1 : Int) : Rat)) X1 = z := ⟨_, rfl⟩
  obtain ⟨R, hR⟩ : ∃ R, decide (X1.den = 1) = R := ⟨_, rfl⟩
  obtain ⟨jc, jm, jz, jw⟩ := floor_facts hN hzc hzm hR
  have k1 := fun (W : World) (g1 : Reads W (.slice p1 l1.length q1) l1) (h1 : Reads W (.slice o1 d1.length r1) d1) => rcheck_yes c1 (by omega) (by omega) g1 h1
  have k2 := fun (W : World) (g1 : Reads W (.slice p1 l1.length q1) l1) (h1 : Reads W (.slice o1 d1.length r1) d1) => r_floor c1.is (s := sn) (L := Ln) (hN ▸ cn) (by omega) (by omega) g1 h1
  have ko := fun (W : World) => q_of (W := W) 1 ce1 (by decide) (by decide)
  have km := fun (W : World) {a b : Option Addr} {c d : Nat} (g1 : Reads W (.slice a Ln.length c) Ln) (g2 : Reads W (.slice b L1.length d) L1) => r_make cn ce1 (by decide) cV rfl (by omega) (by omega) g1 g2
  have kc := fun (W : World) {aa1 oo1 : Option Addr} {ee1 ff1 : Nat} (g1 : Reads W (.slice aa1 LV.length ee1) LV) (h1 : Reads W (.slice oo1 DV.length ff1) DV) (g2 : Reads W (.slice p1 l1.length q1) l1) (h2 : Reads W (.slice o1 d1.length r1) d1) => r_cmp zc hzc cV.is c1.is (by omega) (by omega) (by omega) (by omega) g1 h1 g2 h2
  have kl := fun (W : World) => r_lof 1 1 W cO rfl (by decide) (by decide) (by decide) (by decide) (by decide)
  have ka := fun (W : World) {aa1 oo1 : Option Addr} {ee1 ff1 : Nat} {aa2 oo2 : Option Addr} {ee2 ff2 : Nat} (g1 : Reads W (.slice aa1 LV.length ee1) LV) (h1 : Reads W (.slice oo1 DV.length ff1) DV) (g2 : Reads W (.slice aa2 LO.length ee2) LO) (h2 : Reads W (.slice oo2 DO.length ff2) DO) => r_add cV.is cO.is cU rfl (by omega) (by omega) (by omega) (by omega) g1 h1 g2 h2
  have kd := fun (W : World) {aa1 oo1 : Option Addr} {ee1 ff1 : Nat} (g1 : Reads W (.slice aa1 LU.length ee1) LU) (h1 : Reads W (.slice oo1 DU.length ff1) DU) (g2 : Reads W (.slice p1 l1.length q1) l1) (h2 : Reads W (.slice o1 d1.length r1) d1) => r_cmp zm hzm cU.is c1.is (by omega) (by omega) (by omega) (by omega) g1 h1 g2 h2
  have ki := fun (W : World) {a : Option Addr} {c : Nat} (g : Reads W (.slice a Ln.length c) Ln) => q_check cn (by omega) g
  have kw := fun (W : World) {aa1 oo1 : Option Addr} {ee1 ff1 : Nat} (g1 : Reads W (.slice aa1 LV.length ee1) LV) (h1 : Reads W (.slice oo1 DV.length ff1) DV) => r_whole true cV.is (decide_eq_true (by rw [show ((N : Int) : Rat) / ((1 : Int) : Rat) = ((N : Int) : Rat) by grind]; rfl)) (by omega) (by omega) g1 h1
  have kv := fun (W : World) (g1 : Reads W (.slice p1 l1.length q1) l1) (h1 : Reads W (.slice o1 d1.length r1) d1) => r_whole R c1.is hR (by omega) (by omega) g1 h1
  have hG : Hid (false = List.any [(n1, (p1, l1.length, q1), (o1, d1.length, r1))] fun t : Q7 => decide (60 < t.2.1.2.1 + t.2.2.2.1)) := Lib.hid (by simp; omega)
  have hZ : Hid (∀ t ∈ ([(n1, (p1, l1.length, q1), (o1, d1.length, r1))] : List Q7), t.2.1.2.1 ≤ 70368744177664 ∧ t.2.2.2.1 ≤ 70368744177664) := Lib.hid (by simp; omega)
  have M : Mem w [(w.heap.size, 27, [.bool n1, .slice p1 l1.length q1, .slice o1 d1.length r1])] [(.slice o1 d1.length r1, d1), (.slice p1 l1.length q1, l1)] (w.alloc (.cells #[.bool n1, .slice p1 l1.length q1, .slice o1 d1.length r1] 27)) := by
    have M := ((((Mem.start w).add g1).add h1).new 27 [.bool n1, .slice p1 l1.length q1, .slice o1 d1.length r1])
    simpa only [World.size_alloc] using M
  clear g1 h1 m1 R1 c1 cV RV bV cO RO bO cU RU bU hN cn ce1 ln lo hzc hzm hR
  go_enter Tryz.func6, Tryz.ntmps6
  go_wp2_with (first
    | (go_at_call 10; with_reducible refine (r_alive _).mono ?_; rintro e w1 ⟨rfl, rr⟩; have M' := M.up rr; clear M rr ; have M := M'; clear M'; have z1_0_0 := M.cell 0 rfl 0 rfl; have z1_0_1 := M.cell 0 rfl 1 rfl; have z1_0_2 := M.cell 0 rfl 2 rfl)
    | (go_at_call 11; have kg := rgreat_lit w1 60 [(n1, (p1, l1.length, q1), (o1, d1.length, r1))] (vs := #[.bool n1, .slice p1 l1.length q1, .slice o1 d1.length r1]) (by simp [q7v]) (m := 1) rfl (by simp) (by decide) hZ.out false hG.out; rw [show ((60 : Nat) : Int) = 60 from rfl] at kg; with_reducible refine kg.mono ?_; clear kg; rintro e w2 ⟨rfl, rr⟩; have M' := M.up rr; clear M rr; have M := M'; clear M'; clear z1_0_0 z1_0_1 z1_0_2; have z2_0_0 := M.cell 0 rfl 0 rfl; have z2_0_1 := M.cell 0 rfl 1 rfl; have z2_0_2 := M.cell 0 rfl 2 rfl)
    | (go_at_call 14; with_reducible refine (k1 _ (M.get 1 rfl) (M.get 0 rfl)).mono ?_; rintro e w3 ⟨rfl, rr⟩; have M' := M.up rr; clear M rr ; have M := M'; clear M'; clear z2_0_0 z2_0_1 z2_0_2; have z3_0_0 := M.cell 0 rfl 0 rfl; have z3_0_1 := M.cell 0 rfl 1 rfl; have z3_0_2 := M.cell 0 rfl 2 rfl)
    | (go_at_call 21; with_reducible refine (k2 _ (M.get 1 rfl) (M.get 0 rfl)).mono ?_; rintro e w4 ⟨an, en, rfl, g, rr⟩; have M' := ((M.up rr).add g).new 25 [.bool sn, .slice an Ln.length en]; clear M rr g; have M := M'; clear M'; clear z3_0_0 z3_0_1 z3_0_2; have z4_1_0 := M.cell 1 rfl 0 rfl; have z4_1_1 := M.cell 1 rfl 1 rfl; have z4_1_2 := M.cell 1 rfl 2 rfl; have z4_0_0 := M.cell 0 rfl 0 rfl; have z4_0_1 := M.cell 0 rfl 1 rfl))
  clear z4_1_0 z4_1_1 z4_1_2 z4_0_0 z4_0_1
  apply region_cut_nsss (Fact := (fun b4 a1x e1x aV eV uV fV W => Mem w [(b4, 27, [.bool sV, .slice aV LV.length eV, .slice uV DV.length fV]), (w4.heap.size, 25, [.bool sn, .slice an Ln.length en]), (w.heap.size, 27, [.bool n1, .slice p1 l1.length q1, .slice o1 d1.length r1])] [(.slice uV DV.length fV, DV), (.slice aV LV.length eV, LV), (.slice a1x L1.length e1x, L1), (.slice an Ln.length en, Ln), (.slice o1 d1.length r1, d1), (.slice p1 l1.length q1, l1)] W))
  case first =>
    refine region_mem (S := (fun W => BoxN W (w4.heap.size) 25 #[.bool sn, .slice an Ln.length en])) M (by kernel_rfl) ?_
    intro V0 M
    have hS0 : (fun W => BoxN W (w4.heap.size) 25 #[.bool sn, .slice an Ln.length en]) V0 := M.box 0 rfl
    refine wpAnyH_take (i := 0) (v := (.agg #[.bool sn, .slice an Ln.length en])) rfl (by kernel_rfl) (by kernel_rfl) (by kernel_rfl) (fun _ _ _ h => nomatch h.1) (Or.inl ⟨by rfl, fun W3 hS => by have hS1 := hS; have c1_0 := hS1.cell 0 _ rfl; have c1_1 := hS1.cell 1 _ rfl; go_simp⟩) hS0 ?_
    clear hS0
    try simp only [Act.put, List.setIfInBounds_toArray, List.set_cons_zero, List.set_cons_succ]
    refine wpAnyH_all (rs := [1, 6]) (by kernel_rfl) (by simp) ?_
    intro i hi
    have hi2 : i = 1 ∨ i = 6 := by simpa using hi
    clear hi
    rcases hi2 with rfl | rfl
    · refine wpOp_intro rfl (fun K1 hK => ?_)
      go_simp
      refine (ko _).mono ?_
      rintro e V1_1 ⟨a1x, e1x, rfl, g, rr⟩
      have M' := (M.up rr).add g
      clear M rr g
      have M := M'; clear M'
      refine hK _ _ ⟨M.box 0 rfl, ?_⟩
      clear hK K1
      refine wpAnyH_all (rs := [2, 6]) (by kernel_rfl) (by simp) ?_
      intro i hi
      have hi2 : i = 2 ∨ i = 6 := by simpa using hi
      clear hi
      rcases hi2 with rfl | rfl
      · refine wpOp_intro rfl (fun K2 hK => ?_)
        go_simp
        refine (km _ (M.get 1 rfl) (M.get 0 rfl)).mono ?_
        rintro e V2_2 ⟨aV, eV, uV, fV, rfl, g, g', rr⟩
        have M' := ((M.up rr).add g).add g'
        clear M rr g g'
        have M := M'; clear M'
        refine hK _ _ ⟨M.box 0 rfl, ?_⟩
        clear hK K2
        have hS0 : (fun W => BoxN W (w4.heap.size) 25 #[.bool sn, .slice an Ln.length en]) _ := M.box 0 rfl
        refine wpAnyH_take (i := 3) (v := (.tuple #[.agg #[.bool sV, .slice aV LV.length eV, .slice uV DV.length fV], .int .i64 0])) rfl (by kernel_rfl) (by kernel_rfl) (by kernel_rfl) (fun _ _ _ h => nomatch h.1) (Or.inl ⟨by rfl, fun W3 hS => by have hS1 := hS; go_simp⟩) hS0 ?_
        refine wpAnyH_take (i := 4) (v := (.agg #[.bool sV, .slice aV LV.length eV, .slice uV DV.length fV])) rfl (by kernel_rfl) (by kernel_rfl) (by kernel_rfl) (fun _ _ _ h => nomatch h.1) (Or.inl ⟨by rfl, fun W3 hS => by have hS1 := hS; go_simp⟩) hS0 ?_
        refine wpAnyH_take (i := 5) (v := (.int .i64 0)) rfl (by kernel_rfl) (by kernel_rfl) (by kernel_rfl) (fun _ _ _ h => nomatch h.1) (Or.inl ⟨by rfl, fun W3 hS => by have hS1 := hS; go_simp⟩) hS0 ?_
        clear hS0
        refine wpAnyH_all (rs := [6]) (by kernel_rfl) (by simp) ?_
        intro i hi
        obtain rfl : i = 6 := by simpa using hi
        refine wpOp_intro rfl (fun K3 hK => ?_)
        clear hi
        go_simp
        obtain ⟨b4, V3_6, hV, hb, M'⟩ := M.fresh 27 [.bool false, .slice none 0 0, .slice none 0 0]
        rw [← hV, ← hb]
        clear M hV hb; have M := M'; clear M'
        refine hK _ _ ⟨M.box 1 rfl, ?_⟩
        clear hK K3
        have f0_0 := M.fr 0 rfl 0; have f0_1 := M.fr 0 rfl 1; have f0_2 := M.fr 0 rfl 2
        have z0_0 := M.cell 0 rfl 0 rfl; have z0_1 := M.cell 0 rfl 1 rfl; have z0_2 := M.cell 0 rfl 2 rfl
        refine wpAnyH_all (rs := [7]) (by kernel_rfl) (by simp) ?_
        intro i hi
        obtain rfl : i = 7 := by simpa using hi
        refine wpOp_intro rfl (fun Ks4 hK => ?_)
        clear hi
        go_simp
        have M' := (((M.put 0 rfl rfl 0 (.bool sV)).put 0 rfl rfl 1 (.slice aV LV.length eV)).put 0 rfl rfl 2 (.slice uV DV.length fV))
        clear M f0_0 z0_0 f0_1 z0_1 f0_2 z0_2
        have M : Mem w [(b4, 27, [.bool sV, .slice aV LV.length eV, .slice uV DV.length fV]), (w4.heap.size, 25, [.bool sn, .slice an Ln.length en]), (w.heap.size, 27, [.bool n1, .slice p1 l1.length q1, .slice o1 d1.length r1])] [(.slice uV DV.length fV, DV), (.slice aV LV.length eV, LV), (.slice a1x L1.length e1x, L1), (.slice an Ln.length en, Ln), (.slice o1 d1.length r1, d1), (.slice p1 l1.length q1, l1)] _ := M'
        clear M'
        refine hK _ _ ⟨M.box 1 rfl, ?_⟩
        clear hK Ks4
        have hS0 : (fun W => BoxN W (w4.heap.size) 25 #[.bool sn, .slice an Ln.length en]) _ := M.box 1 rfl
        refine wpAnyH_take (i := 8) (v := (.int .i64 0)) rfl (by kernel_rfl) (by kernel_rfl) (by kernel_rfl) (fun _ _ _ h => nomatch h.1) (Or.inl ⟨by rfl, fun W3 hS => by have hS1 := hS; go_simp⟩) hS0 ?_
        clear hS0
        refine wpAnyH_done (by kernel_rfl) ?_ _
        exact ⟨rfl, b4, a1x, e1x, aV, eV, uV, fV, rfl, M⟩
      · refine wpOp_intro rfl (fun K2 hK => ?_)
        go_simp
        obtain ⟨b4, V2_6, hV, hb, M'⟩ := M.fresh 27 [.bool false, .slice none 0 0, .slice none 0 0]
        rw [← hV, ← hb]
        clear M hV hb; have M := M'; clear M'
        refine hK _ _ ⟨M.box 1 rfl, ?_⟩
        clear hK K2
        refine wpAnyH_all (rs := [2]) (by kernel_rfl) (by simp) ?_
        intro i hi
        obtain rfl : i = 2 := by simpa using hi
        refine wpOp_intro rfl (fun K5 hK => ?_)
        clear hi
        go_simp
        refine (km _ (M.get 1 rfl) (M.get 0 rfl)).mono ?_
        rintro e V5_2 ⟨aV, eV, uV, fV, rfl, g, g', rr⟩
        have M' := ((M.up rr).add g).add g'
        clear M rr g g'
        have M := M'; clear M'
        refine hK _ _ ⟨M.box 1 rfl, ?_⟩
        clear hK K5
        have hS0 : (fun W => BoxN W (w4.heap.size) 25 #[.bool sn, .slice an Ln.length en]) _ := M.box 1 rfl
        refine wpAnyH_take (i := 3) (v := (.tuple #[.agg #[.bool sV, .slice aV LV.length eV, .slice uV DV.length fV], .int .i64 0])) rfl (by kernel_rfl) (by kernel_rfl) (by kernel_rfl) (fun _ _ _ h => nomatch h.1) (Or.inl ⟨by rfl, fun W3 hS => by have hS1 := hS; go_simp⟩) hS0 ?_
        refine wpAnyH_take (i := 4) (v := (.agg #[.bool sV, .slice aV LV.length eV, .slice uV DV.length fV])) rfl (by kernel_rfl) (by kernel_rfl) (by kernel_rfl) (fun _ _ _ h => nomatch h.1) (Or.inl ⟨by rfl, fun W3 hS => by have hS1 := hS; go_simp⟩) hS0 ?_
        refine wpAnyH_take (i := 5) (v := (.int .i64 0)) rfl (by kernel_rfl) (by kernel_rfl) (by kernel_rfl) (fun _ _ _ h => nomatch h.1) (Or.inl ⟨by rfl, fun W3 hS => by have hS1 := hS; go_simp⟩) hS0 ?_
        clear hS0
        have f0_0 := M.fr 0 rfl 0; have f0_1 := M.fr 0 rfl 1; have f0_2 := M.fr 0 rfl 2
        have z0_0 := M.cell 0 rfl 0 rfl; have z0_1 := M.cell 0 rfl 1 rfl; have z0_2 := M.cell 0 rfl 2 rfl
        refine wpAnyH_all (rs := [7]) (by kernel_rfl) (by simp) ?_
        intro i hi
        obtain rfl : i = 7 := by simpa using hi
        refine wpOp_intro rfl (fun Ks6 hK => ?_)
        clear hi
        go_simp
        have M' := (((M.put 0 rfl rfl 0 (.bool sV)).put 0 rfl rfl 1 (.slice aV LV.length eV)).put 0 rfl rfl 2 (.slice uV DV.length fV))
        clear M f0_0 z0_0 f0_1 z0_1 f0_2 z0_2
        have M : Mem w [(b4, 27, [.bool sV, .slice aV LV.length eV, .slice uV DV.length fV]), (w4.heap.size, 25, [.bool sn, .slice an Ln.length en]), (w.heap.size, 27, [.bool n1, .slice p1 l1.length q1, .slice o1 d1.length r1])] [(.slice uV DV.length fV, DV), (.slice aV LV.length eV, LV), (.slice a1x L1.length e1x, L1), (.slice an Ln.length en, Ln), (.slice o1 d1.length r1, d1), (.slice p1 l1.length q1, l1)] _ := M'
        clear M'
        refine hK _ _ ⟨M.box 1 rfl, ?_⟩
        clear hK Ks6
        have hS0 : (fun W => BoxN W (w4.heap.size) 25 #[.bool sn, .slice an Ln.length en]) _ := M.box 1 rfl
        refine wpAnyH_take (i := 8) (v := (.int .i64 0)) rfl (by kernel_rfl) (by kernel_rfl) (by kernel_rfl) (fun _ _ _ h => nomatch h.1) (Or.inl ⟨by rfl, fun W3 hS => by have hS1 := hS; go_simp⟩) hS0 ?_
        clear hS0
        refine wpAnyH_done (by kernel_rfl) ?_ _
        exact ⟨rfl, b4, a1x, e1x, aV, eV, uV, fV, rfl, M⟩
    · refine wpOp_intro rfl (fun K1 hK => ?_)
      go_simp
      obtain ⟨b4, V1_6, hV, hb, M'⟩ := M.fresh 27 [.bool false, .slice none 0 0, .slice none 0 0]
      rw [← hV, ← hb]
      clear M hV hb; have M := M'; clear M'
      refine hK _ _ ⟨M.box 1 rfl, ?_⟩
      clear hK K1
      refine wpAnyH_all (rs := [1]) (by kernel_rfl) (by simp) ?_
      intro i hi
      obtain rfl : i = 1 := by simpa using hi
      refine wpOp_intro rfl (fun K7 hK => ?_)
      clear hi
      go_simp
      refine (ko _).mono ?_
      rintro e V7_1 ⟨a1x, e1x, rfl, g, rr⟩
      have M' := (M.up rr).add g
      clear M rr g
      have M := M'; clear M'
      refine hK _ _ ⟨M.box 1 rfl, ?_⟩
      clear hK K7
      refine wpAnyH_all (rs := [2]) (by kernel_rfl) (by simp) ?_
      intro i hi
      obtain rfl : i = 2 := by simpa using hi
      refine wpOp_intro rfl (fun K8 hK => ?_)
      clear hi
      go_simp
      refine (km _ (M.get 1 rfl) (M.get 0 rfl)).mono ?_
      rintro e V8_2 ⟨aV, eV, uV, fV, rfl, g, g', rr⟩
      have M' := ((M.up rr).add g).add g'
      clear M rr g g'
      have M := M'; clear M'
      refine hK _ _ ⟨M.box 1 rfl, ?_⟩
      clear hK K8
      have hS0 : (fun W => BoxN W (w4.heap.size) 25 #[.bool sn, .slice an Ln.length en]) _ := M.box 1 rfl
      refine wpAnyH_take (i := 3) (v := (.tuple #[.agg #[.bool sV, .slice aV LV.length eV, .slice uV DV.length fV], .int .i64 0])) rfl (by kernel_rfl) (by kernel_rfl) (by kernel_rfl) (fun _ _ _ h => nomatch h.1) (Or.inl ⟨by rfl, fun W3 hS => by have hS1 := hS; go_simp⟩) hS0 ?_
      refine wpAnyH_take (i := 4) (v := (.agg #[.bool sV, .slice aV LV.length eV, .slice uV DV.length fV])) rfl (by kernel_rfl) (by kernel_rfl) (by kernel_rfl) (fun _ _ _ h => nomatch h.1) (Or.inl ⟨by rfl, fun W3 hS => by have hS1 := hS; go_simp⟩) hS0 ?_
      refine wpAnyH_take (i := 5) (v := (.int .i64 0)) rfl (by kernel_rfl) (by kernel_rfl) (by kernel_rfl) (fun _ _ _ h => nomatch h.1) (Or.inl ⟨by rfl, fun W3 hS => by have hS1 := hS; go_simp⟩) hS0 ?_
      clear hS0
      have f0_0 := M.fr 0 rfl 0; have f0_1 := M.fr 0 rfl 1; have f0_2 := M.fr 0 rfl 2
      have z0_0 := M.cell 0 rfl 0 rfl; have z0_1 := M.cell 0 rfl 1 rfl; have z0_2 := M.cell 0 rfl 2 rfl
      refine wpAnyH_all (rs := [7]) (by kernel_rfl) (by simp) ?_
      intro i hi
      obtain rfl : i = 7 := by simpa using hi
      refine wpOp_intro rfl (fun Ks9 hK => ?_)
      clear hi
      go_simp
      have M' := (((M.put 0 rfl rfl 0 (.bool sV)).put 0 rfl rfl 1 (.slice aV LV.length eV)).put 0 rfl rfl 2 (.slice uV DV.length fV))
      clear M f0_0 z0_0 f0_1 z0_1 f0_2 z0_2
      have M : Mem w [(b4, 27, [.bool sV, .slice aV LV.length eV, .slice uV DV.length fV]), (w4.heap.size, 25, [.bool sn, .slice an Ln.length en]), (w.heap.size, 27, [.bool n1, .slice p1 l1.length q1, .slice o1 d1.length r1])] [(.slice uV DV.length fV, DV), (.slice aV LV.length eV, LV), (.slice a1x L1.length e1x, L1), (.slice an Ln.length en, Ln), (.slice o1 d1.length r1, d1), (.slice p1 l1.length q1, l1)] _ := M'
      clear M'
      refine hK _ _ ⟨M.box 1 rfl, ?_⟩
      clear hK Ks9
      have hS0 : (fun W => BoxN W (w4.heap.size) 25 #[.bool sn, .slice an Ln.length en]) _ := M.box 1 rfl
      refine wpAnyH_take (i := 8) (v := (.int .i64 0)) rfl (by kernel_rfl) (by kernel_rfl) (by kernel_rfl) (fun _ _ _ h => nomatch h.1) (Or.inl ⟨by rfl, fun W3 hS => by have hS1 := hS; go_simp⟩) hS0 ?_
      clear hS0
      refine wpAnyH_done (by kernel_rfl) ?_ _
      exact ⟨rfl, b4, a1x, e1x, aV, eV, uV, fV, rfl, M⟩
  intro b4 a1x e1x aV eV uV fV V M
  have z0_0 := M.cell 0 rfl 0 rfl; have z0_1 := M.cell 0 rfl 1 rfl; have z0_2 := M.cell 0 rfl 2 rfl; have z2_0 := M.cell 2 rfl 0 rfl; have z2_1 := M.cell 2 rfl 1 rfl; have z2_2 := M.cell 2 rfl 2 rfl
  go_wp2_with (go_at_call 20; go_loud (refine (kc _ (M.get 1 rfl) (M.get 0 rfl) (M.get 5 rfl) (M.get 4 rfl)).mono ?_; rintro e v1 ⟨rfl, rr⟩; have M' := M.up rr; clear M rr; have M := M'; clear M'))
  clear z0_0 z0_1 z0_2 z2_0 z2_1 z2_2
  go_wp2
  apply region_cut_ssss (Fact := (fun aO eO uO fO aU eU uU fU W => Mem w [(b4, 27, [.bool sV, .slice aV LV.length eV, .slice uV DV.length fV]), (w4.heap.size, 25, [.bool sn, .slice an Ln.length en]), (w.heap.size, 27, [.bool n1, .slice p1 l1.length q1, .slice o1 d1.length r1])] [(.slice uU DU.length fU, DU), (.slice aU LU.length eU, LU), (.slice uO DO.length fO, DO), (.slice aO LO.length eO, LO), (.slice uV DV.length fV, DV), (.slice aV LV.length eV, LV), (.slice a1x L1.length e1x, L1), (.slice an Ln.length en, Ln), (.slice o1 d1.length r1, d1), (.slice p1 l1.length q1, l1)] W))
  case first =>
    refine region_mem (S := (fun W => BoxN W (b4) 27 #[.bool sV, .slice aV LV.length eV, .slice uV DV.length fV] ∧ BoxN W (w.heap.size) 27 #[.bool n1, .slice p1 l1.length q1, .slice o1 d1.length r1])) M (by kernel_rfl) ?_
    intro V0 M
    have hS0 : (fun W => BoxN W (b4) 27 #[.bool sV, .slice aV LV.length eV, .slice uV DV.length fV] ∧ BoxN W (w.heap.size) 27 #[.bool n1, .slice p1 l1.length q1, .slice o1 d1.length r1]) V0 := ⟨M.box 0 rfl, M.box 2 rfl⟩
    refine wpAnyH_take (i := 0) (v := (.agg #[.bool sV, .slice aV LV.length eV, .slice uV DV.length fV])) rfl (by kernel_rfl) (by kernel_rfl) (by kernel_rfl) (fun _ _ _ h => nomatch h.1) (Or.inl ⟨by rfl, fun W3 hS => by obtain ⟨hS1, hS2⟩ := hS; have c1_0 := hS1.cell 0 _ rfl; have c1_1 := hS1.cell 1 _ rfl; have c1_2 := hS1.cell 2 _ rfl; go_simp⟩) hS0 ?_
    refine wpAnyH_take (i := 3) (v := (.agg #[.bool n1, .slice p1 l1.length q1, .slice o1 d1.length r1])) rfl (by kernel_rfl) (by kernel_rfl) (by kernel_rfl) (fun _ _ _ h => nomatch h.1) (Or.inl ⟨by rfl, fun W3 hS => by obtain ⟨hS1, hS2⟩ := hS; have c2_0 := hS2.cell 0 _ rfl; have c2_1 := hS2.cell 1 _ rfl; have c2_2 := hS2.cell 2 _ rfl; go_simp⟩) hS0 ?_
    clear hS0
    try simp only [Act.put, List.setIfInBounds_toArray, List.set_cons_zero, List.set_cons_succ]
    refine wpAnyH_all (rs := [1]) (by kernel_rfl) (by simp) ?_
    intro i hi
    obtain rfl : i = 1 := by simpa using hi
    refine wpOp_intro rfl (fun K1 hK => ?_)
    clear hi
    go_simp
    refine (kl _).mono ?_
    rintro e V1_1 ⟨aO, eO, uO, fO, rfl, g, g', rr⟩
    have M' := ((M.up rr).add g).add g'
    clear M rr g g'
    have M := M'; clear M'
    refine hK _ _ ⟨⟨M.box 0 rfl, M.box 2 rfl⟩, ?_⟩
    clear hK K1
    refine wpAnyH_all (rs := [2]) (by kernel_rfl) (by simp) ?_
    intro i hi
    obtain rfl : i = 2 := by simpa using hi
    refine wpOp_intro rfl (fun K2 hK => ?_)
    clear hi
    go_simp
    refine (ka _ (M.get 3 rfl) (M.get 2 rfl) (M.get 1 rfl) (M.get 0 rfl)).mono ?_
    rintro e V2_2 ⟨aU, eU, uU, fU, rfl, g, g', rr⟩
    have M' := ((M.up rr).add g).add g'
    clear M rr g g'
    have M := M'; clear M'
    refine hK _ _ ⟨⟨M.box 0 rfl, M.box 2 rfl⟩, ?_⟩
    clear hK K2
    refine wpAnyH_all (rs := [4]) (by kernel_rfl) (by simp) ?_
    intro i hi
    obtain rfl : i = 4 := by simpa using hi
    refine wpOp_intro rfl (fun K3 hK => ?_)
    clear hi
    go_simp
    refine (kd _ (M.get 1 rfl) (M.get 0 rfl) (M.get 9 rfl) (M.get 8 rfl)).mono ?_
    rintro e V3_4 ⟨rfl, rr⟩
    have M' := M.up rr
    clear M rr 
    have M := M'; clear M'
    refine hK _ _ ⟨⟨M.box 0 rfl, M.box 2 rfl⟩, ?_⟩
    clear hK K3
    have hS0 : (fun W => BoxN W (b4) 27 #[.bool sV, .slice aV LV.length eV, .slice uV DV.length fV] ∧ BoxN W (w.heap.size) 27 #[.bool n1, .slice p1 l1.length q1, .slice o1 d1.length r1]) _ := ⟨M.box 0 rfl, M.box 2 rfl⟩
    refine wpAnyH_take (i := 5) (v := (.int .i64 zm)) rfl (by kernel_rfl) (by kernel_rfl) (by kernel_rfl) (fun _ _ _ h => nomatch h.1) (Or.inl ⟨by rfl, fun W3 hS => by obtain ⟨hS1, hS2⟩ := hS; go_simp⟩) hS0 ?_
    clear hS0
    refine wpAnyH_done (by kernel_rfl) ?_ _
    exact ⟨rfl, aO, eO, uO, fO, aU, eU, uU, fU, rfl, M⟩
  intro aO eO uO fO aU eU uU fU V M
  have z0_0 := M.cell 0 rfl 0 rfl; have z0_1 := M.cell 0 rfl 1 rfl; have z0_2 := M.cell 0 rfl 2 rfl; have z1_0 := M.cell 1 rfl 0 rfl; have z1_1 := M.cell 1 rfl 1 rfl; have z2_0 := M.cell 2 rfl 0 rfl; have z2_1 := M.cell 2 rfl 1 rfl; have z2_2 := M.cell 2 rfl 2 rfl
  go_wp2_with (first
    | (go_at_call 24; refine (ki _ (M.get 7 rfl)).mono ?_; clear ki; rintro e v3 ⟨rfl, rr⟩; have M' := M.up rr; clear M rr z0_0 z0_1 z0_2 z2_0 z2_1 z2_2 z1_0 z1_1; have M := M'; clear M'; have z0_0 := M.cell 0 rfl 0 rfl; have z0_1 := M.cell 0 rfl 1 rfl; have z0_2 := M.cell 0 rfl 2 rfl; have z1_0 := M.cell 1 rfl 0 rfl; have z1_1 := M.cell 1 rfl 1 rfl; have z2_0 := M.cell 2 rfl 0 rfl; have z2_1 := M.cell 2 rfl 1 rfl; have z2_2 := M.cell 2 rfl 2 rfl)
    | (go_at_call 25; with_reducible refine (kw _ (M.get 5 rfl) (M.get 4 rfl)).mono ?_; clear kw; rintro e v4 ⟨rfl, rr⟩; have M' := M.up rr; clear M rr z0_0 z0_1 z0_2 z2_0 z2_1 z2_2 z1_0 z1_1; have M := M'; clear M'; have z0_0 := M.cell 0 rfl 0 rfl; have z0_1 := M.cell 0 rfl 1 rfl; have z0_2 := M.cell 0 rfl 2 rfl; have z1_0 := M.cell 1 rfl 0 rfl; have z1_1 := M.cell 1 rfl 1 rfl; have z2_0 := M.cell 2 rfl 0 rfl; have z2_1 := M.cell 2 rfl 1 rfl; have z2_2 := M.cell 2 rfl 2 rfl)
    | (go_at_call 25; refine (kv _ (M.get 9 rfl) (M.get 8 rfl)).mono ?_; clear kv; rintro e v5 ⟨rfl, rr⟩; have M' := M.up rr; clear M rr z0_0 z0_1 z0_2 z2_0 z2_1 z2_2 z1_0 z1_1; have M := M'; clear M'))
  go_ret
  exact ⟨ret_bool (by first | rfl | (rw [jw]; cases R <;> rfl)), M.below⟩
end Go.Proofs.YthloknddhfphnaaGreatDoor
