/- Fractions: the fraction of two, the second one below 0. -/
import Derived.Test.YthnlmjnfdokdbaaGreatDoorGRatLit
set_option linter.unusedSimpArgs false
set_option linter.unusedVariables false
namespace Go.Proofs.YthnlmjnfdokdbaaGreatDoor
open Go Go.Proofs Go.RowKit Go.Shelf Nu

attribute [local go_sem] Oper.semAt_some

set_option maxRecDepth 100000 in
set_option maxHeartbeats 8000000 in
theorem r_make_neg {w : World} {p1 p2 : Option Addr} {q1 q2 : Nat} {s1 s2 sZ : Bool} {L1 L2 LZ DZ : List Nat} {N M : Int} {Z : Rat} (cN : Can s1 L1 N) (cM : Can s2 L2 M) (hM : M < 0) (kZ : RCan sZ LZ DZ Z) (eZ : Z = (N : Rat) / (M : Rat)) (b1 : L1.length ≤ 19999) (b2 : L2.length ≤ 19999) (g1 : Reads w (.slice p1 L1.length q1) L1) (g2 : Reads w (.slice p2 L2.length q2) L2) :
    Calls Tryz.prog 27 #[.agg #[.bool s1, .slice p1 L1.length q1], .agg #[.bool s2, .slice p2 L2.length q2]] w fun e w' => ∃ a c a' c', e = .returned (.tuple #[.agg #[.bool sZ, .slice a LZ.length c, .slice a' DZ.length c'], .int .i64 0]) ∧ Reads w' (.slice a LZ.length c) LZ ∧ Reads w' (.slice a' DZ.length c') DZ ∧ Below w.heap.size w w' := by
  obtain rfl : s2 = true := by rw [cM.1]; exact decide_eq_true hM
  obtain ⟨z, hz⟩ : ∃ z, sgz M 0 = z := ⟨_, rfl⟩
  have hz0 : (z == 0) = false := by
    rw [← hz]; unfold sgz; simp; omega
  have kc1 := fun (W : World) (h1 : Reads W (.slice p1 L1.length q1) L1) => q_check cN (by omega) h1
  have kc2 := fun (W : World) (h1 : Reads W (.slice p2 L2.length q2) L2) => q_check cM (by omega) h1
  have ks := fun (W : World) (h1 : Reads W (.slice p2 L2.length q2) L2) => q_sign z cM.is hz (by omega) h1
  obtain ⟨sn, Ln, cn⟩ := Can.ex (-N)
  obtain ⟨sm, Lm, cm⟩ := Can.ex (-M)
  have ln : Ln.length = L1.length := by rw [cn.2, cN.2, Int.natAbs_neg]
  have lm : Lm.length = L2.length := by rw [cm.2, cM.2, Int.natAbs_neg]
  obtain rfl : sm = false := by rw [cm.1]; exact decide_eq_false (by omega)
  have kn1 := fun (W : World) (h1 : Reads W (.slice p1 L1.length q1) L1) => q_neg cN.is cn rfl (by omega) h1
  have kn2 := fun (W : World) (h1 : Reads W (.slice p2 L2.length q2) L2) => q_neg cM.is cm rfl (by omega) h1
  have eZ2 : Z = ((-N : Int) : Rat) / ((-M : Int) : Rat) := by
    rw [eZ]; push_cast
    have : (M : Rat) ≠ 0 := by intro h; have : M = 0 := by exact_mod_cast h
                               omega
    grind
  obtain ⟨g, d, k, hg, g0, e1, e2, e3, e4⟩ := rmake_parts (-N) (-M) (by omega)
  rw [← eZ2] at e3 e4
  obtain ⟨Lg, hLg⟩ : ∃ L, L = digs g := ⟨_, rfl⟩
  have ck := cn.div e1 g0
  have hk : digs k.natAbs = LZ := by rw [kZ.1.2, e3]
  have hs : sn = sZ := by rw [ck.1, kZ.1.1, e3]
  rw [hk] at ck
  subst hs
  have lg : Lg.length ≤ 19999 := by
    have h1 : g ≤ ((-M)).natAbs := by rw [hg]; exact gcd_le (by omega)
    have := digs_mono h1
    rw [hLg]; rw [← cm.2] at this; omega
  have kg := fun (W : World) {p1 p2 : Option Addr} {q1 q2 : Nat} (h1 : Reads W (.slice p1 Ln.length q1) Ln) (h2 : Reads W (.slice p2 Lm.length q2) Lm) => common_any (s1 := sn) (s2 := false) (L3 := Lg) cn.2 cm.2 (by rw [hLg, hg]) (by omega) (by omega) h1 h2
  have ka := fun (W : World) {p1 p2 : Option Addr} {q1 q2 : Nat} (h1 : Reads W (.slice p1 Ln.length q1) Ln) (h2 : Reads W (.slice p2 Lg.length q2) Lg) => over_any (s2 := false) cn hLg ck e1 g0 (by omega) (by omega) h1 h2
  have kb := fun (W : World) {p1 p2 : Option Addr} {q1 q2 : Nat} (h1 : Reads W (.slice p1 Lm.length q1) Lm) (h2 : Reads W (.slice p2 Lg.length q2) Lg) => over_any (s2 := false) cm hLg (canL kZ.2) (by rw [e2, e4]; push_cast; rfl) g0 (by omega) (by omega) h1 h2
  have M : Mem w [(w.heap.size + 1 + 1, 27, [.bool false, .slice none 0 0, .slice none 0 0]), (w.heap.size + 1, 25, [.bool true, .slice p2 L2.length q2]), (w.heap.size, 25, [.bool s1, .slice p1 L1.length q1])] [(.slice p2 L2.length q2, L2), (.slice p1 L1.length q1, L1)] (((w.alloc (.cells #[.bool s1, .slice p1 L1.length q1] 25)).alloc (.cells #[.bool true, .slice p2 L2.length q2] 25)).alloc (.cells #[.bool false, .slice none 0 0, .slice none 0 0] 27)) := by
    have M := ((((((Mem.start w).add g1).add g2).new 25 [.bool s1, .slice p1 L1.length q1]).new 25 [.bool true, .slice p2 L2.length q2]).new 27 [.bool false, .slice none 0 0, .slice none 0 0])
    simpa only [World.size_alloc] using M
  clear g1 g2 b1 b2 cN cM hM kZ eZ hz hg g0 e1 e2 e3 e4 hLg ck hk lg cn cm ln lm eZ2
  go_enter Tryz.func27, Tryz.ntmps27
  go_wp2_with (first
    | (go_at_call 111; with_reducible refine (kc1 _ (M.get 1 rfl)).mono ?_; clear kc1; rintro e w1 ⟨rfl, rr⟩; have M' := M.up rr; clear M rr; have M := M'; clear M'; have z1_0 := M.cell 1 rfl 0 rfl; have z1_1 := M.cell 1 rfl 1 rfl)
    | (go_at_call 111; refine (kc2 _ (M.get 0 rfl)).mono ?_; clear kc2; rintro e w2 ⟨rfl, rr⟩; have M' := M.up rr; clear M rr z1_0 z1_1; have M := M'; clear M'; have z1_0 := M.cell 1 rfl 0 rfl; have z1_1 := M.cell 1 rfl 1 rfl)
    | (go_at_call 65; refine (ks _ (M.get 0 rfl)).mono ?_; clear ks; rintro e w3 ⟨rfl, rr⟩; have M' := M.up rr; clear M rr z1_0 z1_1; have M := M'; clear M'; have z1_0 := M.cell 1 rfl 0 rfl; have z1_1 := M.cell 1 rfl 1 rfl; have z2_0 := M.cell 2 rfl 0 rfl; have z2_1 := M.cell 2 rfl 1 rfl))
  clear z1_0 z1_1 z2_0 z2_1
  apply region_cut_ss (Fact := (fun a1 c1 a2 c2 W => Mem w [(w.heap.size + 1 + 1, 27, [.bool false, .slice none 0 0, .slice none 0 0]), (w.heap.size + 1, 25, [.bool false, .slice a2 Lm.length c2]), (w.heap.size, 25, [.bool sn, .slice a1 Ln.length c1])] [(.slice a2 Lm.length c2, Lm), (.slice a1 Ln.length c1, Ln), (.slice p2 L2.length q2, L2), (.slice p1 L1.length q1, L1)] W))
  case first =>
    have M0 := M.drew
    have z1_0 := M.cell 1 rfl 0 rfl; have z1_1 := M.cell 1 rfl 1 rfl; have z2_0 := M.cell 2 rfl 0 rfl; have z2_1 := M.cell 2 rfl 1 rfl
    go_region_with (first
      | (go_at_call 112; with_reducible refine (kn1 _ (M0.get 1 rfl)).mono ?_; rintro e v1 ⟨a1, c1, rfl, g, rr⟩; have M1 := (M0.up rr).add g; clear M0 g rr; have z1_0 := M1.cell 1 rfl 0 rfl; have z1_1 := M1.cell 1 rfl 1 rfl)
      | (go_at_call 112; refine (kn2 _ (M1.get 1 rfl)).mono ?_; rintro e v2 ⟨a2, c2, rfl, g, rr⟩; have M2 := (M1.up rr).add g; clear M1 g rr; have z1_0 := M2.cell 1 rfl 0 rfl; have z1_1 := M2.cell 1 rfl 1 rfl; have z2_0 := M2.cell 2 rfl 0 rfl; have z2_1 := M2.cell 2 rfl 1 rfl; have f2_0 := M2.fr 2 rfl 0; have f2_1 := M2.fr 2 rfl 1; have f1_0 := M2.fr 1 rfl 0; have f1_1 := M2.fr 1 rfl 1))
    all_goals
      have M3 := (((M2.put 2 rfl rfl 0 (.bool sn)).put 2 rfl rfl 1 (.slice a1 Ln.length c1)).put 1 rfl rfl 0 (.bool false)).put 1 rfl rfl 1 (.slice a2 Lm.length c2)
      exact ⟨rfl, a1, c1, a2, c2, rfl, M3⟩
  intro a1 c1 a2 c2 V M
  have z1_0 := M.cell 1 rfl 0 rfl; have z1_1 := M.cell 1 rfl 1 rfl; have z2_0 := M.cell 2 rfl 0 rfl; have z2_1 := M.cell 2 rfl 1 rfl
  go_wp2_with (go_at_call 53; refine (kg _ (M.get 1 rfl) (M.get 0 rfl)).mono ?_; rintro e w4 ⟨a3, c3, rfl, g, rr⟩; have M' := ((M.up rr).add g).new 25 [.bool false, .slice a3 Lg.length c3]; clear M rr g; have M := M'; clear M')
  clear z1_0 z1_1 z2_0 z2_1
  obtain ⟨b6, W1, hb6, hW1⟩ : ∃ b V, b = w4.heap.size ∧ V = w4.alloc (.cells #[.bool false, .slice a3 Lg.length c3] 25) := ⟨_, _, rfl, rfl⟩
  rw [← hb6, ← hW1] at M ⊢
  clear hb6 hW1
  refine region_mem (S := (fun W => BoxN W (w.heap.size) 25 #[.bool sn, .slice a1 Ln.length c1] ∧ BoxN W (w.heap.size + 1) 25 #[.bool false, .slice a2 Lm.length c2] ∧ BoxN W (b6) 25 #[.bool false, .slice a3 Lg.length c3])) M (by kernel_rfl) ?_
  intro V0 M
  have hS0 : (fun W => BoxN W (w.heap.size) 25 #[.bool sn, .slice a1 Ln.length c1] ∧ BoxN W (w.heap.size + 1) 25 #[.bool false, .slice a2 Lm.length c2] ∧ BoxN W (b6) 25 #[.bool false, .slice a3 Lg.length c3]) V0 := ⟨M.box 3 rfl, M.box 2 rfl, M.box 0 rfl⟩
  refine wpAnyH_take (i := 0) (v := (.agg #[.bool sn, .slice a1 Ln.length c1])) rfl (by kernel_rfl) (by kernel_rfl) (by kernel_rfl) (fun _ _ _ h => h) (Or.inl ⟨by rfl, fun W3 hS => by obtain ⟨hS1, hS2, hS3⟩ := hS; have c1_0 := hS1.cell 0 _ rfl; have c1_1 := hS1.cell 1 _ rfl; go_simp⟩) hS0 ?_
  refine wpAnyH_take (i := 1) (v := (.agg #[.bool false, .slice a3 Lg.length c3])) rfl (by kernel_rfl) (by kernel_rfl) (by kernel_rfl) (fun _ _ _ h => h) (Or.inl ⟨by rfl, fun W3 hS => by obtain ⟨hS1, hS2, hS3⟩ := hS; have c3_0 := hS3.cell 0 _ rfl; have c3_1 := hS3.cell 1 _ rfl; go_simp⟩) hS0 ?_
  refine wpAnyH_take (i := 3) (v := (.agg #[.bool false, .slice a2 Lm.length c2])) rfl (by kernel_rfl) (by kernel_rfl) (by kernel_rfl) (fun _ _ _ h => h) (Or.inl ⟨by rfl, fun W3 hS => by obtain ⟨hS1, hS2, hS3⟩ := hS; have c2_0 := hS2.cell 0 _ rfl; have c2_1 := hS2.cell 1 _ rfl; go_simp⟩) hS0 ?_
  refine wpAnyH_take (i := 4) (v := (.agg #[.bool false, .slice a3 Lg.length c3])) rfl (by kernel_rfl) (by kernel_rfl) (by kernel_rfl) (fun _ _ _ h => h) (Or.inl ⟨by rfl, fun W3 hS => by obtain ⟨hS1, hS2, hS3⟩ := hS; have c3_0 := hS3.cell 0 _ rfl; have c3_1 := hS3.cell 1 _ rfl; go_simp⟩) hS0 ?_
  clear hS0
  try simp only [Act.put, List.setIfInBounds_toArray, List.set_cons_zero, List.set_cons_succ]
  refine wpAnyH_all (rs := [2]) (by kernel_rfl) (by simp) ?_
  intro i hi
  obtain rfl : i = 2 := by simpa using hi
  refine wpOp_intro rfl (fun K1 hK => ?_)
  clear hi
  go_simp
  refine (ka _ (M.get 2 rfl) (M.get 0 rfl)).mono ?_
  rintro e V1_2 ⟨a4, c4, rfl, g, rr⟩
  have M' := (M.up rr).add g
  clear M rr g
  have M := M'; clear M'
  refine hK _ _ ⟨⟨M.box 3 rfl, M.box 2 rfl, M.box 0 rfl⟩, ?_⟩
  clear hK K1
  refine wpAnyH_all (rs := [5]) (by kernel_rfl) (by simp) ?_
  intro i hi
  obtain rfl : i = 5 := by simpa using hi
  refine wpOp_intro rfl (fun K2 hK => ?_)
  clear hi
  go_simp
  refine (kb _ (M.get 2 rfl) (M.get 1 rfl)).mono ?_
  rintro e V2_5 ⟨a5, c5, rfl, g, rr⟩
  have M' := (M.up rr).add g
  clear M rr g
  have M := M'; clear M'
  refine hK _ _ ⟨⟨M.box 3 rfl, M.box 2 rfl, M.box 0 rfl⟩, ?_⟩
  clear hK K2
  have hS0 : (fun W => BoxN W (w.heap.size) 25 #[.bool sn, .slice a1 Ln.length c1] ∧ BoxN W (w.heap.size + 1) 25 #[.bool false, .slice a2 Lm.length c2] ∧ BoxN W (b6) 25 #[.bool false, .slice a3 Lg.length c3]) _ := ⟨M.box 3 rfl, M.box 2 rfl, M.box 0 rfl⟩
  refine wpAnyH_take (i := 6) (v := (.agg #[.bool sn, .slice a4 LZ.length c4, .bool false, .slice a5 DZ.length c5])) rfl (by kernel_rfl) (by kernel_rfl) (by kernel_rfl) (fun _ _ _ h => h) (Or.inl ⟨by rfl, fun W3 hS => by obtain ⟨hS1, hS2, hS3⟩ := hS; go_simp⟩) hS0 ?_
  clear hS0
  refine wpAnyH_all (rs := [7]) (by kernel_rfl) (by simp) ?_
  intro i hi
  obtain rfl : i = 7 := by simpa using hi
  refine wpOp_intro rfl (fun K3 hK => ?_)
  clear hi
  go_simp
  refine (fraction_any _ _ _ _ _ _ _ _ _).mono ?_
  rintro e V3_7 ⟨rfl, rr⟩
  have M' := M.up rr
  clear M rr 
  have M := M'; clear M'
  refine hK _ _ ⟨⟨M.box 3 rfl, M.box 2 rfl, M.box 0 rfl⟩, ?_⟩
  clear hK K3
  have f1_0 := M.fr 1 rfl 0; have f1_1 := M.fr 1 rfl 1; have f1_2 := M.fr 1 rfl 2
  have z1_0 := M.cell 1 rfl 0 rfl; have z1_1 := M.cell 1 rfl 1 rfl; have z1_2 := M.cell 1 rfl 2 rfl
  refine wpAnyH_all (rs := [8]) (by kernel_rfl) (by simp) ?_
  intro i hi
  obtain rfl : i = 8 := by simpa using hi
  refine wpOp_intro rfl (fun Ks4 hK => ?_)
  clear hi
  go_simp
  have M' := (((M.put 1 rfl rfl 0 (.bool sn)).put 1 rfl rfl 1 (.slice a4 LZ.length c4)).put 1 rfl rfl 2 (.slice a5 DZ.length c5))
  clear M f1_0 z1_0 f1_1 z1_1 f1_2 z1_2
  have M : Mem w [(b6, 25, [.bool false, .slice a3 Lg.length c3]), (w.heap.size + 1 + 1, 27, [.bool sn, .slice a4 LZ.length c4, .slice a5 DZ.length c5]), (w.heap.size + 1, 25, [.bool false, .slice a2 Lm.length c2]), (w.heap.size, 25, [.bool sn, .slice a1 Ln.length c1])] [(.slice a5 DZ.length c5, DZ), (.slice a4 LZ.length c4, LZ), (.slice a3 Lg.length c3, Lg), (.slice a2 Lm.length c2, Lm), (.slice a1 Ln.length c1, Ln), (.slice p2 L2.length q2, L2), (.slice p1 L1.length q1, L1)] _ := M'
  clear M'
  refine hK _ _ ⟨⟨M.box 3 rfl, M.box 2 rfl, M.box 0 rfl⟩, ?_⟩
  clear hK Ks4
  have hS0 : (fun W => BoxN W (w.heap.size) 25 #[.bool sn, .slice a1 Ln.length c1] ∧ BoxN W (w.heap.size + 1) 25 #[.bool false, .slice a2 Lm.length c2] ∧ BoxN W (b6) 25 #[.bool false, .slice a3 Lg.length c3]) _ := ⟨M.box 3 rfl, M.box 2 rfl, M.box 0 rfl⟩
  refine wpAnyH_take (i := 9) (v := (.int .i64 0)) rfl (by kernel_rfl) (by kernel_rfl) (by kernel_rfl) (fun _ _ _ h => h) (Or.inl ⟨by rfl, fun W3 hS => by obtain ⟨hS1, hS2, hS3⟩ := hS; go_simp⟩) hS0 ?_
  clear hS0
  refine wpAnyH_done (by kernel_rfl) ?_ _
  go_wp2
  refine ret_boxN_tmp rfl rfl rfl (M.box 1 rfl) Tryz.underlying27 size_rat rfl ?_
  exact ⟨a4, c4, a5, c5, rfl, M.get 1 rfl, M.get 0 rfl, M.below⟩

end Go.Proofs.YthnlmjnfdokdbaaGreatDoor
