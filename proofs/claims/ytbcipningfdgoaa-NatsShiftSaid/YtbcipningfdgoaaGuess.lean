/- How often a number goes into one of one part more: a guess by the highest parts. -/
import Derived.Test.YtbcipningfdgoaaKeep
import Derived.Test.YtbcipningfdgoaaBits
import Derived.Test.YtbcipningfdgoaaMathD
namespace Go.Proofs.Ytbcipningfdgoaa
open Go Go.Proofs Go.RowKit Go.Shelf Nu

attribute [local go_sem] Oper.semAt_some

theorem head_or (a b : Nat) (ha : a < 4294967296) (hb : b < 4294967296) : ∃ H : Nat, bits BinOp.or IntKind.u64 ((a : Int) * 4294967296) (b : Int) = (H : Int) ∧ H = b + 4294967296 * a ∧ H < 18446744073709551616 :=
  ⟨a * 4294967296 + b, or_shl a b ha hb, by omega, by omega⟩

theorem guess_next {H T v1 l R D : Nat} (h : H = T * v1 + l) (hd : R < T * D) (hT : 0 < T) : H = (T - 1) * v1 + (l + v1) ∧ R < (T - 1 + 1) * D := by
  obtain ⟨t, rfl⟩ : ∃ t, T = t + 1 := ⟨T - 1, by omega⟩
  rw [Nat.add_sub_cancel]
  refine ⟨?_, hd⟩
  rw [h, Nat.add_mul, Nat.one_mul]
  omega
theorem drew3 (w : World) (a b c : Nat) : ∃ m, ((w.drewN a).drewN b).drewN c = w.drewN m := ⟨_, (congrArg (fun x => x.drewN c) (World.drewN_drewN ..)).trans (World.drewN_drewN ..)⟩
theorem or_shl' (l k : Nat) (hl : l < 4294967296) (hk : k < 4294967296) : ∃ O : Nat, bits BinOp.or IntKind.u64 ((l : Int) * 4294967296) (k : Int) = (O : Int) ∧ O = l * 4294967296 + k := ⟨_, or_shl l k hl hk, rfl⟩

set_option maxRecDepth 100000 in
set_option maxHeartbeats 4000000 in
theorem guess_any {w : World} {br bb or_ ob cr cb n : Nat} {lr lb : List Nat} (hcr : ∀ j, j < n + 3 → w.cell? ⟨br, or_ + j, none⟩ = some (.int .u32 (lr.getD j 0 : Nat))) (hcb : ∀ j, j < n + 2 → w.cell? ⟨bb, ob + j, none⟩ = some (.int .u32 (lb.getD j 0 : Nat)))
    (hr : lr.length = n + 3) (hb : lb.length = n + 2) (hn : n ≤ 100000) (hsr : Sm lr) (hsb : Sm lb) (hv : 2147483648 ≤ lb.getD (n + 1) 0) (h : val lr < 4294967296 * val lb) :
    Calls Try.prog 62 #[.slice (some ⟨br, or_, none⟩) (n + 3 : Nat) cr, .slice (some ⟨bb, ob, none⟩) (n + 2 : Nat) cb] w fun e w' => ∃ T : Nat, e = .returned (.int .u32 T) ∧ T < 4294967296 ∧ (T - 1) * val lb ≤ val lr ∧ val lr < (T + 1) * val lb ∧ ∃ m, w' = w.drewN m := by
  have eR := val_top3 hr
  have eD := val_top2 hb
  have lR := val_take_lt hsr (n := n) (by omega)
  have lD := val_take_lt hsb (n := n) (by omega)
  have c1 := hcb (n + 1) (by omega)
  have c2 := hcb n (by omega)
  have c3 := hcr (n + 2) (by omega)
  have c4 := hcr (n + 1) (by omega)
  have c5 := hcr n (by omega)
  have b1 := hsb.getD (n + 1)
  have b2 := hsb.getD n
  have b3 := hsr.getD (n + 2)
  have b4 := hsr.getD (n + 1)
  have b5 := hsr.getD n
  obtain ⟨v1, hv1⟩ : ∃ x, x = lb.getD (n + 1) 0 := ⟨_, rfl⟩
  obtain ⟨v2, hv2⟩ : ∃ x, x = lb.getD n 0 := ⟨_, rfl⟩
  obtain ⟨rn, hrn⟩ : ∃ x, x = lr.getD (n + 2) 0 := ⟨_, rfl⟩
  obtain ⟨rm, hrm⟩ : ∃ x, x = lr.getD (n + 1) 0 := ⟨_, rfl⟩
  obtain ⟨rk, hrk⟩ : ∃ x, x = lr.getD n 0 := ⟨_, rfl⟩
  obtain ⟨R, hR⟩ : ∃ x, x = val lr := ⟨_, rfl⟩
  obtain ⟨D, hD⟩ : ∃ x, x = val lb := ⟨_, rfl⟩
  obtain ⟨X, hX⟩ : ∃ x, x = 4294967296 ^ n := ⟨_, rfl⟩
  obtain ⟨r0, hr0⟩ : ∃ x, x = val (lr.take n) := ⟨_, rfl⟩
  obtain ⟨d0, hd0⟩ : ∃ x, x = val (lb.take n) := ⟨_, rfl⟩
  rw [← hR, ← hX, ← hr0, ← hrn, ← hrm, ← hrk] at eR
  rw [← hD, ← hX, ← hd0, ← hv1, ← hv2] at eD
  rw [← hX, ← hr0] at lR
  rw [← hX, ← hd0] at lD
  rw [← hv1] at c1 b1 hv
  rw [← hv2] at c2 b2
  rw [← hrn] at c3 b3
  rw [← hrm] at c4 b4
  rw [← hrk] at c5 b5
  rw [← hR, ← hD] at h ⊢
  clear hv1 hv2 hrn hrm hrk hR hD hX hr0 hd0 hr hb hsr hsb hcr hcb
  obtain ⟨H, hH1, hH2, hH3⟩ := head_or rn rm b3 b4
  have g0 := guess_start eR lR eD b5 (show 0 < v1 by omega)
  rw [← hH2] at g0
  have gd := @guess_down R D X r0 d0 v1 v2 rn rm rk
  have gt := @guess_down_top R D
  have ge := @guess_end R D X r0 d0 v1 v2 rn rm rk
  have ge1 := @guess_end1 v1 v2 rn rm rk
  have ge2 := @guess_end2 v1 v2 rn rm rk
  have gp := @guess_part R D X r0 d0 v1 v2 rn rm rk
  have HE : Hid ((∀ T left, H = T * v1 + left → left * 4294967296 + rk < T * v2 → R < T * D) ∧ (∀ T, 4294967295 < T → R < T * D) ∧ (∀ T left, H = T * v1 + left → T ≤ 4294967295 → (4294967295 < left ∨ T * v2 ≤ left * 4294967296 + rk) → (T - 1) * D ≤ R) ∧ (∀ T left, H = T * v1 + left → 4294967295 < left → T ≤ 4294967295)) := Lib.hid
    ⟨fun T left e hc => gd eR lR eD (hH2 ▸ e) hc, fun T hT => gt h hT, fun T left e hT hc => ge eR eD lD hv hT (hc.elim (fun hl => ge2 (hH2 ▸ e) hl hT b2) (fun hc => ge1 (hH2 ▸ e) hc)), fun T left e hl => gp eR eD lD b2 h (hH2 ▸ e) hl⟩
  clear gd gt ge ge1 ge2 gp eR eD lR lD h hH2
  obtain ⟨q, hq⟩ : ∃ q, q = H / v1 := ⟨_, rfl⟩
  obtain ⟨l0, hl0⟩ : ∃ l, l = H % v1 := ⟨_, rfl⟩
  have hq1 : H = q * v1 + l0 := by rw [hq, hl0, Nat.mul_comm]; exact (Nat.div_add_mod H v1).symm
  have hq2 : q < 8589934592 := by
    rw [hq]; exact Nat.lt_of_le_of_lt (Nat.div_le_div_left hv (by decide)) (by omega)
  have hl2 : l0 < 4294967296 := by rw [hl0]; exact Nat.lt_trans (Nat.mod_lt _ (by omega)) b1
  rw [← hq] at g0
  have e1 : (H : Int) / (v1 : Int) = (q : Int) := by rw [hq]; push_cast; rfl
  have e2 : (H : Int) % (v1 : Int) = (l0 : Int) := by rw [hl0]; push_cast; rfl
  have G0 := Lib.hid g0
  have HQ := Lib.hid hq1
  clear hq hl0 hq1 g0
  have i1 : ((n + 2 : Nat) : Int) - 1 = ((n + 1 : Nat) : Int) := by omega
  have i2 : ((n + 2 : Nat) : Int) - 2 = (n : Int) := by omega
  obtain ⟨N, hN⟩ : ∃ N, N = n + 2 := ⟨_, rfl⟩
  obtain ⟨M, hM⟩ : ∃ M, M = n + 1 := ⟨_, rfl⟩
  obtain ⟨K, hK⟩ : ∃ K, K = n + 3 := ⟨_, rfl⟩
  rw [← hN] at i1 i2 c3 ⊢
  rw [← hM] at i1 c1 c4
  rw [← hK]
  have l1 : N < K := by omega
  have l2 : M < N := by omega
  have l3 : n < M := by omega
  have l4 : N ≤ 100002 := by omega
  have u1 := w64_of q (by omega)
  have u2 := w64_of l0 (by omega)
  have u0 : ¬ (v1 : Int) = 0 := by omega
  clear hN hM hK hv
  go_enter Try.func62, Try.ntmps62
  go_wp2
  go_quiet (fail)
  go_wp2
  go_quiet (fail)
  go_wp2
  go_quiet (fail)
  go_wp2
  go_loopw [9, 10] (fun x y wr => ∃ T l m : Nat, T < 8589934592 ∧ l < 8589934592 ∧ x = .int .u64 T ∧ y = .int .u64 l ∧ Hid (H = T * v1 + l ∧ R < (T + 1) * D) ∧ wr = w.drewN m) (fun x _ _ => (intOf x).toNat)
  case atStart =>
    obtain ⟨m, hm⟩ := drew3 w _ _ _
    exact ⟨q, l0, m, hq2, by omega, by first | rfl | rw [e1], by first | rfl | rw [e2], Lib.hid ⟨HQ.out, G0.out⟩, hm⟩
  case round =>
    obtain ⟨T, l, m, hT, hl, rfl, rfl, HI, rfl⟩ := hrel
    clear e1 e2 u1 u2 c1 c2 c3 c4 hH1 HQ G0 hq2 hl2 i1
    by_cases hl1 : 4294967295 < l
    · have hT1 := HE.out.2.2.2 T l HI.out.1 hl1
      have hfin := Lib.hid (HE.out.2.2.1 T l HI.out.1 hT1 (.inl hl1))
      have hi1 : ¬ (l : Int) ≤ 4294967295 := by omega
      have u3 := w32_of T (by omega)
      go_wp2
      go_ret
      exact ⟨T, rfl, by omega, hfin.out, HI.out.2, m, rfl⟩
    · have hi1 : (l : Int) ≤ 4294967295 := by omega
      by_cases hT1 : 4294967295 < T
      · have hd := Lib.hid (HE.out.2.1 T hT1)
        have hTp : 0 < T := by omega
        have hi2 : (4294967295 : Int) < (T : Int) := by omega
        go_wp2
        exact ⟨⟨T - 1, l + v1, m, by omega, by omega, by congr 1; omega, by congr 1, Lib.hid (guess_next HI.out.1 hd.out hTp), rfl⟩, by simp [intOf]; omega⟩
      · obtain ⟨P, hP, HP, hPb⟩ := mul_bound (x := T) (t := v2) (by omega) b2
        obtain ⟨O, hO, HO⟩ := or_shl' l rk (by omega) b5
        have hi2 : ¬ (4294967295 : Int) < (T : Int) := by omega
        by_cases hc : O < P
        · have hd := Lib.hid (HE.out.1 T l HI.out.1 (by rw [← HP, ← HO]; exact hc))
          have hi4 : (O : Int) < (P : Int) := by omega
          have hTp : 0 < T := by
            rcases Nat.eq_zero_or_pos T with h | h
            · rw [h, Nat.zero_mul] at HP; omega
            · exact h
          have HP' := Lib.hid HP
          have HO' := Lib.hid HO
          clear HP HO
          go_wp2
          exact ⟨⟨T - 1, l + v1, m, by omega, by omega, by congr 1; omega, by congr 1, Lib.hid (guess_next HI.out.1 hd.out hTp), rfl⟩, by simp [intOf]; omega⟩
        · have hfin := Lib.hid (HE.out.2.2.1 T l HI.out.1 (by omega) (.inr (by rw [← HP, ← HO]; omega)))
          have hi4 : ¬ (O : Int) < (P : Int) := by omega
          have HP' := Lib.hid HP
          have HO' := Lib.hid HO
          have u3 := w32_of T (by omega)
          clear HP HO
          go_wp2
          go_ret
          exact ⟨T, rfl, by omega, hfin.out, HI.out.2, m, rfl⟩

end Go.Proofs.Ytbcipningfdgoaa
