/- NatsShift: its walks. -/
import Derived.Test.YtbcipningfdgoaaAliveB
import Derived.Test.YtbcipningfdgoaaDivA
import Derived.Test.YtbcipningfdgoaaFormD
import Derived.Test.YtbcipningfdgoaaGreat
namespace Go.Proofs.Ytbcipningfdgoaa
open Go Go.Proofs Go.RowKit Go.Shelf Nu

/-! the digits of products by, of what is divided by, a power of 2 to the 32 -/
theorem digs_append {l m : List Nat} (hl : Sm l) (hm : Sm m) (hc : chk m = true) (h0 : m ≠ []) : digs (val (l ++ m)) = l ++ m := by
  refine digs_val (hl.append hm) ((chk_iff _).2 (.inr ?_))
  rcases (chk_iff m).1 hc with h | h
  · exact absurd h h0
  · have hp : 0 < m.length := List.length_pos_iff.2 h0
    rw [List.length_append, List.getD_eq_getElem?_getD, List.getElem?_append_right (by omega), show l.length + m.length - 1 - l.length = m.length - 1 by omega, ← List.getD_eq_getElem?_getD]
    exact h
theorem val_repl (k : Nat) (m : List Nat) : val (List.replicate k 0 ++ m) = 4294967296 ^ k * val m := by
  rw [val_append, val_replicate, List.length_replicate, Nat.zero_add]
theorem digs_pow (k : Nat) : digs (4294967296 ^ k) = List.replicate k 0 ++ [1] := by
  rw [← digs_append (Sm.replicate k) (m := [1]) (Sm.cons (by decide) Sm.nil) (by simp [chk]) (by simp), val_repl, val_one, Nat.mul_one]
theorem digs_wide {A k : Nat} (h : A ≠ 0) : digs (A * 4294967296 ^ k) = List.replicate k 0 ++ digs A := by
  rw [← digs_append (Sm.replicate k) (sm_digs A) (chk_digs A) (fun e => h (digs_eq_nil.1 e)), val_repl, val_digs, Nat.mul_comm]
theorem digs_quo (A k : Nat) : digs (A / 4294967296 ^ k) = (digs A).drop k := by
  rcases Nat.lt_or_ge k (digs A).length with h | h
  · have e := val_split (digs A) k (by omega)
    rw [val_digs] at e
    have hl := val_lt ((sm_digs A).take k)
    rw [List.length_take, Nat.min_eq_left (by omega)] at hl
    have e2 : A / 4294967296 ^ k = val ((digs A).drop k) := by
      generalize val ((digs A).take k) = x at *
      generalize val ((digs A).drop k) = y at *
      rw [e, Nat.add_mul_div_left _ _ (Nat.pow_pos (by decide)), Nat.div_eq_of_lt hl, Nat.zero_add]
    rw [e2]
    refine digs_val ((sm_digs A).drop k) ((chk_iff _).2 (.inr ?_))
    rcases (chk_iff (digs A)).1 (chk_digs A) with h1 | h1
    · rw [h1] at h; simp at h
    · rw [List.length_drop, List.getD_eq_getElem?_getD, List.getElem?_drop, show k + ((digs A).length - k - 1) = (digs A).length - 1 by omega, ← List.getD_eq_getElem?_getD]
      exact h1
  · rw [List.drop_of_length_le h, Nat.div_eq_of_lt (Nat.lt_of_lt_of_le (digs_lt A) (Nat.pow_le_pow_right (by decide) h)), digs_zero]
theorem digs_rest (A k : Nat) : digs (A % 4294967296 ^ k) = cut ((digs A).take k) := by
  rw [cut_eq ((sm_digs A).take k)]
  congr 1
  rcases Nat.lt_or_ge k (digs A).length with h | h
  · have e := val_split (digs A) k (by omega)
    rw [val_digs] at e
    have hl := val_lt ((sm_digs A).take k)
    rw [List.length_take, Nat.min_eq_left (by omega)] at hl
    generalize val ((digs A).take k) = x at *
    rw [e, Nat.add_mul_mod_self_left, Nat.mod_eq_of_lt hl]
  · rw [List.take_of_length_le h, val_digs, Nat.mod_eq_of_lt (Nat.lt_of_lt_of_le (digs_lt A) (Nat.pow_le_pow_right (by decide) h))]

/-- a part of what reads as a list -/
theorem reads_part {W : World} {b o n cap : Nat} {l : List Nat} (i m : Nat) (h : Reads W (.slice (some ⟨b, o, none⟩) n cap) l) (hn : n = l.length) (hi : i + m ≤ n) (cap' : Nat) (hc : m ≤ cap') (hb : b < W.heap.size) : Reads W (.slice (some ⟨b, o + i, none⟩) m cap') ((l.drop i).take m) := by
  subst hn
  have hl : ((l.drop i).take m).length = m := by rw [List.length_take, List.length_drop]; omega
  rcases h with ⟨h1, _⟩ | ⟨b', o', c', e, _, _, hcell⟩
  · cases h1
  · simp only [Value.slice.injEq, Option.some.injEq, Addr.mk.injEq, and_true, true_and] at e
    obtain ⟨⟨rfl, rfl⟩, rfl⟩ := e
    refine .inr ⟨b, o + i, cap', by rw [hl], hb, by rw [hl]; exact hc, fun j hj => ?_⟩
    rw [hl] at hj
    rw [Nat.add_assoc, hcell (i + j) (by omega), List.getD_eq_getElem?_getD, List.getD_eq_getElem?_getD, List.getElem?_take, if_pos hj, List.getElem?_drop]

/-! ### the walks -/
theorem reads_some {W : World} {a : Option Addr} {n c : Nat} {l : List Nat} (h : Reads W (.slice a n c) l) (h0 : 0 < n) : ∃ b o, a = some ⟨b, o, none⟩ ∧ b < W.heap.size ∧ n ≤ c ∧ n = l.length ∧ ∀ j, j < n → W.cell? ⟨b, o + j, none⟩ = some (.int .u32 (l.getD j 0 : Nat)) := by
  rcases h with ⟨h1, _⟩ | ⟨b, o, c', e, hb, hc, hl⟩
  · cases h1; omega
  · simp only [Value.slice.injEq] at e
    obtain ⟨rfl, rfl, rfl⟩ := e
    exact ⟨b, o, rfl, hb, hc, rfl, hl⟩
theorem same_yes {w : World} {va vb : Value} {l m : List Nat} (ha : Reads w va l) (hb : Reads w vb m) (e : l = m) (hl : l.length ≤ 1000) : Calls Try.prog 15 #[va, vb] w fun e w' => e = .returned (.bool true) ∧ Below w.heap.size w w' := by
  subst e
  refine (sameNat_any ha hb (by omega) (by omega)).mono ?_
  rintro e w' ⟨rfl, n, rfl⟩
  exact ⟨by simp, ⟨rfl, rfl, rfl, Nat.le_refl _, fun k hk => rfl⟩⟩
theorem set_last (k : Nat) : (List.replicate (k + 1) 0).set k 1 = List.replicate k 0 ++ [1] := by
  rw [List.replicate_succ', List.set_append_right _ _ (by simp), List.length_replicate, Nat.sub_self]; rfl
theorem repl_getD (k j : Nat) (m : List Nat) (h : j < k) : (List.replicate k 0 ++ m).getD j 0 = 0 := by
  rw [List.getD_eq_getElem?_getD, List.getElem?_append_left (by simpa using h), List.getElem?_replicate, if_pos h]; rfl
theorem cut_low {l : List Nat} {k n : Nat} (hn : n ≤ k) (hk : k ≤ l.length) (h0 : ∀ j, n ≤ j → j < k → l.getD j 0 = 0) (h1 : n = 0 ∨ l.getD (n - 1) 0 ≠ 0) : cut (l.take k) = l.take n := by
  have hl : (l.take k).length = k := by rw [List.length_take]; omega
  rw [cut_eq_take (l.take k) n (by omega) ?_ ?_, List.take_take, Nat.min_eq_left hn]
  · intro j hj
    rw [List.getD_eq_getElem?_getD, List.getElem?_take]
    split
    · rw [← List.getD_eq_getElem?_getD]; exact h0 j hj (by assumption)
    · rfl
  · rcases h1 with h | h
    · exact .inl h
    · by_cases hz : n = 0
      · exact .inl hz
      · refine .inr ?_
        rw [List.getD_eq_getElem?_getD, List.getElem?_take, if_pos (by omega), ← List.getD_eq_getElem?_getD]; exact h

set_option maxRecDepth 100000 in
set_option maxHeartbeats 8000000 in
theorem shift_lo {w : World} {a1 : Option Addr} {ca A n k : Nat} (ga : Reads w (.slice a1 (digs A).length ca) (digs A)) (LA : (digs A).length ≤ 60) (hA : A ≠ 0) (hn : n < 256) (hk : k = n % 40) (hlo : k < (digs A).length) :
    Calls Try.prog 10 #[.slice a1 (digs A).length ca, .int .u8 n] w fun e w' => e = .returned (.bool true) ∧ Below w.heap.size w w' := by
  obtain ⟨i0, hi, hz0, hz1, hz2⟩ := info_parts info_u32
  obtain ⟨M, hM⟩ : ∃ M, M = (digs A).length := ⟨_, rfl⟩
  obtain ⟨P, hP⟩ : ∃ P, P = 4294967296 ^ k := ⟨_, rfl⟩
  obtain ⟨K1, hK1⟩ : ∃ K, K = k + 1 := ⟨_, rfl⟩
  have dP : digs P = List.replicate k 0 ++ [1] := by rw [hP]; exact digs_pow k
  have lP : (digs P).length = K1 := by rw [dP]; simp; omega
  have hP0 : P ≠ 0 := by rw [hP]; exact Nat.pos_iff_ne_zero.1 (Nat.pow_pos (by decide))
  have hk40 : k < 40 := by omega
  obtain ⟨X, hX⟩ : ∃ X, X = A * P := ⟨_, rfl⟩
  obtain ⟨Q, hQ⟩ : ∃ Q, Q = A / P := ⟨_, rfl⟩
  obtain ⟨R, hR⟩ : ∃ R, R = A % P := ⟨_, rfl⟩
  have dQ : digs Q = (digs A).drop k := by rw [hQ, hP]; exact digs_quo A k
  have dR : digs R = cut ((digs A).take k) := by rw [hR, hP]; exact digs_rest A k
  have lQ : (digs Q).length = M - k := by rw [dQ, List.length_drop, hM]
  have lR : (digs R).length ≤ 60 := by rw [hR]; exact Nat.le_trans (digs_mono (Nat.mod_le _ _)) LA
  have dX : digs X = List.replicate k 0 ++ digs A := by rw [hX, hP]; exact digs_wide hA
  have lX : (digs X).length = M + k := by rw [dX, List.length_append, List.length_replicate, hM]; omega
  have hpos : 0 < M := by rw [hM]; exact digs_len_pos hA
  have HX := Lib.hid dX
  have km := fun (W : World) {p2 : Option Addr} {q2 : Nat} (h1 : Reads W (.slice a1 (digs A).length ca) (digs A)) (h2 : Reads W (.slice p2 (digs P).length q2) (digs P)) => d_mul X h1 h2 (by omega) (by omega) hX
  have kq := fun (W : World) {p2 : Option Addr} {q2 : Nat} (h1 : Reads W (.slice a1 (digs A).length ca) (digs A)) (h2 : Reads W (.slice p2 (digs P).length q2) (digs P)) => d_quo Q R h1 h2 (by omega) (by omega) hP0 hQ hR
  rw [lP, ← hM, lX] at km
  rw [lP, ← hM, lQ] at kq
  have kc := fun (W : World) (h1 : Reads W (.slice a1 (digs A).length ca) (digs A)) => d_check h1 (by omega)
  rw [← hM] at kc ga LA ⊢
  have en : (n : Int) % 40 = (k : Int) := by omega
  have HP := Lib.hid (show digs P = List.replicate k 0 ++ [1] ∧ K1 = k + 1 ∧ M = (digs A).length ∧ (digs P).length = K1 from ⟨dP, hK1, hM, lP⟩)
  have HD := Lib.hid (show digs Q = (digs A).drop k ∧ digs R = cut ((digs A).take k) from ⟨dQ, dR⟩)
  have hK1a : k < K1 := by omega
  have hK1b : K1 ≤ 40 := by omega
  have j1 : ¬ 60 < (M : Int) := by omega
  have j2 : (M == 0) = false := beq_false_of_ne (by omega)
  have j3 : ((M : Int) == 0) = false := beq_false_of_ne (by omega)
  have j4 : ((M + k : Nat) != M + k) = false := by simp
  have j5 : (((M : Int) + (k : Int)) != (M : Int) + (k : Int)) = false := by simp
  have j6 : ¬ (M : Int) ≤ (k : Int) := by omega
  have j7 : k ≤ M := by omega
  have j8 : (k : Int) ≤ (M : Int) := by omega
  have j9 : k < M := by omega
  have r0 := Below.refl w.heap.size w
  clear dP lP hP0 hP hK1 hX hQ hR dQ dR lQ lX hk hM dX hA hlo
  go_enter Try.func10, Try.ntmps10
  go_wp2_with (first
    | (go_at_call 11; with_reducible refine (alive_any w).mono ?_; rintro e w1 ⟨rfl, rr⟩; replace ga := ga.below rr; replace r0 := then_below r0 rr; clear rr)
    | (go_at_call 14; with_reducible refine (kc w1 ga).mono ?_; rintro e w2 ⟨rfl, rr⟩; replace ga := ga.below rr; replace r0 := then_below r0 rr; clear rr)
    | (at_make; go_loud (refine wpList_make_full _ rfl _ _ 23 rfl w2.heap.size 37 i0 (.int .u32 0) 1 Try.underlying23 hi hz0 hz1 .i64 .i64 _ _ K1 rfl rfl (by have := HP.out; omega) (by have := HP.out; omega) (by rw [hz2]; omega) (by unfold maxLen; omega) (by simp) ?_); intro w3 hown hgrow; have hb3 : Below w2.heap.size w2 w3 := (Below.refl _ _).grown hgrow (Nat.le_refl _) (fun j e => by cases e); have hF : Fresh w3 w2.heap.size (.slice (some ⟨w2.heap.size, 0, none⟩) K1 K1) (List.replicate K1 0) := (by unfold Fresh; rw [List.length_replicate, ← replicate_zero_u32]; exact hown); have hlt := hF.at.2.1; obtain ⟨post, hB, -, -, -⟩ := hF.blk (by simp); have c0 := hB.cell (o := 0) rfl k (by simp; omega); rw [Nat.zero_add] at c0; have f0 := hB.frozen k; have hB2 := hB.set (o := 0) rfl k 1 (by simp; omega); rw [Nat.zero_add] at hB2; have gp : Reads (w3.setCell ⟨w2.heap.size, k, none⟩ (.int .u32 1)) (.slice (some ⟨w2.heap.size, 0, none⟩) K1 K1) (digs P) := (by have h := HP.out; have e := hB2.reads (o := 0) (cap := K1) rfl (by simp); rw [h.2.1, set_last, ← h.1, h.2.2.2, ← h.2.1] at e; exact e); have hb4 : Below w2.heap.size w2 (w3.setCell ⟨w2.heap.size, k, none⟩ (.int .u32 1)) := hb3.setCell (p := ⟨w2.heap.size, k, none⟩) (Nat.le_refl _) _; replace ga := ga.below hb4; replace r0 := then_below r0 hb4; clear hown hgrow hb3 hF hB hB2 hb4; generalize (List.replicate K1 0).getD k 0 = z0 at c0)
    | (go_at_call 13; with_reducible refine (km _ ga gp).mono ?_; rintro e w4 ⟨xw, cw, rfl, gw, rr⟩; clear c0 f0; replace ga := ga.below rr; replace gp := gp.below rr; replace r0 := then_below r0 rr; clear rr)
    | (go_at_call 16; with_reducible refine (kq w4 ga gp).mono ?_; rintro e w5 ⟨xq, cq, xr, cr, rfl, gq, gr, rr⟩; replace ga := ga.below rr; replace gw := gw.below rr; replace r0 := then_below r0 rr; clear rr; obtain ⟨bw, ow, rfl, hbw, hcw, -, hcl⟩ := reads_some gw (by omega); have gw2 := reads_part k M gw (by rw [HX.out, List.length_append, List.length_replicate, ← HP.out.2.2.1]; omega) (by omega) (cw - k) (by omega) hbw; rw [HX.out, List.drop_left' (by simp), List.take_of_length_le (by rw [← HP.out.2.2.1]; exact Nat.le_refl _)] at gw2; have HC : Hid (∀ j, j < k → w5.cell? ⟨bw, ow + j, none⟩ = some (.int .u32 0)) := Lib.hid (fun j hj => by have e := hcl j (by omega); rw [HX.out, repl_getD k j _ hj, Int.natCast_zero] at e; exact e); clear hcl; have hcw2 : ¬ cw = k := (by omega); have hcw3 : ¬ (cw : Int) < (k : Int) := (by omega))
    | (go_at_call 15; with_reducible refine (same_yes gw2 ga rfl (by rw [← HP.out.2.2.1]; omega)).mono ?_; rintro e w6 ⟨rfl, rr⟩; replace ga := ga.below rr; replace gq := gq.below rr; replace gr := gr.below rr; replace r0 := then_below r0 rr; have HC6 : Hid (∀ j, j < k → w6.cell? ⟨bw, ow + j, none⟩ = some (.int .u32 0)) := Lib.hid (fun j hj => (rr.cell (p := ⟨bw, ow + j, none⟩) hbw).trans (HC.out j hj)); clear rr HC gw2 gw))
  go_loop [11] (fun s => ∃ j : Nat, j ≤ k ∧ s = .int .i64 j) (fun s => k - (intOf s).toNat)
  case atStart => exact ⟨0, Nat.zero_le _, rfl⟩
  case round =>
    obtain ⟨j, hj, rfl⟩ := hrel
    by_cases hjk : j < k
    · have e1 := HC6.out j hjk
      have i1 : (j : Int) < (k : Int) := by omega
      have i2 : j < M + k := by omega
      go_wp2
      go_round
      case rel => exact ⟨j + 1, by omega, by simp⟩
      case measure => simp [intOf]; omega
    · obtain rfl : j = k := by omega
      have i1 : ¬ (j : Int) < (j : Int) := by omega
      clear HC6 hjk hj
      obtain ⟨b, o, rfl, hbw2, hca, -, hal⟩ := reads_some ga (by omega)
      have HAL := Lib.hid hal
      clear hal
      go_wp2
      go_loop [12] (fun s => ∃ n : Nat, n ≤ j ∧ s = .int .i64 n ∧ Hid (∀ i, n ≤ i → i < j → (digs A).getD i 0 = 0)) (fun s => (intOf s).toNat)
      case atStart => exact ⟨j, Nat.le_refl _, rfl, Lib.hid fun i h1 h2 => by omega⟩
      case round =>
        obtain ⟨m, hm, rfl, HZ⟩ := hrel
        have FIN : (m = 0 ∨ (digs A).getD (m - 1) 0 ≠ 0) → Hid (digs R = (digs A).take m) := fun h => Lib.hid (HD.out.2.trans (cut_low hm (by rw [← HP.out.2.2.1]; omega) HZ.out h))
        have gA1 := fun (W : World) (h : Reads W (.slice (some ⟨b, o, none⟩) M ca) (digs A)) (hb : b < W.heap.size) => reads_part j (M - j) h HP.out.2.2.1 (by omega) (ca - j) (by omega) hb
        have gA2 := fun (W : World) (h : Reads W (.slice (some ⟨b, o, none⟩) M ca) (digs A)) (hb : b < W.heap.size) => reads_part 0 m h HP.out.2.2.1 (by omega) ca (by omega) hb
        have HE := Lib.hid (show digs Q = ((digs A).drop j).take (M - j) ∧ ∀ m, (digs A).take m = ((digs A).drop 0).take m from ⟨by rw [HD.out.1, List.take_of_length_le (by rw [List.length_drop, ← HP.out.2.2.1]; exact Nat.le_refl _)], fun m => rfl⟩)
        have lq : (digs Q).length ≤ 1000 := by rw [HD.out.1, List.length_drop, ← HP.out.2.2.1]; omega
        have i3 : ¬ ca = j := by omega
        have i4 : ¬ (ca : Int) < (j : Int) := by omega
        have i5 : ¬ (M : Int) < (j : Int) := by omega
        have i6 : ¬ (ca : Int) < (m : Int) := by omega
        rw [Nat.add_zero] at gA2
        cases m with
        | zero =>
          have HRR := FIN (.inl rfl)
          clear FIN
          go_wp2_with (first
            | (go_at_call 15; with_reducible refine (same_yes gq (gA1 _ ga hbw2) HE.out.1 lq).mono ?_; rintro e w7 ⟨rfl, rr⟩; replace ga := ga.below rr; replace gr := gr.below rr; replace r0 := then_below r0 rr; have hbw3 : b < w7.heap.size := Nat.lt_of_lt_of_le hbw2 rr.size; clear rr)
            | (go_at_call 15; with_reducible refine (same_yes gr (gA2 w7 ga hbw3) (HRR.out.trans (HE.out.2 _)) (by omega)).mono ?_; rintro e w8 ⟨rfl, rr⟩))
          go_ret
          exact ⟨rfl, then_below r0 rr⟩
        | succ m =>
          have e1 := HAL.out m (by omega)
          obtain ⟨y, hy⟩ : ∃ y, y = (digs A).getD m 0 := ⟨_, rfl⟩
          rw [← hy] at e1
          have HY := Lib.hid hy
          clear hy
          have e2 : ((m + 1 : Nat) : Int) - 1 = (m : Int) := by omega
          have e3 : ((m + 1 : Nat) : Int) = (m : Int) + 1 := by omega
          have i7 : m < M := by omega
          have i8 : (m : Int) < (M : Int) := by omega
          by_cases hy0 : y = 0
          · have ht : ((y : Int) == 0) = true := by simp [hy0]
            have HZ0 := Lib.hid hy0
            clear hy0 FIN gA1 gA2
            rw [e3]
            clear e3
            go_wp2
            go_round
            case rel => exact ⟨m, by omega, rfl, Lib.hid fun i h1 h2 => by
              by_cases e : i = m
              · subst e; rw [← HY.out]; exact HZ0.out
              · exact HZ.out i (by omega) h2⟩
            case measure => simp [intOf]
          · have ht : ((y : Int) == 0) = false := by simp [hy0]
            have HRR := FIN (.inr (by rw [Nat.add_sub_cancel, ← HY.out]; exact hy0))
            clear hy0 FIN
            rw [e3]
            clear e3
            go_wp2_with (first
              | (go_at_call 15; with_reducible refine (same_yes gq (gA1 _ ga hbw2) HE.out.1 lq).mono ?_; rintro e w7 ⟨rfl, rr⟩; replace ga := ga.below rr; replace gr := gr.below rr; replace r0 := then_below r0 rr; have hbw3 : b < w7.heap.size := Nat.lt_of_lt_of_le hbw2 rr.size; clear rr)
              | (go_at_call 15; with_reducible refine (same_yes gr (gA2 w7 ga hbw3) (HRR.out.trans (HE.out.2 _)) (by omega)).mono ?_; rintro e w8 ⟨rfl, rr⟩))
            go_ret
            exact ⟨rfl, then_below r0 rr⟩

set_option maxRecDepth 100000 in
set_option maxHeartbeats 8000000 in
theorem shift_hi {w : World} {a1 : Option Addr} {ca A n k : Nat} (ga : Reads w (.slice a1 (digs A).length ca) (digs A)) (LA : (digs A).length ≤ 60) (hA : A ≠ 0) (hn : n < 256) (hk : k = n % 40) (hlo : (digs A).length ≤ k) :
    Calls Try.prog 10 #[.slice a1 (digs A).length ca, .int .u8 n] w fun e w' => e = .returned (.bool true) ∧ Below w.heap.size w w' := by
  obtain ⟨i0, hi, hz0, hz1, hz2⟩ := info_parts info_u32
  obtain ⟨M, hM⟩ : ∃ M, M = (digs A).length := ⟨_, rfl⟩
  obtain ⟨P, hP⟩ : ∃ P, P = 4294967296 ^ k := ⟨_, rfl⟩
  obtain ⟨K1, hK1⟩ : ∃ K, K = k + 1 := ⟨_, rfl⟩
  have dP : digs P = List.replicate k 0 ++ [1] := by rw [hP]; exact digs_pow k
  have lP : (digs P).length = K1 := by rw [dP]; simp; omega
  have hP0 : P ≠ 0 := by rw [hP]; exact Nat.pos_iff_ne_zero.1 (Nat.pow_pos (by decide))
  have hk40 : k < 40 := by omega
  obtain ⟨X, hX⟩ : ∃ X, X = A * P := ⟨_, rfl⟩
  obtain ⟨Q, hQ⟩ : ∃ Q, Q = A / P := ⟨_, rfl⟩
  obtain ⟨R, hR⟩ : ∃ R, R = A % P := ⟨_, rfl⟩
  have dQ : digs Q = (digs A).drop k := by rw [hQ, hP]; exact digs_quo A k
  have dR : digs R = cut ((digs A).take k) := by rw [hR, hP]; exact digs_rest A k
  have lQ : (digs Q).length = M - k := by rw [dQ, List.length_drop, hM]
  have lR : (digs R).length ≤ 60 := by rw [hR]; exact Nat.le_trans (digs_mono (Nat.mod_le _ _)) LA
  have dX : digs X = List.replicate k 0 ++ digs A := by rw [hX, hP]; exact digs_wide hA
  have lX : (digs X).length = M + k := by rw [dX, List.length_append, List.length_replicate, hM]; omega
  have hpos : 0 < M := by rw [hM]; exact digs_len_pos hA
  have HX := Lib.hid dX
  have km := fun (W : World) {p2 : Option Addr} {q2 : Nat} (h1 : Reads W (.slice a1 (digs A).length ca) (digs A)) (h2 : Reads W (.slice p2 (digs P).length q2) (digs P)) => d_mul X h1 h2 (by omega) (by omega) hX
  have kq := fun (W : World) {p2 : Option Addr} {q2 : Nat} (h1 : Reads W (.slice a1 (digs A).length ca) (digs A)) (h2 : Reads W (.slice p2 (digs P).length q2) (digs P)) => d_quo Q R h1 h2 (by omega) (by omega) hP0 hQ hR
  rw [lP, ← hM, lX] at km
  rw [lP, ← hM, lQ] at kq
  have kc := fun (W : World) (h1 : Reads W (.slice a1 (digs A).length ca) (digs A)) => d_check h1 (by omega)
  rw [← hM] at kc ga LA ⊢
  have en : (n : Int) % 40 = (k : Int) := by omega
  have HP := Lib.hid (show digs P = List.replicate k 0 ++ [1] ∧ K1 = k + 1 ∧ M = (digs A).length ∧ (digs P).length = K1 from ⟨dP, hK1, hM, lP⟩)
  have HD := Lib.hid (show digs Q = (digs A).drop k ∧ digs R = cut ((digs A).take k) from ⟨dQ, dR⟩)
  have hK1a : k < K1 := by omega
  have hK1b : K1 ≤ 40 := by omega
  have j1 : ¬ 60 < (M : Int) := by omega
  have j2 : (M == 0) = false := beq_false_of_ne (by omega)
  have j3 : ((M : Int) == 0) = false := beq_false_of_ne (by omega)
  have j4 : ((M + k : Nat) != M + k) = false := by simp
  have j5 : (((M : Int) + (k : Int)) != (M : Int) + (k : Int)) = false := by simp
  have j6 : (M : Int) ≤ (k : Int) := by omega
  have j7 : M - k = 0 := by omega
  have r0 := Below.refl w.heap.size w
  clear dP lP hP0 hP hK1 hX hQ hR dQ dR lQ lX hk hM dX hA hlo
  go_enter Try.func10, Try.ntmps10
  go_wp2_with (first
    | (go_at_call 11; with_reducible refine (alive_any w).mono ?_; rintro e w1 ⟨rfl, rr⟩; replace ga := ga.below rr; replace r0 := then_below r0 rr; clear rr)
    | (go_at_call 14; with_reducible refine (kc w1 ga).mono ?_; rintro e w2 ⟨rfl, rr⟩; replace ga := ga.below rr; replace r0 := then_below r0 rr; clear rr)
    | (at_make; go_loud (refine wpList_make_full _ rfl _ _ 23 rfl w2.heap.size 37 i0 (.int .u32 0) 1 Try.underlying23 hi hz0 hz1 .i64 .i64 _ _ K1 rfl rfl (by have := HP.out; omega) (by have := HP.out; omega) (by rw [hz2]; omega) (by unfold maxLen; omega) (by simp) ?_); intro w3 hown hgrow; have hb3 : Below w2.heap.size w2 w3 := (Below.refl _ _).grown hgrow (Nat.le_refl _) (fun j e => by cases e); have hF : Fresh w3 w2.heap.size (.slice (some ⟨w2.heap.size, 0, none⟩) K1 K1) (List.replicate K1 0) := (by unfold Fresh; rw [List.length_replicate, ← replicate_zero_u32]; exact hown); have hlt := hF.at.2.1; obtain ⟨post, hB, -, -, -⟩ := hF.blk (by simp); have c0 := hB.cell (o := 0) rfl k (by simp; omega); rw [Nat.zero_add] at c0; have f0 := hB.frozen k; have hB2 := hB.set (o := 0) rfl k 1 (by simp; omega); rw [Nat.zero_add] at hB2; have gp : Reads (w3.setCell ⟨w2.heap.size, k, none⟩ (.int .u32 1)) (.slice (some ⟨w2.heap.size, 0, none⟩) K1 K1) (digs P) := (by have h := HP.out; have e := hB2.reads (o := 0) (cap := K1) rfl (by simp); rw [h.2.1, set_last, ← h.1, h.2.2.2, ← h.2.1] at e; exact e); have hb4 : Below w2.heap.size w2 (w3.setCell ⟨w2.heap.size, k, none⟩ (.int .u32 1)) := hb3.setCell (p := ⟨w2.heap.size, k, none⟩) (Nat.le_refl _) _; replace ga := ga.below hb4; replace r0 := then_below r0 hb4; clear hown hgrow hb3 hF hB hB2 hb4; generalize (List.replicate K1 0).getD k 0 = z0 at c0)
    | (go_at_call 13; with_reducible refine (km _ ga gp).mono ?_; rintro e w4 ⟨xw, cw, rfl, gw, rr⟩; clear c0 f0; replace ga := ga.below rr; replace gp := gp.below rr; replace r0 := then_below r0 rr; clear rr)
    | (go_at_call 16; with_reducible refine (kq w4 ga gp).mono ?_; rintro e w5 ⟨xq, cq, xr, cr, rfl, gq, gr, rr⟩; replace ga := ga.below rr; replace gw := gw.below rr; replace r0 := then_below r0 rr; clear rr; obtain ⟨bw, ow, rfl, hbw, hcw, -, hcl⟩ := reads_some gw (by omega); have gw2 := reads_part k M gw (by rw [HX.out, List.length_append, List.length_replicate, ← HP.out.2.2.1]; omega) (by omega) (cw - k) (by omega) hbw; rw [HX.out, List.drop_left' (by simp), List.take_of_length_le (by rw [← HP.out.2.2.1]; exact Nat.le_refl _)] at gw2; have HC : Hid (∀ j, j < k → w5.cell? ⟨bw, ow + j, none⟩ = some (.int .u32 0)) := Lib.hid (fun j hj => by have e := hcl j (by omega); rw [HX.out, repl_getD k j _ hj, Int.natCast_zero] at e; exact e); clear hcl; have hcw2 : ¬ cw = k := (by omega); have hcw3 : ¬ (cw : Int) < (k : Int) := (by omega))
    | (go_at_call 15; with_reducible refine (same_yes gw2 ga rfl (by rw [← HP.out.2.2.1]; omega)).mono ?_; rintro e w6 ⟨rfl, rr⟩; replace ga := ga.below rr; replace gq := gq.below rr; replace gr := gr.below rr; replace r0 := then_below r0 rr; have HC6 : Hid (∀ j, j < k → w6.cell? ⟨bw, ow + j, none⟩ = some (.int .u32 0)) := Lib.hid (fun j hj => (rr.cell (p := ⟨bw, ow + j, none⟩) hbw).trans (HC.out j hj)); clear rr HC gw2 gw))
  go_loop [11] (fun s => ∃ j : Nat, j ≤ k ∧ s = .int .i64 j) (fun s => k - (intOf s).toNat)
  case atStart => exact ⟨0, Nat.zero_le _, rfl⟩
  case round =>
    obtain ⟨j, hj, rfl⟩ := hrel
    by_cases hjk : j < k
    · have e1 := HC6.out j hjk
      have i1 : (j : Int) < (k : Int) := by omega
      have i2 : j < M + k := by omega
      go_wp2
      go_round
      case rel => exact ⟨j + 1, by omega, by simp⟩
      case measure => simp [intOf]; omega
    · obtain rfl : j = k := by omega
      have i1 : ¬ (j : Int) < (j : Int) := by omega
      clear HC6 hjk hj
      have hr := HD.out.2
      rw [List.take_of_length_le (by rw [← HP.out.2.2.1]; omega), cut_chk (chk_digs A)] at hr
      have HRR := Lib.hid hr
      clear hr
      go_wp2_with (go_at_call 15; with_reducible refine (same_yes gr ga HRR.out (by omega)).mono ?_; rintro e w7 ⟨rfl, rr⟩)
      go_ret
      exact ⟨rfl, then_below r0 rr⟩

set_option maxRecDepth 100000 in
set_option maxHeartbeats 8000000 in
theorem shift_zero {w : World} {a1 : Option Addr} {ca A n k : Nat} (ga : Reads w (.slice a1 (digs A).length ca) (digs A)) (hA : A = 0) (hn : n < 256) (hk : k = n % 40) :
    Calls Try.prog 10 #[.slice a1 (digs A).length ca, .int .u8 n] w fun e w' => e = .returned (.bool true) ∧ Below w.heap.size w w' := by
  have LA : (digs A).length ≤ 60 := by rw [hA, digs_zero]; simp
  obtain ⟨i0, hi, hz0, hz1, hz2⟩ := info_parts info_u32
  obtain ⟨M, hM⟩ : ∃ M, M = (digs A).length := ⟨_, rfl⟩
  obtain ⟨P, hP⟩ : ∃ P, P = 4294967296 ^ k := ⟨_, rfl⟩
  obtain ⟨K1, hK1⟩ : ∃ K, K = k + 1 := ⟨_, rfl⟩
  have dP : digs P = List.replicate k 0 ++ [1] := by rw [hP]; exact digs_pow k
  have lP : (digs P).length = K1 := by rw [dP]; simp; omega
  have hP0 : P ≠ 0 := by rw [hP]; exact Nat.pos_iff_ne_zero.1 (Nat.pow_pos (by decide))
  have hk40 : k < 40 := by omega
  obtain ⟨X, hX⟩ : ∃ X, X = A * P := ⟨_, rfl⟩
  obtain ⟨Q, hQ⟩ : ∃ Q, Q = A / P := ⟨_, rfl⟩
  obtain ⟨R, hR⟩ : ∃ R, R = A % P := ⟨_, rfl⟩
  have dQ : digs Q = (digs A).drop k := by rw [hQ, hP]; exact digs_quo A k
  have dR : digs R = cut ((digs A).take k) := by rw [hR, hP]; exact digs_rest A k
  have lQ : (digs Q).length = M - k := by rw [dQ, List.length_drop, hM]
  have lR : (digs R).length ≤ 60 := by rw [hR]; exact Nat.le_trans (digs_mono (Nat.mod_le _ _)) LA
  have lX : (digs X).length = 0 := by rw [hX, hA, Nat.zero_mul, digs_zero]; rfl
  have hR0 : (digs R).length = 0 := by rw [hR, hA, Nat.zero_mod, digs_zero]; rfl
  have hM0 : M = 0 := by rw [hM, hA, digs_zero]; rfl
  have km := fun (W : World) {p2 : Option Addr} {q2 : Nat} (h1 : Reads W (.slice a1 (digs A).length ca) (digs A)) (h2 : Reads W (.slice p2 (digs P).length q2) (digs P)) => d_mul X h1 h2 (by omega) (by omega) hX
  have kq := fun (W : World) {p2 : Option Addr} {q2 : Nat} (h1 : Reads W (.slice a1 (digs A).length ca) (digs A)) (h2 : Reads W (.slice p2 (digs P).length q2) (digs P)) => d_quo Q R h1 h2 (by omega) (by omega) hP0 hQ hR
  rw [lP, ← hM, lX] at km
  have lQ0 : (digs Q).length = 0 := by omega
  rw [lP, ← hM, lQ0, hR0] at kq
  have kc := fun (W : World) (h1 : Reads W (.slice a1 (digs A).length ca) (digs A)) => d_check h1 (by omega)
  rw [← hM] at kc ga LA ⊢
  have en : (n : Int) % 40 = (k : Int) := by omega
  have HP := Lib.hid (show digs P = List.replicate k 0 ++ [1] ∧ K1 = k + 1 ∧ M = (digs A).length ∧ (digs P).length = K1 from ⟨dP, hK1, hM, lP⟩)
  have HD := Lib.hid (show digs Q = (digs A).drop k ∧ digs R = cut ((digs A).take k) from ⟨dQ, dR⟩)
  have hK1a : k < K1 := by omega
  have hK1b : K1 ≤ 40 := by omega
  have j1 : ¬ 60 < (M : Int) := by omega
  have j2 : (M == 0) = true := by rw [hM0]; rfl
  have j3 : ((M : Int) == 0) = true := by rw [hM0]; rfl
  have r0 := Below.refl w.heap.size w
  clear dP lP hP0 hP hK1 hX hQ hR dQ dR lQ lX hk hM hA hM0 hR0 lQ0
  go_enter Try.func10, Try.ntmps10
  go_wp2_with (first
    | (go_at_call 11; with_reducible refine (alive_any w).mono ?_; rintro e w1 ⟨rfl, rr⟩; replace ga := ga.below rr; replace r0 := then_below r0 rr; clear rr)
    | (go_at_call 14; with_reducible refine (kc w1 ga).mono ?_; rintro e w2 ⟨rfl, rr⟩; replace ga := ga.below rr; replace r0 := then_below r0 rr; clear rr)
    | (at_make; go_loud (refine wpList_make_full _ rfl _ _ 23 rfl w2.heap.size 37 i0 (.int .u32 0) 1 Try.underlying23 hi hz0 hz1 .i64 .i64 _ _ K1 rfl rfl (by have := HP.out; omega) (by have := HP.out; omega) (by rw [hz2]; omega) (by unfold maxLen; omega) (by simp) ?_); intro w3 hown hgrow; have hb3 : Below w2.heap.size w2 w3 := (Below.refl _ _).grown hgrow (Nat.le_refl _) (fun j e => by cases e); have hF : Fresh w3 w2.heap.size (.slice (some ⟨w2.heap.size, 0, none⟩) K1 K1) (List.replicate K1 0) := (by unfold Fresh; rw [List.length_replicate, ← replicate_zero_u32]; exact hown); have hlt := hF.at.2.1; obtain ⟨post, hB, -, -, -⟩ := hF.blk (by simp); have c0 := hB.cell (o := 0) rfl k (by simp; omega); rw [Nat.zero_add] at c0; have f0 := hB.frozen k; have hB2 := hB.set (o := 0) rfl k 1 (by simp; omega); rw [Nat.zero_add] at hB2; have gp : Reads (w3.setCell ⟨w2.heap.size, k, none⟩ (.int .u32 1)) (.slice (some ⟨w2.heap.size, 0, none⟩) K1 K1) (digs P) := (by have h := HP.out; have e := hB2.reads (o := 0) (cap := K1) rfl (by simp); rw [h.2.1, set_last, ← h.1, h.2.2.2, ← h.2.1] at e; exact e); have hb4 : Below w2.heap.size w2 (w3.setCell ⟨w2.heap.size, k, none⟩ (.int .u32 1)) := hb3.setCell (p := ⟨w2.heap.size, k, none⟩) (Nat.le_refl _) _; replace ga := ga.below hb4; replace r0 := then_below r0 hb4; clear hown hgrow hb3 hF hB hB2 hb4; generalize (List.replicate K1 0).getD k 0 = z0 at c0)
    | (go_at_call 13; with_reducible refine (km _ ga gp).mono ?_; rintro e w4 ⟨xw, cw, rfl, gw, rr⟩; clear c0 f0; replace ga := ga.below rr; replace gp := gp.below rr; replace r0 := then_below r0 rr; clear rr)
    | (go_at_call 16; with_reducible refine (kq w4 ga gp).mono ?_; rintro e w5 ⟨xq, cq, xr, cr, rfl, gq, gr, rr⟩; replace ga := ga.below rr; replace gw := gw.below rr; replace r0 := then_below r0 rr; clear rr))
  go_ret
  exact ⟨rfl, r0⟩

set_option maxRecDepth 100000 in
set_option maxHeartbeats 2000000 in
theorem shift_far {w : World} {a1 : Option Addr} {na ca : Nat} {n : Int} (h : 60 < na) :
    Calls Try.prog 10 #[.slice a1 na ca, .int .u8 n] w fun e w' => e = .returned (.bool true) ∧ Below w.heap.size w w' := by
  have j1 : 60 < (na : Int) := by omega
  go_enter Try.func10, Try.ntmps10
  go_wp2_with (first
    | (go_at_call 11; with_reducible refine (alive_any w).mono ?_; rintro e w1 ⟨rfl, r1⟩)
    | (go_at_call 11; with_reducible refine (alive_any w1).mono ?_; rintro e w2 ⟨rfl, r2⟩))
  go_ret
  exact ⟨rfl, then_below r1 r2⟩
set_option maxRecDepth 100000 in
set_option maxHeartbeats 2000000 in
theorem shift_bad {w : World} {a1 : Option Addr} {ca : Nat} {la : List Nat} {n : Int} (ga : Reads w (.slice a1 la.length ca) la) (LA : la.length ≤ 60) (h : chk la = false) :
    Calls Try.prog 10 #[.slice a1 la.length ca, .int .u8 n] w fun e w' => e = .returned (.bool true) ∧ Below w.heap.size w w' := by
  have j1 : ¬ 60 < (la.length : Int) := by omega
  have c1 := fun (W : World) (g : Reads W (.slice a1 la.length ca) la) => check_any g (by omega)
  rw [h] at c1
  clear h LA
  go_enter Try.func10, Try.ntmps10
  go_wp2_with (first
    | (go_at_call 11; with_reducible refine (alive_any w).mono ?_; rintro e w1 ⟨rfl, r1⟩; replace ga := ga.below r1)
    | (go_at_call 14; with_reducible refine (c1 w1 ga).mono ?_; rintro e w2 ⟨rfl, rfl⟩)
    | (go_at_call 11; with_reducible refine (alive_any w1).mono ?_; rintro e w2 ⟨rfl, r2⟩))
  go_ret
  exact ⟨rfl, then_below r1 r2⟩

end Go.Proofs.Ytbcipningfdgoaa
