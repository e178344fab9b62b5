/- A number copied, with room behind; the greatest that divides 0 and another one. -/
import Derived.Test.YtogpdkdkmgjdpaaFormD
import Derived.Test.YtogpdkdkmgjdpaaGcd
namespace Go.Proofs.Ytogpdkdkmgjdpaa
open Go Go.Proofs Go.RowKit Go.Shelf Nu

attribute [local go_sem] Oper.semAt_some

set_option maxHeartbeats 4000000 in
theorem twin_any {w : World} {v : Value} {l : List Nat} (h : Reads w v l) (hl : l.length ≤ 100000) :
    Calls Try.prog 26 #[v] w fun e w' => ∃ g cap post, e = .returned (.slice (some ⟨g, 0, none⟩) l.length cap) ∧ Blk w' g [] l post ∧ w.heap.size ≤ g ∧ l.length ≤ cap ∧ Below w.heap.size w w' := by
  obtain ⟨i0, hi, hz0, hz1, hz2⟩ := info_parts info_u32
  have h0 := Lib.hid h
  obtain ⟨a, c, rfl⟩ := h.form
  obtain ⟨n, hn⟩ : ∃ n, n = l.length := ⟨_, rfl⟩
  obtain ⟨N1, hN1⟩ : ∃ N1, N1 = n + 1 := ⟨_, rfl⟩
  have hnn : ((n : Int) + 1) = (N1 : Int) := by omega
  have HN := Lib.hid hn
  have HN1 := Lib.hid hN1
  have hn1 : n ≤ 100000 := by omega
  have hN1l : N1 ≤ 100001 := by omega
  rw [← hn]
  clear h hn hN1 hl
  go_enter Try.func26, Try.ntmps26
  go_wp2_with (at_make; go_loud (refine wpList_make_own _ rfl _ _ 22 rfl w.heap.size 37 i0 (.int .u32 0) 1 Try.underlying22 hi hz0 hz1 .i64 .i64 _ N1 rfl rfl (by have := HN1.out; omega) (by rw [hz2]; omega) (by unfold maxLen; omega) (by simp) ?_); intro w1 hown1 hgrow1)
  have hbel1 : Below w.heap.size w w1 := (Below.refl _ _).grown hgrow1 (Nat.le_refl _) (fun _ e => by cases e)
  have hF0 : Fresh w1 w.heap.size (.slice (some ⟨w.heap.size, 0, none⟩) 0 N1) [] := by unfold Fresh; simpa using hown1
  clear hown1 hgrow1
  go_loopw [3, 4] (fun v i wr => ∃ k : Nat, k ≤ n ∧ i = .int .i64 k ∧ Fresh wr w.heap.size v (l.take k) ∧ Below w.heap.size w wr) (fun _ i _ => n - (intOf i).toNat)
  case atStart => exact ⟨0, Nat.zero_le _, rfl, by simpa using hF0, hbel1⟩
  case round =>
    obtain ⟨k, hk, rfl, hrow, hbel⟩ := hrel
    have hbS : w.heap.size ≤ wr.heap.size := hbel.size
    have hlt1 : (l.take k).length = k := by rw [List.length_take]; have := HN.out; omega
    have HL := Lib.hid hlt1
    by_cases hlt : k < n
    · have hR := h0.out.below hbel
      obtain ⟨ba, oa, hba, hca⟩ := hR.addr
      have hkl : k < l.length := by have := HN.out; omega
      have r1 := hca k hkl
      obtain ⟨rfl, _⟩ := hba (by omega)
      obtain ⟨x, hx⟩ : ∃ x, x = l.getD k 0 := ⟨_, rfl⟩
      rw [← hx] at r1
      have HX := Lib.hid hx
      clear hba hca hR hx hlt1 hkl
      go_wp2_with (at_builtin; go_loud (refine wpList_append_own _ rfl _ _ 22 rfl w.heap.size 37 i0 (.int .u32 0) 1 4 Try.underlying22 hi hz0 hz1 hz2 rfl (by decide) _ _ _ rfl (World.ownsRow.alloc hrow _) ⟨wr.heap.size, 0, none⟩ 1 1 [_] rfl rfl (one_new _ _ _ _ (by simp)) (by simp [Value.oneCell']) (small_max (by have := HL.out; omega)) (by have := HL.out; omega) (by simp; omega) ?_); intro v' w3 hown' hgrow _; obtain ⟨hF, hKO, hBl, hBx, hNo⟩ := fresh_append x hrow hbS hown' hgrow rfl)
      go_roundw
      case rel =>
        refine ⟨k + 1, by omega, by simp, ?_, hbel.trans hBl⟩
        have hkl : k < l.length := by have := HN.out; omega
        have e : l.take (k + 1) = l.take k ++ [x] := by
          rw [List.take_succ_eq_append_getElem hkl, HX.out, List.getD_eq_getElem?_getD, List.getElem?_eq_getElem hkl]; rfl
        rw [e]; exact hF
      case measure => simp [intOf]; omega
    · obtain rfl : k = n := by omega
      have hl : l.take k = l := List.take_of_length_le (by have := HN.out; omega)
      rw [hl] at hrow
      clear hlt1
      go_wp2_with (at_builtin; go_loud (refine wpList_append_own _ rfl _ _ 22 rfl w.heap.size 37 i0 (.int .u32 0) 1 4 Try.underlying22 hi hz0 hz1 hz2 rfl (by decide) _ _ _ rfl (World.ownsRow.alloc hrow _) ⟨wr.heap.size, 0, none⟩ 1 1 [_] rfl rfl (one_new _ _ _ _ (by simp)) (by simp [Value.oneCell']) (small_max (by have := HN.out; omega)) (by have := HN.out; omega) (by simp; omega) ?_); intro v' w3 hown' hgrow _; obtain ⟨hF, hKO, hBl, hBx, hNo⟩ := fresh_append 77 hrow hbS hown' hgrow rfl; obtain ⟨g, cap, rfl⟩ := ownsRow_succ hown'; obtain ⟨post, hblk, hbg, hpc, hcm⟩ := hF.blk (by simp); have hkc : k ≤ cap := (by have := HN.out; simp at hpc; omega); have hkc2 : ¬ (cap : Int) < (k : Int) := (by omega))
      go_ret
      exact ⟨g, cap, rfl, ⟨u32v 77 :: post, by unfold Blk at hblk ⊢; simpa using hblk⟩, hbg, hkc, hbel.trans hBl⟩

set_option maxHeartbeats 2000000 in
/-- Gcd, where the first one is 0 or may not be -/
theorem gcd_zero {w : World} {va vb : Value} {la lb : List Nat} (ha : Reads w va la) (hb : Reads w vb lb) (hla : la.length ≤ 100000) (hlb : lb.length ≤ 100000) (hsa : Sm la) (hsb : Sm lb) (hz : nv la = 0) :
    Calls Try.prog 20 #[va, vb] w fun e w' => ∃ a c, e = .returned (.slice a (digs (nv lb)).length c) ∧ Reads w' (.slice a (digs (nv lb)).length c) (digs (nv lb)) ∧ Below w.heap.size w w' := by
  have k1 := flip (orZero_any ha (by omega))
  have k2 := flip (orZero_any hb (by omega))
  have rA := orzV_reads ha
  have rB := orzV_reads hb
  have eA : orz la = [] := by
    have := val_orz la
    rw [hz] at this
    have h2 := digs_val (sm_orz hsa) (chk_orz la)
    rw [this, digs_zero] at h2
    exact h2.symm
  have eB : orz lb = digs (nv lb) := by rw [← val_orz]; exact (digs_val (sm_orz hsb) (chk_orz lb)).symm
  rw [eA] at rA
  rw [eB] at rB
  obtain ⟨B, hB⟩ : ∃ B, B = nv lb := ⟨_, rfl⟩
  have lB : (digs B).length ≤ 100000 := by rw [hB]; exact Nat.le_trans (digs_nv_le hsb) hlb
  rw [← hB] at rB ⊢
  have kc := cmp_any rA rB (by simp) lB Sm.nil (sm_digs B)
  rw [show nv [] = 0 by simp [nv, val], nv_digs] at kc
  obtain ⟨p, c, e1⟩ := rA.form
  obtain ⟨q, d, e2⟩ := rB.form
  rw [e1] at k1 kc rA
  rw [e2] at k2 kc rB
  rw [List.length_nil] at k1 kc
  have kcl : ∀ W, Below w.heap.size w W → _ := fun W hW => clone_any (rB.below hW) (by omega)
  have kn : ∀ W, Below w.heap.size w W → _ := fun W hW => clone_any (rA.below hW) (by simp)
  obtain ⟨s1, t1, rfl⟩ := ha.form
  obtain ⟨s2, t2, rfl⟩ := hb.form
  clear ha hb hla hlb hsa hsb hz eA eB hB e1 e2 rA rB
  rcases Nat.eq_zero_or_pos B with rfl | hpos
  · rw [show sgn 0 0 = 0 by simp [sgn]] at kc
    rw [digs_zero] at k2 kc kcl ⊢
    rw [List.length_nil] at k2 kc kcl ⊢
    go_enter Try.func20, Try.ntmps20
    go_wp2_with (first
      | (go_at_call 27; with_reducible refine k1.mono ?_; clear k1; rintro e w' ⟨rfl, rfl⟩)
      | (go_at_call 27; with_reducible refine k2.mono ?_; clear k2; rintro e w' ⟨rfl, rfl⟩)
      | (go_at_call 17; refine kc.mono ?_; clear kc; rintro e w1 ⟨rfl, hb1⟩))
    go_loop [0, 1] (fun x y => x = .slice p 0 c ∧ y = .slice q 0 d) (fun _ _ => 0)
    case atStart => exact ⟨rfl, rfl⟩
    case round =>
      obtain ⟨rfl, rfl⟩ := hrel
      go_wp2_with (first
        | (go_at_call 38; refine (kn _ hb1).mono ?_; rintro e w2 ⟨v', rfl, hF, hb2⟩; obtain ⟨ta, tc, v2, rfl, hR2, kt⟩ := trim_any hF (by simp) Sm.nil)
        | (go_at_call 29; refine kt.mono ?_; rintro e w' ⟨rfl, rfl⟩))
      go_ret
      rw [show val [] = 0 from rfl, digs_zero] at hR2
      obtain ⟨a, c, rfl⟩ := hR2.reads.form
      exact ⟨a, c, rfl, hR2.reads, then_below hb1 hb2⟩
  · rw [show sgn 0 B = -1 by simp [sgn, hpos]] at kc
    have hL := digs_len_pos (n := B) (by omega)
    have hl0 : ((0 : Int) > 2) = False := by simp
    go_enter Try.func20, Try.ntmps20
    go_wp2_with (first
      | (go_at_call 27; with_reducible refine k1.mono ?_; clear k1; rintro e w' ⟨rfl, rfl⟩)
      | (go_at_call 27; with_reducible refine k2.mono ?_; clear k2; rintro e w' ⟨rfl, rfl⟩)
      | (go_at_call 17; refine kc.mono ?_; clear kc; rintro e w1 ⟨rfl, hb1⟩))
    go_loop [0, 1] (fun x y => x = .slice q (digs B).length d ∧ y = .slice p 0 c) (fun _ _ => 0)
    case atStart => exact ⟨rfl, rfl⟩
    case round =>
      obtain ⟨rfl, rfl⟩ := hrel
      go_wp2_with (first
        | (go_at_call 38; refine (kcl _ (by first | exact hb1 | exact hb1.drew)).mono ?_; rintro e w2 ⟨v', rfl, hF, hb2⟩; obtain ⟨ta, tc, v2, rfl, hR2, kt⟩ := trim_any hF (by omega) (sm_digs B))
        | (go_at_call 29; refine kt.mono ?_; rintro e w' ⟨rfl, rfl⟩))
      go_ret
      rw [val_digs] at hR2
      obtain ⟨a, c, rfl⟩ := hR2.reads.form
      exact ⟨a, c, rfl, hR2.reads, then_below hb1 hb2⟩

end Go.Proofs.Ytogpdkdkmgjdpaa
