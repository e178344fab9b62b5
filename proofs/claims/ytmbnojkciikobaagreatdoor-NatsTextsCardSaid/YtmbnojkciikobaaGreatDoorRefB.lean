/- The document's answer: the order and the sum of two great numbers, by hand. -/
import Derived.Test.YtmbnojkciikobaaGreatDoorRefA
import Derived.Test.YtmbnojkciikobaaGreatDoorForm
import Derived.Test.YtmbnojkciikobaaGreatDoorCmp
import Derived.Deep.QuietTactic
namespace Go.Proofs.YtmbnojkciikobaaGreatDoor
open Go Go.Proofs Go.RowKit Go.Shelf Nu

attribute [local go_sem] Oper.semAt_some

theorem radd_step {A B out : List Nat} {k c d : Nat} (hk : out.length = k) (h : val out + 4294967296 ^ k * c = val (A.take k) + val (B.take k)) (hd : d = c + A.getD k 0 + B.getD k 0) :
    val (out ++ [d % 4294967296]) + 4294967296 ^ (k + 1) * (d / 4294967296) = val (A.take (k + 1)) + val (B.take (k + 1)) := by
  have := add_step hk h
  rw [hd, Nat.add_assoc]
  exact this

set_option maxRecDepth 100000 in
set_option maxHeartbeats 4000000 in
theorem radd_any {w : World} {va vb : Value} {la lb : List Nat} (ha : Reads w va la) (hb : Reads w vb lb) (hla : la.length ≤ 100000) (hlb : lb.length ≤ 100000) (hsa : Sm la) (hsb : Sm lb) :
    Calls Tryz.prog 17 #[va, vb] w fun e w' => ∃ v, e = .returned v ∧ Reads w' v (digs (nv la + nv lb)) ∧ Below w.heap.size w w' := by
  obtain ⟨i0, hi, hz0, hz1, hz2⟩ := info_parts info_u32
  have k1 := flip (rfit_any ha (by omega))
  have k2 := flip (rfit_any hb (by omega))
  have hA := orzV_reads ha
  have hB := orzV_reads hb
  obtain ⟨a1, c1, e1⟩ := hA.form
  obtain ⟨b1, d1, e2⟩ := hB.form
  rw [e1] at k1 hA
  rw [e2] at k2 hB
  have hlA : (orz la).length ≤ 100000 := Nat.le_trans (orz_length la) hla
  have hlB : (orz lb).length ≤ 100000 := Nat.le_trans (orz_length lb) hlb
  have hSA := Lib.hid (sm_orz hsa)
  have hSB := Lib.hid (sm_orz hsb)
  rw [← val_orz la, ← val_orz lb]
  generalize orz la = A at *
  generalize orz lb = B at *
  obtain ⟨x1, x2, rfl⟩ := ha.form
  obtain ⟨y1, y2, rfl⟩ := hb.form
  have RA := Lib.hid hA
  have RB := Lib.hid hB
  clear ha hb e1 e2 hla hlb hsa hsb hA hB
  obtain ⟨m, hm⟩ : ∃ m, m = A.length := ⟨_, rfl⟩
  obtain ⟨n, hn⟩ : ∃ n, n = B.length := ⟨_, rfl⟩
  have HM := Lib.hid hm
  have HN := Lib.hid hn
  rw [← hm] at hlA k1
  rw [← hn] at hlB k2
  clear hm hn
  have hb0 : Below w.heap.size w w := Below.refl _ w
  go_enter Tryz.func17, Tryz.ntmps17
  go_wp2_with (first
    | (go_at_call 74; refine k1.mono ?_; clear k1; rintro e w' ⟨rfl, rfl⟩)
    | (go_at_call 74; refine k2.mono ?_; clear k2; rintro e w' ⟨rfl, rfl⟩))
  go_loopw [5, 6, 7] (fun v c i wr => ∃ (k q : Nat) (out : List Nat), i = .int .i64 (k : Int) ∧ c = .int .u64 (q : Int) ∧ Fresh wr w.heap.size v out ∧ q ≤ 1 ∧ k ≤ max m n + 1 ∧ (max m n < k → q = 0) ∧ Hid (out.length = k ∧ Sm out ∧ val out + 4294967296 ^ k * q = val (A.take k) + val (B.take k)) ∧ Below w.heap.size w wr) (fun _ _ i _ => max m n + 2 - (intOf i).toNat)
  case atStart => exact ⟨0, 0, [], rfl, rfl, Fresh.nil _ _, by omega, by omega, by omega, Lib.hid ⟨rfl, Sm.nil, by simp [val]⟩, hb0⟩
  case round =>
    obtain ⟨k, q, out, rfl, rfl, hrow, hq, hk, hkq, HH, hbel⟩ := hrel
    have hbS : w.heap.size ≤ wr.heap.size := hbel.size
    have hol : out.length ≤ 100001 := by have := HH.out.1; omega
    obtain ⟨ba, oa, hba, hca⟩ := (RA.out.below hbel).addr
    obtain ⟨bb, ob, hbb, hcb⟩ := (RB.out.below hbel).addr
    have HRW := Lib.hid hrow
    have HBL := Lib.hid hbel
    rw [← HM.out] at hba hca
    rw [← HN.out] at hbb hcb
    clear hbel
    obtain ⟨x, hx⟩ : ∃ x, x = A.getD k 0 := ⟨_, rfl⟩
    obtain ⟨y, hy⟩ : ∃ y, y = B.getD k 0 := ⟨_, rfl⟩
    have hxb : x < 4294967296 := by rw [hx]; exact hSA.out.getD k
    have hyb : y < 4294967296 := by rw [hy]; exact hSB.out.getD k
    by_cases h1 : k < m
    · skip
      have r1 := hca k h1
      have ea := (hba (by omega)).1
      subst ea
      rw [← hx] at r1
      have HX := Lib.hid hx
      clear hca hba hx
      by_cases h2 : k < n
      · skip
        have r2 := hcb k h2
        have eb := (hbb (by omega)).1
        subst eb
        rw [← hy] at r2
        have HY := Lib.hid hy
        clear hcb hbb hy hkq
        go_wp2_with (at_builtin; go_loud (refine wpList_append_own _ rfl _ _ 23 rfl w.heap.size 78 i0 (.int .u32 0) 1 4 Tryz.underlying23 hi hz0 hz1 hz2 rfl (by decide) _ _ _ rfl (World.ownsRow.alloc hrow _) ⟨wr.heap.size, 0, none⟩ 1 1 [_] rfl rfl (one_new _ _ _ _ (by simp)) (by simp [Value.oneCell']) (small_max (by omega)) (by omega) (by simp; omega) ?_); intro v' w3 hown' hgrow _; obtain ⟨hF, hKO, hBl, hBx, hNo⟩ := fresh_append ((q + x + y) % 4294967296) hrow hbS hown' hgrow (by omega); clear hown' hgrow hBx hNo hKO)
        go_roundw
        case rel =>
          refine ⟨k + 1, (q + x + y) / 4294967296, _, by simp, by congr 1, hF, by omega, by omega, by omega, Lib.hid ⟨by simp [HH.out.1], HH.out.2.1.snoc (by omega), ?_⟩, HBL.out.trans hBl⟩
          exact radd_step HH.out.1 HH.out.2.2 (by rw [HX.out, HY.out])
        case measure => simp [intOf]; omega
      · skip
        have hy0 : y = 0 := by rw [hy]; exact getD_cut0 (by have := HN.out; omega)
        have HY := Lib.hid hy
        clear hcb hbb hy
        clear hkq
        go_wp2_with (at_builtin; go_loud (refine wpList_append_own _ rfl _ _ 23 rfl w.heap.size 78 i0 (.int .u32 0) 1 4 Tryz.underlying23 hi hz0 hz1 hz2 rfl (by decide) _ _ _ rfl (World.ownsRow.alloc hrow _) ⟨wr.heap.size, 0, none⟩ 1 1 [_] rfl rfl (one_new _ _ _ _ (by simp)) (by simp [Value.oneCell']) (small_max (by omega)) (by omega) (by simp; omega) ?_); intro v' w3 hown' hgrow _; obtain ⟨hF, hKO, hBl, hBx, hNo⟩ := fresh_append ((q + x + y) % 4294967296) hrow hbS hown' hgrow (by omega); clear hown' hgrow hBx hNo hKO)
        go_roundw
        case rel =>
          refine ⟨k + 1, (q + x + y) / 4294967296, _, by simp, by congr 1; omega, hF, by omega, by omega, by omega, Lib.hid ⟨by simp [HH.out.1], HH.out.2.1.snoc (by omega), ?_⟩, HBL.out.trans hBl⟩
          exact radd_step HH.out.1 HH.out.2.2 (by rw [HX.out, HY.out])
        case measure => simp [intOf]; omega
    · skip
      have hx0 : x = 0 := by rw [hx]; exact getD_cut0 (by have := HM.out; omega)
      have HX := Lib.hid hx
      clear hca hba hx
      by_cases h2 : k < n
      · skip
        have r2 := hcb k h2
        have eb := (hbb (by omega)).1
        subst eb
        rw [← hy] at r2
        have HY := Lib.hid hy
        clear hcb hbb hy hkq
        go_wp2_with (at_builtin; go_loud (refine wpList_append_own _ rfl _ _ 23 rfl w.heap.size 78 i0 (.int .u32 0) 1 4 Tryz.underlying23 hi hz0 hz1 hz2 rfl (by decide) _ _ _ rfl (World.ownsRow.alloc hrow _) ⟨wr.heap.size, 0, none⟩ 1 1 [_] rfl rfl (one_new _ _ _ _ (by simp)) (by simp [Value.oneCell']) (small_max (by omega)) (by omega) (by simp; omega) ?_); intro v' w3 hown' hgrow _; obtain ⟨hF, hKO, hBl, hBx, hNo⟩ := fresh_append ((q + x + y) % 4294967296) hrow hbS hown' hgrow (by omega); clear hown' hgrow hBx hNo hKO)
        go_roundw
        case rel =>
          refine ⟨k + 1, (q + x + y) / 4294967296, _, by simp, by congr 1; omega, hF, by omega, by omega, by omega, Lib.hid ⟨by simp [HH.out.1], HH.out.2.1.snoc (by omega), ?_⟩, HBL.out.trans hBl⟩
          exact radd_step HH.out.1 HH.out.2.2 (by rw [HX.out, HY.out])
        case measure => simp [intOf]; omega
      · skip
        have hy0 : y = 0 := by rw [hy]; exact getD_cut0 (by have := HN.out; omega)
        have HY := Lib.hid hy
        clear hcb hbb hy
        by_cases hq0 : q = 0
        · subst hq0
          clear hkq
          have e1 : val out = val A + val B := by
            have := HH.out.2.2
            rw [List.take_of_length_le (by have := HM.out; omega), List.take_of_length_le (by have := HN.out; omega)] at this
            simpa using this
          have E1 := Lib.hid e1
          have kt := rtrim_any hrow.reads (by omega)
          obtain ⟨va, ca, hv⟩ := hrow.reads.form
          rw [hv] at kt ⊢
          clear e1 hv
          go_wp2_with (go_at_call 75; refine kt.mono ?_; clear kt; rintro e w' ⟨⟨u, rfl, hu⟩, rfl⟩)
          go_ret
          refine ⟨u, rfl, ?_, HBL.out⟩
          rw [← E1.out, ← cut_eq HH.out.2.1]
          exact hu
        · have hq1 : 0 < q := by omega
          clear hq0
          go_wp2_with (at_builtin; go_loud (refine wpList_append_own _ rfl _ _ 23 rfl w.heap.size 78 i0 (.int .u32 0) 1 4 Tryz.underlying23 hi hz0 hz1 hz2 rfl (by decide) _ _ _ rfl (World.ownsRow.alloc hrow _) ⟨wr.heap.size, 0, none⟩ 1 1 [_] rfl rfl (one_new _ _ _ _ (by simp)) (by simp [Value.oneCell']) (small_max (by omega)) (by omega) (by simp; omega) ?_); intro v' w3 hown' hgrow _; obtain ⟨hF, hKO, hBl, hBx, hNo⟩ := fresh_append ((q + x + y) % 4294967296) hrow hbS hown' hgrow (by omega); clear hown' hgrow hBx hNo hKO)
          go_roundw
          case rel =>
            refine ⟨k + 1, (q + x + y) / 4294967296, _, by simp, by congr 1; omega, hF, by omega, by omega, by omega, Lib.hid ⟨by simp [HH.out.1], HH.out.2.1.snoc (by omega), ?_⟩, HBL.out.trans hBl⟩
            exact radd_step HH.out.1 HH.out.2.2 (by rw [HX.out, HY.out])
          case measure => simp [intOf]; omega

end Go.Proofs.YtmbnojkciikobaaGreatDoor
