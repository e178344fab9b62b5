/- The document's answer: the small functions. The document's answer: the order and the sum of two great numbers, by hand. The document's answer: the .. -/
import Derived.Deep.LoopGhost
import Derived.Deep.QuietTactic
import Derived.Laws.OwnMore
import Derived.Laws.Rows
import Derived.OneCell
import Derived.Maps.AppendAt
import Derived.Laws.AppendOwnNone
import Derived.Deep.RegionHeld3
import Derived.Test.YtdjfooflhpkcbaaGreatDoorGCmp
import Derived.Test.YtdjfooflhpkcbaaGreatDoorGInts
import Derived.Test.YtdjfooflhpkcbaaGreatDoorGIntsB
import Derived.Test.YtdjfooflhpkcbaaGreatDoorGMathG
import Derived.Test.YtdjfooflhpkcbaaGreatDoorGDiv
import Derived.Test.YtdjfooflhpkcbaaGreatDoorGRatMul
set_option linter.unusedSimpArgs false
set_option linter.unusedVariables false
set_option maxRecDepth 100000
set_option maxHeartbeats 8000000
namespace Go.Proofs.YtdjfooflhpkcbaaGreatDoor
section
open Go Go.Proofs Go.RowKit Go.Shelf Nu
attribute [local go_sem] Oper.semAt_some
theorem rnc_any {W : World} {v : Value} {l : List Nat} (h : Reads W v l) (hl : l.length ≤ 1000000) :
   Calls Tryz.prog 132 #[v] W fun e w' => e = .returned (.bool (chk l)) ∧ W = w' := by
 rcases h with ⟨rfl, rfl⟩ | ⟨b, off, cap, rfl, hb, hcap, hc⟩ | ⟨x, rfl, rfl⟩
 rotate_right
 · go_enter Tryz.func132, Tryz.ntmps132
   go_wp2
   go_ret
   exact ⟨rfl, rfl⟩
 · go_enter Tryz.func132, Tryz.ntmps132
   go_wp2
   go_ret
   exact ⟨rfl, rfl⟩
 · cases l with
   | nil =>
    go_enter Tryz.func132, Tryz.ntmps132
    go_wp2
    go_ret
    exact ⟨rfl, rfl⟩
   | cons x t =>
    have hx := hc t.length (by simp)
    have hk : chk (x :: t) = (((x :: t).getD t.length 0 : Nat) != 0) := by simp [chk]
    rw [hk]
    clear hk hc
    generalize hy : (x :: t).getD t.length 0 = y at hx ⊢
    clear hy
    simp only [List.length_cons] at hl hcap ⊢
    generalize t.length = n at *
    have hz : ((n : Int) + 1 == 0) = false := by simp; omega
    go_enter Tryz.func132, Tryz.ntmps132
    go_wp2
    go_ret
    exact ⟨ret_bool (by simp [bne]; rw [Bool.eq_iff_iff]; simp), rfl⟩
theorem rfit_any {W : World} {v : Value} {l : List Nat} (h : Reads W v l) (hl : l.length ≤ 1000000) :
  Calls Tryz.prog 192 #[v] W fun e w' => e = .returned (orzV v l) ∧ w' = W := by
 have hf := h
 obtain ⟨a, cap, rfl⟩ := h.form
 cases hc : chk l with
 | true =>
  have e : ∀ v, orzV v l = v := fun v => by simp [orzV, hc]
  rw [e]
  go_enter Tryz.func192, Tryz.ntmps192
  go_wp2_with (go_at_call 132; refine (rnc_any hf hl).mono ?_; rintro e w' ⟨rfl, rfl⟩)
  go_ret
  exact ⟨rfl, rfl⟩
 | false =>
  have e : ∀ v, orzV v l = .slice none 0 0 := fun v => by simp [orzV, hc]
  rw [e]
  go_enter Tryz.func192, Tryz.ntmps192
  go_wp2_with (go_at_call 132; refine (rnc_any hf hl).mono ?_; rintro e w' ⟨rfl, rfl⟩)
  go_ret
  exact ⟨rfl, rfl⟩
theorem getD_cut0 {l : List Nat} {n : Nat} (h : l.length ≤ n) : l.getD n 0 = 0 := by rw [List.getD_eq_getElem?_getD, List.getElem?_eq_none h]; rfl
theorem rtrim_any {W : World} {v : Value} {l : List Nat} (h : Reads W v l) (hl : l.length ≤ 1000000) :
   Calls Tryz.prog 193 #[v] W fun e w' => (∃ u, e = .returned u ∧ Reads W u (cut l)) ∧ w' = W := by
 rcases h with ⟨rfl, rfl⟩ | ⟨b, off, cap, rfl, hb, hcap, hc⟩ | ⟨x, rfl, rfl⟩
 · go_enter Tryz.func193, Tryz.ntmps193
   go_wp2
   go_loop [0] (fun s => s = .slice none 0 0) (fun _ => 0)
   case atStart => rfl
   case round =>
    subst hrel
    go_wp2
    go_ret
    exact ⟨⟨_, rfl, Reads.nil W⟩, rfl⟩
 · have H := Lib.hid hc
   obtain ⟨L, hL⟩ : ∃ L, L = l.length := ⟨_, rfl⟩
   have HL := Lib.hid hL
   rw [← hL] at hl hcap ⊢
   clear hL hc
   go_enter Tryz.func193, Tryz.ntmps193
   go_wp2
   go_loopg [0] L (fun g s wr => ∃ n : Nat, n = g ∧ n ≤ L ∧ s = .slice (some ⟨b, off, none⟩) n cap ∧ Hid (∀ j, n ≤ j → l.getD j 0 = 0) ∧ wr = W)
   case atStart => exact ⟨L, rfl, Nat.le_refl _, rfl, Lib.hid (fun j hj => getD_cut0 (by have := HL.out; omega)), rfl⟩
   case round =>
    obtain ⟨n, hng, hn, rfl, H0, rfl⟩ := hrel
    have fin : (n = 0 ∨ l.getD (n - 1) 0 ≠ 0) → Reads wr (.slice (some ⟨b, off, none⟩) n cap) (cut l) := by
      intro h1
      have e := cut_eq_take l n (by have := HL.out; omega) (fun j hj => H0.out j hj) h1
      have e2 : (l.take n).length = n := by rw [List.length_take]; have := HL.out; omega
      rw [e]
      exact .inr (.inl ⟨b, off, cap, by rw [e2], hb, by omega, fun j hj => by
        rw [e2] at hj
        have k := H.out j (by have := HL.out; omega)
        rw [k, List.getD_eq_getElem?_getD, List.getD_eq_getElem?_getD, List.getElem?_take, if_pos hj]⟩)
    have FIN := Lib.hid fin
    have HNG := Lib.hid hng
    clear fin hng
    by_cases hn0 : n = 0
    · have F0 := Lib.hid (FIN.out (.inl hn0))
      subst hn0
      go_wp2
      go_ret
      exact ⟨⟨_, rfl, F0.out⟩, rfl⟩
    · obtain ⟨p, hp⟩ : ∃ p, n = p + 1 := ⟨n - 1, by omega⟩
      have hx := H.out p (by have := HL.out; omega)
      have hnp : (n : Int) - 1 = (p : Int) := by omega
      have hp0 : (0 : Int) < (n : Int) := by omega
      have hpn : (p : Int) < (n : Int) := by omega
      have hpc : (p : Int) ≤ (cap : Int) := by omega
      have HP := Lib.hid hp
      obtain ⟨y, hy⟩ : ∃ y, y = l.getD p 0 := ⟨_, rfl⟩
      rw [← hy] at hx
      have HY := Lib.hid hy
      clear hy hp hn0
      by_cases hy0 : y = 0
      · have HZ := Lib.hid hy0
        have ht : ((y : Int) == 0) = true := by simp [hy0]
        clear hy0
        go_wp2
        go_roundg p
        case rel => exact ⟨p, rfl, by omega, rfl, Lib.hid (fun j hj => by
         by_cases e : j = p
         · subst e; rw [← HY.out]; exact HZ.out
         · exact H0.out j (by have := HP.out; omega)), rfl⟩
        case measure => have := HP.out; have := HNG.out; omega
      · have ht : ((y : Int) == 0) = false := by simp [hy0]
        have HZ := Lib.hid hy0
        clear hy0
        go_wp2
        go_ret
        exact ⟨⟨_, rfl, FIN.out (.inr (by rw [HP.out, Nat.add_sub_cancel, ← HY.out]; exact HZ.out))⟩, rfl⟩
 · go_enter Tryz.func193, Tryz.ntmps193
   go_wp2
   go_loop [0] (fun s => s = .slice (some x) 0 0) (fun _ => 0)
   case atStart => rfl
   case round =>
    subst hrel
    go_wp2
    go_ret
    exact ⟨⟨_, rfl, .inr (.inr ⟨x, rfl, rfl⟩)⟩, rfl⟩
theorem radd_step {A B out : List Nat} {k c d : Nat} (hk : out.length = k) (h : val out + 4294967296 ^ k * c = val (A.take k) + val (B.take k)) (hd : d = c + A.getD k 0 + B.getD k 0) :
  val (out ++ [d % 4294967296]) + 4294967296 ^ (k + 1) * (d / 4294967296) = val (A.take (k + 1)) + val (B.take (k + 1)) := by
 have := add_step hk h
 rw [hd, Nat.add_assoc]
 exact this
theorem radd_any {w : World} {va vb : Value} {la lb : List Nat} (ha : Reads w va la) (hb : Reads w vb lb) (hla : la.length ≤ 100000) (hlb : lb.length ≤ 100000) (hsa : Sm la) (hsb : Sm lb) :
  Calls Tryz.prog 189 #[va, vb] w fun e w' => ∃ v, e = .returned v ∧ Reads w' v (digs (nv la + nv lb)) ∧ Below w.heap.size w w' := by
 obtain ⟨i0, hi, hz0, hz1, hz2⟩ := info_parts info_u32
 have k1 := flip (rfit_any ha (by omega))
 have k2 := flip (rfit_any hb (by omega))
 have hA := orzV_reads ha
 have hB := orzV_reads hb
 obtain ⟨a1, c1, e1⟩ := hA.form
 obtain ⟨b1, d1, e2⟩ := hB.form
 rw [e1] at k1 hA
 rw [e2] at k2 hB
 have hlA : (orz la).length ≤ 100000 := Nat.le_trans (orz_length la) hla
 have hlB : (orz lb).length ≤ 100000 := Nat.le_trans (orz_length lb) hlb
 have hSA := Lib.hid (sm_orz hsa)
 have hSB := Lib.hid (sm_orz hsb)
 rw [← val_orz la, ← val_orz lb]
 generalize orz la = A at *
 generalize orz lb = B at *
 obtain ⟨x1, x2, rfl⟩ := ha.form
 obtain ⟨y1, y2, rfl⟩ := hb.form
 have RA := Lib.hid hA
 have RB := Lib.hid hB
 clear ha hb e1 e2 hla hlb hsa hsb hA hB
 obtain ⟨m, hm⟩ : ∃ m, m = A.length := ⟨_, rfl⟩
 obtain ⟨n, hn⟩ : ∃ n, n = B.length := ⟨_, rfl⟩
 have HM := Lib.hid hm
 have HN := Lib.hid hn
 rw [← hm] at hlA k1
 rw [← hn] at hlB k2
 clear hm hn
 have hb0 : Below w.heap.size w w := Below.refl _ w
 go_enter Tryz.func189, Tryz.ntmps189
 go_wp2_with (first
  | (go_at_call 192; refine k1.mono ?_; clear k1; rintro e w' ⟨rfl, rfl⟩)
  | (go_at_call 192; refine k2.mono ?_; clear k2; rintro e w' ⟨rfl, rfl⟩))
 go_loopw [5, 6, 7] (fun v c i wr => ∃ (k q : Nat) (out : List Nat), i = .int .i64 (k : Int) ∧ c = .int .u64 (q : Int) ∧ Fresh wr w.heap.size v out ∧ q ≤ 1 ∧ k ≤ max m n + 1 ∧ (max m n < k → q = 0) ∧ Hid (out.length = k ∧ Sm out ∧ val out + 4294967296 ^ k * q = val (A.take k) + val (B.take k)) ∧ Below w.heap.size w wr) (fun _ _ i _ => max m n + 2 - (intOf i).toNat)
 case atStart => exact ⟨0, 0, [], rfl, rfl, Fresh.nil _ _, by omega, by omega, by omega, Lib.hid ⟨rfl, Sm.nil, by simp [val]⟩, hb0⟩
 case round =>
  obtain ⟨k, q, out, rfl, rfl, hrow, hq, hk, hkq, HH, hbel⟩ := hrel
  have hbS : w.heap.size ≤ wr.heap.size := hbel.size
  have hol : out.length ≤ 100001 := by have := HH.out.1; omega
  obtain ⟨ba, oa, hba, hca⟩ := (RA.out.below hbel).addr
  obtain ⟨bb, ob, hbb, hcb⟩ := (RB.out.below hbel).addr
  have HRW := Lib.hid hrow
  have HBL := Lib.hid hbel
  rw [← HM.out] at hba hca
  rw [← HN.out] at hbb hcb
  clear hbel
  obtain ⟨x, hx⟩ : ∃ x, x = A.getD k 0 := ⟨_, rfl⟩
  obtain ⟨y, hy⟩ : ∃ y, y = B.getD k 0 := ⟨_, rfl⟩
  have hxb : x < 4294967296 := by rw [hx]; exact hSA.out.getD k
  have hyb : y < 4294967296 := by rw [hy]; exact hSB.out.getD k
  by_cases h1 : k < m
  · skip
    have r1 := hca k h1
    have ea := (hba (by omega)).1
    subst ea
    rw [← hx] at r1
    have HX := Lib.hid hx
    clear hca hba hx
    by_cases h2 : k < n
    · skip
      have r2 := hcb k h2
      have eb := (hbb (by omega)).1
      subst eb
      rw [← hy] at r2
      have HY := Lib.hid hy
      clear hcb hbb hy hkq
      go_wp2_with (at_builtin; go_loud (refine wpList_append_own _ rfl _ _ 26 rfl w.heap.size 71 i0 (.int .u32 0) 1 4 Tryz.underlying26 hi hz0 hz1 hz2 rfl (by decide) _ _ _ rfl (World.ownsRow.alloc hrow _) ⟨wr.heap.size, 0, none⟩ 1 1 [_] rfl rfl (one_new _ _ _ _ (by simp)) (by simp [Value.oneCell']) (small_max (by omega)) (by omega) (by simp; omega) ?_); intro v' w3 hown' hgrow _; obtain ⟨hF, hKO, hBl, hBx, hNo⟩ := fresh_append ((q + x + y) % 4294967296) hrow hbS hown' hgrow (by omega); clear hown' hgrow hBx hNo hKO)
      go_roundw
      case rel =>
        refine ⟨k + 1, (q + x + y) / 4294967296, _, by simp, by congr 1, hF, by omega, by omega, by omega, Lib.hid ⟨by simp [HH.out.1], HH.out.2.1.snoc (by omega), ?_⟩, HBL.out.trans hBl⟩
        exact radd_step HH.out.1 HH.out.2.2 (by rw [HX.out, HY.out])
      case measure => simp [intOf]; omega
    · skip
      have hy0 : y = 0 := by rw [hy]; exact getD_cut0 (by have := HN.out; omega)
      have HY := Lib.hid hy
      clear hcb hbb hy
      clear hkq
      go_wp2_with (at_builtin; go_loud (refine wpList_append_own _ rfl _ _ 26 rfl w.heap.size 71 i0 (.int .u32 0) 1 4 Tryz.underlying26 hi hz0 hz1 hz2 rfl (by decide) _ _ _ rfl (World.ownsRow.alloc hrow _) ⟨wr.heap.size, 0, none⟩ 1 1 [_] rfl rfl (one_new _ _ _ _ (by simp)) (by simp [Value.oneCell']) (small_max (by omega)) (by omega) (by simp; omega) ?_); intro v' w3 hown' hgrow _; obtain ⟨hF, hKO, hBl, hBx, hNo⟩ := fresh_append ((q + x + y) % 4294967296) hrow hbS hown' hgrow (by omega); clear hown' hgrow hBx hNo hKO)
      go_roundw
      case rel =>
        refine ⟨k + 1, (q + x + y) / 4294967296, _, by simp, by congr 1; omega, hF, by omega, by omega, by omega, Lib.hid ⟨by simp [HH.out.1], HH.out.2.1.snoc (by omega), ?_⟩, HBL.out.trans hBl⟩
        exact radd_step HH.out.1 HH.out.2.2 (by rw [HX.out, HY.out])
      case measure => simp [intOf]; omega
  · skip
    have hx0 : x = 0 := by rw [hx]; exact getD_cut0 (by have := HM.out; omega)
    have HX := Lib.hid hx
    clear hca hba hx
    by_cases h2 : k < n
    · skip
      have r2 := hcb k h2
      have eb := (hbb (by omega)).1
      subst eb
      rw [← hy] at r2
      have HY := Lib.hid hy
      clear hcb hbb hy hkq
      go_wp2_with (at_builtin; go_loud (refine wpList_append_own _ rfl _ _ 26 rfl w.heap.size 71 i0 (.int .u32 0) 1 4 Tryz.underlying26 hi hz0 hz1 hz2 rfl (by decide) _ _ _ rfl (World.ownsRow.alloc hrow _) ⟨wr.heap.size, 0, none⟩ 1 1 [_] rfl rfl (one_new _ _ _ _ (by simp)) (by simp [Value.oneCell']) (small_max (by omega)) (by omega) (by simp; omega) ?_); intro v' w3 hown' hgrow _; obtain ⟨hF, hKO, hBl, hBx, hNo⟩ := fresh_append ((q + x + y) % 4294967296) hrow hbS hown' hgrow (by omega); clear hown' hgrow hBx hNo hKO)
      go_roundw
      case rel =>
        refine ⟨k + 1, (q + x + y) / 4294967296, _, by simp, by congr 1; omega, hF, by omega, by omega, by omega, Lib.hid ⟨by simp [HH.out.1], HH.out.2.1.snoc (by omega), ?_⟩, HBL.out.trans hBl⟩
        exact radd_step HH.out.1 HH.out.2.2 (by rw [HX.out, HY.out])
      case measure => simp [intOf]; omega
    · skip
      have hy0 : y = 0 := by rw [hy]; exact getD_cut0 (by have := HN.out; omega)
      have HY := Lib.hid hy
      clear hcb hbb hy
      by_cases hq0 : q = 0
      · subst hq0
        clear hkq
        have e1 : val out = val A + val B := by
         have := HH.out.2.2
         rw [List.take_of_length_le (by have := HM.out; omega), List.take_of_length_le (by have := HN.out; omega)] at this
         simpa using this
        have E1 := Lib.hid e1
        have kt := rtrim_any hrow.reads (by omega)
        obtain ⟨va, ca, hv⟩ := hrow.reads.form
        rw [hv] at kt ⊢
        clear e1 hv
        go_wp2_with (go_at_call 193; refine kt.mono ?_; clear kt; rintro e w' ⟨⟨u, rfl, hu⟩, rfl⟩)
        go_ret
        refine ⟨u, rfl, ?_, HBL.out⟩
        rw [← E1.out, ← cut_eq HH.out.2.1]
        exact hu
      · have hq1 : 0 < q := by omega
        clear hq0
        go_wp2_with (at_builtin; go_loud (refine wpList_append_own _ rfl _ _ 26 rfl w.heap.size 71 i0 (.int .u32 0) 1 4 Tryz.underlying26 hi hz0 hz1 hz2 rfl (by decide) _ _ _ rfl (World.ownsRow.alloc hrow _) ⟨wr.heap.size, 0, none⟩ 1 1 [_] rfl rfl (one_new _ _ _ _ (by simp)) (by simp [Value.oneCell']) (small_max (by omega)) (by omega) (by simp; omega) ?_); intro v' w3 hown' hgrow _; obtain ⟨hF, hKO, hBl, hBx, hNo⟩ := fresh_append ((q + x + y) % 4294967296) hrow hbS hown' hgrow (by omega); clear hown' hgrow hBx hNo hKO)
        go_roundw
        case rel =>
         refine ⟨k + 1, (q + x + y) / 4294967296, _, by simp, by congr 1; omega, hF, by omega, by omega, by omega, Lib.hid ⟨by simp [HH.out.1], HH.out.2.1.snoc (by omega), ?_⟩, HBL.out.trans hBl⟩
         exact radd_step HH.out.1 HH.out.2.2 (by rw [HX.out, HY.out])
        case measure => simp [intOf]; omega
theorem rcmp_any {w : World} {va vb : Value} {la lb : List Nat} (ha : Reads w va la) (hb : Reads w vb lb) (hla : la.length ≤ 100000) (hlb : lb.length ≤ 100000) (hsa : Sm la) (hsb : Sm lb) :
   Calls Tryz.prog 190 #[va, vb] w fun e w' => e = .returned (.int .i64 (sgn (nv la) (nv lb))) ∧ Below w.heap.size w w' := by
 have k1 := flip (rfit_any ha (by omega))
 have k2 := flip (rfit_any hb (by omega))
 have hA := orzV_reads ha
 have hB := orzV_reads hb
 obtain ⟨a1, c1, e1⟩ := hA.form
 obtain ⟨b1, d1, e2⟩ := hB.form
 rw [e1] at k1 hA
 rw [e2] at k2 hB
 have hlA : (orz la).length ≤ 100000 := Nat.le_trans (orz_length la) hla
 have hlB : (orz lb).length ≤ 100000 := Nat.le_trans (orz_length lb) hlb
 have hSA := Lib.hid (sm_orz hsa)
 have hSB := Lib.hid (sm_orz hsb)
 have hCA := Lib.hid (chk_orz la)
 have hCB := Lib.hid (chk_orz lb)
 rw [← val_orz la, ← val_orz lb]
 generalize orz la = A at *
 generalize orz lb = B at *
 obtain ⟨x1, x2, rfl⟩ := ha.form
 obtain ⟨y1, y2, rfl⟩ := hb.form
 have RA := Lib.hid hA
 have RB := Lib.hid hB
 clear ha hb e1 e2 hla hlb hsa hsb hA hB
 obtain ⟨m, hm⟩ : ∃ m, m = A.length := ⟨_, rfl⟩
 obtain ⟨n, hn⟩ : ∃ n, n = B.length := ⟨_, rfl⟩
 have HM := Lib.hid hm
 have HN := Lib.hid hn
 rw [← hm] at hlA k1
 rw [← hn] at hlB k2
 clear hm hn
 have hb0 : Below w.heap.size w w := Below.refl _ w
 obtain ⟨z, hz⟩ : ∃ z, z = sgn (val A) (val B) := ⟨_, rfl⟩
 rw [← hz]
 have HZ := Lib.hid hz
 clear hz
 rcases Nat.lt_trichotomy m n with hlt | heq | hgt
 · have e : z = -1 := by
    rw [HZ.out, ← cmp_len hSA.out hSB.out hCA.out hCB.out (by have := HM.out; have := HN.out; omega)]
    simp [sgn]; have := HM.out; have := HN.out; omega
   subst e
   have h1 : (m : Int) < (n : Int) := by omega
   go_enter Tryz.func190, Tryz.ntmps190
   go_wp2_with (first
    | (go_at_call 192; refine k1.mono ?_; clear k1; rintro e w' ⟨rfl, rfl⟩)
    | (go_at_call 192; refine k2.mono ?_; clear k2; rintro e w' ⟨rfl, rfl⟩))
   go_ret
   exact ⟨rfl, hb0⟩
 · have HE := Lib.hid heq
   have h1 : (n : Int) = (m : Int) := by omega
   clear heq
   go_enter Tryz.func190, Tryz.ntmps190
   go_wp2_with (first
    | (go_at_call 192; refine k1.mono ?_; clear k1; rintro e w' ⟨rfl, rfl⟩)
    | (go_at_call 192; refine k2.mono ?_; clear k2; rintro e w' ⟨rfl, rfl⟩))
   go_loopg [5] m (fun g s wr => ∃ q : Int, s = .int .i64 q ∧ q = (g : Int) - 1 ∧ g ≤ m ∧ Hid (∀ i, g ≤ i → A.getD i 0 = B.getD i 0) ∧ Hid (Below w.heap.size w wr))
   case atStart => exact ⟨_, rfl, rfl, Nat.le_refl _, Lib.hid (fun i hi => by rw [getD_cut0 (by have := HM.out; omega), getD_cut0 (by have := HM.out; have := HN.out; have := HE.out; omega)]), Lib.hid hb0⟩
   case round =>
    obtain ⟨q, rfl, hq, hg, HH, HB⟩ := hrel
    by_cases hg0 : gk = 0
    · have hq1 : q = -1 := by omega
      subst hq1
      have e : z = 0 := by
        rw [HZ.out]
        exact cmp_same (by have := HM.out; have := HN.out; have := HE.out; omega) (fun i => HH.out i (by omega))
      subst e
      clear hq
      go_wp2
      go_ret
      exact ⟨rfl, HB.out⟩
    · obtain ⟨p, hp⟩ : ∃ p : Nat, q = (p : Int) := ⟨gk - 1, by omega⟩
      subst hp
      have hpl : p < m := by omega
      obtain ⟨ba, oa, hba, hca⟩ := (RA.out.below HB.out).addr
      obtain ⟨bb, ob, hbb, hcb⟩ := (RB.out.below HB.out).addr
      rw [← HM.out] at hba hca
      rw [← HN.out] at hbb hcb
      have hpn : p < n := by have := HE.out; omega
      have r1 := hca p hpl
      have r2 := hcb p hpn
      have ea := (hba (by omega)).1
      subst ea
      have eb := (hbb (by omega)).1
      subst eb
      obtain ⟨x, hx⟩ : ∃ x, x = A.getD p 0 := ⟨_, rfl⟩
      obtain ⟨y, hy⟩ : ∃ y, y = B.getD p 0 := ⟨_, rfl⟩
      rw [← hx] at r1
      rw [← hy] at r2
      have HX := Lib.hid hx
      have HY := Lib.hid hy
      have HG := Lib.hid (show gk = p + 1 by omega)
      clear hx hy hba hbb hca hcb hq hg0
      have stp : x ≠ y → sgn x y = z := by
        intro hne
        rw [HZ.out, HX.out, HY.out]
        exact cmp_step hSA.out hSB.out (by rw [← HX.out, ← HY.out]; exact hne) (fun i hi => HH.out i (by have := HG.out; omega)) (by have := HM.out; have := HN.out; have := HE.out; omega) (by have := HM.out; omega)
      rcases Nat.lt_trichotomy x y with hxy | hxy | hxy
      · have e : z = -1 := by rw [← stp (by omega)]; simp [sgn, hxy]
        subst e
        have t1 : (x : Int) < (y : Int) := by omega
        clear stp
        go_wp2
        go_quiet (fail)
        go_wp2
        go_ret
        exact ⟨rfl, HB.out.trans ⟨rfl, rfl, rfl, Nat.le_refl _, fun _ _ => rfl⟩⟩
      · have HXY := Lib.hid hxy
        have t1 : (y : Int) = (x : Int) := by omega
        clear stp hxy
        go_wp2
        go_quiet (fail)
        go_wp2
        go_quiet (fail)
        go_wp2
        go_roundg p
        case measure => have := HG.out; omega
        case rel => exact ⟨_, rfl, rfl, by omega, Lib.hid (fun i hi => by
         by_cases e : i = p
         · subst e; rw [← HX.out, ← HY.out]; exact HXY.out
         · exact HH.out i (by have := HG.out; omega)), Lib.hid (HB.out.trans ⟨rfl, rfl, rfl, Nat.le_refl _, fun _ _ => rfl⟩)⟩
      · have e : z = 1 := by rw [← stp (by omega)]; simp [sgn, show ¬ x < y by omega, hxy]
        subst e
        have t1 : ¬ (x : Int) < (y : Int) := by omega
        have t2 : (x : Int) > (y : Int) := by omega
        clear stp
        go_wp2
        go_quiet (fail)
        go_wp2
        go_quiet (fail)
        go_wp2
        go_ret
        exact ⟨rfl, HB.out.trans ⟨rfl, rfl, rfl, Nat.le_refl _, fun _ _ => rfl⟩⟩
 · have e : z = 1 := by
    rw [HZ.out, ← cmp_len hSA.out hSB.out hCA.out hCB.out (by have := HM.out; have := HN.out; omega)]
    have := HM.out; have := HN.out
    simp [sgn, show ¬ A.length < B.length by omega]; omega
   subst e
   have h1 : ¬ (m : Int) < (n : Int) := by omega
   have h2 : (m : Int) > (n : Int) := by omega
   go_enter Tryz.func190, Tryz.ntmps190
   go_wp2_with (first
    | (go_at_call 192; refine k1.mono ?_; clear k1; rintro e w' ⟨rfl, rfl⟩)
    | (go_at_call 192; refine k2.mono ?_; clear k2; rintro e w' ⟨rfl, rfl⟩))
   go_ret
   exact ⟨rfl, hb0⟩
end
section
open Go Go.Proofs Go.RowKit Go.Shelf Nu
section
variable {P : Program} (w : World)
end
def bcells (n : Nat) (v : Value) : Array Value := #[.int .i64 (n : Int), .slice none 0 0, v, .slice none 0 0, .slice none 0 0, .slice none 0 0, .slice none 0 0, .slice none 0 0, .slice none 0 0, .slice none 0 0, .slice none 0 0, .slice none 0 0, .slice none 0 0]
def BookAt (W : World) (B n : Nat) (v : Value) : Prop := W.heap[B]? = some (.cells (bcells n v) 50 (0, 0))
section
variable {W W' : World} {B n : Nat} {v : Value}
theorem BookAt.lt (h : BookAt W B n v) : B < W.heap.size := (Array.getElem?_eq_some_iff.1 h).1
theorem BookAt.cell (h : BookAt W B n v) (o : Nat) (u : Value) (hu : (bcells n v)[o]? = some u) : W.cell? ⟨B, o, none⟩ = some u := by
 unfold World.cell?; rw [show W.heap[B]? = _ from h]; exact hu
theorem BookAt.fr (h : BookAt W B n v) (o : Nat) : W.frozen? ⟨B, o, none⟩ = false := by
 unfold World.frozen?; rw [show W.heap[B]? = _ from h]; simp
theorem BookAt.kept {row : Option Nat} (h : BookAt W B n v) (hg : W.grownBy W' row) (hne : some B ≠ row) : BookAt W' B n v := (hg.block B h.lt hne).trans h
theorem BookAt.below {N : Nat} (h : BookAt W B n v) (hb : Below N W W') (hN : B < N) : BookAt W' B n v := (hb.block B hN).trans h
theorem BookAt.alloc (h : BookAt W B n v) (o : Obj) : BookAt (W.alloc o) B n v := (Below.heap_alloc W o B h.lt).trans h
theorem BookAt.set (h : BookAt W B n v) (o : Nat) (u : Value) {n' : Nat} {v' : Value} (e : (bcells n v).setIfInBounds o u = bcells n' v') : BookAt (W.setCell ⟨B, o, none⟩ u) B n' v' := by
 obtain ⟨hlt, hk⟩ := Array.getElem?_eq_some_iff.1 h
 show (W.heap.modify B _)[B]? = _
 rw [Array.getElem?_eq_getElem (by rw [Array.size_modify]; exact hlt), Array.getElem_modify_self, hk, ← e]
 rfl
theorem BookAt.setn (h : BookAt W B n v) (n' : Nat) : BookAt (W.setCell ⟨B, 0, none⟩ (.int .i64 (n' : Int))) B n' v := h.set 0 _ rfl
theorem BookAt.other (h : BookAt W B n v) {B' o : Nat} (hne : B ≠ B') (u : Value) : BookAt (W.setCell ⟨B', o, none⟩ u) B n v := (Below.heap_setCell W ⟨B', o, none⟩ u B hne).trans h
theorem BookAt.new (W : World) : BookAt (W.alloc (.cells (bcells 0 (.slice none 0 0)) 50)) W.heap.size 0 (.slice none 0 0) := World.alloc_heap_new W _
theorem BookAt.c0 (h : BookAt W B n v) : W.cell? ⟨B, 0, none⟩ = some (.int .i64 (n : Int)) := h.cell 0 _ rfl
theorem BookAt.c2 (h : BookAt W B n v) : W.cell? ⟨B, 2, none⟩ = some v := h.cell 2 _ rfl
end
def hcell (e : Value × Nat) : List Value := [e.1, .slice none 0 0, .int .i64 (e.2 : Int)]
def hcells (es : List (Value × Nat)) : List Value := es.flatMap hcell
theorem hcells_at (es : List (Value × Nat)) (j : Nat) (e : Value × Nat) (h : es[j]? = some e) : (hcells es)[j * 3]? = some e.1 ∧ (hcells es)[j * 3 + 1]? = some (.slice none 0 0) ∧ (hcells es)[j * 3 + 2]? = some (.int .i64 (e.2 : Int)) := by
 induction es generalizing j with
 | nil => simp at h
 | cons x es ih =>
  have e0 : hcells (x :: es) = x.1 :: .slice none 0 0 :: .int .i64 (x.2 : Int) :: hcells es := rfl
  rw [e0]
  cases j with
  | zero => simp at h; subst h; exact ⟨rfl, rfl, rfl⟩
  | succ j =>
   have := ih j (by simpa using h)
   rw [show (j + 1) * 3 = j * 3 + 3 by omega, show j * 3 + 3 + 1 = (j * 3 + 1) + 3 by omega, show j * 3 + 3 + 2 = (j * 3 + 2) + 3 by omega]
   simpa using this
def HRow (W : World) (base : Nat) (v : Value) (es : List (Value × Nat)) : Prop := W.ownsRow base 125 3 v es.length (hcells es)
theorem HRow.nil (W : World) (base : Nat) : HRow W base (.slice none 0 0) [] := World.ownsRow_nil W base _ 3
def HAt (W : World) (h N : Nat) (V G : Nat → Value) (M : Nat → Nat) : Prop :=
 (∃ cur e, W.heap[h]? = some (.cells cur e (0, 0))) ∧ ∀ j, j < N → W.cell? ⟨h, j * 3, none⟩ = some (V j) ∧ W.cell? ⟨h, j * 3 + 1, none⟩ = some (G j) ∧ W.cell? ⟨h, j * 3 + 2, none⟩ = some (.int .i64 (M j : Int))
section
variable {W W' : World} {h N : Nat} {V G : Nat → Value} {M : Nat → Nat}
theorem HAt.lt (H : HAt W h N V G M) : h < W.heap.size := by obtain ⟨⟨_, _, e⟩, _⟩ := H; exact (Array.getElem?_eq_some_iff.1 e).1
theorem HAt.fr (H : HAt W h N V G M) (o : Nat) : W.frozen? ⟨h, o, none⟩ = false := by
 obtain ⟨⟨cur, t, e⟩, _⟩ := H
 exact frozen_of_row W h o cur t e
theorem HAt.kept {row : Option Nat} (H : HAt W h N V G M) (hg : W.grownBy W' row) (hne : some h ≠ row) : HAt W' h N V G M := by
 have hlt := H.lt
 have e := hg.block h hlt hne
 refine ⟨?_, fun j hj => ?_⟩
 · obtain ⟨⟨cur, t, e1⟩, _⟩ := H; exact ⟨cur, t, e.trans e1⟩
 · have c : ∀ o, W'.cell? ⟨h, o, none⟩ = W.cell? ⟨h, o, none⟩ := fun o => World.cell?_of_block e
   rw [c, c, c]; exact H.2 j hj
theorem HAt.other (H : HAt W h N V G M) {g o : Nat} (hne : h ≠ g) (u : Value) : HAt (W.setCell ⟨g, o, none⟩ u) h N V G M :=
 H.kept (row := some g) ⟨rfl, rfl, rfl, by simp, fun k _ hk => heap_setCell_other W ⟨g, o, none⟩ k u (fun e => hk (by simp [e]))⟩ (by simpa using hne)
theorem HAt.put (H : HAt W h N V G M) {i : Nat} (hi : i < N) (u : Value) : HAt (W.setCell ⟨h, i * 3 + 1, none⟩ u) h N V (fun j => if j = i then u else G j) M := by
 have H0 := H
 obtain ⟨⟨cur, t, e⟩, H2⟩ := H
 refine ⟨⟨_, _, heap_setCell_same W h (i * 3 + 1) cur t u e⟩, fun j hj => ?_⟩
 have off : ∀ o, o ≠ i * 3 + 1 → (W.setCell ⟨h, i * 3 + 1, none⟩ u).cell? ⟨h, o, none⟩ = W.cell? ⟨h, o, none⟩ := fun o ho => World.cell?_setCell_other W _ _ _ (by intro e; cases e; exact ho rfl)
 refine ⟨(off _ (by omega)).trans (H2 j hj).1, ?_, (off _ (by omega)).trans (H2 j hj).2.2⟩
 show _ = some (if j = i then u else G j)
 by_cases hji : j = i
 · subst hji
   rw [if_pos rfl]
   exact World.cell?_setCell_same W _ _ (H2 j hj).2.1
 · rw [if_neg hji]
   exact (off _ (by omega)).trans (H2 j hj).2.1
end
theorem HRow.at {W : World} {base : Nat} {v : Value} {es : List (Value × Nat)} (H : HRow W base v es) (hne : es ≠ []) :
   ∃ h cap, v = .slice (some ⟨h, 0, none⟩) es.length cap ∧ base ≤ h ∧ es.length ≤ cap ∧ HAt W h es.length (fun j => (es.getD j (.slice none 0 0, 0)).1) (fun _ => .slice none 0 0) (fun j => (es.getD j (.slice none 0 0, 0)).2) := by
 have H0 := H
 rcases H.2 with ⟨_, h0⟩ | ⟨h, cap, cur, rfl, hb, hg, hn, _⟩
 · exact absurd (List.eq_nil_of_length_eq_zero h0) hne
 · refine ⟨h, cap, rfl, hb, hn, ⟨_, _, hg⟩, fun j hj => ?_⟩
   have k := hcells_at es j es[j] (List.getElem?_eq_getElem hj)
   have e : es.getD j (.slice none 0 0, 0) = es[j] := by rw [List.getD_eq_getElem?_getD, List.getElem?_eq_getElem hj]; rfl
   simp only [e]
   refine ⟨?_, ?_, ?_⟩
   · rw [World.ownsRow.cellAt H0 (j * 3) (by omega)]; exact k.1
   · rw [World.ownsRow.cellAt H0 (j * 3 + 1) (by omega)]; exact k.2.1
   · rw [World.ownsRow.cellAt H0 (j * 3 + 2) (by omega)]; exact k.2.2
theorem Fresh.put {W : World} {base g n cap : Nat} {l : List Nat} (h : Fresh W base (.slice (some ⟨g, 0, none⟩) n cap) l) (hn : n = l.length) (j x : Nat) :
  Fresh (W.setCell ⟨g, j, none⟩ (.int .u32 (x : Int))) base (.slice (some ⟨g, 0, none⟩) n cap) (l.set j x) ∧ W.grownBy (W.setCell ⟨g, j, none⟩ (.int .u32 (x : Int))) (some g) := by
 subst hn
 have k := World.ownsRow.stored h j (.int .u32 (x : Int))
 refine ⟨?_, k.2⟩
 unfold Fresh
 rw [List.length_set, List.map_set]
 exact k.1
theorem Fresh.keptr {W W' : World} {base : Nat} {v : Value} {l : List Nat} {row : Option Nat} (h : Fresh W base v l) (hg : W.grownBy W' row) (hne : v.ownBlock = none ∨ v.ownBlock ≠ row) : Fresh W' base v l := World.ownsRow.kept h hg hne
theorem Fresh.lt' {W : World} {base g : Nat} {v : Value} {l : List Nat} (h : Fresh W base v l) (hg : v.ownBlock = some g) : base ≤ g ∧ g < W.heap.size := World.ownsRow.lt h g hg
end
section
open Go Go.Proofs Go.RowKit Go.Shelf Nu
attribute [local go_sem] Oper.semAt_some
theorem rows_at {W : World} {b off : Nat} {l : List Nat} (hc : ∀ j, j < l.length → W.cell? ⟨b, off + j, none⟩ = some (.int .u32 (l.getD j 0 : Nat))) : ∀ j u, (l.map u32v)[j]? = some u → W.cell? ((⟨b, off, none⟩ : Addr).add j) = some u := by
 intro j u hu
 rw [List.getElem?_map] at hu
 by_cases hj : j < l.length
 · rw [List.getElem?_eq_getElem hj] at hu
   simp only [Option.map_some, Option.some.injEq] at hu
   rw [Addr.add_lit, hc j hj, ← hu]
   rw [List.getD_eq_getElem?_getD, List.getElem?_eq_getElem hj]
   rfl
 · rw [List.getElem?_eq_none (by omega)] at hu; cases hu
theorem u32v_one (l : List Nat) : ∀ u ∈ l.map u32v, u.oneCell' = true := by
 intro u hu
 obtain ⟨x, _, rfl⟩ := List.mem_map.1 hu
 rfl
theorem rtwin_any {w : World} {v : Value} {l : List Nat} (h : Reads w v l) (hl : l.length ≤ 100000) :
   Calls Tryz.prog 203 #[v] w fun e w' => ∃ u, e = .returned u ∧ Fresh w' w.heap.size u l ∧ Below w.heap.size w w' := by
 obtain ⟨i0, hi, hz0, hz1, hz2⟩ := info_parts info_u32
 have hb0 : Below w.heap.size w w := Below.refl _ w
 rcases h with ⟨rfl, rfl⟩ | ⟨b, off, cap, rfl, hb, hcap, hc⟩ | ⟨x, rfl, rfl⟩
 · go_enter Tryz.func203, Tryz.ntmps203
   go_wp2_with (refine wpList_append_own_none rfl _ _ 26 rfl w.heap.size 71 i0 1 Tryz.underlying26 hi (.slice none 0 0) 0 [] rfl (World.ownsRow_nil _ _ _ 1) rfl ?_)
   go_ret
   exact ⟨_, rfl, Fresh.nil _ _, hb0⟩
 · have hn1 := Lib.hid (rows_at hc)
   obtain ⟨n, hn⟩ : ∃ n, n = l.length := ⟨_, rfl⟩
   have HN := Lib.hid hn
   rw [← hn] at hl hcap ⊢
   clear hn hc
   go_enter Tryz.func203, Tryz.ntmps203
   go_wp2_with (at_builtin; go_loud (refine wpList_append_own _ rfl _ _ 26 rfl w.heap.size 71 i0 (.int .u32 0) 1 4 Tryz.underlying26 hi hz0 hz1 hz2 rfl (by decide) (.slice none 0 0) 0 [] rfl (World.ownsRow_nil _ _ _ 1) ⟨b, off, none⟩ n cap (l.map u32v) rfl (by rw [List.length_map, ← HN.out, Nat.mul_one]) hn1.out (u32v_one l) (small_max (by omega)) (by omega) (Nat.le_refl _) ?_); intro v' w3 hown' hgrow _)
   go_ret
   refine ⟨v', rfl, ?_, hb0.grown hgrow (Nat.le_refl _) (fun k e => by cases e)⟩
   unfold Fresh
   rw [← HN.out]
   rw [Nat.zero_add, List.nil_append] at hown'
   exact hown'
 · go_enter Tryz.func203, Tryz.ntmps203
   go_wp2_with (at_builtin; go_loud (refine wpList_append_own _ rfl _ _ 26 rfl w.heap.size 71 i0 (.int .u32 0) 1 4 Tryz.underlying26 hi hz0 hz1 hz2 rfl (by decide) (.slice none 0 0) 0 [] rfl (World.ownsRow_nil _ _ _ 1) x 0 0 [] rfl rfl (by intro j u h; simp at h) (by simp) (small_max (by omega)) (by omega) (Nat.le_refl _) ?_); intro v' w3 hown' hgrow _)
   go_ret
   exact ⟨v', rfl, hown', hb0.grown hgrow (Nat.le_refl _) (fun k e => by cases e)⟩
theorem sub_two {x o y : Nat} (h1 : x < 4294967296) (h2 : y < 4294967296) (h3 : o ≤ 1) :
   ∃ d1 d : Nat, IntKind.u64.wrap ((x : Int) - (o : Int)) = (d1 : Int) ∧ IntKind.u64.wrap ((d1 : Int) - (y : Int)) = (d : Int) ∧ d1 < 18446744073709551616 ∧ d < 18446744073709551616 ∧ (x : Int) - o - y = (d % 4294967296 : Nat) - 4294967296 * (d / 9223372036854775808 : Nat) ∧ d / 9223372036854775808 ≤ 1 ∧ (y = 0 → d1 = d) := by
 rw [IntKind.wrap_u64]
 by_cases h : o ≤ x
 · refine ⟨x - o, ?_⟩
   rw [IntKind.wrap_u64]
   by_cases h' : y ≤ x - o
   · exact ⟨x - o - y, by omega, by omega, by omega, by omega, by omega, by omega, by omega⟩
   · exact ⟨18446744073709551616 + (x - o) - y, by omega, by omega, by omega, by omega, by omega, by omega, by omega⟩
 · refine ⟨18446744073709551616 + x - o, ?_⟩
   rw [IntKind.wrap_u64]
   exact ⟨18446744073709551616 + x - o - y, by omega, by omega, by omega, by omega, by omega, by omega, by omega⟩
theorem ring_sub (a b c P o x y r o' : Int) (h : a - P * o = b - c) (hd : x - o - y = r - 4294967296 * o') : (a + P * r) - P * 4294967296 * o' = (b + P * x) - (c + P * y) := by grind
theorem rless_step {A B l : List Nat} {k o x y r o' : Nat} (hk : k < l.length) (h : (val (l.take k) : Int) - 4294967296 ^ k * o = val (A.take k) - val (B.take k)) (hx : x = A.getD k 0) (hy : y = B.getD k 0) (hd : (x : Int) - o - y = r - 4294967296 * (o' : Nat)) :
  (val ((l.set k r).take (k + 1)) : Int) - 4294967296 ^ (k + 1) * o' = val (A.take (k + 1)) - val (B.take (k + 1)) := by
 rw [set_take l k r hk, val_snoc, val_take_succ, val_take_succ, List.length_take, Nat.min_eq_left (by omega), ← hx, ← hy]
 have := ring_sub _ _ _ _ _ _ _ _ _ h hd
 simp only [Int.natCast_add, Int.natCast_mul, Int.natCast_pow, Int.cast_ofNat_Int, Int.pow_succ] at this ⊢
 exact this
theorem rless_end {A B l : List Nat} {m o : Nat} (hl : l.length = m) (hs : Sm l) (ho : o ≤ 1) (hle : val B ≤ val A) (h : (val l : Int) - 4294967296 ^ m * o = val A - val B) : val l = val A - val B := by
 have h1 := val_lt hs
 rw [hl] at h1
 have h2 : ((4294967296 ^ m : Nat) : Int) = (4294967296 : Int) ^ m := by rw [Int.natCast_pow]; rfl
 rw [← h2] at h
 generalize 4294967296 ^ m = P at *
 rcases Nat.le_one_iff_eq_zero_or_eq_one.1 ho with rfl | rfl
 · simp at h; omega
 · simp at h; omega
theorem rless_any {w : World} {va vb : Value} {A B : List Nat} (hA : Reads w va A) (hB : Reads w vb B) (hlA : A.length ≤ 100000) (hlB : B.length ≤ A.length) (hSA : Sm A) (hSB : Sm B) (hle : val B ≤ val A) :
  Calls Tryz.prog 222 #[va, vb] w fun e w' => ∃ v, e = .returned v ∧ Reads w' v (digs (val A - val B)) ∧ Below w.heap.size w w' := by
 have kT := rtwin_any hA hlA
 have RB := Lib.hid hB
 have SA := Lib.hid hSA
 have SB := Lib.hid hSB
 have HLE := Lib.hid hle
 obtain ⟨a1, c1, rfl⟩ := hA.form
 obtain ⟨b1, d1, rfl⟩ := hB.form
 obtain ⟨m, hm⟩ : ∃ m, m = A.length := ⟨_, rfl⟩
 obtain ⟨n, hn⟩ : ∃ n, n = B.length := ⟨_, rfl⟩
 have HM := Lib.hid hm
 have HN := Lib.hid hn
 rw [← hm] at hlA hlB kT
 rw [← hn] at hlB
 rw [← hm, ← hn]
 have hb0 : Below w.heap.size w w := Below.refl _ w
 clear hA hB hSA hSB hle hm hn
 go_enter Tryz.func222, Tryz.ntmps222
 go_wp2_with (go_at_call 203; refine kT.mono ?_; clear kT; rintro e w1 ⟨u, rfl, fu, hb1⟩)
 obtain ⟨au, cu, eu⟩ := fu.reads.form
 rw [← HM.out] at eu
 subst eu
 go_loopg [6, 7] m (fun g so si wr => ∃ (k o : Nat) (l : List Nat), k + g = m ∧ si = .int .i64 (k : Int) ∧ so = .int .u64 (o : Int) ∧ o ≤ 1 ∧ l.length = m ∧ Hid (Fresh wr w.heap.size (.slice au m cu) l) ∧ Hid (Sm l ∧ l.drop k = A.drop k ∧ (val (l.take k) : Int) - 4294967296 ^ k * o = val (A.take k) - val (B.take k)) ∧ Hid (Below w.heap.size w wr))
 case atStart => exact ⟨0, 0, A, by omega, rfl, rfl, by omega, HM.out.symm, Lib.hid fu, Lib.hid ⟨SA.out, rfl, by simp [val]⟩, Lib.hid hb1⟩
 case round =>
  obtain ⟨k, o, l, hk, rfl, rfl, ho, hl, HF, HV, HB⟩ := hrel
  have HL := Lib.hid hl
  by_cases hkm : k < m
  · obtain ⟨g, rfl⟩ : ∃ g, au = some ⟨g, 0, none⟩ := by
      rcases HF.out.form with ⟨e, _⟩ | ⟨g, c, e, _⟩
      · simp only [Value.slice.injEq] at e; omega
      · simp only [Value.slice.injEq] at e; exact ⟨g, e.1⟩
    have hF0 := HF.out
    have hfr : wr.frozen? ⟨g, k, none⟩ = false := by
      unfold Fresh at hF0
      rw [hl] at hF0
      exact World.ownsRow.frozenAt hF0 k
    obtain ⟨x, hx⟩ : ∃ x, x = A.getD k 0 := ⟨_, rfl⟩
    obtain ⟨y, hy⟩ : ∃ y, y = B.getD k 0 := ⟨_, rfl⟩
    have hxb : x < 4294967296 := by rw [hx]; exact SA.out.getD k
    have hyb : y < 4294967296 := by rw [hy]; exact SB.out.getD k
    have hxl : l.getD k 0 = x := by rw [hx]; exact getD_of_drop HV.out.2.1 k (Nat.le_refl _)
    have hc : wr.cell? ⟨g, k, none⟩ = some (.int .u32 (x : Int)) := by
      rcases HF.out.form with ⟨e, _⟩ | ⟨g', c, e, _, _, hn', hcc⟩
      · cases e
      · simp only [Value.slice.injEq, Option.some.injEq, Addr.mk.injEq, and_true] at e
        obtain ⟨rfl, _⟩ := e
        have := hcc k (by omega)
        rwa [Nat.zero_add, hxl] at this
    obtain ⟨d1', d, e1, e2, hd1, hd, e3, e4, e5⟩ := sub_two hxb hyb ho
    have hP := (HF.out.put hl.symm k (d % 4294967296)).1
    have hgw : w.heap.size ≤ g := (HF.out.lt' (g := g) rfl).1
    rw [show ((d % 4294967296 : Nat) : Int) = (d : Int) % 4294967296 by omega] at hP
    have HP := Lib.hid hP
    have HX := Lib.hid hx
    have HY := Lib.hid hy
    have E3 := Lib.hid e3
    have E4 := Lib.hid e4
    have fin : ∃ (k' o' : Nat) (l' : List Nat), k' + (m - (k + 1)) = m ∧ Value.int .i64 ((k : Int) + 1) = .int .i64 (k' : Int) ∧ Value.int .u64 ((d : Int) / 9223372036854775808) = .int .u64 (o' : Int) ∧ o' ≤ 1 ∧ l'.length = m ∧ Hid (Fresh (wr.setCell ⟨g, k, none⟩ (.int .u32 ((d : Int) % 4294967296))) w.heap.size (.slice (some ⟨g, 0, none⟩) m cu) l') ∧ Hid (Sm l' ∧ l'.drop k' = A.drop k' ∧ (val (l'.take k') : Int) - 4294967296 ^ k' * o' = val (A.take k') - val (B.take k')) ∧ Hid (Below w.heap.size w (wr.setCell ⟨g, k, none⟩ (.int .u32 ((d : Int) % 4294967296)))) := by
      refine ⟨k + 1, d / 9223372036854775808, l.set k (d % 4294967296), by omega, by simp, by congr 1, E4.out, by rw [List.length_set, hl], HP, Lib.hid ⟨HV.out.1.set k _ (by omega), ?_, ?_⟩, Lib.hid (HB.out.setCell (p := ⟨g, k, none⟩) hgw _)⟩
      · rw [set_drop]; exact drop_succ_of_drop HV.out.2.1
      · exact rless_step (by omega) HV.out.2.2 hx hy e3
    have FIN := Lib.hid fin
    clear hF0 hx hy hxl hP e3 e4 fin
    by_cases hkn : k < n
    · obtain ⟨bb, ob, hbb, hcb⟩ := (RB.out.below HB.out).addr
      rw [← HN.out] at hbb hcb
      have r2 := hcb k hkn
      have eb := (hbb (by omega)).1
      subst eb
      rw [← HY.out] at r2
      clear hbb hcb e5 HB HF hl
      go_wp2
      go_roundg (m - (k + 1))
      case measure => omega
      case rel => exact FIN.out
    · have hy0 : y = 0 := by rw [HY.out]; exact getD_cut0 (by have := HN.out; omega)
      have e6 := e5 hy0
      subst e6
      clear e5 e2 hy0 HB HF hl
      go_wp2
      go_roundg (m - (k + 1))
      case measure => omega
      case rel => exact FIN.out
  · obtain rfl : k = m := by omega
    have hv : val l = val A - val B := by
      have h := HV.out.2.2
      rw [List.take_of_length_le (by omega), List.take_of_length_le (by have := HM.out; omega), List.take_of_length_le (by have := HN.out; omega)] at h
      exact rless_end hl HV.out.1 ho HLE.out h
    have HVL := Lib.hid hv
    have kt := rtrim_any HF.out.reads (by omega)
    clear hv hl
    go_wp2_with (go_at_call 193; refine kt.mono ?_; clear kt; rintro e w' ⟨⟨u, rfl, hu⟩, rfl⟩)
    go_ret
    refine ⟨u, rfl, ?_, HB.out⟩
    rw [← HVL.out, ← cut_eq HV.out.1]
    exact hu
theorem rsub_any {w : World} {va vb : Value} {A B : List Nat} (hA : Reads w va A) (hB : Reads w vb B) (hlA : A.length ≤ 100000) (hlB : B.length ≤ 100000) (hSA : Sm A) (hSB : Sm B) :
  Calls Tryz.prog 191 #[va, vb] w fun e w' => ∃ v, e = .returned (.tuple #[v, .int .i64 (if chk A = true ∧ chk B = true ∧ val B ≤ val A then 0 else 1)]) ∧ Reads w' v (if chk A = true ∧ chk B = true ∧ val B ≤ val A then digs (val A - val B) else []) ∧ Below w.heap.size w w' := by
 have hb0 : Below w.heap.size w w := Below.refl _ w
 have cA := rnc_any hA (by omega)
 have cB := rnc_any hB (by omega)
 have kC := rcmp_any hA hB hlA hlB hSA hSB
 have RA := Lib.hid hA
 have RB := Lib.hid hB
 obtain ⟨a1, c1, rfl⟩ := hA.form
 obtain ⟨b1, d1, rfl⟩ := hB.form
 clear hA hB
 cases h1 : chk A with
 | false =>
  rw [h1] at cA
  simp only [Bool.false_eq_true, false_and, if_false]
  clear kC cB hSA hSB h1
  go_enter Tryz.func191, Tryz.ntmps191
  go_wp2_with (go_at_call 132; refine cA.mono ?_; clear cA; rintro e w' ⟨rfl, rfl⟩)
  go_ret2
  exact ⟨_, rfl, Reads.nil _, hb0⟩
 | true =>
  cases h2 : chk B with
  | false =>
   rw [h1] at cA
   rw [h2] at cB
   simp only [Bool.false_eq_true, false_and, and_false, if_false]
   clear kC hSA hSB h1 h2
   go_enter Tryz.func191, Tryz.ntmps191
   go_wp2_with (first
     | (go_at_call 132; refine cA.mono ?_; clear cA; rintro e w' ⟨rfl, rfl⟩)
     | (go_at_call 132; refine cB.mono ?_; clear cB; rintro e w' ⟨rfl, rfl⟩))
   go_ret2
   exact ⟨_, rfl, Reads.nil _, hb0⟩
  | true =>
   rw [h1] at cA
   rw [h2] at cB
   rw [nv_chk h1, nv_chk h2] at kC
   by_cases hle : val B ≤ val A
   · have hlen : B.length ≤ A.length := by
      rcases Nat.lt_or_ge A.length B.length with h | h
      · have := le_of_length_lt hSA hSB h2 h; omega
      · exact h
     have kL := fun W (h : Below w.heap.size w W) => rless_any (RA.out.below h) (RB.out.below h) hlA hlen hSA hSB hle
     simp only [hle, and_self, if_true]
     obtain ⟨z, hz⟩ : ∃ z, z = sgn (val A) (val B) := ⟨_, rfl⟩
     rw [← hz] at kC
     have hz0 : ¬ z < 0 := by rw [hz]; unfold sgn; split; omega; split <;> omega
     clear hSA hSB h1 h2 hle hz hlen
     go_enter Tryz.func191, Tryz.ntmps191
     go_wp2_with (first
      | (go_at_call 132; refine cA.mono ?_; clear cA; rintro e w' ⟨rfl, rfl⟩)
      | (go_at_call 132; refine cB.mono ?_; clear cB; rintro e w' ⟨rfl, rfl⟩)
      | (go_at_call 190; refine kC.mono ?_; clear kC; rintro e w1 ⟨rfl, q1⟩)
      | (go_at_call 222; refine (kL _ (by first | exact q1 | exact q1.drew)).mono ?_; clear kL; rintro e w2 ⟨u, rfl, q2, q3⟩))
     go_ret2
     exact ⟨u, rfl, q2, then_below q1 q3⟩
   · simp only [hle, and_false, if_false]
     obtain ⟨z, hz⟩ : ∃ z, z = sgn (val A) (val B) := ⟨_, rfl⟩
     rw [← hz] at kC
     have hz0 : z < 0 := by rw [hz]; unfold sgn; rw [if_pos (by omega)]; omega
     clear hSA hSB h1 h2 hle hz
     go_enter Tryz.func191, Tryz.ntmps191
     go_wp2_with (first
      | (go_at_call 132; refine cA.mono ?_; clear cA; rintro e w' ⟨rfl, rfl⟩)
      | (go_at_call 132; refine cB.mono ?_; clear cB; rintro e w' ⟨rfl, rfl⟩)
      | (go_at_call 190; refine kC.mono ?_; clear kC; rintro e w1 ⟨rfl, q1⟩))
     go_ret2
     exact ⟨_, rfl, Reads.nil _, q1⟩
def RowInv (B p : List Nat) (N i k c x : Nat) (l : List Nat) : Prop :=
 Sm l ∧ l.length = N ∧ c < 4294967296 ∧ l.take i = p.take i ∧ l.drop (i + k) = p.drop (i + k) ∧
  val ((l.drop i).take k) + 4294967296 ^ k * c = val ((p.drop i).take k) + x * val (B.take k)
def ColInv (A B : List Nat) (N i : Nat) (p : List Nat) : Prop :=
 Sm p ∧ p.length = N ∧ val p = val (A.take i) * val B ∧ ∀ j, i + B.length ≤ j → p.getD j 0 = 0
theorem RowInv.start {A B p : List Nat} {N i x : Nat} (h : ColInv A B N i p) : RowInv B p N i 0 0 x p :=
 ⟨h.1, h.2.1, by omega, rfl, rfl, by simp [val]⟩
theorem RowInv.step {B p l : List Nat} {N i k c x y r d : Nat} (hN : i + k < N) (hx : x < 4294967296) (hS : Sm B) (H : RowInv B p N i k c x l) (hy : y = B.getD k 0) (hr : r = l.getD (i + k) 0) (hd : d = c + x * y + r) :
   RowInv B p N i (k + 1) (d / 4294967296) x (l.set (i + k) (d % 4294967296)) := by
 obtain ⟨h1, h2, h3, h4, h5, h6⟩ := H
 have hyb : y < 4294967296 := by rw [hy]; exact hS.getD k
 have hrb : r < 4294967296 := by rw [hr]; exact h1.getD _
 have hb := times_bound (c := c) (p := y) (t := x) (r := r) h3 hyb hx hrb
 have e1 : (l.drop i).length = N - i := by rw [List.length_drop, h2]
 have hrd : r = (l.drop i).getD k 0 := by
   rw [hr, List.getD_eq_getElem?_getD, List.getD_eq_getElem?_getD, List.getElem?_drop]
 refine ⟨h1.set _ _ (Nat.mod_lt _ (by decide)), by rw [List.length_set, h2], ?_, ?_, ?_, ?_⟩
 · rw [hd, show c + x * y + r = c + (y * x + r) by rw [Nat.mul_comm x y]; omega]
   omega
 · rw [← h4, List.take_set]
   rw [List.set_eq_of_length_le (by rw [List.length_take]; omega)]
 · rw [show i + (k + 1) = (i + k) + 1 by omega, set_drop]
   exact drop_succ_of_drop h5
 · have e2 : (l.set (i + k) (d % 4294967296)).drop i = (l.drop i).set k (d % 4294967296) := by
    rw [List.drop_set, if_neg (by omega), Nat.add_sub_cancel_left]
   rw [e2]
   have hk : k < (l.drop i).length := by omega
   have hdd : (l.drop i).drop k = (p.drop i).drop k := by rw [List.drop_drop, List.drop_drop]; exact h5
   have := times_step (row := p.drop i) (b := B) (cur := l.drop i) (k := k) (c := c) (t := x) hk hdd h6
   rw [← hrd, ← hy] at this
   rw [hd, show c + x * y + r = c + (y * x + r) by rw [Nat.mul_comm x y]; omega]
   exact this
theorem ColInv.next {A B p l : List Nat} {N i c x : Nat} (hN : i + B.length < N) (hA : x = A.getD i 0) (h : ColInv A B N i p) (H : RowInv B p N i B.length c x l) : ColInv A B N (i + 1) (l.set (i + B.length) c) := by
 obtain ⟨h1, h2, h3, h4⟩ := h
 obtain ⟨g1, g2, g3, g4, g5, g6⟩ := H
 rw [List.take_length] at g6
 have e0 : l = p.take i ++ (l.drop i).take B.length ++ p.drop (i + B.length) := by
   rw [← g4, ← g5, ← List.drop_drop, List.append_assoc, List.take_append_drop, List.take_append_drop]
 have hl1 : (p.take i).length = i := by rw [List.length_take]; omega
 have hl2 : ((l.drop i).take B.length).length = B.length := by rw [List.length_take, List.length_drop]; omega
 have hdr : p.drop (i + B.length) = p.getD (i + B.length) 0 :: p.drop (i + B.length + 1) := by
   rw [List.drop_eq_getElem_cons (by omega), List.getD_eq_getElem?_getD, List.getElem?_eq_getElem (by omega)]; rfl
 have hset : l.set (i + B.length) c = p.take i ++ (l.drop i).take B.length ++ [c] ++ p.drop (i + B.length + 1) := by
   have e1 : l.set (i + B.length) c = (p.take i ++ (l.drop i).take B.length ++ p.drop (i + B.length)).set (i + B.length) c := by rw [← e0]
   rw [e1, hdr, List.set_append_right _ _ (by simp; omega)]
   have e : i + B.length - (p.take i ++ (l.drop i).take B.length).length = 0 := by simp; omega
   rw [e]; simp
 have ev := val_row p i B.length ((l.drop i).take B.length) c x (val B) (by omega) (h4 _ (Nat.le_refl _)) hl2 g6
 refine ⟨g1.set _ _ g3, by rw [List.length_set, g2], ?_, ?_⟩
 · rw [hset, ev, h3, val_take_succ, Nat.add_mul, ← hA, Nat.mul_assoc]
 · intro j hj
   rw [List.getD_eq_getElem?_getD, List.getElem?_set_ne (by omega)]
   have : l.drop (i + B.length) = p.drop (i + B.length) := g5
   have h7 := getD_of_drop this j (by omega)
   rw [← List.getD_eq_getElem?_getD, h7]
   exact h4 j (by omega)
theorem ColInv.first (A B : List Nat) : ColInv A B (A.length + B.length) 0 (List.replicate (A.length + B.length) 0) :=
 ⟨Sm.replicate _, by rw [List.length_replicate], by simp [val_replicate, val], fun j _ => by
  rw [List.getD_eq_getElem?_getD, List.getElem?_replicate]; split <;> rfl⟩
theorem rmul_any {w : World} {va vb : Value} {la lb : List Nat} (ha : Reads w va la) (hb : Reads w vb lb) (hla : la.length ≤ 100000) (hlb : lb.length ≤ 100000) (hsa : Sm la) (hsb : Sm lb) :
  Calls Tryz.prog 125 #[va, vb] w fun e w' => ∃ v, e = .returned v ∧ Reads w' v (digs (nv la * nv lb)) ∧ Below w.heap.size w w' := by
 obtain ⟨i0, hi, hz0, hz1, hz2⟩ := info_parts info_u32
 have k1 := flip (rfit_any ha (by omega))
 have k2 := flip (rfit_any hb (by omega))
 have hA := orzV_reads ha
 have hB := orzV_reads hb
 obtain ⟨a1, c1, e1⟩ := hA.form
 obtain ⟨b1, d1, e2⟩ := hB.form
 rw [e1] at k1 hA
 rw [e2] at k2 hB
 have hlA : (orz la).length ≤ 100000 := Nat.le_trans (orz_length la) hla
 have hlB : (orz lb).length ≤ 100000 := Nat.le_trans (orz_length lb) hlb
 have hSA := Lib.hid (sm_orz hsa)
 have hSB := Lib.hid (sm_orz hsb)
 rw [← val_orz la, ← val_orz lb]
 generalize orz la = A at *
 generalize orz lb = B at *
 obtain ⟨x1, x2, rfl⟩ := ha.form
 obtain ⟨y1, y2, rfl⟩ := hb.form
 have RA := Lib.hid hA
 have RB := Lib.hid hB
 clear ha hb e1 e2 hla hlb hsa hsb hA hB
 obtain ⟨m, hm⟩ : ∃ m, m = A.length := ⟨_, rfl⟩
 obtain ⟨n, hn⟩ : ∃ n, n = B.length := ⟨_, rfl⟩
 obtain ⟨N, hN⟩ : ∃ N, N = m + n := ⟨_, rfl⟩
 have HM := Lib.hid hm
 have HN := Lib.hid hn
 have hNN : (m : Int) + (n : Int) = (N : Int) := by omega
 rw [← hm] at hlA k1
 rw [← hn] at hlB k2
 have hN1 : N ≤ 200000 := by omega
 have HNN := Lib.hid hN
 have hfirst := Lib.hid (ColInv.first A B)
 rw [← hm, ← hn, ← hN] at hfirst
 clear hm hn hN
 have hb0 : Below w.heap.size w w := Below.refl _ w
 go_enter Tryz.func125, Tryz.ntmps125
 go_wp2_with (first
  | (go_at_call 192; refine k1.mono ?_; clear k1; rintro e w' ⟨rfl, rfl⟩)
  | (go_at_call 192; refine k2.mono ?_; clear k2; rintro e w' ⟨rfl, rfl⟩)
  | (at_make; go_loud (refine wpList_make_full _ rfl _ _ 26 rfl w.heap.size 71 i0 (.int .u32 0) 1 Tryz.underlying26 hi hz0 hz1 .i64 .i64 _ _ N rfl rfl (by omega) (by omega) (by rw [hz2]; omega) (by unfold maxLen; omega) (by simp) ?_); intro w1 hown1 hgrow1))
 have hbel1 : Below w.heap.size w w1 := hb0.grown hgrow1 (Nat.le_refl _) (fun _ e => by cases e)
 have hF : Fresh w1 w.heap.size (.slice (some ⟨w.heap.size, 0, none⟩) N N) (List.replicate N 0) := by unfold Fresh; rw [List.length_replicate, ← replicate_zero_u32]; exact hown1
 obtain ⟨g, hg⟩ : ∃ g, g = w.heap.size := ⟨_, rfl⟩
 rw [← hg] at hF ⊢
 have hwg : w.heap.size ≤ g := by omega
 have HF1 := Lib.hid hF
 have HB1 := Lib.hid hbel1
 clear hown1 hgrow1 hF hbel1 hg
 have cellg : ∀ (W : World) (l : List Nat) (j : Nat), Fresh W g (.slice (some ⟨g, 0, none⟩) N N) l → l.length = N → j < N → W.cell? ⟨g, j, none⟩ = some (.int .u32 (l.getD j 0 : Nat)) ∧ W.frozen? ⟨g, j, none⟩ = false := by
  intro W l j hf hl hj
  have hf0 := hf
  unfold Fresh at hf0
  rw [hl] at hf0
  refine ⟨?_, World.ownsRow.frozenAt hf0 j⟩
  rcases hf.form with ⟨e, _⟩ | ⟨g', c, e, _, _, _, hcc⟩
  · cases e
  · simp only [Value.slice.injEq, Option.some.injEq, Addr.mk.injEq, and_true] at e
    obtain ⟨rfl, _⟩ := e
    have := hcc j (by omega)
    rwa [Nat.zero_add] at this
 have CG := Lib.hid cellg
 clear cellg
 go_loopg [6] m (fun gk s wr => ∃ (i : Nat) (p : List Nat), i + gk = m ∧ s = .int .i64 (i : Int) ∧ Hid (Fresh wr g (.slice (some ⟨g, 0, none⟩) N N) p) ∧ Hid (ColInv A B N i p) ∧ Hid (Below w.heap.size w wr))
 case atStart => exact ⟨0, _, by omega, rfl, HF1, hfirst, HB1⟩
 case round =>
  obtain ⟨i, p, hi, rfl, HF, HC, HB⟩ := hrel
  by_cases him : i < m
  · obtain ⟨x, hx⟩ : ∃ x, x = A.getD i 0 := ⟨_, rfl⟩
    have hxb : x < 4294967296 := by rw [hx]; exact hSA.out.getD i
    have HX := Lib.hid hx
    have hR0 := Lib.hid (RowInv.start (x := x) HC.out)
    clear hx
    go_wp2
    go_loopg [7, 8] n (fun g2 sc sk wy => ∃ (k c : Nat) (l : List Nat), k + g2 = n ∧ sk = .int .i64 (k : Int) ∧ sc = .int .u64 (c : Int) ∧ Hid (Fresh wy g (.slice (some ⟨g, 0, none⟩) N N) l) ∧ Hid (RowInv B p N i k c x l) ∧ Hid (Below w.heap.size w wy))
    case atStart => exact ⟨0, 0, p, by omega, rfl, rfl, HF, hR0, HB⟩
    case round =>
     obtain ⟨k, c, l, hk, rfl, rfl, HL, HR, HW⟩ := hrel
     have hc := HR.out.2.2.1
     by_cases hkn : k < n
     · obtain ⟨s, hs⟩ : ∃ s, s = i + k := ⟨_, rfl⟩
       have hss : (i : Int) + (k : Int) = (s : Int) := by omega
       have hsN : s < N := by have := HNN.out; omega
       obtain ⟨y, hy⟩ : ∃ y, y = B.getD k 0 := ⟨_, rfl⟩
       have hyb : y < 4294967296 := by rw [hy]; exact hSB.out.getD k
       obtain ⟨r, hr⟩ : ∃ r, r = l.getD s 0 := ⟨_, rfl⟩
       have hrb : r < 4294967296 := by rw [hr]; exact HR.out.1.getD s
       obtain ⟨P, hP, HP, hPb⟩ := mul_bound hxb hyb
       have hcell := CG.out _ _ _ HL.out HR.out.2.1 hsN
       rw [← hr] at hcell
       obtain ⟨q1, q2⟩ := hcell
       obtain ⟨ba, oa, hba, hca⟩ := (RA.out.below HW.out).addr
       obtain ⟨bb, ob, hbb, hcb⟩ := (RB.out.below HW.out).addr
       rw [← HM.out] at hba hca
       rw [← HN.out] at hbb hcb
       have r1 := hca i him
       have r2 := hcb k hkn
       have ea := (hba (by omega)).1
       subst ea
       have eb := (hbb (by omega)).1
       subst eb
       rw [← HX.out] at r1
       rw [← hy] at r2
       obtain ⟨d, hd⟩ : ∃ d, d = c + P + r := ⟨_, rfl⟩
       have hdd : (c : Int) + (P : Int) + (r : Int) = (d : Int) := by omega
       have hst := HR.out.step (d := d) (y := y) (r := r) (by omega) hxb hSB.out hy (by rw [← hs]; exact hr) (by rw [hd, HP])
       rw [← hs] at hst
       have hcp : c + P < 18446744073709551616 := by omega
       have hdb : d < 18446744073709551616 := by omega
       have hpt := (HL.out.put HR.out.2.1.symm s (d % 4294967296)).1
       rw [show ((d % 4294967296 : Nat) : Int) = (d : Int) % 4294967296 by omega] at hpt
       have fin : ∃ (k' c' : Nat) (l' : List Nat), k' + (n - (k + 1)) = n ∧ Value.int .i64 ((k : Int) + 1) = .int .i64 (k' : Int) ∧ Value.int .u64 ((d : Int) / 4294967296) = .int .u64 (c' : Int) ∧ Hid (Fresh (wr.setCell ⟨g, s, none⟩ (.int .u32 ((d : Int) % 4294967296))) g (.slice (some ⟨g, 0, none⟩) N N) l') ∧ Hid (RowInv B p N i k' c' x l') ∧ Hid (Below w.heap.size w (wr.setCell ⟨g, s, none⟩ (.int .u32 ((d : Int) % 4294967296)))) :=
        ⟨k + 1, d / 4294967296, _, by omega, by simp, by congr 1, Lib.hid hpt, Lib.hid hst, Lib.hid (HW.out.setCell (p := ⟨g, s, none⟩) hwg _)⟩
       have FIN := Lib.hid fin
       clear hs hy hr HP hd hst hpt fin hba hca hbb hcb HL HR HW
       go_wp2
       go_quiet (fail)
       go_wp2
       go_roundg (n - (k + 1))
       case measure => omega
       case rel =>
        obtain ⟨k', c', l', f1, f2, f3, f4, f5, f6⟩ := FIN.out
        exact ⟨k', c', l', f1, f2, f3, f4, f5, Lib.hid ⟨f6.out.os, f6.out.tape, f6.out.output, f6.out.size, f6.out.block⟩⟩
     · obtain rfl : k = n := by omega
       obtain ⟨s, hs⟩ : ∃ s, s = i + k := ⟨_, rfl⟩
       have hss : (i : Int) + (k : Int) = (s : Int) := by omega
       have hsN : s < N := by have := HNN.out; omega
       obtain ⟨q1, q2⟩ := CG.out _ _ _ HL.out HR.out.2.1 hsN
       have hcm : (c : Int) % 4294967296 = (c : Int) := by omega
       have hR := HR.out
       rw [HN.out] at hR
       have hnx := HC.out.next (by have := HN.out; omega) HX.out hR
       rw [← HN.out, ← hs] at hnx
       have hpt := (HL.out.put HR.out.2.1.symm s c).1
       have HNX := Lib.hid hnx
       have HPT := Lib.hid hpt
       have HBN := Lib.hid (HW.out.setCell (p := ⟨g, s, none⟩) hwg (.int .u32 (c : Int)))
       obtain ⟨z, hz⟩ : ∃ z, z = l.getD s 0 := ⟨_, rfl⟩
       rw [← hz] at q1
       clear hz hs hR hnx hpt HL HR HW
       go_wp2
       go_roundg (m - (i + 1))
       case measure => omega
       case rel => exact ⟨i + 1, _, by omega, by simp, HPT, HNX, HBN⟩
  · obtain rfl : i = m := by omega
    have hv : val p = val A * val B := by rw [HC.out.2.2.1, HM.out, List.take_length]
    have HVL := Lib.hid hv
    have kt := rtrim_any HF.out.reads (by have := HC.out.2.1; omega)
    clear hv
    go_wp2_with (go_at_call 193; refine kt.mono ?_; clear kt; rintro e w' ⟨⟨u, rfl, hu⟩, rfl⟩)
    go_ret
    refine ⟨u, rfl, ?_, HB.out⟩
    rw [← HVL.out, ← cut_eq HC.out.1]
    exact hu
theorem richeck_any {w : World} {n : Bool} {v : Value} {l : List Nat} (h : Reads w v l) (hl : l.length ≤ 1000000) :
  Calls Tryz.prog 131 #[.agg #[.bool n, v]] w fun e w' => e = .returned (.bool (ichk n l)) ∧ Below w.heap.size w w' := by
 have kb : ∀ W, Below w.heap.size w W → _ := fun W hW => rnc_any (h.below hW) hl
 obtain ⟨a, c, rfl⟩ := h.form
 obtain ⟨R, hR⟩ : ∃ R, R = chk l := ⟨_, rfl⟩
 rw [← hR] at kb
 have e : ichk n l = (R && (!n || decide (0 < l.length))) := by rw [hR]; rfl
 rw [e]
 clear h hR e hl
 cases R with
 | false =>
  go_enter Tryz.func131, Tryz.ntmps131
  go_wp2_with (go_at_call 132; refine (kb _ (by first | assumption | exact (Below.refl _ _).alloc (Nat.le_refl _) _)).mono ?_; rintro e w' ⟨rfl, rfl⟩)
  go_ret
  exact ⟨by simp, (Below.refl _ _).alloc (Nat.le_refl _) _⟩
 | true =>
  cases n with
  | false =>
   go_enter Tryz.func131, Tryz.ntmps131
   go_wp2_with (go_at_call 132; refine (kb _ (by first | assumption | exact (Below.refl _ _).alloc (Nat.le_refl _) _)).mono ?_; rintro e w' ⟨rfl, rfl⟩)
   go_ret
   exact ⟨by simp, (Below.refl _ _).alloc (Nat.le_refl _) _⟩
  | true =>
   obtain ⟨m, hm⟩ : ∃ m, m = l.length := ⟨_, rfl⟩
   rw [← hm] at kb ⊢
   clear hm
   rcases Nat.eq_zero_or_pos m with rfl | h0
   · go_enter Tryz.func131, Tryz.ntmps131
     go_wp2_with (go_at_call 132; refine (kb _ (by first | assumption | exact (Below.refl _ _).alloc (Nat.le_refl _) _)).mono ?_; rintro e w' ⟨rfl, rfl⟩)
     go_ret
     exact ⟨by simp, (Below.refl _ _).alloc (Nat.le_refl _) _⟩
   · have hi : 0 < (m : Int) := by omega
     go_enter Tryz.func131, Tryz.ntmps131
     go_wp2_with (go_at_call 132; refine (kb _ (by first | assumption | exact (Below.refl _ _).alloc (Nat.le_refl _) _)).mono ?_; rintro e w' ⟨rfl, rfl⟩)
     go_ret
     exact ⟨(by have h3 : ¬ m = 0 := (by omega); simp [h3, h0]), (Below.refl _ _).alloc (Nat.le_refl _) _⟩
theorem rifit_any {w : World} {n : Bool} {v : Value} {l : List Nat} (h : Reads w v l) (hl : l.length ≤ 1000000) :
  Calls Tryz.prog 188 #[.agg #[.bool n, v]] w fun e w' => e = .returned (.agg #[.bool (izN n l), izS n v l]) ∧ Below w.heap.size w w' := by
 have kb : ∀ W, Below w.heap.size w W → _ := fun W hW => richeck_any (n := n) (h.below hW) hl
 obtain ⟨a, c, rfl⟩ := h.form
 have hb0 : Below w.heap.size w ((w.alloc (.cells #[.bool n, .slice a l.length c] 28)).alloc (.cells #[.bool false, .slice none 0 0] 28)) := ((Below.refl _ _).alloc (Nat.le_refl _) _).alloc (by simp) _
 have B1 := (Box2.new w 28 (.bool n) (.slice a l.length c)).alloc (.cells #[.bool false, .slice none 0 0] 28)
 have B2 := Box2.new1 w (.cells #[.bool n, .slice a l.length c] 28) 28 (.bool false) (.slice none 0 0)
 cases hR : ichk n l with
 | false =>
  have e1 : izN n l = false := by simp [izN, hR]
  have e2 : ∀ v, izS n v l = .slice none 0 0 := fun v => by simp [izS, hR]
  rw [e1, e2]
  rw [hR] at kb
  have kc := kb _ hb0
  clear e1 e2 hR h kb hb0
  go_enter Tryz.func188, Tryz.ntmps188
  go_wp2_with (go_at_call 131; refine kc.mono ?_; rintro e w1 ⟨rfl, r1⟩; have q2 := (B2.below r1).c0; have q3 := (B2.below r1).c1; have q4 := (B2.below r1).fr 0; have q5 := (B2.below r1).fr 1)
  refine ret_box2 rfl rfl (((B2.below r1).set0 _).set1 _) Tryz.underlying28 size_int rfl ?_
  exact ⟨rfl, below_sets (below_from (((Below.refl _ _).alloc (Nat.le_refl _) _).alloc (by simp) _) r1 (by simp; omega)) (by omega) _ _⟩
 | true =>
  have e1 : izN n l = n := by simp [izN, hR]
  have e2 : ∀ v, izS n v l = v := fun v => by simp [izS, hR]
  rw [e1, e2]
  rw [hR] at kb
  have kc := kb _ hb0
  clear e1 e2 hR h kb hb0
  go_enter Tryz.func188, Tryz.ntmps188
  go_wp2_with (go_at_call 131; refine kc.mono ?_; rintro e w1 ⟨rfl, r1⟩; have q0 := (B1.below r1).c0; have q1 := (B1.below r1).c1; have q2 := (B2.below r1).c0; have q3 := (B2.below r1).c1; have q4 := (B2.below r1).fr 0; have q5 := (B2.below r1).fr 1)
  refine ret_box2 rfl rfl (((B2.below r1).set0 _).set1 _) Tryz.underlying28 size_int rfl ?_
  exact ⟨rfl, below_sets (below_from (((Below.refl _ _).alloc (Nat.le_refl _) _).alloc (by simp) _) r1 (by simp; omega)) (by omega) _ _⟩
theorem rsigned_any (n : Bool) (a : Option Addr) (m c : Nat) (w : World) :
  Calls Tryz.prog 185 #[.bool n, .slice a m c] w fun e w' => e = .returned (.agg #[.bool (n && decide (0 < m)), .slice a m c]) ∧ Below w.heap.size w w' := by
 cases n with
 | false =>
  go_enter Tryz.func185, Tryz.ntmps185
  go_wp2
  refine ret_box2 rfl rfl (Box2.new w _ _ _) Tryz.underlying28 size_int rfl ?_
  exact ⟨by simp, (Below.refl _ _).alloc (Nat.le_refl _) _⟩
 | true =>
  rcases Nat.eq_zero_or_pos m with rfl | h0
  · go_enter Tryz.func185, Tryz.ntmps185
    go_wp2
    refine ret_box2 rfl rfl (Box2.new w _ _ _) Tryz.underlying28 size_int rfl ?_
    exact ⟨by simp, (Below.refl _ _).alloc (Nat.le_refl _) _⟩
  · have hi : 0 < (m : Int) := by omega
    go_enter Tryz.func185, Tryz.ntmps185
    go_wp2
    refine ret_box2 rfl rfl (Box2.new w _ _ _) Tryz.underlying28 size_int rfl ?_
    exact ⟨by simp [h0], (Below.refl _ _).alloc (Nat.le_refl _) _⟩
section
variable {w : World} {p1 p2 : Option Addr} {q1 q2 A B : Nat}
theorem rd_add (N : Nat) (h1 : Reads w (.slice p1 (digs A).length q1) (digs A)) (h2 : Reads w (.slice p2 (digs B).length q2) (digs B)) (l1 : (digs A).length ≤ 100000) (l2 : (digs B).length ≤ 100000) (e : N = A + B) :
  Calls Tryz.prog 189 #[.slice p1 (digs A).length q1, .slice p2 (digs B).length q2] w fun e w' => ∃ a c, e = .returned (.slice a (digs N).length c) ∧ Reads w' (.slice a (digs N).length c) (digs N) ∧ Below w.heap.size w w' := by
 have k := radd_any h1 h2 l1 l2 (sm_digs _) (sm_digs _)
 rw [nv_digs, nv_digs, ← e] at k
 refine k.mono ?_
 rintro e w' ⟨v, rfl, f, hB⟩
 obtain ⟨a, c, rfl⟩ := f.form
 exact ⟨a, c, rfl, f, hB⟩
theorem rd_mul (N : Nat) (h1 : Reads w (.slice p1 (digs A).length q1) (digs A)) (h2 : Reads w (.slice p2 (digs B).length q2) (digs B)) (l1 : (digs A).length ≤ 100000) (l2 : (digs B).length ≤ 100000) (e : N = A * B) :
  Calls Tryz.prog 125 #[.slice p1 (digs A).length q1, .slice p2 (digs B).length q2] w fun e w' => ∃ a c, e = .returned (.slice a (digs N).length c) ∧ Reads w' (.slice a (digs N).length c) (digs N) ∧ Below w.heap.size w w' := by
 have k := rmul_any h1 h2 l1 l2 (sm_digs _) (sm_digs _)
 rw [nv_digs, nv_digs, ← e] at k
 refine k.mono ?_
 rintro e w' ⟨v, rfl, f, hB⟩
 obtain ⟨a, c, rfl⟩ := f.form
 exact ⟨a, c, rfl, f, hB⟩
theorem rd_sub (N : Nat) (h1 : Reads w (.slice p1 (digs A).length q1) (digs A)) (h2 : Reads w (.slice p2 (digs B).length q2) (digs B)) (l1 : (digs A).length ≤ 100000) (l2 : (digs B).length ≤ 100000) (h : B ≤ A) (e : N = A - B) :
  Calls Tryz.prog 191 #[.slice p1 (digs A).length q1, .slice p2 (digs B).length q2] w fun e w' => ∃ a c, e = .returned (.tuple #[.slice a (digs N).length c, .int .i64 0]) ∧ Reads w' (.slice a (digs N).length c) (digs N) ∧ Below w.heap.size w w' := by
 subst e
 have k := rsub_any h1 h2 l1 l2 (sm_digs _) (sm_digs _)
 simp only [chk_digs, val_digs, h, and_self, if_true] at k
 refine k.mono ?_
 rintro e w' ⟨v, rfl, f, hB⟩
 obtain ⟨a, c, rfl⟩ := f.form
 exact ⟨a, c, rfl, f, hB⟩
theorem rd_cmp (h1 : Reads w (.slice p1 (digs A).length q1) (digs A)) (h2 : Reads w (.slice p2 (digs B).length q2) (digs B)) (l1 : (digs A).length ≤ 100000) (l2 : (digs B).length ≤ 100000) :
  Calls Tryz.prog 190 #[.slice p1 (digs A).length q1, .slice p2 (digs B).length q2] w fun e w' => e = .returned (.int .i64 (sgn A B)) ∧ Below w.heap.size w w' := by
 have k := rcmp_any h1 h2 l1 l2 (sm_digs _) (sm_digs _)
 rwa [nv_digs, nv_digs] at k
end
section
variable {w : World} {v1 v2 : Value} {n1 n2 m1 m2 : Bool} {p1 p2 : Option Addr} {q1 q2 A B : Nat}
theorem riadd_same {N : Nat} (f1 : ∃ a n c, v1 = .slice a n c) (f2 : ∃ a n c, v2 = .slice a n c)
  (ko1 : ∀ W, Below w.heap.size w W → Calls Tryz.prog 188 #[.agg #[.bool n1, v1]] W fun e w' => e = .returned (.agg #[.bool m1, .slice p1 (digs A).length q1]) ∧ Below W.heap.size W w')
  (ko2 : ∀ W, Below w.heap.size w W → Calls Tryz.prog 188 #[.agg #[.bool n2, v2]] W fun e w' => e = .returned (.agg #[.bool m1, .slice p2 (digs B).length q2]) ∧ Below W.heap.size W w')
  (h1 : Reads w (.slice p1 (digs A).length q1) (digs A)) (h2 : Reads w (.slice p2 (digs B).length q2) (digs B)) (l1 : (digs A).length ≤ 100000) (l2 : (digs B).length ≤ 100000) (e : N = A + B) :
  Calls Tryz.prog 123 #[.agg #[.bool n1, v1], .agg #[.bool n2, v2]] w fun e w' => ∃ a c, e = .returned (.agg #[.bool (m1 && decide (0 < N)), .slice a (digs N).length c]) ∧ Reads w' (.slice a (digs N).length c) (digs N) ∧ Below w.heap.size w w' := by
 obtain ⟨s1, t1, c1, rfl⟩ := f1
 obtain ⟨s2, t2, c2, rfl⟩ := f2
 have ka : ∀ W, Below w.heap.size w W → _ := fun W hW => rd_add (w := W) N (h1.below hW) (h2.below hW) l1 l2 e
 have ks := fun W a c => rsigned_any (m1) a (digs N).length c W
 rw [dec_digs] at ks
 have KS := Lib.hid ks
 have KA := Lib.hid ka
 clear ka ks h1 h2 e l1 l2
 have KO1 := Lib.hid ko1
 have KO2 := Lib.hid ko2
 clear ko1 ko2
 obtain ⟨u0, hu0⟩ : ∃ u0, u0 = ((w.alloc (.cells #[.bool n1, .slice s1 t1 c1] 28)).alloc (.cells #[.bool n2, .slice s2 t2 c2] 28)).alloc (.cells #[.bool false, .slice none 0 0] 28) := ⟨_, rfl⟩
 have X1 := Lib.hid (show Box2 u0 w.heap.size 28 (.bool n1) (.slice s1 t1 c1) by rw [hu0]; exact ((Box2.new w _ _ _).alloc _).alloc _)
 have X2 := Lib.hid (show Box2 u0 (w.heap.size + 1) 28 (.bool n2) (.slice s2 t2 c2) by rw [hu0]; exact (Box2.new1 w _ _ _ _).alloc _)
 have X3 := Lib.hid (show Box2 u0 (w.heap.size + 1 + 1) 28 (.bool false) (.slice none 0 0) by
  rw [hu0]
  have := Box2.new1 (w.alloc (.cells #[.bool n1, .slice s1 t1 c1] 28)) (.cells #[.bool n2, .slice s2 t2 c2] 28) 28 (.bool false) (.slice none 0 0)
  rwa [World.size_alloc] at this)
 have hb := Lib.hid (show Below w.heap.size w u0 by rw [hu0]; exact (((Below.refl _ _).alloc (Nat.le_refl _) _).alloc (by simp) _).alloc (by simp; omega) _)
 obtain ⟨B1, hB1⟩ : ∃ b, b = w.heap.size := ⟨_, rfl⟩
 obtain ⟨B2, hB2⟩ : ∃ b, b = w.heap.size + 1 := ⟨_, rfl⟩
 obtain ⟨B3, hB3⟩ : ∃ b, b = w.heap.size + 1 + 1 := ⟨_, rfl⟩
 have d12 : B1 ≠ B2 := by omega
 have d13 : B1 ≠ B3 := by omega
 have d23 : B2 ≠ B3 := by omega
 have e1 := Lib.hid (show w.heap.size ≤ B1 by omega)
 have e2 := Lib.hid (show w.heap.size ≤ B2 by omega)
 have e3 := Lib.hid (show w.heap.size ≤ B3 by omega)
 rw [← hB1] at X1
 rw [← hB2] at X2
 rw [← hB3] at X3
 have hu0' := Lib.hid hu0
 have hB1' := Lib.hid hB1
 have hB2' := Lib.hid hB2
 have hB3' := Lib.hid hB3
 clear hu0 hB1 hB2 hB3
 go_enter Tryz.func123, Tryz.ntmps123
 go_wp2_with fail
 rw [← hu0'.out, ← hB3'.out, ← hB2'.out, ← hB1'.out]
 clear hu0' hB1' hB2' hB3'
 go_at_call 188
 refine (KO1.out _ hb.out).mono ?_
 rintro e u1 ⟨rfl, r⟩
 replace X1 := Lib.hid (X1.out.below r)
 replace X2 := Lib.hid (X2.out.below r)
 replace X3 := Lib.hid (X3.out.below r)
 replace hb := Lib.hid (then_below hb.out r)
 have a0 := X1.out.c0
 have a1 := X1.out.c1
 have a2 := X1.out.fr 0
 have a3 := X1.out.fr 1
 have b0 := X2.out.c0
 have b1 := X2.out.c1
 clear r
 go_wp2_with fail
 clear a0 a1 a2 a3 b0 b1
 obtain ⟨u2, hu2⟩ : ∃ u2, u2 = (u1.setCell ⟨B1, 0, none⟩ (.bool m1)).setCell ⟨B1, 1, none⟩ (.slice p1 (digs A).length q1) := ⟨_, rfl⟩
 replace X1 := Lib.hid (show Box2 u2 B1 28 (.bool m1) (.slice p1 (digs A).length q1) by rw [hu2]; exact (X1.out.set0 _).set1 _)
 replace X2 := Lib.hid (show Box2 u2 B2 28 (.bool n2) (.slice s2 t2 c2) by rw [hu2]; exact (X2.out.other d12.symm _).other d12.symm _)
 replace X3 := Lib.hid (show Box2 u2 B3 28 (.bool false) (.slice none 0 0) by rw [hu2]; exact (X3.out.other d13.symm _).other d13.symm _)
 replace hb := Lib.hid (show Below w.heap.size w u2 by rw [hu2]; exact below_sets hb.out e1.out _ _)
 rw [← hu2]
 clear hu2
 go_at_call 188
 refine (KO2.out _ hb.out).mono ?_
 rintro e u3 ⟨rfl, r⟩
 replace X1 := Lib.hid (X1.out.below r)
 replace X2 := Lib.hid (X2.out.below r)
 replace X3 := Lib.hid (X3.out.below r)
 replace hb := Lib.hid (then_below hb.out r)
 have a0 := X1.out.c0
 have a1 := X1.out.c1
 have b0 := X2.out.c0
 have b1 := X2.out.c1
 have b2 := X2.out.fr 0
 have b3 := X2.out.fr 1
 clear r
 go_wp2_with fail
 clear a0 a1 b0 b1 b2 b3
 obtain ⟨u4, hu4⟩ : ∃ u4, u4 = (u3.setCell ⟨B2, 0, none⟩ (.bool m1)).setCell ⟨B2, 1, none⟩ (.slice p2 (digs B).length q2) := ⟨_, rfl⟩
 replace X1 := Lib.hid (show Box2 u4 B1 28 (.bool m1) (.slice p1 (digs A).length q1) by rw [hu4]; exact (X1.out.other d12 _).other d12 _)
 replace X2 := Lib.hid (show Box2 u4 B2 28 (.bool m1) (.slice p2 (digs B).length q2) by rw [hu4]; exact (X2.out.set0 _).set1 _)
 replace X3 := Lib.hid (show Box2 u4 B3 28 (.bool false) (.slice none 0 0) by rw [hu4]; exact (X3.out.other d23.symm _).other d23.symm _)
 replace hb := Lib.hid (show Below w.heap.size w u4 by rw [hu4]; exact below_sets hb.out e2.out _ _)
 rw [← hu4]
 clear hu4
 have a0 := X1.out.c0
 have a1 := X1.out.c1
 have b0 := X2.out.c0
 have b1 := X2.out.c1
 go_wp2_with fail
 have hb2 := Lib.hid hb.out.drew
 have Y1 := Lib.hid X1.out.drew
 have Y2 := Lib.hid X2.out.drew
 have Y3 := Lib.hid X3.out.drew
 go_region_held3 (fun w' => w'.cell? ⟨B1, 0, none⟩ = some (.bool m1) ∧ w'.cell? ⟨B1, 1, none⟩ = some (.slice p1 (digs A).length q1) ∧ w'.cell? ⟨B2, 0, none⟩ = some (.bool m1) ∧ w'.cell? ⟨B2, 1, none⟩ = some (.slice p2 (digs B).length q2))
  (first
   | (with_reducible exact ⟨a0, a1, b0, b1⟩)
   | (with_reducible exact ⟨Y1.out.c0, Y1.out.c1, Y2.out.c0, Y2.out.c1⟩)
   | (with_reducible exact ⟨C1.out.c0, C1.out.c1, C2.out.c0, C2.out.c1⟩)
   | (with_reducible exact ⟨E1.out.c0, E1.out.c1, E2.out.c0, E2.out.c1⟩)
   | (with_reducible exact ⟨F1.out.c0, F1.out.c1, F2.out.c0, F2.out.c1⟩)
   | go_keep)
  ((first
   | (go_at_call 189; refine (KA.out _ hb2.out).mono ?_; rintro e w1 ⟨a, c, rfl, g0, r1⟩; have g := Lib.hid g0; have hb3 := Lib.hid (then_below hb2.out r1); have C1 := Lib.hid (Y1.out.below r1); have C2 := Lib.hid (Y2.out.below r1); have C3 := Lib.hid (Y3.out.below r1); clear g0 r1)
   | (go_at_call 185; refine (KS.out _ _ _).mono ?_; rintro e w2 ⟨rfl, r2⟩; have E1 := Lib.hid (C1.out.below r2); have E2 := Lib.hid (C2.out.below r2); have E3 := Lib.hid (C3.out.below r2); have F1 := Lib.hid ((E1.out.other (B' := B3) (o := 0) d13 (.bool (m1 && decide (0 < N)))).other (B' := B3) (o := 1) d13 (.slice a (digs N).length c)); have F2 := Lib.hid ((E2.out.other (B' := B3) (o := 0) d23 (.bool (m1 && decide (0 < N)))).other (B' := B3) (o := 1) d23 (.slice a (digs N).length c)); have q4' := E3.out.c0; have q5' := E3.out.c1; have q6 := E3.out.fr 0; have q7 := E3.out.fr 1; have g2 := Lib.hid (g.out.below r2); have hb4 := Lib.hid (then_below hb3.out r2); clear r2)))
 all_goals
  go_wp2
  refine ret_box2 rfl rfl ((E3.out.set0 _).set1 _) Tryz.underlying28 size_int rfl ?_
  exact ⟨a, c, rfl, g2.out.sets E3.out, below_sets hb4.out e3.out _ _⟩
theorem rimul_any {N : Nat} (f1 : ∃ a n c, v1 = .slice a n c) (f2 : ∃ a n c, v2 = .slice a n c)
  (ko1 : ∀ W, Below w.heap.size w W → Calls Tryz.prog 188 #[.agg #[.bool n1, v1]] W fun e w' => e = .returned (.agg #[.bool m1, .slice p1 (digs A).length q1]) ∧ Below W.heap.size W w')
  (ko2 : ∀ W, Below w.heap.size w W → Calls Tryz.prog 188 #[.agg #[.bool n2, v2]] W fun e w' => e = .returned (.agg #[.bool m2, .slice p2 (digs B).length q2]) ∧ Below W.heap.size W w')
  (h1 : Reads w (.slice p1 (digs A).length q1) (digs A)) (h2 : Reads w (.slice p2 (digs B).length q2) (digs B)) (l1 : (digs A).length ≤ 100000) (l2 : (digs B).length ≤ 100000) (e : N = A * B) :
  Calls Tryz.prog 126 #[.agg #[.bool n1, v1], .agg #[.bool n2, v2]] w fun e w' => ∃ a c, e = .returned (.agg #[.bool ((m1 != m2) && decide (0 < N)), .slice a (digs N).length c]) ∧ Reads w' (.slice a (digs N).length c) (digs N) ∧ Below w.heap.size w w' := by
 obtain ⟨s1, t1, c1, rfl⟩ := f1
 obtain ⟨s2, t2, c2, rfl⟩ := f2
 have ka : ∀ W, Below w.heap.size w W → _ := fun W hW => rd_mul (w := W) N (h1.below hW) (h2.below hW) l1 l2 e
 have ks := fun W a c => rsigned_any (m1 != m2) a (digs N).length c W
 rw [dec_digs] at ks
 have KS := Lib.hid ks
 have KA := Lib.hid ka
 clear ka ks h1 h2 e l1 l2
 have KO1 := Lib.hid ko1
 have KO2 := Lib.hid ko2
 clear ko1 ko2
 obtain ⟨u0, hu0⟩ : ∃ u0, u0 = ((w.alloc (.cells #[.bool n1, .slice s1 t1 c1] 28)).alloc (.cells #[.bool n2, .slice s2 t2 c2] 28)).alloc (.cells #[.bool false, .slice none 0 0] 28) := ⟨_, rfl⟩
 have X1 := Lib.hid (show Box2 u0 w.heap.size 28 (.bool n1) (.slice s1 t1 c1) by rw [hu0]; exact ((Box2.new w _ _ _).alloc _).alloc _)
 have X2 := Lib.hid (show Box2 u0 (w.heap.size + 1) 28 (.bool n2) (.slice s2 t2 c2) by rw [hu0]; exact (Box2.new1 w _ _ _ _).alloc _)
 have X3 := Lib.hid (show Box2 u0 (w.heap.size + 1 + 1) 28 (.bool false) (.slice none 0 0) by
  rw [hu0]
  have := Box2.new1 (w.alloc (.cells #[.bool n1, .slice s1 t1 c1] 28)) (.cells #[.bool n2, .slice s2 t2 c2] 28) 28 (.bool false) (.slice none 0 0)
  rwa [World.size_alloc] at this)
 have hb := Lib.hid (show Below w.heap.size w u0 by rw [hu0]; exact (((Below.refl _ _).alloc (Nat.le_refl _) _).alloc (by simp) _).alloc (by simp; omega) _)
 obtain ⟨B1, hB1⟩ : ∃ b, b = w.heap.size := ⟨_, rfl⟩
 obtain ⟨B2, hB2⟩ : ∃ b, b = w.heap.size + 1 := ⟨_, rfl⟩
 obtain ⟨B3, hB3⟩ : ∃ b, b = w.heap.size + 1 + 1 := ⟨_, rfl⟩
 have d12 : B1 ≠ B2 := by omega
 have d13 : B1 ≠ B3 := by omega
 have d23 : B2 ≠ B3 := by omega
 have e1 := Lib.hid (show w.heap.size ≤ B1 by omega)
 have e2 := Lib.hid (show w.heap.size ≤ B2 by omega)
 have e3 := Lib.hid (show w.heap.size ≤ B3 by omega)
 rw [← hB1] at X1
 rw [← hB2] at X2
 rw [← hB3] at X3
 have hu0' := Lib.hid hu0
 have hB1' := Lib.hid hB1
 have hB2' := Lib.hid hB2
 have hB3' := Lib.hid hB3
 clear hu0 hB1 hB2 hB3
 go_enter Tryz.func126, Tryz.ntmps126
 go_wp2_with fail
 rw [← hu0'.out, ← hB3'.out, ← hB2'.out, ← hB1'.out]
 clear hu0' hB1' hB2' hB3'
 go_at_call 188
 refine (KO1.out _ hb.out).mono ?_
 rintro e u1 ⟨rfl, r⟩
 replace X1 := Lib.hid (X1.out.below r)
 replace X2 := Lib.hid (X2.out.below r)
 replace X3 := Lib.hid (X3.out.below r)
 replace hb := Lib.hid (then_below hb.out r)
 have a0 := X1.out.c0
 have a1 := X1.out.c1
 have a2 := X1.out.fr 0
 have a3 := X1.out.fr 1
 have b0 := X2.out.c0
 have b1 := X2.out.c1
 clear r
 go_wp2_with fail
 clear a0 a1 a2 a3 b0 b1
 obtain ⟨u2, hu2⟩ : ∃ u2, u2 = (u1.setCell ⟨B1, 0, none⟩ (.bool m1)).setCell ⟨B1, 1, none⟩ (.slice p1 (digs A).length q1) := ⟨_, rfl⟩
 replace X1 := Lib.hid (show Box2 u2 B1 28 (.bool m1) (.slice p1 (digs A).length q1) by rw [hu2]; exact (X1.out.set0 _).set1 _)
 replace X2 := Lib.hid (show Box2 u2 B2 28 (.bool n2) (.slice s2 t2 c2) by rw [hu2]; exact (X2.out.other d12.symm _).other d12.symm _)
 replace X3 := Lib.hid (show Box2 u2 B3 28 (.bool false) (.slice none 0 0) by rw [hu2]; exact (X3.out.other d13.symm _).other d13.symm _)
 replace hb := Lib.hid (show Below w.heap.size w u2 by rw [hu2]; exact below_sets hb.out e1.out _ _)
 rw [← hu2]
 clear hu2
 go_at_call 188
 refine (KO2.out _ hb.out).mono ?_
 rintro e u3 ⟨rfl, r⟩
 replace X1 := Lib.hid (X1.out.below r)
 replace X2 := Lib.hid (X2.out.below r)
 replace X3 := Lib.hid (X3.out.below r)
 replace hb := Lib.hid (then_below hb.out r)
 have a0 := X1.out.c0
 have a1 := X1.out.c1
 have b0 := X2.out.c0
 have b1 := X2.out.c1
 have b2 := X2.out.fr 0
 have b3 := X2.out.fr 1
 clear r
 go_wp2_with fail
 clear a0 a1 b0 b1 b2 b3
 obtain ⟨u4, hu4⟩ : ∃ u4, u4 = (u3.setCell ⟨B2, 0, none⟩ (.bool m2)).setCell ⟨B2, 1, none⟩ (.slice p2 (digs B).length q2) := ⟨_, rfl⟩
 replace X1 := Lib.hid (show Box2 u4 B1 28 (.bool m1) (.slice p1 (digs A).length q1) by rw [hu4]; exact (X1.out.other d12 _).other d12 _)
 replace X2 := Lib.hid (show Box2 u4 B2 28 (.bool m2) (.slice p2 (digs B).length q2) by rw [hu4]; exact (X2.out.set0 _).set1 _)
 replace X3 := Lib.hid (show Box2 u4 B3 28 (.bool false) (.slice none 0 0) by rw [hu4]; exact (X3.out.other d23.symm _).other d23.symm _)
 replace hb := Lib.hid (show Below w.heap.size w u4 by rw [hu4]; exact below_sets hb.out e2.out _ _)
 rw [← hu4]
 clear hu4
 have a0 := X1.out.c0
 have a1 := X1.out.c1
 have b0 := X2.out.c0
 have b1 := X2.out.c1
 go_wp2_with fail
 have hb2 := Lib.hid hb.out.drew
 have Y1 := Lib.hid X1.out.drew
 have Y2 := Lib.hid X2.out.drew
 have Y3 := Lib.hid X3.out.drew
 go_region_held3 (fun w' => w'.cell? ⟨B1, 0, none⟩ = some (.bool m1) ∧ w'.cell? ⟨B1, 1, none⟩ = some (.slice p1 (digs A).length q1) ∧ w'.cell? ⟨B2, 0, none⟩ = some (.bool m2) ∧ w'.cell? ⟨B2, 1, none⟩ = some (.slice p2 (digs B).length q2))
  (first
   | (with_reducible exact ⟨a0, a1, b0, b1⟩)
   | (with_reducible exact ⟨Y1.out.c0, Y1.out.c1, Y2.out.c0, Y2.out.c1⟩)
   | (with_reducible exact ⟨C1.out.c0, C1.out.c1, C2.out.c0, C2.out.c1⟩)
   | (with_reducible exact ⟨E1.out.c0, E1.out.c1, E2.out.c0, E2.out.c1⟩)
   | (with_reducible exact ⟨F1.out.c0, F1.out.c1, F2.out.c0, F2.out.c1⟩)
   | go_keep)
  ((first
   | (go_at_call 125; refine (KA.out _ hb2.out).mono ?_; rintro e w1 ⟨a, c, rfl, g0, r1⟩; have g := Lib.hid g0; have hb3 := Lib.hid (then_below hb2.out r1); have C1 := Lib.hid (Y1.out.below r1); have C2 := Lib.hid (Y2.out.below r1); have C3 := Lib.hid (Y3.out.below r1); clear g0 r1)
   | (go_at_call 185; refine (KS.out _ _ _).mono ?_; rintro e w2 ⟨rfl, r2⟩; have E1 := Lib.hid (C1.out.below r2); have E2 := Lib.hid (C2.out.below r2); have E3 := Lib.hid (C3.out.below r2); have F1 := Lib.hid ((E1.out.other (B' := B3) (o := 0) d13 (.bool ((m1 != m2) && decide (0 < N)))).other (B' := B3) (o := 1) d13 (.slice a (digs N).length c)); have F2 := Lib.hid ((E2.out.other (B' := B3) (o := 0) d23 (.bool ((m1 != m2) && decide (0 < N)))).other (B' := B3) (o := 1) d23 (.slice a (digs N).length c)); have q4' := E3.out.c0; have q5' := E3.out.c1; have q6 := E3.out.fr 0; have q7 := E3.out.fr 1; have g2 := Lib.hid (g.out.below r2); have hb4 := Lib.hid (then_below hb3.out r2); clear r2)))
 all_goals
  go_wp2
  refine ret_box2 rfl rfl ((E3.out.set0 _).set1 _) Tryz.underlying28 size_int rfl ?_
  exact ⟨a, c, rfl, g2.out.sets E3.out, below_sets hb4.out e3.out _ _⟩
theorem riadd_ge {N : Nat} (f1 : ∃ a n c, v1 = .slice a n c) (f2 : ∃ a n c, v2 = .slice a n c)
  (ko1 : ∀ W, Below w.heap.size w W → Calls Tryz.prog 188 #[.agg #[.bool n1, v1]] W fun e w' => e = .returned (.agg #[.bool m1, .slice p1 (digs A).length q1]) ∧ Below W.heap.size W w')
  (ko2 : ∀ W, Below w.heap.size w W → Calls Tryz.prog 188 #[.agg #[.bool n2, v2]] W fun e w' => e = .returned (.agg #[.bool (!m1), .slice p2 (digs B).length q2]) ∧ Below W.heap.size W w')
  (h1 : Reads w (.slice p1 (digs A).length q1) (digs A)) (h2 : Reads w (.slice p2 (digs B).length q2) (digs B)) (l1 : (digs A).length ≤ 100000) (l2 : (digs B).length ≤ 100000) (hle : B ≤ A) (e : N = A - B) :
  Calls Tryz.prog 123 #[.agg #[.bool n1, v1], .agg #[.bool n2, v2]] w fun e w' => ∃ a c, e = .returned (.agg #[.bool (m1 && decide (0 < N)), .slice a (digs N).length c]) ∧ Reads w' (.slice a (digs N).length c) (digs N) ∧ Below w.heap.size w w' := by
 obtain ⟨s1, t1, c1, rfl⟩ := f1
 obtain ⟨s2, t2, c2, rfl⟩ := f2
 have ka : ∀ W, Below w.heap.size w W → _ := fun W hW => rd_sub (w := W) N (h1.below hW) (h2.below hW) l1 l2 hle e
 have kc : ∀ W, Below w.heap.size w W → _ := fun W hW => rd_cmp (w := W) (h1.below hW) (h2.below hW) l1 l2
 obtain ⟨z, hz⟩ : ∃ z, z = sgn A B := ⟨_, rfl⟩
 rw [← hz] at kc
 have hz0 : ¬ z < 0 := by rw [hz]; unfold sgn; split; omega; split <;> omega
 have ks := fun W a c => rsigned_any (m1) a (digs N).length c W
 rw [dec_digs] at ks
 have KS := Lib.hid ks
 have KA := Lib.hid ka
 have KC := Lib.hid kc
 clear ka kc ks h1 h2 e l1 l2 hz hle
 have KO1 := Lib.hid ko1
 have KO2 := Lib.hid ko2
 clear ko1 ko2
 obtain ⟨u0, hu0⟩ : ∃ u0, u0 = ((w.alloc (.cells #[.bool n1, .slice s1 t1 c1] 28)).alloc (.cells #[.bool n2, .slice s2 t2 c2] 28)).alloc (.cells #[.bool false, .slice none 0 0] 28) := ⟨_, rfl⟩
 have X1 := Lib.hid (show Box2 u0 w.heap.size 28 (.bool n1) (.slice s1 t1 c1) by rw [hu0]; exact ((Box2.new w _ _ _).alloc _).alloc _)
 have X2 := Lib.hid (show Box2 u0 (w.heap.size + 1) 28 (.bool n2) (.slice s2 t2 c2) by rw [hu0]; exact (Box2.new1 w _ _ _ _).alloc _)
 have X3 := Lib.hid (show Box2 u0 (w.heap.size + 1 + 1) 28 (.bool false) (.slice none 0 0) by
  rw [hu0]
  have := Box2.new1 (w.alloc (.cells #[.bool n1, .slice s1 t1 c1] 28)) (.cells #[.bool n2, .slice s2 t2 c2] 28) 28 (.bool false) (.slice none 0 0)
  rwa [World.size_alloc] at this)
 have hb := Lib.hid (show Below w.heap.size w u0 by rw [hu0]; exact (((Below.refl _ _).alloc (Nat.le_refl _) _).alloc (by simp) _).alloc (by simp; omega) _)
 obtain ⟨B1, hB1⟩ : ∃ b, b = w.heap.size := ⟨_, rfl⟩
 obtain ⟨B2, hB2⟩ : ∃ b, b = w.heap.size + 1 := ⟨_, rfl⟩
 obtain ⟨B3, hB3⟩ : ∃ b, b = w.heap.size + 1 + 1 := ⟨_, rfl⟩
 have d12 : B1 ≠ B2 := by omega
 have d13 : B1 ≠ B3 := by omega
 have d23 : B2 ≠ B3 := by omega
 have e1 := Lib.hid (show w.heap.size ≤ B1 by omega)
 have e2 := Lib.hid (show w.heap.size ≤ B2 by omega)
 have e3 := Lib.hid (show w.heap.size ≤ B3 by omega)
 rw [← hB1] at X1
 rw [← hB2] at X2
 rw [← hB3] at X3
 have hu0' := Lib.hid hu0
 have hB1' := Lib.hid hB1
 have hB2' := Lib.hid hB2
 have hB3' := Lib.hid hB3
 clear hu0 hB1 hB2 hB3
 go_enter Tryz.func123, Tryz.ntmps123
 go_wp2_with fail
 rw [← hu0'.out, ← hB3'.out, ← hB2'.out, ← hB1'.out]
 clear hu0' hB1' hB2' hB3'
 go_at_call 188
 refine (KO1.out _ hb.out).mono ?_
 rintro e u1 ⟨rfl, r⟩
 replace X1 := Lib.hid (X1.out.below r)
 replace X2 := Lib.hid (X2.out.below r)
 replace X3 := Lib.hid (X3.out.below r)
 replace hb := Lib.hid (then_below hb.out r)
 have a0 := X1.out.c0
 have a1 := X1.out.c1
 have a2 := X1.out.fr 0
 have a3 := X1.out.fr 1
 have b0 := X2.out.c0
 have b1 := X2.out.c1
 clear r
 go_wp2_with fail
 clear a0 a1 a2 a3 b0 b1
 obtain ⟨u2, hu2⟩ : ∃ u2, u2 = (u1.setCell ⟨B1, 0, none⟩ (.bool m1)).setCell ⟨B1, 1, none⟩ (.slice p1 (digs A).length q1) := ⟨_, rfl⟩
 replace X1 := Lib.hid (show Box2 u2 B1 28 (.bool m1) (.slice p1 (digs A).length q1) by rw [hu2]; exact (X1.out.set0 _).set1 _)
 replace X2 := Lib.hid (show Box2 u2 B2 28 (.bool n2) (.slice s2 t2 c2) by rw [hu2]; exact (X2.out.other d12.symm _).other d12.symm _)
 replace X3 := Lib.hid (show Box2 u2 B3 28 (.bool false) (.slice none 0 0) by rw [hu2]; exact (X3.out.other d13.symm _).other d13.symm _)
 replace hb := Lib.hid (show Below w.heap.size w u2 by rw [hu2]; exact below_sets hb.out e1.out _ _)
 rw [← hu2]
 clear hu2
 go_at_call 188
 refine (KO2.out _ hb.out).mono ?_
 rintro e u3 ⟨rfl, r⟩
 replace X1 := Lib.hid (X1.out.below r)
 replace X2 := Lib.hid (X2.out.below r)
 replace X3 := Lib.hid (X3.out.below r)
 replace hb := Lib.hid (then_below hb.out r)
 have a0 := X1.out.c0
 have a1 := X1.out.c1
 have b0 := X2.out.c0
 have b1 := X2.out.c1
 have b2 := X2.out.fr 0
 have b3 := X2.out.fr 1
 clear r
 go_wp2_with fail
 clear a0 a1 b0 b1 b2 b3
 obtain ⟨u4, hu4⟩ : ∃ u4, u4 = (u3.setCell ⟨B2, 0, none⟩ (.bool (!m1))).setCell ⟨B2, 1, none⟩ (.slice p2 (digs B).length q2) := ⟨_, rfl⟩
 replace X1 := Lib.hid (show Box2 u4 B1 28 (.bool m1) (.slice p1 (digs A).length q1) by rw [hu4]; exact (X1.out.other d12 _).other d12 _)
 replace X2 := Lib.hid (show Box2 u4 B2 28 (.bool (!m1)) (.slice p2 (digs B).length q2) by rw [hu4]; exact (X2.out.set0 _).set1 _)
 replace X3 := Lib.hid (show Box2 u4 B3 28 (.bool false) (.slice none 0 0) by rw [hu4]; exact (X3.out.other d23.symm _).other d23.symm _)
 replace hb := Lib.hid (show Below w.heap.size w u4 by rw [hu4]; exact below_sets hb.out e2.out _ _)
 rw [← hu4]
 clear hu4
 have a0 := X1.out.c0
 have a1 := X1.out.c1
 have b0 := X2.out.c0
 have b1 := X2.out.c1
 go_wp2_with fail
 go_at_call 190
 refine (KC.out _ hb.out).mono ?_
 rintro e w1 ⟨rfl, r1⟩
 replace X1 := Lib.hid (X1.out.below r1)
 replace X2 := Lib.hid (X2.out.below r1)
 replace X3 := Lib.hid (X3.out.below r1)
 replace hb := Lib.hid (then_below hb.out r1)
 replace a0 := X1.out.c0
 replace a1 := X1.out.c1
 replace b0 := X2.out.c0
 replace b1 := X2.out.c1
 clear r1
 go_wp2_with fail
 go_at_call 191
 refine (KA.out _ hb.out).mono ?_
 rintro e w2 ⟨a, c, rfl, g, r1⟩
 replace X1 := Lib.hid (X1.out.below r1)
 replace X2 := Lib.hid (X2.out.below r1)
 replace X3 := Lib.hid (X3.out.below r1)
 replace hb := Lib.hid (then_below hb.out r1)
 replace a0 := X1.out.c0
 replace a1 := X1.out.c1
 replace b0 := X2.out.c0
 replace b1 := X2.out.c1
 have G := Lib.hid g
 clear r1 g
 go_wp2_with fail
 go_at_call 185
 refine (KS.out _ _ _).mono ?_
 rintro e w3 ⟨rfl, r1⟩
 have D3 := X3.out.below r1
 have q4' := D3.c0
 have q5' := D3.c1
 have q6 := D3.fr 0
 have q7 := D3.fr 1
 have R1 := Lib.hid r1
 have HD3 := Lib.hid D3
 clear r1 D3
 go_wp2
 refine ret_box2 rfl rfl ((HD3.out.set0 _).set1 _) Tryz.underlying28 size_int rfl ?_
 exact ⟨a, c, rfl, (G.out.below R1.out).sets HD3.out, below_sets (then_below hb.out R1.out) e3.out _ _⟩
theorem riadd_lt {N : Nat} (f1 : ∃ a n c, v1 = .slice a n c) (f2 : ∃ a n c, v2 = .slice a n c)
  (ko1 : ∀ W, Below w.heap.size w W → Calls Tryz.prog 188 #[.agg #[.bool n1, v1]] W fun e w' => e = .returned (.agg #[.bool m1, .slice p1 (digs A).length q1]) ∧ Below W.heap.size W w')
  (ko2 : ∀ W, Below w.heap.size w W → Calls Tryz.prog 188 #[.agg #[.bool n2, v2]] W fun e w' => e = .returned (.agg #[.bool (!m1), .slice p2 (digs B).length q2]) ∧ Below W.heap.size W w')
  (h1 : Reads w (.slice p1 (digs A).length q1) (digs A)) (h2 : Reads w (.slice p2 (digs B).length q2) (digs B)) (l1 : (digs A).length ≤ 100000) (l2 : (digs B).length ≤ 100000) (hlt : A < B) (e : N = B - A) :
  Calls Tryz.prog 123 #[.agg #[.bool n1, v1], .agg #[.bool n2, v2]] w fun e w' => ∃ a c, e = .returned (.agg #[.bool ((!m1) && decide (0 < N)), .slice a (digs N).length c]) ∧ Reads w' (.slice a (digs N).length c) (digs N) ∧ Below w.heap.size w w' := by
 obtain ⟨s1, t1, c1, rfl⟩ := f1
 obtain ⟨s2, t2, c2, rfl⟩ := f2
 have ka : ∀ W, Below w.heap.size w W → _ := fun W hW => rd_sub (w := W) N (h2.below hW) (h1.below hW) l2 l1 (Nat.le_of_lt hlt) e
 have kc : ∀ W, Below w.heap.size w W → _ := fun W hW => rd_cmp (w := W) (h1.below hW) (h2.below hW) l1 l2
 obtain ⟨z, hz⟩ : ∃ z, z = sgn A B := ⟨_, rfl⟩
 rw [← hz] at kc
 have hz0 : z < 0 := by rw [hz]; unfold sgn; rw [if_pos hlt]; omega
 have ks := fun W a c => rsigned_any (!m1) a (digs N).length c W
 rw [dec_digs] at ks
 have KS := Lib.hid ks
 have KA := Lib.hid ka
 have KC := Lib.hid kc
 clear ka kc ks h1 h2 e l1 l2 hz hlt
 have KO1 := Lib.hid ko1
 have KO2 := Lib.hid ko2
 clear ko1 ko2
 obtain ⟨u0, hu0⟩ : ∃ u0, u0 = ((w.alloc (.cells #[.bool n1, .slice s1 t1 c1] 28)).alloc (.cells #[.bool n2, .slice s2 t2 c2] 28)).alloc (.cells #[.bool false, .slice none 0 0] 28) := ⟨_, rfl⟩
 have X1 := Lib.hid (show Box2 u0 w.heap.size 28 (.bool n1) (.slice s1 t1 c1) by rw [hu0]; exact ((Box2.new w _ _ _).alloc _).alloc _)
 have X2 := Lib.hid (show Box2 u0 (w.heap.size + 1) 28 (.bool n2) (.slice s2 t2 c2) by rw [hu0]; exact (Box2.new1 w _ _ _ _).alloc _)
 have X3 := Lib.hid (show Box2 u0 (w.heap.size + 1 + 1) 28 (.bool false) (.slice none 0 0) by
  rw [hu0]
  have := Box2.new1 (w.alloc (.cells #[.bool n1, .slice s1 t1 c1] 28)) (.cells #[.bool n2, .slice s2 t2 c2] 28) 28 (.bool false) (.slice none 0 0)
  rwa [World.size_alloc] at this)
 have hb := Lib.hid (show Below w.heap.size w u0 by rw [hu0]; exact (((Below.refl _ _).alloc (Nat.le_refl _) _).alloc (by simp) _).alloc (by simp; omega) _)
 obtain ⟨B1, hB1⟩ : ∃ b, b = w.heap.size := ⟨_, rfl⟩
 obtain ⟨B2, hB2⟩ : ∃ b, b = w.heap.size + 1 := ⟨_, rfl⟩
 obtain ⟨B3, hB3⟩ : ∃ b, b = w.heap.size + 1 + 1 := ⟨_, rfl⟩
 have d12 : B1 ≠ B2 := by omega
 have d13 : B1 ≠ B3 := by omega
 have d23 : B2 ≠ B3 := by omega
 have e1 := Lib.hid (show w.heap.size ≤ B1 by omega)
 have e2 := Lib.hid (show w.heap.size ≤ B2 by omega)
 have e3 := Lib.hid (show w.heap.size ≤ B3 by omega)
 rw [← hB1] at X1
 rw [← hB2] at X2
 rw [← hB3] at X3
 have hu0' := Lib.hid hu0
 have hB1' := Lib.hid hB1
 have hB2' := Lib.hid hB2
 have hB3' := Lib.hid hB3
 clear hu0 hB1 hB2 hB3
 go_enter Tryz.func123, Tryz.ntmps123
 go_wp2_with fail
 rw [← hu0'.out, ← hB3'.out, ← hB2'.out, ← hB1'.out]
 clear hu0' hB1' hB2' hB3'
 go_at_call 188
 refine (KO1.out _ hb.out).mono ?_
 rintro e u1 ⟨rfl, r⟩
 replace X1 := Lib.hid (X1.out.below r)
 replace X2 := Lib.hid (X2.out.below r)
 replace X3 := Lib.hid (X3.out.below r)
 replace hb := Lib.hid (then_below hb.out r)
 have a0 := X1.out.c0
 have a1 := X1.out.c1
 have a2 := X1.out.fr 0
 have a3 := X1.out.fr 1
 have b0 := X2.out.c0
 have b1 := X2.out.c1
 clear r
 go_wp2_with fail
 clear a0 a1 a2 a3 b0 b1
 obtain ⟨u2, hu2⟩ : ∃ u2, u2 = (u1.setCell ⟨B1, 0, none⟩ (.bool m1)).setCell ⟨B1, 1, none⟩ (.slice p1 (digs A).length q1) := ⟨_, rfl⟩
 replace X1 := Lib.hid (show Box2 u2 B1 28 (.bool m1) (.slice p1 (digs A).length q1) by rw [hu2]; exact (X1.out.set0 _).set1 _)
 replace X2 := Lib.hid (show Box2 u2 B2 28 (.bool n2) (.slice s2 t2 c2) by rw [hu2]; exact (X2.out.other d12.symm _).other d12.symm _)
 replace X3 := Lib.hid (show Box2 u2 B3 28 (.bool false) (.slice none 0 0) by rw [hu2]; exact (X3.out.other d13.symm _).other d13.symm _)
 replace hb := Lib.hid (show Below w.heap.size w u2 by rw [hu2]; exact below_sets hb.out e1.out _ _)
 rw [← hu2]
 clear hu2
 go_at_call 188
 refine (KO2.out _ hb.out).mono ?_
 rintro e u3 ⟨rfl, r⟩
 replace X1 := Lib.hid (X1.out.below r)
 replace X2 := Lib.hid (X2.out.below r)
 replace X3 := Lib.hid (X3.out.below r)
 replace hb := Lib.hid (then_below hb.out r)
 have a0 := X1.out.c0
 have a1 := X1.out.c1
 have b0 := X2.out.c0
 have b1 := X2.out.c1
 have b2 := X2.out.fr 0
 have b3 := X2.out.fr 1
 clear r
 go_wp2_with fail
 clear a0 a1 b0 b1 b2 b3
 obtain ⟨u4, hu4⟩ : ∃ u4, u4 = (u3.setCell ⟨B2, 0, none⟩ (.bool (!m1))).setCell ⟨B2, 1, none⟩ (.slice p2 (digs B).length q2) := ⟨_, rfl⟩
 replace X1 := Lib.hid (show Box2 u4 B1 28 (.bool m1) (.slice p1 (digs A).length q1) by rw [hu4]; exact (X1.out.other d12 _).other d12 _)
 replace X2 := Lib.hid (show Box2 u4 B2 28 (.bool (!m1)) (.slice p2 (digs B).length q2) by rw [hu4]; exact (X2.out.set0 _).set1 _)
 replace X3 := Lib.hid (show Box2 u4 B3 28 (.bool false) (.slice none 0 0) by rw [hu4]; exact (X3.out.other d23.symm _).other d23.symm _)
 replace hb := Lib.hid (show Below w.heap.size w u4 by rw [hu4]; exact below_sets hb.out e2.out _ _)
 rw [← hu4]
 clear hu4
 have a0 := X1.out.c0
 have a1 := X1.out.c1
 have b0 := X2.out.c0
 have b1 := X2.out.c1
 go_wp2_with fail
 go_at_call 190
 refine (KC.out _ hb.out).mono ?_
 rintro e w1 ⟨rfl, r1⟩
 replace X1 := Lib.hid (X1.out.below r1)
 replace X2 := Lib.hid (X2.out.below r1)
 replace X3 := Lib.hid (X3.out.below r1)
 replace hb := Lib.hid (then_below hb.out r1)
 replace a0 := X1.out.c0
 replace a1 := X1.out.c1
 replace b0 := X2.out.c0
 replace b1 := X2.out.c1
 clear r1
 go_wp2_with fail
 go_at_call 191
 refine (KA.out _ hb.out).mono ?_
 rintro e w2 ⟨a, c, rfl, g, r1⟩
 replace X1 := Lib.hid (X1.out.below r1)
 replace X2 := Lib.hid (X2.out.below r1)
 replace X3 := Lib.hid (X3.out.below r1)
 replace hb := Lib.hid (then_below hb.out r1)
 replace a0 := X1.out.c0
 replace a1 := X1.out.c1
 replace b0 := X2.out.c0
 replace b1 := X2.out.c1
 have G := Lib.hid g
 clear r1 g
 go_wp2_with fail
 go_at_call 185
 refine (KS.out _ _ _).mono ?_
 rintro e w3 ⟨rfl, r1⟩
 have D3 := X3.out.below r1
 have q4' := D3.c0
 have q5' := D3.c1
 have q6 := D3.fr 0
 have q7 := D3.fr 1
 have R1 := Lib.hid r1
 have HD3 := Lib.hid D3
 clear r1 D3
 go_wp2
 refine ret_box2 rfl rfl ((HD3.out.set0 _).set1 _) Tryz.underlying28 size_int rfl ?_
 exact ⟨a, c, rfl, (G.out.below R1.out).sets HD3.out, below_sets (then_below hb.out R1.out) e3.out _ _⟩
end
section
variable {w : World} {v1 v2 : Value} {l1 l2 : List Nat} {n1 n2 : Bool}
theorem ri_add (Z : Int) (h1 : Reads w v1 l1) (h2 : Reads w v2 l2) (k1 : l1.length ≤ 50000) (k2 : l2.length ≤ 50000) (s1 : Sm l1) (s2 : Sm l2) (hZ : Z = zv n1 l1 + zv n2 l2) :
   Calls Tryz.prog 123 #[.agg #[.bool n1, v1], .agg #[.bool n2, v2]] w fun e w' => ∃ a c, e = .returned (.agg #[.bool (decide (Z < 0)), .slice a (digs Z.natAbs).length c]) ∧ Reads w' (.slice a (digs Z.natAbs).length c) (digs Z.natAbs) ∧ Below w.heap.size w w' := by
 obtain ⟨m1, p1, q1, A, e1, f1, r1, z1, t1, y1⟩ := iarg (n := n1) h1 s1
 obtain ⟨m2, p2, q2, B, e2, f2, r2, z2, t2, y2⟩ := iarg (n := n2) h2 s2
 have ko1 : ∀ W, Below w.heap.size w W → _ := fun W hW => rifit_any (n := n1) (h1.below hW) (by omega)
 have ko2 : ∀ W, Below w.heap.size w W → _ := fun W hW => rifit_any (n := n2) (h2.below hW) (by omega)
 rw [e1, f1] at ko1
 rw [e2, f2] at ko2
 rw [y1, y2] at hZ
 by_cases hm : m1 = m2
 · subst hm
   refine (riadd_same h1.parts h2.parts ko1 ko2 r1 r2 (by omega) (by omega) (z_far hZ z1).1).mono ?_
   rintro e w' ⟨a, c, rfl, g, hb⟩
   exact ⟨a, c, by rw [(z_far hZ z1).2], g, hb⟩
 · obtain rfl : m2 = !m1 := by cases m1 <;> cases m2 <;> simp at hm ⊢
   by_cases hAB : B ≤ A
   · refine (riadd_ge h1.parts h2.parts ko1 ko2 r1 r2 (by omega) (by omega) hAB (z_ge hZ hAB).1).mono ?_
     rintro e w' ⟨a, c, rfl, g, hb⟩
     exact ⟨a, c, by rw [(z_ge hZ hAB).2], g, hb⟩
   · refine (riadd_lt h1.parts h2.parts ko1 ko2 r1 r2 (by omega) (by omega) (by omega) (z_lt hZ (by omega)).1).mono ?_
     rintro e w' ⟨a, c, rfl, g, hb⟩
     exact ⟨a, c, by rw [(z_lt hZ (by omega)).2], g, hb⟩
theorem ri_mul (Z : Int) (h1 : Reads w v1 l1) (h2 : Reads w v2 l2) (k1 : l1.length ≤ 50000) (k2 : l2.length ≤ 50000) (s1 : Sm l1) (s2 : Sm l2) (hZ : Z = zv n1 l1 * zv n2 l2) :
  Calls Tryz.prog 126 #[.agg #[.bool n1, v1], .agg #[.bool n2, v2]] w fun e w' => ∃ a c, e = .returned (.agg #[.bool (decide (Z < 0)), .slice a (digs Z.natAbs).length c]) ∧ Reads w' (.slice a (digs Z.natAbs).length c) (digs Z.natAbs) ∧ Below w.heap.size w w' := by
 obtain ⟨m1, p1, q1, A, e1, f1, r1, z1, t1, y1⟩ := iarg (n := n1) h1 s1
 obtain ⟨m2, p2, q2, B, e2, f2, r2, z2, t2, y2⟩ := iarg (n := n2) h2 s2
 have ko1 : ∀ W, Below w.heap.size w W → _ := fun W hW => rifit_any (n := n1) (h1.below hW) (by omega)
 have ko2 : ∀ W, Below w.heap.size w W → _ := fun W hW => rifit_any (n := n2) (h2.below hW) (by omega)
 rw [e1, f1] at ko1
 rw [e2, f2] at ko2
 rw [y1, y2] at hZ
 have hM : Z.natAbs = A * B := by
  rw [hZ, Int.natAbs_mul]
  congr 1
  · cases m1 <;> simp [zz]
  · cases m2 <;> simp [zz]
 have hR : decide (Z < 0) = (m1 != m2 && decide (0 < (digs Z.natAbs).length)) := by
  rw [dec_digs, hM]
  have hP : ((A * B : Nat) : Int) = (A : Int) * (B : Int) := Int.natCast_mul A B
  obtain ⟨P, hPe⟩ : ∃ P, P = A * B := ⟨_, rfl⟩
  rw [← hPe] at hP ⊢
  symm
  cases m1 <;> cases m2
  · rw [zz_f, zz_f, ← hP] at hZ; exact and_dec _ (by intro h; cases h) (by intro _; omega)
  · rw [zz_f, zz_t, Int.mul_neg, ← hP] at hZ; exact and_dec _ (by intro _; constructor <;> intro _ <;> omega) (by intro h; cases h)
  · rw [zz_t, zz_f, Int.neg_mul, ← hP] at hZ; exact and_dec _ (by intro _; constructor <;> intro _ <;> omega) (by intro h; cases h)
  · rw [zz_t, zz_t, Int.neg_mul_neg, ← hP] at hZ; exact and_dec _ (by intro h; cases h) (by intro _; omega)
 refine (rimul_any h1.parts h2.parts ko1 ko2 r1 r2 (by omega) (by omega) hM).mono ?_
 rintro e w' ⟨a, c, rfl, g, hb⟩
 exact ⟨a, c, by rw [hR, dec_digs], g, hb⟩
end
def Tw (W : World) (base g cap : Nat) (l : List Nat) : Prop := Fresh W base (.slice (some ⟨g, 0, none⟩) (l.length + 1) cap) (l ++ [77])
theorem Fresh.front {W : World} {base g cap n : Nat} {l m : List Nat} (h : Fresh W base (.slice (some ⟨g, 0, none⟩) n cap) (l ++ m)) : Fresh W base (.slice (some ⟨g, 0, none⟩) l.length cap) l := by
 refine ⟨by simp, .inr ?_⟩
 rcases h.2 with ⟨h1, _⟩ | ⟨g', cap', cur, e1, hb, hg, hn, hc, hs, ht⟩
 · cases h1
 · simp only [Value.slice.injEq, Option.some.injEq, Addr.mk.injEq, and_true] at e1
   obtain ⟨rfl, _, rfl⟩ := e1
   refine ⟨g, cap, cur, rfl, hb, hg, by simp at hn; omega, hc, hs, ?_⟩
   rw [Nat.mul_one] at ht ⊢
   have := congrArg (List.take l.length) ht
   rw [List.take_take, List.length_append, Nat.min_eq_left (by omega), List.map_append, List.take_append_of_le_length (by simp)] at this
   exact this.trans (List.take_of_length_le (by simp))
section
variable {W W' : World} {base g cp : Nat} {l : List Nat}
theorem Tw.fresh (h : Tw W base g cp l) : Fresh W base (.slice (some ⟨g, 0, none⟩) l.length cp) l := Fresh.front h
theorem Tw.below (h : Tw W base g cp l) (hb : Below W.heap.size W W') : Tw W' base g cp l := Fresh.below h hb
theorem Tw.mono {b' : Nat} (h : Tw W base g cp l) (hb : b' ≤ base) : Tw W b' g cp l := Fresh.mono h hb
theorem Tw.cap (h : Tw W base g cp l) : l.length + 1 ≤ cp := by
 rcases h.form with ⟨e, _⟩ | ⟨g', c, e, _, _, hn, _⟩
 · cases e
 · simp only [Value.slice.injEq] at e
   rw [List.length_append] at hn
   simp at hn
   omega
theorem Tw.lt (h : Tw W base g cp l) : base ≤ g ∧ g < W.heap.size := Fresh.lt' (g := g) h rfl
theorem Tw.cell (h : Tw W base g cp l) (j : Nat) (hj : j < l.length + 1) : W.cell? ⟨g, j, none⟩ = some (.int .u32 ((l ++ [77]).getD j 0 : Nat)) := by
 rcases h.form with ⟨e, _⟩ | ⟨g', c, e, _, _, _, hcc⟩
 · cases e
 · simp only [Value.slice.injEq, Option.some.injEq, Addr.mk.injEq, and_true] at e
   obtain ⟨rfl, _⟩ := e
   have := hcc j (by simp; omega)
   rwa [Nat.zero_add] at this
theorem tw_of {k : Nat} (hF : Fresh W base (.slice (some ⟨g, 0, none⟩) (k + 1) cp) (l ++ [77])) (e : k = l.length) : Tw W base g cp l := by
 subst e; exact hF
end
theorem twin_own {w : World} {v : Value} {l : List Nat} (h : Reads w v l) (hl : l.length ≤ 100000) :
  Calls Tryz.prog 97 #[v] w fun e w' => ∃ g cap, e = .returned (.slice (some ⟨g, 0, none⟩) l.length cap) ∧ Tw w' w.heap.size g cap l ∧ Below w.heap.size w w' := by
 obtain ⟨i0, hi, hz0, hz1, hz2⟩ := info_parts info_u32
 have h0 := Lib.hid h
 obtain ⟨a, c, rfl⟩ := h.form
 obtain ⟨n, hn⟩ : ∃ n, n = l.length := ⟨_, rfl⟩
 obtain ⟨N1, hN1⟩ : ∃ N1, N1 = n + 1 := ⟨_, rfl⟩
 have hnn : ((n : Int) + 1) = (N1 : Int) := by omega
 have HN := Lib.hid hn
 have HN1 := Lib.hid hN1
 have hn1 : n ≤ 100000 := by omega
 have hN1l : N1 ≤ 100001 := by omega
 rw [← hn]
 clear h hn hN1 hl
 go_enter Tryz.func97, Tryz.ntmps97
 go_wp2_with (at_make; go_loud (refine wpList_make_own _ rfl _ _ 25 rfl w.heap.size 71 i0 (.int .u32 0) 1 Tryz.underlying25 hi hz0 hz1 .i64 .i64 _ N1 rfl rfl (by have := HN1.out; omega) (by rw [hz2]; omega) (by unfold maxLen; omega) (by simp) ?_); intro w1 hown1 hgrow1)
 have hbel1 : Below w.heap.size w w1 := (Below.refl _ _).grown hgrow1 (Nat.le_refl _) (fun _ e => by cases e)
 have hF0 : Fresh w1 w.heap.size (.slice (some ⟨w.heap.size, 0, none⟩) 0 N1) [] := by unfold Fresh; simpa using hown1
 clear hown1 hgrow1
 go_loopw [3, 4] (fun v i wr => ∃ k : Nat, k ≤ n ∧ i = .int .i64 k ∧ Fresh wr w.heap.size v (l.take k) ∧ Below w.heap.size w wr) (fun _ i _ => n - (intOf i).toNat)
 case atStart => exact ⟨0, Nat.zero_le _, rfl, by simpa using hF0, hbel1⟩
 case round =>
  obtain ⟨k, hk, rfl, hrow, hbel⟩ := hrel
  have hbS : w.heap.size ≤ wr.heap.size := hbel.size
  have hlt1 : (l.take k).length = k := by rw [List.length_take]; have := HN.out; omega
  have HL := Lib.hid hlt1
  by_cases hlt : k < n
  · have hR := h0.out.below hbel
    obtain ⟨ba, oa, hba, hca⟩ := hR.addr
    have hkl : k < l.length := by have := HN.out; omega
    have r1 := hca k hkl
    obtain ⟨rfl, _⟩ := hba (by omega)
    obtain ⟨x, hx⟩ : ∃ x, x = l.getD k 0 := ⟨_, rfl⟩
    rw [← hx] at r1
    have HX := Lib.hid hx
    clear hba hca hR hx hlt1 hkl
    go_wp2_with (at_builtin; go_loud (refine wpList_append_own _ rfl _ _ 25 rfl w.heap.size 71 i0 (.int .u32 0) 1 4 Tryz.underlying25 hi hz0 hz1 hz2 rfl (by decide) _ _ _ rfl (World.ownsRow.alloc hrow _) ⟨wr.heap.size, 0, none⟩ 1 1 [_] rfl rfl (one_new _ _ _ _ (by simp)) (by simp [Value.oneCell']) (small_max (by have := HL.out; omega)) (by have := HL.out; omega) (by simp; omega) ?_); intro v' w3 hown' hgrow _; obtain ⟨hF, hKO, hBl, hBx, hNo⟩ := fresh_append x hrow hbS hown' hgrow rfl)
    go_roundw
    case rel =>
     refine ⟨k + 1, by omega, by simp, ?_, hbel.trans hBl⟩
     have hkl : k < l.length := by have := HN.out; omega
     have e : l.take (k + 1) = l.take k ++ [x] := by
      rw [List.take_succ_eq_append_getElem hkl, HX.out, List.getD_eq_getElem?_getD, List.getElem?_eq_getElem hkl]; rfl
     rw [e]; exact hF
    case measure => simp [intOf]; omega
  · obtain rfl : k = n := by omega
    have hl : l.take k = l := List.take_of_length_le (by have := HN.out; omega)
    rw [hl] at hrow
    clear hlt1
    go_wp2_with (at_builtin; go_loud (refine wpList_append_own _ rfl _ _ 25 rfl w.heap.size 71 i0 (.int .u32 0) 1 4 Tryz.underlying25 hi hz0 hz1 hz2 rfl (by decide) _ _ _ rfl (World.ownsRow.alloc hrow _) ⟨wr.heap.size, 0, none⟩ 1 1 [_] rfl rfl (one_new _ _ _ _ (by simp)) (by simp [Value.oneCell']) (small_max (by have := HN.out; omega)) (by have := HN.out; omega) (by simp; omega) ?_); intro v' w3 hown' hgrow _; obtain ⟨hF, hKO, hBl, hBx, hNo⟩ := fresh_append 77 hrow hbS hown' hgrow rfl; obtain ⟨g, cap, rfl⟩ := ownsRow_succ hown'; have hTw := tw_of hF rfl; have hkc : k ≤ cap := (by have := hTw.cap; have := HN.out; omega); have hkc2 : ¬ (cap : Int) < (k : Int) := (by omega))
    go_ret
    exact ⟨g, cap, rfl, hTw, hbel.trans hBl⟩
theorem left_any {w : World} {base g cap : Nat} {v : Value} {l : List Nat} (hT : Tw w base g cap l) (hR : Reads w v l) (hl : l.length ≤ 100000) :
  Calls Tryz.prog 101 #[.slice (some ⟨g, 0, none⟩) l.length cap, v] w fun e w' => e = .returned (.bool true) ∧ Below w.heap.size w w' := by
 obtain ⟨a, c, rfl⟩ := hR.form
 have HT := Lib.hid hT
 have HR := Lib.hid hR
 obtain ⟨n, hn⟩ : ∃ n, n = l.length := ⟨_, rfl⟩
 have HN := Lib.hid hn
 have hcap : n + 1 ≤ cap := by have := hT.cap; omega
 have hn1 : n ≤ 100000 := by omega
 obtain ⟨N1, hN1⟩ : ∃ N1, N1 = n + 1 := ⟨_, rfl⟩
 have hnn : (n : Int) + 1 = (N1 : Int) := by omega
 have hc1 : ¬ ((cap : Int) ≤ (n : Int)) := by omega
 have hc2 : (N1 : Int) ≤ (cap : Int) := by omega
 have hc3 : (n : Int) < (N1 : Int) := by omega
 have r77 := hT.cell n (by omega)
 have e77 : (l ++ [77] : List Nat).getD n 0 = 77 := by rw [hn, List.getD_eq_getElem?_getD, List.getElem?_append_right (Nat.le_refl _), Nat.sub_self]; rfl
 rw [e77] at r77
 have R77 := Lib.hid r77
 have hb0 := Lib.hid (Below.refl w.heap.size w)
 rw [← hn]
 clear hT hR hn hN1 hl r77
 go_enter Tryz.func101, Tryz.ntmps101
 go_wp2
 go_loopg [5] n (fun gk s wr => ∃ k : Nat, k + gk = n ∧ s = .int .i64 (k : Int) ∧ ∃ q, wr = w.drewN q)
 case atStart => exact ⟨0, by omega, rfl, 0, by rw [World.drewN_zero]⟩
 case round =>
  obtain ⟨k, hk, rfl, q, rfl⟩ := hrel
  by_cases hkn : k < n
  · obtain ⟨b1, o1, ha, hc⟩ := HR.out.addr
    rw [← HN.out] at ha hc
    have r1 := hc k hkn
    have ea := (ha (by omega)).1
    subst ea
    have r2 := HT.out.cell k (by have := HN.out; omega)
    rw [show (l ++ [77] : List Nat).getD k 0 = l.getD k 0 by rw [List.getD_eq_getElem?_getD, List.getD_eq_getElem?_getD, List.getElem?_append_left (by have := HN.out; omega)]] at r2
    obtain ⟨x, hx⟩ : ∃ x, x = l.getD k 0 := ⟨_, rfl⟩
    rw [← hx] at r1 r2
    clear ha hc hx
    go_wp2
    go_quiet (fail)
    go_wp2
    go_roundg (n - (k + 1))
    case measure => omega
    case rel => exact ⟨k + 1, by omega, by simp, _, rfl⟩
  · obtain rfl : k = n := by omega
    have r77 : (w.drewN q).cell? ⟨g, k, none⟩ = some (.int .u32 77) := R77.out
    go_wp2
    go_ret
    exact ⟨rfl, hb0.out.os, hb0.out.tape, hb0.out.output, hb0.out.size, hb0.out.block⟩
section
variable {w : World} {n1 : Bool}
theorem itwin_own {l : List Nat} {s1 : Option Addr} {c1 : Nat} (h : Reads w (.slice s1 l.length c1) l) (hl : l.length ≤ 100000) :
  Calls Tryz.prog 96 #[.agg #[.bool n1, .slice s1 l.length c1]] w fun e w' => ∃ g c, e = .returned (.agg #[.bool n1, .slice (some ⟨g, 0, none⟩) l.length c]) ∧ Tw w' w.heap.size g c l ∧ Below w.heap.size w w' := by
 have KC := Lib.hid (fun (W : World) (hW : Below w.heap.size w W) => twin_own (h.below hW) hl)
 obtain ⟨t1, ht1⟩ : ∃ t1, t1 = l.length := ⟨_, rfl⟩
 have HT1 := Lib.hid ht1
 rw [← ht1] at KC ⊢
 clear h hl ht1
 obtain ⟨u0, hu0⟩ : ∃ u0, u0 = (w.alloc (.cells #[.bool n1, .slice s1 t1 c1] 28)).alloc (.cells #[.bool false, .slice none 0 0] 28) := ⟨_, rfl⟩
 have X1 := Lib.hid (show Box2 u0 w.heap.size 28 (.bool n1) (.slice s1 t1 c1) by rw [hu0]; exact (Box2.new w _ _ _).alloc _)
 have X3 := Lib.hid (show Box2 u0 (w.heap.size + 1) 28 (.bool false) (.slice none 0 0) by rw [hu0]; exact Box2.new1 w _ _ _ _)
 have hb := Lib.hid (show Below w.heap.size w u0 by rw [hu0]; exact ((Below.refl _ _).alloc (Nat.le_refl _) _).alloc (by simp) _)
 obtain ⟨B1, hB1⟩ : ∃ b, b = w.heap.size := ⟨_, rfl⟩
 obtain ⟨B3, hB3⟩ : ∃ b, b = w.heap.size + 1 := ⟨_, rfl⟩
 have d13 : B1 ≠ B3 := by omega
 have e1 := Lib.hid (show w.heap.size ≤ B1 by omega)
 have e3 := Lib.hid (show w.heap.size ≤ B3 by omega)
 rw [← hB1] at X1
 rw [← hB3] at X3
 have hu0' := Lib.hid hu0
 have hB1' := Lib.hid hB1
 have hB3' := Lib.hid hB3
 clear hu0 hB1 hB3
 go_enter Tryz.func96, Tryz.ntmps96
 go_wp2_with fail
 rw [← hu0'.out, ← hB3'.out, ← hB1'.out]
 clear hu0' hB1' hB3'
 have a0 := X1.out.c0
 have a1 := X1.out.c1
 have hb2 := Lib.hid hb.out.drew
 have Y1 := Lib.hid X1.out.drew
 have Y3 := Lib.hid X3.out.drew
 go_region_held3 (fun w' => w'.cell? ⟨B1, 0, none⟩ = some (.bool n1) ∧ w'.cell? ⟨B1, 1, none⟩ = some (.slice s1 t1 c1))
  (first
   | (with_reducible exact ⟨a0, a1⟩)
   | (with_reducible exact ⟨Y1.out.c0, Y1.out.c1⟩)
   | (with_reducible exact ⟨C1.out.c0, C1.out.c1⟩)
   | (with_reducible exact ⟨F1.out.c0, F1.out.c1⟩)
   | go_keep)
  ((first
   | (go_at_call 97; refine (KC.out _ hb2.out).mono ?_; rintro e w1 ⟨g, c, rfl, t0, r1⟩; have T := Lib.hid (t0.mono hb2.out.size); have hb3 := Lib.hid (then_below hb2.out r1); have C1 := Lib.hid (Y1.out.below r1); have C3 := Lib.hid (Y3.out.below r1); have F1 := Lib.hid ((C1.out.other (B' := B3) (o := 0) d13 (.bool n1)).other (B' := B3) (o := 1) d13 (.slice (some ⟨g, 0, none⟩) t1 c)); have q4' := C3.out.c0; have q5' := C3.out.c1; have q6 := C3.out.fr 0; have q7 := C3.out.fr 1; clear t0 r1)))
 all_goals
  go_wp2
  refine ret_box2 rfl rfl ((C3.out.set0 _).set1 _) Tryz.underlying28 size_int rfl ?_
  exact ⟨g, c, rfl, Fresh.sets T.out C3.out, below_sets hb3.out e3.out _ _⟩
theorem ileft_any {base g cap : Nat} {v : Value} {l : List Nat} (hT : Tw w base g cap l) (hR : Reads w v l) (hl : l.length ≤ 100000) :
  Calls Tryz.prog 100 #[.agg #[.bool n1, .slice (some ⟨g, 0, none⟩) l.length cap], .agg #[.bool n1, v]] w fun e w' => e = .returned (.bool true) ∧ Below w.heap.size w w' := by
 have K := Lib.hid (fun (W : World) (hW : Below w.heap.size w W) => left_any (hT.below hW) (hR.below hW) hl)
 obtain ⟨a, c, rfl⟩ := hR.form
 have hb := Lib.hid (((Below.refl w.heap.size w).alloc (Nat.le_refl _) (.cells #[.bool n1, .slice (some ⟨g, 0, none⟩) l.length cap] 28)).alloc (by simp) (.cells #[.bool n1, .slice a l.length c] 28))
 clear hT hR hl
 cases n1
 all_goals
  go_enter Tryz.func100, Tryz.ntmps100
  go_wp2_with fail
  go_at_call 101
  refine (K.out _ hb.out).mono ?_
  rintro e w1 ⟨rfl, r⟩
  replace hb := Lib.hid (then_below hb.out r)
  clear r
  go_wp2_with fail
  go_ret
  exact ⟨rfl, hb.out⟩
end
end
section
open Go Go.Proofs Go.RowKit Go.Shelf Nu
theorem Two.symm {v u : Value} (h : Two v u) : Two u v := by
 rcases h with h | h
 · cases e : u.ownBlock with
   | none => exact .inl e
   | some g => exact .inr (by rw [h, e]; simp)
 · exact .inr (Ne.symm h)
theorem Fresh.putBox {W : World} {base b : Nat} {t : TypeId} {cs : List Value} {v : Value} {l : List Nat} (h : Fresh W base v l) (hB : BoxN W b t cs.toArray) (ht : t ≠ 71) (o : Nat) (x : Value) : Fresh (W.setCell ⟨b, o, none⟩ x) base v l := by
 refine ⟨h.1, ?_⟩
 rcases h.2 with h | ⟨g, cap, cur, e, hb, hg, r⟩
 · exact .inl h
 · refine .inr ⟨g, cap, cur, e, hb, ?_, r⟩
   have hne : g ≠ b := by
    rintro rfl
    have h1 := (show W.heap[g]? = _ from hB).symm.trans hg
    injection h1 with h1
    injection h1 with _ h2 _
    exact ht h2
   exact (Below.heap_setCell W ⟨b, o, none⟩ x g hne).trans hg
def MemO (n : Nat) (w : World) (bs : List (Nat × TypeId × List Value)) (rs : List (Value × List Nat)) (W : World) : Prop :=
 Mem w bs rs W ∧ n ≤ rs.length ∧ (∀ (k : Nat) (v : Value) (l : List Nat), k + n < rs.length → rs[k]? = some (v, l) → Fresh W w.heap.size v l) ∧
  ∀ (j k : Nat) (x y : Value × List Nat), j < k → k + n < rs.length → rs[j]? = some x → rs[k]? = some y → Two x.1 y.1
section
variable {n : Nat} {w W W' : World} {bs : List (Nat × TypeId × List Value)} {rs : List (Value × List Nat)} {b : Nat} {t : TypeId} {cs : List Value} {v u : Value} {l m : List Nat}
theorem MemO.of (M : Mem w bs rs W) (h : n = rs.length := by rfl) : MemO n w bs rs W := ⟨M, Nat.le_of_eq h, fun k _ _ hk _ => by omega, fun j k _ _ _ hk _ _ => by omega⟩
theorem MemO.below (M : MemO n w bs rs W) : Below w.heap.size w W := M.1.1
theorem MemO.up (M : MemO n w bs rs W) (r : Below W.heap.size W W') : MemO n w bs rs W' := ⟨M.1.up r, M.2.1, fun k v l hk e => (M.2.2.1 k v l hk e).below r, M.2.2.2⟩
theorem MemO.drew (M : MemO n w bs rs W) : MemO n w bs rs W.drew := M.up ⟨rfl, rfl, rfl, Nat.le_refl _, fun _ _ => rfl⟩
theorem MemO.box (M : MemO n w bs rs W) (k : Nat) (e : bs[k]? = some (b, t, cs)) : BoxN W b t cs.toArray := M.1.box k e
theorem MemO.at (M : MemO n w bs rs W) (k : Nat) (e : bs[k]? = some (b, t, cs)) : w.heap.size ≤ b := M.1.at k e
theorem MemO.lt (M : MemO n w bs rs W) {k : Nat} {x : Nat × TypeId × List Value} (e : bs[k]? = some x) : x.1 < W.heap.size := M.1.lt e
theorem MemO.new (M : MemO n w bs rs W) (t : TypeId) (cs : List Value) : MemO n w ((W.heap.size, t, cs) :: bs) rs (W.alloc (.cells cs.toArray t)) :=
 ⟨M.1.new t cs, M.2.1, fun k v l hk e => (M.2.2.1 k v l hk e).alloc _, M.2.2.2⟩
theorem MemO.fresh (M : MemO n w bs rs W) (t : TypeId) (cs : List Value) : ∃ b V, V = W.alloc (.cells cs.toArray t) ∧ b = W.heap.size ∧ MemO n w ((b, t, cs) :: bs) rs V := ⟨_, _, rfl, rfl, M.new t cs⟩
theorem MemO.get (M : MemO n w bs rs W) (k : Nat) (e : rs[k]? = some (v, l)) : Reads W v l := M.1.get k e
theorem MemO.cell (M : MemO n w bs rs W) (k : Nat) (e : bs[k]? = some (b, t, cs)) (o : Nat) (hv : cs[o]? = some v) : W.cell? ⟨b, o, none⟩ = some v := M.1.cell k e o hv
theorem MemO.fr (M : MemO n w bs rs W) (k : Nat) (e : bs[k]? = some (b, t, cs)) (o : Nat) : W.frozen? ⟨b, o, none⟩ = false := M.1.fr k e o
theorem MemO.put (M : MemO n w bs rs W) (k : Nat) (e : bs[k]? = some (b, t, cs)) (hn : cs.all no32 = true) (o : Nat) (x : Value) (ht : t ≠ 71 := by decide) : MemO n w (bs.set k (b, t, cs.set o x)) rs (W.setCell ⟨b, o, none⟩ x) :=
 ⟨M.1.put k e hn o x, M.2.1, fun k' v l hk e' => (M.2.2.1 k' v l hk e').putBox (M.1.box k e) ht o x, M.2.2.2⟩
theorem MemO.old {cs : Array Value} (M : MemO n w bs rs W) (h : BoxN w b t cs) : BoxN W b t cs := M.1.old h
theorem MemO.swap {x y : Nat × TypeId × List Value} (M : MemO n w (x :: y :: bs) rs W) : MemO n w (y :: x :: bs) rs W := ⟨M.1.swap, M.2⟩
theorem MemO.upadd (M : MemO n w bs rs W) (r : Below W.heap.size W W') (g : Fresh W' W.heap.size v l) : MemO n w bs ((v, l) :: rs) W' := by
 refine ⟨(M.1.up r).add g.reads, Nat.le_succ_of_le M.2.1, fun k v' l' hk e => ?_, fun j k x y hjk hk ex ey => ?_⟩
 · cases k with
   | zero =>
    simp only [List.getElem?_cons_zero, Option.some.injEq, Prod.mk.injEq] at e
    obtain ⟨rfl, rfl⟩ := e
    exact g.mono M.1.1.size
   | succ k => exact (M.2.2.1 k v' l' (by simp at hk; omega) (by simpa using e)).below r
 · cases k with
   | zero => omega
   | succ k =>
    have hy : rs[k]? = some y := by simpa using ey
    cases j with
    | zero =>
     simp only [List.getElem?_cons_zero, Option.some.injEq] at ex
     subst ex
     have fy := M.2.2.1 k y.1 y.2 (by simp at hk; omega) hy
     cases ev : v.ownBlock with
     | none => exact .inl ev
     | some q =>
      refine .inr (fun e2 => ?_)
      have h1 := g.lt' ev
      have h2 := fy.lt' (e2.symm.trans ev)
      omega
    | succ j => exact M.2.2.2 j k x y (by omega) (by simp at hk; omega) (by simpa using ex) hy
theorem MemO.upadd2 (M : MemO n w bs rs W) (r : Below W.heap.size W W') (g : Fresh W' W.heap.size v l) (g' : Fresh W' W.heap.size u m) (h : Two v u) : MemO n w bs ((u, m) :: (v, l) :: rs) W' := by
 have N := M.upadd r g
 have N' := M.upadd r g'
 refine ⟨N.1.add g'.reads, Nat.le_succ_of_le N.2.1, fun k v' l' hk e => ?_, fun j k x y hjk hk ex ey => ?_⟩
 · cases k with
   | zero =>
    simp only [List.getElem?_cons_zero, Option.some.injEq, Prod.mk.injEq] at e
    obtain ⟨rfl, rfl⟩ := e
    exact g'.mono M.1.1.size
   | succ k => exact N.2.2.1 k v' l' (by simp at hk ⊢; omega) (by simpa using e)
 · cases k with
   | zero => omega
   | succ k =>
    cases j with
    | zero =>
     simp only [List.getElem?_cons_zero, Option.some.injEq] at ex
     subst ex
     cases k with
     | zero =>
      have : y = (v, l) := by simpa using ey.symm
      subst this
      exact h.symm
     | succ k => exact N'.2.2.2 0 (k + 1) (u, m) y (by omega) (by simp at hk ⊢; omega) (by simp) (by simpa using ey)
    | succ j => exact N.2.2.2 j k x y (by omega) (by simp at hk ⊢; omega) (by simpa using ex) (by simpa using ey)
theorem MemO.own (M : MemO n w bs rs W) (k : Nat) (e : rs[k]? = some (v, l)) (hk : k + n < rs.length := by simp) : Fresh W w.heap.size v l := M.2.2.1 k v l hk e
theorem MemO.two (M : MemO n w bs rs W) (j k : Nat) (ej : rs[j]? = some (v, l)) (ek : rs[k]? = some (u, m)) (h : j < k := by decide) (hk : k + n < rs.length := by simp) : Two v u := M.2.2.2 j k _ _ h hk ej ek
end
theorem region_memO {P : Program} {ops : Array Oper} {Q : Exit → Act → World → Prop} {S : World → Prop} {id n : Nat} {a : Act} {w w0 : World} {bs : List (Nat × TypeId × List Value)} {rs : List (Value × List Nat)} (M : MemO n w0 bs rs w) (hm : P.follows .mixedOrders = true)
  (h : ∀ V, MemO n w0 bs rs V → wpAnyH P .any ops Q S ops.size (Array.replicate ops.size false) a V) : (Code.region id ops true).wp P Q a w :=
 wp_region_held hm (h w.drew M.drew)
end
section
open Go Go.Proofs Go.RowKit Go.Shelf Nu
attribute [local go_sem] Oper.semAt_some
theorem rtwin_own {w : World} {p1 o1 : Option Addr} {q1 r1 : Nat} {n : Bool} {l d : List Nat} (b1 : l.length ≤ 100000) (b2 : d.length ≤ 100000) (h1 : Reads w (.slice p1 l.length q1) l) (h2 : Reads w (.slice o1 d.length r1) d) :
  Calls Tryz.prog 20 #[.agg #[.bool n, .slice p1 l.length q1, .slice o1 d.length r1]] w fun e w' => ∃ g1 c1 g2 c2, e = .returned (.agg #[.bool n, .slice (some ⟨g1, 0, none⟩) l.length c1, .slice (some ⟨g2, 0, none⟩) d.length c2]) ∧ Tw w' w.heap.size g1 c1 l ∧ Tw w' w.heap.size g2 c2 d ∧ Below w.heap.size w w' ∧ Two (.slice (some ⟨g1, 0, none⟩) l.length c1) (.slice (some ⟨g2, 0, none⟩) d.length c2) := by
 have M : Mem w [(w.heap.size + 1, 30, [.bool false, .slice none 0 0, .slice none 0 0]), (w.heap.size, 30, [.bool n, .slice p1 l.length q1, .slice o1 d.length r1])] [(.slice o1 d.length r1, d), (.slice p1 l.length q1, l)] ((w.alloc (.cells #[.bool n, .slice p1 l.length q1, .slice o1 d.length r1] 30)).alloc (.cells #[.bool false, .slice none 0 0, .slice none 0 0] 30)) := by
  have M := (((((Mem.start w).add h1).add h2).new 30 [.bool n, .slice p1 l.length q1, .slice o1 d.length r1]).new 30 [.bool false, .slice none 0 0, .slice none 0 0])
  simpa only [World.size_alloc] using M
 have M := MemO.of (n := 2) M
 clear h1 h2
 go_enter Tryz.func20, Tryz.ntmps20
 go_wp2
 refine region_memO (S := (fun W => BoxN W (w.heap.size) 30 #[.bool n, .slice p1 l.length q1, .slice o1 d.length r1])) M (by kernel_rfl) ?_
 intro V0 M
 have hS0 : (fun W => BoxN W (w.heap.size) 30 #[.bool n, .slice p1 l.length q1, .slice o1 d.length r1]) V0 := M.box 1 rfl
 refine wtk 0 (.pointer (some ⟨w.heap.size, 0, none⟩)) rfl (fun _ _ _ h => h) (Or.inl ⟨by rfl, fun W3 hS => by go_simp⟩) hS0 ?_
 try simp only [Act.put, List.setIfInBounds_toArray, List.set_cons_zero, List.set_cons_succ]
 refine wtk 1 (.agg #[.bool n, .slice p1 l.length q1]) rfl (fun _ _ _ h => h) (Or.inl ⟨by rfl, fun W3 hS => by have hS1 := hS; have c1_0 := hS1.cell 0 _ rfl; have c1_1 := hS1.cell 1 _ rfl; have c1_2 := hS1.cell 2 _ rfl; go_simp⟩) hS0 ?_
 try simp only [Act.put, List.setIfInBounds_toArray, List.set_cons_zero, List.set_cons_succ]
 refine wtk 3 (.pointer (some ⟨w.heap.size, 2, none⟩)) rfl (fun _ _ _ h => h) (Or.inl ⟨by rfl, fun W3 hS => by go_simp⟩) hS0 ?_
 try simp only [Act.put, List.setIfInBounds_toArray, List.set_cons_zero, List.set_cons_succ]
 refine wtk 4 (.slice o1 d.length r1) rfl (fun _ _ _ h => h) (Or.inl ⟨by rfl, fun W3 hS => by have hS1 := hS; have c1_0 := hS1.cell 0 _ rfl; have c1_1 := hS1.cell 1 _ rfl; have c1_2 := hS1.cell 2 _ rfl; go_simp⟩) hS0 ?_
 try simp only [Act.put, List.setIfInBounds_toArray, List.set_cons_zero, List.set_cons_succ]
 clear hS0
 refine one_op 2 rfl (fun K1 hK => ?_)
 go_simp
 refine (itwin_own (n1 := n) (M.get 1 rfl) b1).mono ?_
 rintro e V1_2 ⟨g1, c1, rfl, g, rr⟩
 have M' := M.upadd rr g
 clear M rr g
 have M := M'; clear M'
 refine hK _ _ ⟨M.box 1 rfl, ?_⟩
 clear hK K1
 refine one_op 5 rfl (fun K2 hK => ?_)
 go_simp
 refine (twin_own (M.get 1 rfl) b2).mono ?_
 rintro e V2_5 ⟨g2, c2, rfl, g, rr⟩
 have M' := M.upadd rr g
 clear M rr g
 have M := M'; clear M'
 refine hK _ _ ⟨M.box 1 rfl, ?_⟩
 clear hK K2
 have hS0 : (fun W => BoxN W (w.heap.size) 30 #[.bool n, .slice p1 l.length q1, .slice o1 d.length r1]) _ := M.box 1 rfl
 refine wtk 6 (.agg #[.bool n, .slice (some ⟨g1, 0, none⟩) l.length c1, .slice (some ⟨g2, 0, none⟩) d.length c2]) rfl (fun _ _ _ h => h) (Or.inl ⟨by rfl, fun W3 hS => by go_simp⟩) hS0 ?_
 try simp only [Act.put, List.setIfInBounds_toArray, List.set_cons_zero, List.set_cons_succ]
 clear hS0
 have f0_0 := M.fr 0 rfl 0; have f0_1 := M.fr 0 rfl 1; have f0_2 := M.fr 0 rfl 2
 have z0_0 := M.cell 0 rfl 0 rfl; have z0_1 := M.cell 0 rfl 1 rfl; have z0_2 := M.cell 0 rfl 2 rfl
 refine one_op 7 rfl (fun Ks3 hK => ?_)
 go_simp
 have M' := (((M.put 0 rfl rfl 0 (.bool n)).put 0 rfl rfl 1 (.slice (some ⟨g1, 0, none⟩) l.length c1)).put 0 rfl rfl 2 (.slice (some ⟨g2, 0, none⟩) d.length c2))
 clear M f0_0 z0_0 f0_1 z0_1 f0_2 z0_2
 simp only [List.set_cons_zero, List.set_cons_succ] at M'
 have M := M'
 clear M'
 refine hK _ _ ⟨M.box 1 rfl, ?_⟩
 clear hK Ks3
 refine wdn ?_
 go_wp2
 refine ret_boxN rfl rfl (M.box 0 rfl) Tryz.underlying30 size_rat rfl ?_
 exact ⟨g1, c1, g2, c2, rfl, M.own 1 rfl, M.own 0 rfl, M.below, (M.two 0 1 rfl rfl).symm⟩
theorem rleft_any {w : World} {base base2 g1 c1 g2 c2 : Nat} {p1 o1 : Option Addr} {q1 r1 : Nat} {n : Bool} {l d : List Nat} (b1 : l.length ≤ 100000) (b2 : d.length ≤ 100000) (t1 : Tw w base g1 c1 l) (t2 : Tw w base2 g2 c2 d) (h1 : Reads w (.slice p1 l.length q1) l) (h2 : Reads w (.slice o1 d.length r1) d) :
  Calls Tryz.prog 26 #[.agg #[.bool n, .slice (some ⟨g1, 0, none⟩) l.length c1, .slice (some ⟨g2, 0, none⟩) d.length c2], .agg #[.bool n, .slice p1 l.length q1, .slice o1 d.length r1]] w fun e w' => e = .returned (.bool true) ∧ Below w.heap.size w w' := by
 have K1 := Lib.hid (fun (W : World) (hW : Below w.heap.size w W) => ileft_any (n1 := n) (t1.below hW) (h1.below hW) b1)
 have K2 := Lib.hid (fun (W : World) (hW : Below w.heap.size w W) => left_any (t2.below hW) (h2.below hW) b2)
 have M : Mem w [(w.heap.size + 1, 30, [.bool n, .slice p1 l.length q1, .slice o1 d.length r1]), (w.heap.size, 30, [.bool n, .slice (some ⟨g1, 0, none⟩) l.length c1, .slice (some ⟨g2, 0, none⟩) d.length c2])] [(.slice o1 d.length r1, d), (.slice p1 l.length q1, l)] ((w.alloc (.cells #[.bool n, .slice (some ⟨g1, 0, none⟩) l.length c1, .slice (some ⟨g2, 0, none⟩) d.length c2] 30)).alloc (.cells #[.bool n, .slice p1 l.length q1, .slice o1 d.length r1] 30)) := by
  have M := (((((Mem.start w).add h1).add h2).new 30 [.bool n, .slice (some ⟨g1, 0, none⟩) l.length c1, .slice (some ⟨g2, 0, none⟩) d.length c2]).new 30 [.bool n, .slice p1 l.length q1, .slice o1 d.length r1])
  simpa only [World.size_alloc] using M
 clear h1 h2 t1 t2
 go_enter Tryz.func26, Tryz.ntmps26
 have z0_0 := M.cell 0 rfl 0 rfl; have z0_1 := M.cell 0 rfl 1 rfl; have z0_2 := M.cell 0 rfl 2 rfl; have z1_0 := M.cell 1 rfl 0 rfl; have z1_1 := M.cell 1 rfl 1 rfl; have z1_2 := M.cell 1 rfl 2 rfl
 go_wp2_with fail
 clear z0_0 z0_1 z0_2 z1_0 z1_1 z1_2
 refine (K1.out _ M.below).mono ?_
 rintro e w1 ⟨rfl, rr⟩
 have M' := M.up rr; clear M rr; have M := M'; clear M'
 have z0_0 := M.cell 0 rfl 0 rfl; have z0_1 := M.cell 0 rfl 1 rfl; have z0_2 := M.cell 0 rfl 2 rfl; have z1_0 := M.cell 1 rfl 0 rfl; have z1_1 := M.cell 1 rfl 1 rfl; have z1_2 := M.cell 1 rfl 2 rfl
 go_wp2_with fail
 refine (K2.out _ M.below).mono ?_
 rintro e w2 ⟨rfl, rr⟩
 have M' := M.up rr; clear M rr
 go_wp2_with fail
 go_ret
 exact ⟨rfl, M'.below⟩
end
end Go.Proofs.YtdjfooflhpkcbaaGreatDoor
