/- The document's answer: the order of two great numbers, by hand. -/
import Derived.Test.YtmbnojkciikobaaGreatDoorRefB
namespace Go.Proofs.YtmbnojkciikobaaGreatDoor
open Go Go.Proofs Go.RowKit Go.Shelf Nu

attribute [local go_sem] Oper.semAt_some

set_option maxRecDepth 100000 in
set_option maxHeartbeats 4000000 in
theorem rcmp_any {w : World} {va vb : Value} {la lb : List Nat} (ha : Reads w va la) (hb : Reads w vb lb) (hla : la.length ≤ 100000) (hlb : lb.length ≤ 100000) (hsa : Sm la) (hsb : Sm lb) :
    Calls Tryz.prog 15 #[va, vb] w fun e w' => e = .returned (.int .i64 (sgn (nv la) (nv lb))) ∧ Below w.heap.size w w' := by
  have k1 := flip (rfit_any ha (by omega))
  have k2 := flip (rfit_any hb (by omega))
  have hA := orzV_reads ha
  have hB := orzV_reads hb
  obtain ⟨a1, c1, e1⟩ := hA.form
  obtain ⟨b1, d1, e2⟩ := hB.form
  rw [e1] at k1 hA
  rw [e2] at k2 hB
  have hlA : (orz la).length ≤ 100000 := Nat.le_trans (orz_length la) hla
  have hlB : (orz lb).length ≤ 100000 := Nat.le_trans (orz_length lb) hlb
  have hSA := Lib.hid (sm_orz hsa)
  have hSB := Lib.hid (sm_orz hsb)
  have hCA := Lib.hid (chk_orz la)
  have hCB := Lib.hid (chk_orz lb)
  rw [← val_orz la, ← val_orz lb]
  generalize orz la = A at *
  generalize orz lb = B at *
  obtain ⟨x1, x2, rfl⟩ := ha.form
  obtain ⟨y1, y2, rfl⟩ := hb.form
  have RA := Lib.hid hA
  have RB := Lib.hid hB
  clear ha hb e1 e2 hla hlb hsa hsb hA hB
  obtain ⟨m, hm⟩ : ∃ m, m = A.length := ⟨_, rfl⟩
  obtain ⟨n, hn⟩ : ∃ n, n = B.length := ⟨_, rfl⟩
  have HM := Lib.hid hm
  have HN := Lib.hid hn
  rw [← hm] at hlA k1
  rw [← hn] at hlB k2
  clear hm hn
  have hb0 : Below w.heap.size w w := Below.refl _ w
  obtain ⟨z, hz⟩ : ∃ z, z = sgn (val A) (val B) := ⟨_, rfl⟩
  rw [← hz]
  have HZ := Lib.hid hz
  clear hz
  rcases Nat.lt_trichotomy m n with hlt | heq | hgt
  · have e : z = -1 := by
      rw [HZ.out, ← cmp_len hSA.out hSB.out hCA.out hCB.out (by have := HM.out; have := HN.out; omega)]
      simp [sgn]; have := HM.out; have := HN.out; omega
    subst e
    have h1 : (m : Int) < (n : Int) := by omega
    go_enter Tryz.func15, Tryz.ntmps15
    go_wp2_with (first
      | (go_at_call 74; refine k1.mono ?_; clear k1; rintro e w' ⟨rfl, rfl⟩)
      | (go_at_call 74; refine k2.mono ?_; clear k2; rintro e w' ⟨rfl, rfl⟩))
    go_ret
    exact ⟨rfl, hb0⟩
  · have HE := Lib.hid heq
    have h1 : (n : Int) = (m : Int) := by omega
    clear heq
    go_enter Tryz.func15, Tryz.ntmps15
    go_wp2_with (first
      | (go_at_call 74; refine k1.mono ?_; clear k1; rintro e w' ⟨rfl, rfl⟩)
      | (go_at_call 74; refine k2.mono ?_; clear k2; rintro e w' ⟨rfl, rfl⟩))
    go_loopg [5] m (fun g s wr => ∃ q : Int, s = .int .i64 q ∧ q = (g : Int) - 1 ∧ g ≤ m ∧ Hid (∀ i, g ≤ i → A.getD i 0 = B.getD i 0) ∧ Hid (Below w.heap.size w wr))
    case atStart => exact ⟨_, rfl, rfl, Nat.le_refl _, Lib.hid (fun i hi => by rw [getD_cut0 (by have := HM.out; omega), getD_cut0 (by have := HM.out; have := HN.out; have := HE.out; omega)]), Lib.hid hb0⟩
    case round =>
      obtain ⟨q, rfl, hq, hg, HH, HB⟩ := hrel
      by_cases hg0 : gk = 0
      · have hq1 : q = -1 := by omega
        subst hq1
        have e : z = 0 := by
          rw [HZ.out]
          exact cmp_same (by have := HM.out; have := HN.out; have := HE.out; omega) (fun i => HH.out i (by omega))
        subst e
        clear hq
        go_wp2
        go_ret
        exact ⟨rfl, HB.out⟩
      · obtain ⟨p, hp⟩ : ∃ p : Nat, q = (p : Int) := ⟨gk - 1, by omega⟩
        subst hp
        have hpl : p < m := by omega
        obtain ⟨ba, oa, hba, hca⟩ := (RA.out.below HB.out).addr
        obtain ⟨bb, ob, hbb, hcb⟩ := (RB.out.below HB.out).addr
        rw [← HM.out] at hba hca
        rw [← HN.out] at hbb hcb
        have hpn : p < n := by have := HE.out; omega
        have r1 := hca p hpl
        have r2 := hcb p hpn
        have ea := (hba (by omega)).1
        subst ea
        have eb := (hbb (by omega)).1
        subst eb
        obtain ⟨x, hx⟩ : ∃ x, x = A.getD p 0 := ⟨_, rfl⟩
        obtain ⟨y, hy⟩ : ∃ y, y = B.getD p 0 := ⟨_, rfl⟩
        rw [← hx] at r1
        rw [← hy] at r2
        have HX := Lib.hid hx
        have HY := Lib.hid hy
        have HG := Lib.hid (show gk = p + 1 by omega)
        clear hx hy hba hbb hca hcb hq hg0
        have stp : x ≠ y → sgn x y = z := by
          intro hne
          rw [HZ.out, HX.out, HY.out]
          exact cmp_step hSA.out hSB.out (by rw [← HX.out, ← HY.out]; exact hne) (fun i hi => HH.out i (by have := HG.out; omega)) (by have := HM.out; have := HN.out; have := HE.out; omega) (by have := HM.out; omega)
        rcases Nat.lt_trichotomy x y with hxy | hxy | hxy
        · have e : z = -1 := by rw [← stp (by omega)]; simp [sgn, hxy]
          subst e
          have t1 : (x : Int) < (y : Int) := by omega
          clear stp
          go_wp2
          go_quiet (fail)
          go_wp2
          go_ret
          exact ⟨rfl, HB.out.trans ⟨rfl, rfl, rfl, Nat.le_refl _, fun _ _ => rfl⟩⟩
        · have HXY := Lib.hid hxy
          have t1 : (y : Int) = (x : Int) := by omega
          clear stp hxy
          go_wp2
          go_quiet (fail)
          go_wp2
          go_quiet (fail)
          go_wp2
          go_roundg p
          case measure => have := HG.out; omega
          case rel => exact ⟨_, rfl, rfl, by omega, Lib.hid (fun i hi => by
            by_cases e : i = p
            · subst e; rw [← HX.out, ← HY.out]; exact HXY.out
            · exact HH.out i (by have := HG.out; omega)), Lib.hid (HB.out.trans ⟨rfl, rfl, rfl, Nat.le_refl _, fun _ _ => rfl⟩)⟩
        · have e : z = 1 := by rw [← stp (by omega)]; simp [sgn, show ¬ x < y by omega, hxy]
          subst e
          have t1 : ¬ (x : Int) < (y : Int) := by omega
          have t2 : (x : Int) > (y : Int) := by omega
          clear stp
          go_wp2
          go_quiet (fail)
          go_wp2
          go_quiet (fail)
          go_wp2
          go_ret
          exact ⟨rfl, HB.out.trans ⟨rfl, rfl, rfl, Nat.le_refl _, fun _ _ => rfl⟩⟩
  · have e : z = 1 := by
      rw [HZ.out, ← cmp_len hSA.out hSB.out hCA.out hCB.out (by have := HM.out; have := HN.out; omega)]
      have := HM.out; have := HN.out
      simp [sgn, show ¬ A.length < B.length by omega]; omega
    subst e
    have h1 : ¬ (m : Int) < (n : Int) := by omega
    have h2 : (m : Int) > (n : Int) := by omega
    go_enter Tryz.func15, Tryz.ntmps15
    go_wp2_with (first
      | (go_at_call 74; refine k1.mono ?_; clear k1; rintro e w' ⟨rfl, rfl⟩)
      | (go_at_call 74; refine k2.mono ?_; clear k2; rintro e w' ⟨rfl, rfl⟩))
    go_ret
    exact ⟨rfl, hb0⟩

end Go.Proofs.YtmbnojkciikobaaGreatDoor
