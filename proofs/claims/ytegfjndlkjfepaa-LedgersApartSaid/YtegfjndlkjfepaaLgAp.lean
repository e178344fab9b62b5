/- Ledgers: LedgersApart. -/
import Derived.Test.YtegfjndlkjfepaaLgD
namespace Go.Proofs.Ytegfjndlkjfepaa
open Go Go.Proofs Go.RowKit Go.Shelf
set_option linter.unusedVariables false
set_option maxRecDepth 100000

attribute [local go_sem] Oper.semAt_some
set_option maxHeartbeats 8000000 in
theorem lapart_all {w : World} {v : Value} {ts : List Ten} {q : Nat} {n : Int} (h : Tens w v ts) (hq : q < 256) :
    Calls Try.prog 4 #[v, .int .u8 (q : Int), .int .i64 n] w fun e w' => e = .returned (.bool true) ∧ Below w.heap.size w w' := by
  have HT := Lib.hid h
  obtain ⟨a, c, rfl, hlc, hrow⟩ := h
  obtain ⟨N, hN⟩ : ∃ N, N = ts.length := ⟨_, rfl⟩
  have HN := Lib.hid hN
  rw [← hN] at hlc HT ⊢
  clear hN hrow
  go_enter Try.func4, Try.ntmps4
  go_wp2_with fail
  refine (lg_alive _).mono ?_
  rintro e w1 ⟨rfl, b1⟩
  have B1 := Lib.hid b1
  clear b1
  by_cases h16 : 16 < N
  · have l16 : (16 : Int) < (N : Int) := by omega
    go_wp2_with fail
    refine (lg_alive _).mono ?_
    rintro e w2 ⟨rfl, b2⟩
    go_wp2
    go_ret
    exact ⟨rfl, B1.out.trans (b2.mono B1.out.size)⟩
  have l16 : ¬ (16 : Int) < (N : Int) := by omega
  go_wp2_with fail
  refine (tsize_any (HT.out.below B1.out) (by have := HN.out; omega)).mono ?_
  rintro e w2 ⟨z, rfl, b2⟩
  have B2 := Lib.hid (B1.out.trans (b2.mono B1.out.size))
  clear b2 B1
  by_cases hz : 5000 < z
  · go_wp2_with fail
    refine (lg_alive _).mono ?_
    rintro e w3 ⟨rfl, b3⟩
    go_wp2
    go_ret
    exact ⟨rfl, B2.out.trans (b3.mono B2.out.size)⟩
  by_cases hm : MayT ts
  case neg =>
    go_wp2_with fail
    refine (lm_no (HT.out.below B2.out) hm).mono ?_
    rintro e w3 ⟨rfl, b3⟩
    have B3 := Lib.hid (B2.out.trans (b3.mono B2.out.size))
    clear b3
    go_wp2
    go_ret
    exact ⟨rfl, B3.out⟩
  have HM := Lib.hid hm
  go_wp2_with fail
  refine (lm_yes (HT.out.below B2.out) hm).mono ?_
  rintro e w3 ⟨P, own, rfl, hL, b3⟩
  have B3 := Lib.hid (B2.out.trans (b3.mono B2.out.size))
  have L3 := Lib.hid hL
  have X3 := Lib.hid B2.out.size
  clear hL b3 hm B2
  obtain ⟨X, hX⟩ : ∃ X, X = w2.heap.size := ⟨_, rfl⟩
  rw [← hX] at L3 X3
  clear hX
  obtain ⟨K, R, b, off, x, hKN, mK, rfl, hx, hxr, hcl⟩ := pick_any HT.out hq HN.out HM.out.few.1
  have HC := Lib.hid hcl
  have HX := Lib.hid hx
  have HXR := Lib.hid hxr
  have hN1 : ¬ (N : Int) = 0 := by omega
  have n0 : (0 : Int) ≤ (K : Int) := by omega
  have n1 : (K : Int) < (N : Int) := by omega
  have hrate := HM.out.rates HX.out
  rw [HXR.out] at hrate
  have HRT := Lib.hid hrate
  have HGD := Lib.hid (rates_getD HX.out HXR.out)
  have HKL := Lib.hid (show K < ts.length by have := HN.out; omega)
  have HKO := Lib.hid (show kOK (K : Int) from kOK_nat (by omega))
  clear hcl hx hxr hrate
  have S5 := Lib.hid (lspend_any L3.out n HKO.out)
  go_wp2_with fail
  refine S5.out.mono ?_
  rintro e w5 ⟨rfl, hL, hk, hb⟩
  have D5 := Lib.hid (show L1 w w5 P X own ts (spendL ts (ts.map (·.r)) (K : Int) n) from ⟨hL, B3.out.trans (hb.mono X3.out)⟩)
  clear hL hk hb S5 L3 B3
  obtain ⟨E, hE⟩ : ∃ E, E = spendE ts (ts.map (·.r)) (K : Int) n := ⟨_, rfl⟩
  rw [← hE]
  clear hE
  have HLD := Lib.hid (left_bounds (lf := ts.map (·.r)) (n := n) HKL.out (by simp) HGD.out (by have := HRT.out; omega))
  obtain ⟨LF, hLF⟩ : ∃ LF, LF = spendL ts (ts.map (·.r)) (K : Int) n := ⟨_, rfl⟩
  have HLF := Lib.hid hLF
  rw [← hLF] at D5 HLD
  clear hLF
  have k0 : ((0 : Nat) : Int) = 0 := rfl
  go_wp2
  try simp only [mK]
  go_loopg [9] N (fun g s9 wr => ∃ k : Nat, k + g = N ∧ s9 = .int .i64 (k : Int) ∧ Hid (L1 w wr P X own ts LF))
  case atStart => exact ⟨0, by omega, rfl, D5⟩
  case round =>
    clear k0 D5
    obtain ⟨k, hk, rfl, HD⟩ := hrel
    by_cases hlt : k < N
    · obtain ⟨y, hy⟩ : ∃ y, ts[k]? = some y := ⟨_, List.getElem?_eq_getElem (by have := HN.out; omega)⟩
      have cy : ∀ W, Below w.heap.size w W → W.cell? ⟨b, off + k * 3 + 2, none⟩ = some (.int .i64 y.r) := fun W hW => by
        obtain ⟨b', off', e, hb', hc'⟩ := HT.out.cells.2.2 (by omega)
        simp only [Option.some.injEq, Addr.mk.injEq, and_true] at e
        obtain ⟨rfl, rfl⟩ := e
        exact ((hc' k y hy).1.below hb' hW).2.2
      have HCY := Lib.hid cy
      have p0 : (0 : Int) ≤ (k : Int) := by omega
      have p1 : (k : Int) < (N : Int) := by omega
      have w2 : IntKind.i64.wrap ((k : Int) + 1) = ((k + 1 : Nat) : Int) := IntWalk.i64_in _ (by omega)
      obtain ⟨YR, hYR⟩ : ∃ YR, YR = y.r := ⟨_, rfl⟩
      rw [← hYR] at HCY
      have HY := Lib.hid (show k ≠ K → leftV ts LF (k : Int) = YR from fun hne => by
        rw [HLF.out, hYR]
        refine leftV_nat (by have := HN.out; omega) ?_
        rw [spendL_other hne]
        exact rates_getD hy rfl)
      have HW := Lib.hid HD.out.bel
      have cyr := HCY.out wr HW.out
      clear cy hy hYR
      by_cases hkK : k = K
      · subst hkK
        have e0 : ((k : Int) == (k : Int)) = true := by simp
        have e2 : ((k : Int) != (k : Int)) = false := by simp
        go_wp2
        refine wp_region_quiet_lit (by kernel_rfl) (by kernel_rfl) ?_
        repeat (
          with_reducible refine wpQuiet_step (fun Kq hKq => ?_)
          go_simp
          first
            | (with_reducible refine hKq _ ?_; clear hKq Kq)
            | (with_reducible refine q_else (by simp [undef]) ?_
               with_reducible refine hKq _ ?_
               clear hKq Kq)
            | (apply Exists.intro
               with_reducible refine ⟨fun _ => ?_, hKq _ ?_⟩
               (fail)
               clear hKq Kq))
        with_reducible refine wpQuiet_nil ?_
        intro _ hw'
        obtain ⟨nq, hw''⟩ := hw'
        subst hw''
        go_wp2
        go_roundg (N - (k + 1))
        case measure => omega
        case rel => exact ⟨k + 1, by omega, by first | rfl | simp, Lib.hid (HD.out.drewN _)⟩
      · have e0 : ((k : Int) == (K : Int)) = false := by simp; omega
        have e2 : ((k : Int) != (K : Int)) = true := by simp; omega
        have eY : (YR == YR) = true := by simp
        have ky := Lib.hid (fun d => left_q (HD.out.ld.below (B := 0) (drewN_below wr d)) (kOK_nat (k := k) (by omega)) (HY.out hkK))
        clear hkK
        go_wp2
        refine wp_region_quiet_lit (by kernel_rfl) (by kernel_rfl) ?_
        repeat (
          with_reducible refine wpQuiet_step (fun Kq hKq => ?_)
          go_simp
          first
            | (with_reducible refine hKq _ ?_; clear hKq Kq)
            | (with_reducible refine q_else (by simp [undef]) ?_
               with_reducible refine hKq _ ?_
               clear hKq Kq)
            | (apply Exists.intro
               with_reducible refine ⟨fun _ => ?_, hKq _ ?_⟩
               (go_at_call 14; exact Calls.quiet_of (ky.out _))
               clear hKq Kq))
        with_reducible refine wpQuiet_nil ?_
        intro _ hw'
        obtain ⟨nq, hw''⟩ := hw'
        subst hw''
        go_wp2
        go_roundg (N - (k + 1))
        case measure => omega
        case rel => exact ⟨k + 1, by omega, by first | rfl | simp, Lib.hid (HD.out.drewN _)⟩
    · obtain rfl : k = N := by omega
      have p1 : ¬ (k : Int) < (k : Int) := by omega
      have hL := HD.out.ld
      have q1 := Lib.hid (fun d => left_q (hL.below (B := 0) (drewN_below wr d)) (k := -1) (by unfold kOK; decide) (leftV_out (by omega)))
      have q2 := Lib.hid (fun d => left_q (hL.below (B := 0) (drewN_below wr d)) (k := (k : Int)) (kOK_nat (by omega)) (leftV_out (by have := HN.out; omega)))
      obtain ⟨V, hV⟩ : ∃ V, V = leftV ts LF (K : Int) := ⟨_, rfl⟩
      have HV := Lib.hid hV
      have q3 := Lib.hid (fun d => left_q (hL.below (B := 0) (drewN_below wr d)) (k := (K : Int)) HKO.out HV.out.symm)
      have v0 : (0 : Int) ≤ V := by rw [HV.out]; exact HLD.out.1
      have v1 : V ≤ R := by rw [HV.out]; exact HLD.out.2
      have cR := HC.out wr HD.out.bel
      clear hV hL
      go_wp2
      refine wp_region_quiet_lit (by kernel_rfl) (by kernel_rfl) ?_
      repeat (
        with_reducible refine wpQuiet_step (fun Kq hKq => ?_)
        go_simp
        first
          | (with_reducible refine hKq _ ?_; clear hKq Kq)
          | (with_reducible refine q_else (by simp [undef]) ?_
             with_reducible refine hKq _ ?_
             clear hKq Kq)
          | (apply Exists.intro
             with_reducible refine ⟨fun _ => ?_, hKq _ ?_⟩
             (first | (go_at_call 14; with_reducible exact Calls.quiet_of (q1.out _)) | (go_at_call 14; with_reducible exact Calls.quiet_of (q2.out _)) | (go_at_call 14; with_reducible exact Calls.quiet_of (q3.out _)))
             clear hKq Kq))
      with_reducible refine wpQuiet_nil ?_
      intro _ hw'
      obtain ⟨nq, hw''⟩ := hw'
      subst hw''
      go_wp2
      go_ret
      exact ⟨rfl, below_drewN HD.out.bel _⟩
end Go.Proofs.Ytegfjndlkjfepaa
