/- Ledgers: LedgersWhole. -/
import Derived.Test.YtegfjndlkjfepaaLgD3
namespace Go.Proofs.Ytegfjndlkjfepaa
open Go Go.Proofs Go.RowKit Go.Shelf
set_option linter.unusedVariables false
set_option maxRecDepth 100000

attribute [local go_sem] Oper.semAt_some
set_option maxHeartbeats 8000000 in
theorem lwhole_all {w : World} {v : Value} {ts : List Ten} {q : Nat} {u : Value} {spent : List UInt32} (h : Tens w v ts) (hq : q < 256) (hsp : RdC w u spent.length (wcells spent)) :
    Calls Try.prog 3 #[v, .int .u8 (q : Int), u] w fun e w' => e = .returned (.bool true) ∧ Below w.heap.size w w' := by
  have HT := Lib.hid h
  obtain ⟨a, c, rfl, hlc, hrow⟩ := h
  obtain ⟨N, hN⟩ : ∃ N, N = ts.length := ⟨_, rfl⟩
  have HN := Lib.hid hN
  rw [← hN] at hlc HT ⊢
  clear hN hrow
  have HSP := Lib.hid hsp
  obtain ⟨sa, sc, rfl, hsc, hsr⟩ := hsp
  have HSR := Lib.hid hsr
  clear hsr
  obtain ⟨S, hS⟩ : ∃ S, S = spent.length := ⟨_, rfl⟩
  have HSN := Lib.hid hS
  rw [← hS] at hsc ⊢
  clear hS
  go_enter Try.func3, Try.ntmps3
  go_wp2_with fail
  refine (lg_alive _).mono ?_
  rintro e w1 ⟨rfl, b1⟩
  have B1 := Lib.hid b1
  clear b1
  by_cases h16 : 16 < N
  · have l16 : (16 : Int) < (N : Int) := by omega
    go_wp2_with fail
    refine (lg_alive _).mono ?_
    rintro e w2 ⟨rfl, b2⟩
    go_wp2
    go_ret
    exact ⟨rfl, B1.out.trans (b2.mono B1.out.size)⟩
  have l16 : ¬ (16 : Int) < (N : Int) := by omega
  by_cases h100 : 100 < S
  · have l100 : (100 : Int) < (S : Int) := by omega
    go_wp2_with fail
    refine (lg_alive _).mono ?_
    rintro e w2 ⟨rfl, b2⟩
    go_wp2
    go_ret
    exact ⟨rfl, B1.out.trans (b2.mono B1.out.size)⟩
  have l100 : ¬ (100 : Int) < (S : Int) := by omega
  go_wp2_with fail
  refine (tsize_any (HT.out.below B1.out) (by have := HN.out; omega)).mono ?_
  rintro e w2 ⟨z, rfl, b2⟩
  have B2 := Lib.hid (B1.out.trans (b2.mono B1.out.size))
  clear b2 B1
  by_cases hz : 5000 < z
  · go_wp2_with fail
    refine (lg_alive _).mono ?_
    rintro e w3 ⟨rfl, b3⟩
    go_wp2
    go_ret
    exact ⟨rfl, B2.out.trans (b3.mono B2.out.size)⟩
  by_cases hm : MayT ts
  case neg =>
    go_wp2_with fail
    refine (lm_no (HT.out.below B2.out) hm).mono ?_
    rintro e w3 ⟨rfl, b3⟩
    have B3 := Lib.hid (B2.out.trans (b3.mono B2.out.size))
    clear b3
    go_wp2
    go_ret
    exact ⟨rfl, B3.out⟩
  have HM := Lib.hid hm
  go_wp2_with fail
  refine (lm_yes (HT.out.below B2.out) hm).mono ?_
  rintro e w3 ⟨P, own, rfl, hL, b3⟩
  have B3 := Lib.hid (B2.out.trans (b3.mono B2.out.size))
  have L3 := Lib.hid hL
  have X3 := Lib.hid B2.out.size
  clear hL b3 hm B2
  obtain ⟨X, hX⟩ : ∃ X, X = w2.heap.size := ⟨_, rfl⟩
  rw [← hX] at L3 X3
  clear hX
  obtain ⟨K, R, b, off, x, hKN, mK, rfl, hx, hxr, hcl⟩ := pick_any HT.out hq HN.out HM.out.few.1
  have HC := Lib.hid hcl
  have HX := Lib.hid hx
  have HXR := Lib.hid hxr
  have hN1 : ¬ (N : Int) = 0 := by omega
  have n0 : (0 : Int) ≤ (K : Int) := by omega
  have n1 : (K : Int) < (N : Int) := by omega
  have hrate := HM.out.rates HX.out
  rw [HXR.out] at hrate
  have HRT := Lib.hid hrate
  have HGD := Lib.hid (rates_getD HX.out HXR.out)
  have HKL := Lib.hid (show K < ts.length by have := HN.out; omega)
  have HKO := Lib.hid (show kOK (K : Int) from kOK_nat (by omega))
  clear hcl hx hxr hrate
  have D3 := Lib.hid (show L1 w w3 P X own ts ((ts.map (·.r)).set K (R - 0)) from ⟨by rw [set_same (by simpa using HKL.out) HGD.out]; exact L3.out, B3.out⟩)
  clear L3 B3
  have k0 : ((0 : Nat) : Int) = 0 := rfl
  go_wp2
  try simp only [mK]
  go_loopg [9, 10] S (fun g s9 s10 wr => ∃ (k : Nat) (A : Int), k + g = S ∧ s10 = .int .i64 (k : Int) ∧ s9 = .int .i64 A ∧ Hid (0 ≤ A ∧ A ≤ R) ∧ Hid (L1 w wr P X own ts ((ts.map (·.r)).set K (R - A))))
  case atStart => exact ⟨0, 0, by omega, rfl, rfl, Lib.hid ⟨by omega, by have := HRT.out; omega⟩, D3⟩
  case round =>
    clear k0 D3
    obtain ⟨k, A, hk, rfl, rfl, HA, HD⟩ := hrel
    by_cases hlt : k < S
    · obtain ⟨u, hu⟩ : ∃ u, spent[k]? = some u := ⟨_, List.getElem?_eq_getElem (by have := HSN.out; omega)⟩
      obtain ⟨sb, so, rfl, hsb, hcell⟩ := HSR.out (by have := HSN.out; omega)
      obtain ⟨m, hm⟩ : ∃ m : Nat, m = u.toNat := ⟨_, rfl⟩
      have hm32 : m < 4294967296 := by rw [hm]; exact u.toNat_lt
      have cs : wr.cell? ⟨sb, so + k, none⟩ = some (.int .u32 (m : Int)) := by
        rw [hm]
        exact (HD.out.bel.cell (p := ⟨sb, so + k, none⟩) hsb).trans (hcell k _ (by unfold wcells; rw [List.getElem?_map, hu]; rfl))
      have p0 : (0 : Int) ≤ (k : Int) := by omega
      have p1 : (k : Int) < (S : Int) := by omega
      have w2 : IntKind.i64.wrap ((k : Int) + 1) = ((k + 1 : Nat) : Int) := IntWalk.i64_in _ (by omega)
      have wm : IntKind.i64.wrap (m : Int) = (m : Int) := IntWalk.i64_in _ (by omega)
      have hA := HA.out
      have hR := HRT.out
      have wA : IntKind.i64.wrap (A + (m : Int)) = A + (m : Int) := IntWalk.i64_in _ (by omega)
      clear hu hcell hm hsb
      obtain ⟨LF, hLF⟩ : ∃ LF, LF = (ts.map (·.r)).set K (R - A) := ⟨_, rfl⟩
      have HLF := Lib.hid hLF
      have hg : LF.getD K 0 = R - A := by rw [hLF]; exact getD_set (by simpa using HKL.out)
      have HG := Lib.hid hg
      rw [← hLF] at HD
      clear hLF hg
      by_cases hfit : A + (m : Int) ≤ R
      · have hE := spend_fits (n := (m : Int)) HKL.out HG.out (by omega) (by omega)
        have K5 := Lib.hid (lspend_any HD.out.ld (m : Int) HKO.out)
        have HE := Lib.hid hE
        have cR := HC.out wr HD.out.bel
        have HAN := Lib.hid (show 0 ≤ A + (m : Int) ∧ A + (m : Int) ≤ R by omega)
        have wL : IntKind.i64.wrap (R - (A + (m : Int))) = R - (A + (m : Int)) := IntWalk.i64_in _ (by omega)
        clear hA hR hE cR
        go_wp2_with fail
        refine K5.out.mono ?_
        rintro e w5 ⟨rfl, hL, hkp, hb⟩
        rw [HE.out]
        have D5 := Lib.hid (show L1 w w5 P X own ts ((ts.map (·.r)).set K (R - (A + (m : Int)))) from ⟨by
          have h2 := hL
          unfold spendL at h2
          rw [if_pos HE.out, Int.toNat_natCast, HG.out, HLF.out, List.set_set, show R - A - (m : Int) = R - (A + (m : Int)) by omega] at h2
          exact h2, HD.out.bel.trans (hb.mono X3.out)⟩)
        clear hL hkp hb K5 cs
        have cR := HC.out w5 D5.out.bel
        have ky := Lib.hid (fun d => left_q (D5.out.ld.below (B := 0) (drewN_below w5 d)) HKO.out (leftV_nat HKL.out (getD_set (by simpa using HKL.out))))
        have d1 : decide (A + (m : Int) ≤ R) = true := decide_eq_true hfit
        have eL : (R - (A + (m : Int)) == R - (A + (m : Int))) = true := by simp
        go_wp2
        refine wp_region_quiet_lit (by kernel_rfl) (by kernel_rfl) ?_
        repeat (
          with_reducible refine wpQuiet_step (fun Kq hKq => ?_)
          go_simp
          first
            | (with_reducible refine hKq _ ?_; clear hKq Kq)
            | (with_reducible refine q_else (by simp [undef]) ?_
               with_reducible refine hKq _ ?_
               clear hKq Kq)
            | (apply Exists.intro
               with_reducible refine ⟨fun _ => ?_, hKq _ ?_⟩
               (go_at_call 14; exact Calls.quiet_of (ky.out _))
               clear hKq Kq))
        with_reducible refine wpQuiet_nil ?_
        intro _ hw'
        obtain ⟨nq, hw''⟩ := hw'
        subst hw''
        go_wp2
        go_roundg (S - (k + 1))
        case measure => omega
        case rel => exact ⟨k + 1, A + (m : Int), by omega, by first | rfl | simp, rfl, HAN, Lib.hid (D5.out.drewN _)⟩
      · have hE := spend_more (n := (m : Int)) HKL.out HG.out (by omega) (by omega)
        have K5 := Lib.hid (lspend_err HD.out.ld (m : Int) HKO.out hE (by decide))
        have cR := HC.out wr HD.out.bel
        have wL : IntKind.i64.wrap (R - A) = R - A := IntWalk.i64_in _ (by omega)
        have ky := Lib.hid (fun d => left_q (HD.out.ld.below (B := 0) (drewN_below wr d)) HKO.out (leftV_nat HKL.out HG.out))
        have d1 : decide (A + (m : Int) ≤ R) = false := decide_eq_false hfit
        have eL : (R - A == R - A) = true := by simp
        clear hA hR hE
        go_wp2_with fail
        refine K5.out.mono ?_
        rintro e w5 ⟨rfl, rfl⟩
        go_wp2
        refine wp_region_quiet_lit (by kernel_rfl) (by kernel_rfl) ?_
        repeat (
          with_reducible refine wpQuiet_step (fun Kq hKq => ?_)
          go_simp
          first
            | (with_reducible refine hKq _ ?_; clear hKq Kq)
            | (with_reducible refine q_else (by simp [undef]) ?_
               with_reducible refine hKq _ ?_
               clear hKq Kq)
            | (apply Exists.intro
               with_reducible refine ⟨fun _ => ?_, hKq _ ?_⟩
               (go_at_call 14; exact Calls.quiet_of (ky.out _))
               clear hKq Kq))
        with_reducible refine wpQuiet_nil ?_
        intro _ hw'
        obtain ⟨nq, hw''⟩ := hw'
        subst hw''
        go_wp2
        go_roundg (S - (k + 1))
        case measure => omega
        case rel => exact ⟨k + 1, A, by omega, by first | rfl | simp, rfl, HA, Lib.hid (by have := HD.out.drewN nq; rw [HLF.out] at this; exact this)⟩
    · obtain rfl : k = S := by omega
      have p1 : ¬ (k : Int) < (k : Int) := by omega
      have HI := Lib.hid (show L1e w wr P X own ts from ⟨_, HD.out⟩)
      have kt := Lib.hid (fun W (h : L1e w W P X own ts) => tick_l1 h X3.out)
      have kl := Lib.hid (fun W (h : L1 w W P X own ts (ts.map (·.r))) => left_is h.ld HKO.out (leftV_nat HKL.out HGD.out))
      have eR : (R == R) = true := by simp
      go_wp2
      go_region_held3 (fun w' => w'.cell? ⟨b, off + K * 3 + 2, none⟩ = some (.int .i64 R) ∧ L1e w w' P X own ts)
        (first
          | exact ⟨HC.out _ HI.out.drew.bel, HI.out.drew⟩
          | assumption
          | exact ⟨HC.out _ (L1.bel hT), ⟨_, hT⟩⟩
          | fail)
        (first
          | (go_at_call 15; (with_reducible refine (kt.out _ (And.right (a := _) (by assumption))).mono ?_); rintro e w5 ⟨rfl, hT⟩)
          | (go_at_call 14; (with_reducible refine (kl.out _ (by assumption)).mono ?_); rintro e w5 ⟨rfl, rfl⟩)
          | fail)
      rename_i hh
      have D9 := Lib.hid (L1e.of2 hh)
      clear hh
      go_wp2
      go_ret
      exact ⟨rfl, D9.out.bel⟩
end Go.Proofs.Ytegfjndlkjfepaa
