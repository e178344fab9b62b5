/- Ledgers: LedgersTwo. -/
import Derived.Test.YtegfjndlkjfepaaLgB
namespace Go.Proofs.Ytegfjndlkjfepaa
open Go Go.Proofs Go.RowKit Go.Shelf
set_option linter.unusedVariables false
set_option maxRecDepth 100000

attribute [local go_sem] Oper.semAt_some
set_option maxHeartbeats 8000000 in
theorem ltwo_all {w : World} {v : Value} {ts : List Ten} {q : Nat} {n : Int} (h : Tens w v ts) (hq : q < 256) :
    Calls Try.prog 7 #[v, .int .u8 (q : Int), .int .i64 n] w fun e w' => e = .returned (.bool true) ∧ Below w.heap.size w w' := by
  have HT := Lib.hid h
  obtain ⟨a, c, rfl, hlc, hrow⟩ := h
  obtain ⟨N, hN⟩ : ∃ N, N = ts.length := ⟨_, rfl⟩
  have HN := Lib.hid hN
  rw [← hN] at hlc HT ⊢
  clear hN hrow
  go_enter Try.func7, Try.ntmps7
  go_wp2_with fail
  refine (lg_alive _).mono ?_
  rintro e w1 ⟨rfl, b1⟩
  have B1 := Lib.hid b1
  clear b1
  by_cases h16 : 16 < N
  · have l16 : (16 : Int) < (N : Int) := by omega
    go_wp2_with fail
    refine (lg_alive _).mono ?_
    rintro e w2 ⟨rfl, b2⟩
    go_wp2
    go_ret
    exact ⟨rfl, B1.out.trans (b2.mono B1.out.size)⟩
  have l16 : ¬ (16 : Int) < (N : Int) := by omega
  go_wp2_with fail
  refine (tsize_any (HT.out.below B1.out) (by have := HN.out; omega)).mono ?_
  rintro e w2 ⟨z, rfl, b2⟩
  have B2 := Lib.hid (B1.out.trans (b2.mono B1.out.size))
  clear b2 B1
  by_cases hz : 5000 < z
  · go_wp2_with fail
    refine (lg_alive _).mono ?_
    rintro e w3 ⟨rfl, b3⟩
    go_wp2
    go_ret
    exact ⟨rfl, B2.out.trans (b3.mono B2.out.size)⟩
  by_cases hm : MayT ts
  case neg =>
    go_wp2_with fail
    refine (lm_no (HT.out.below B2.out) hm).mono ?_
    rintro e w3 ⟨rfl, b3⟩
    have B3 := Lib.hid (B2.out.trans (b3.mono B2.out.size))
    clear b3
    go_wp2_with fail
    refine (lm_no (HT.out.below B3.out) hm).mono ?_
    rintro e w4 ⟨rfl, b4⟩
    go_wp2
    go_ret
    exact ⟨rfl, B3.out.trans (b4.mono B3.out.size)⟩
  have HM := Lib.hid hm
  go_wp2_with fail
  refine (lm_yes (HT.out.below B2.out) hm).mono ?_
  rintro e w3 ⟨P, own, rfl, hL, b3⟩
  have B3 := Lib.hid (B2.out.trans (b3.mono B2.out.size))
  have L3 := Lib.hid hL
  have X3 := Lib.hid B2.out.size
  clear hL b3 B2
  obtain ⟨X, hX⟩ : ∃ X, X = w2.heap.size := ⟨_, rfl⟩
  rw [← hX] at L3 X3
  clear hX
  go_wp2_with fail
  refine (lm_yes (HT.out.below B3.out) hm).mono ?_
  rintro e w4 ⟨Q, owQ, rfl, hL, b4⟩
  have D4 := Lib.hid (show L2 w w4 P X Q w3.heap.size own owQ ts (ts.map (·.r)) (ts.map (·.r)) from ⟨L3.out.below (B := 0) b4, hL, B3.out.trans (b4.mono B3.out.size), X3.out, B3.out.size, fun g h1 h2 => by have := (L3.out.blk h1).2; have := (hL.blk h2).1; omega⟩)
  clear hL b4 hm L3 X3 B3
  obtain ⟨Y, hY⟩ : ∃ Y, Y = w3.heap.size := ⟨_, rfl⟩
  rw [← hY] at D4
  clear hY
  obtain ⟨K, R, b, off, x, hKN, mK, rfl, hx, hxr, hcl⟩ := pick_any HT.out hq HN.out HM.out.few.1
  have HC := Lib.hid hcl
  have HX := Lib.hid hx
  have HXR := Lib.hid hxr
  have hN1 : ¬ (N : Int) = 0 := by omega
  have n0 : (0 : Int) ≤ (K : Int) := by omega
  have n1 : (K : Int) < (N : Int) := by omega
  have hrate := HM.out.rates HX.out
  rw [HXR.out] at hrate
  have HRT := Lib.hid hrate
  have HGD := Lib.hid (rates_getD HX.out HXR.out)
  have HKL := Lib.hid (show K < ts.length by have := HN.out; omega)
  have HKO := Lib.hid (show kOK (K : Int) from kOK_nat (by omega))
  clear hcl hx hxr hrate
  obtain ⟨E, hE⟩ : ∃ E, E = spendE ts (ts.map (·.r)) (K : Int) n := ⟨_, rfl⟩
  have HE := Lib.hid hE
  have S5 := Lib.hid (lspend_any D4.out.lx n HKO.out)
  clear hE
  go_wp2_with fail
  refine S5.out.mono ?_
  rintro e w5 ⟨rfl, hL, hk, hb⟩
  rw [← HE.out]
  have D5 := Lib.hid (D4.out.onX hL hk hb)
  clear hL hk hb S5 D4
  have S6 := Lib.hid (lspend_any D5.out.ly n HKO.out)
  go_wp2_with fail
  refine S6.out.mono ?_
  rintro e w6 ⟨rfl, hL, hk, hb⟩
  rw [← HE.out]
  have D6 := Lib.hid (D5.out.onY hL hk hb)
  clear hL hk hb S6 D5
  go_wp2_with fail
  refine (ltick_any D6.out.lx).mono ?_
  rintro e w7 ⟨rfl, hL, hk, hb⟩
  have D7 := Lib.hid (D6.out.onX hL hk hb)
  clear hL hk hb D6
  have kx := Lib.hid (fun d => left_q (D7.out.lx.below (B := 0) (drewN_below w7 d)) HKO.out (leftV_nat HKL.out HGD.out))
  have c2 := HC.out w7 D7.out.bel
  have eE : (E == E) = true := by simp
  have eR : (R == R) = true := by simp
  go_wp2
  go_quiet ((go_at_call 14; exact Calls.quiet_of (kx.out _)))
  have D8 := Lib.hid (D7.out.drewN nq)
  obtain ⟨w8, hw8⟩ : ∃ w8, w8 = w7.drewN nq := ⟨_, rfl⟩
  rw [← hw8] at D8 ⊢
  clear kx hw8 D7 c2
  have c2 := HC.out w8 D8.out.bel
  by_cases h0 : E = 0
  · have e0 : (E == 0) = true := by simpa using h0
    have e2 : (E != 0) = false := by simpa using h0
    have HE0 := Lib.hid (show spendE ts (ts.map (·.r)) (K : Int) n = 0 by rw [← HE.out]; exact h0)
    have hn := spend_zero HE0.out
    rw [HGD.out] at hn
    have ew : IntKind.i64.wrap (R - n) = R - n := IntWalk.i64_in _ (by have := HRT.out; omega)
    have ky := Lib.hid (fun d => left_q (D8.out.ly.below (B := 0) (drewN_below w8 d)) HKO.out (leftV_spend HKL.out (by simp) HE0.out HGD.out))
    have eRn : (R - n == R - n) = true := by simp
    clear hn eE h0
    go_wp2
    refine wp_region_quiet_lit (by kernel_rfl) (by kernel_rfl) ?_
    repeat (
      with_reducible refine wpQuiet_step (fun Kq hKq => ?_)
      go_simp
      first
        | (with_reducible refine hKq _ ?_; clear hKq Kq)
        | (with_reducible refine q_else (by simp [undef]) ?_
           with_reducible refine hKq _ ?_
           clear hKq Kq)
        | (apply Exists.intro
           with_reducible refine ⟨fun _ => ?_, hKq _ ?_⟩
           (go_at_call 14; exact Calls.quiet_of (ky.out _))
           clear hKq Kq))
    with_reducible refine wpQuiet_nil ?_
    intro _ hw'
    obtain ⟨nq, hw''⟩ := hw'
    subst hw''
    go_wp2
    go_ret
    exact ⟨rfl, below_drewN D8.out.bel _⟩
  · have e0 : (E == 0) = false := by simpa using h0
    have e2 : (E != 0) = true := by simpa using h0
    have ky := Lib.hid (fun d => left_q (D8.out.ly.below (B := 0) (drewN_below w8 d)) HKO.out (by rw [spendL_err (by rw [← HE.out]; exact h0), leftV_nat HKL.out HGD.out]))
    clear eE h0
    go_wp2
    refine wp_region_quiet_lit (by kernel_rfl) (by kernel_rfl) ?_
    repeat (
      with_reducible refine wpQuiet_step (fun Kq hKq => ?_)
      go_simp
      first
        | (with_reducible refine hKq _ ?_; clear hKq Kq)
        | (with_reducible refine q_else (by simp [undef]) ?_
           with_reducible refine hKq _ ?_
           clear hKq Kq)
        | (apply Exists.intro
           with_reducible refine ⟨fun _ => ?_, hKq _ ?_⟩
           (go_at_call 14; exact Calls.quiet_of (ky.out _))
           clear hKq Kq))
    with_reducible refine wpQuiet_nil ?_
    intro _ hw'
    obtain ⟨nq, hw''⟩ := hw'
    subst hw''
    go_wp2
    go_ret
    exact ⟨rfl, below_drewN D8.out.bel _⟩
end Go.Proofs.Ytegfjndlkjfepaa
