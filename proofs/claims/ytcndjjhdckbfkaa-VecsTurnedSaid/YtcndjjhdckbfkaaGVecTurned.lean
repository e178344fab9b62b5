/- VecsTurned: its walks. -/
import Derived.Test.YtcndjjhdckbfkaaGVecK
namespace Go.Proofs.Ytcndjjhdckbfkaa
open Go Go.Proofs Go.RowKit Go.Shelf Nu

attribute [local go_sem] Oper.semAt_some

set_option maxRecDepth 100000 in
set_option maxHeartbeats 8000000 in
theorem turned_great {w : World} {a1 a2 : Option Addr} {n1 n2 c1 c2 : Nat} {q1 q2 : List Qr} (h1 : GOK w (a1, n1, c1, q1)) (h2 : GOK w (a2, n2, c2, q2)) (hg : ([(a1, n1, c1, q1), (a2, n2, c2, q2)] : List GI).any gbig = true) :
    Calls Try.prog 3 #[.slice a1 n1 c1, .slice a2 n2 c2] w fun e w' => e = .returned (.bool true) ∧ Below w.heap.size w w' := by
  have HG := Lib.hid hg; clear hg
  have V1 := Lib.hid h1; have V2 := Lib.hid h2; clear h1 h2
  go_enter Try.func3, Try.ntmps3
  go_wp2_with fail
  refine (v_alive _).mono ?_
  rintro e w1 ⟨rfl, rr⟩
  replace V1 := Lib.hid (V1.out.below rr); replace V2 := Lib.hid (V2.out.below rr); have HL := Lib.hid rr; clear rr
  go_wp2_with fail
  refine (v_great (W := w1) [(a1, n1, c1, q1), (a2, n2, c2, q2)] rfl rfl (by simp) (gokc V1.out (gokc V2.out (gok0 _))) true HG.out.symm).mono ?_
  rintro e w2 ⟨rfl, rr⟩
  replace V1 := Lib.hid (V1.out.below rr); replace V2 := Lib.hid (V2.out.below rr); replace HL := Lib.hid (then_below HL.out rr); clear rr
  go_wp2_with fail
  refine (v_alive _).mono ?_
  rintro e w3 ⟨rfl, rr⟩
  replace V1 := Lib.hid (V1.out.below rr); replace V2 := Lib.hid (V2.out.below rr); replace HL := Lib.hid (then_below HL.out rr); clear rr
  go_wp2_with fail
  go_ret
  exact ⟨rfl, HL.out⟩
set_option maxRecDepth 100000 in
set_option maxHeartbeats 8000000 in
theorem turned_len {w : World} {a1 a2 : Option Addr} {n1 n2 c1 c2 : Nat} {q1 q2 : List Qr} (h1 : GOK w (a1, n1, c1, q1)) (h2 : GOK w (a2, n2, c2, q2)) (hg : ([(a1, n1, c1, q1), (a2, n2, c2, q2)] : List GI).any gbig = false) (hn : n1 ≠ n2) :
    Calls Try.prog 3 #[.slice a1 n1 c1, .slice a2 n2 c2] w fun e w' => e = .returned (.bool true) ∧ Below w.heap.size w w' := by
  have HG := Lib.hid hg; clear hg
  have j1 : ((n1 : Int) != (n2 : Int)) = true := by simp; omega
  clear hn
  have V1 := Lib.hid h1; have V2 := Lib.hid h2; clear h1 h2
  go_enter Try.func3, Try.ntmps3
  go_wp2_with fail
  refine (v_alive _).mono ?_
  rintro e w1 ⟨rfl, rr⟩
  replace V1 := Lib.hid (V1.out.below rr); replace V2 := Lib.hid (V2.out.below rr); have HL := Lib.hid rr; clear rr
  go_wp2_with fail
  refine (v_great (W := w1) [(a1, n1, c1, q1), (a2, n2, c2, q2)] rfl rfl (by simp) (gokc V1.out (gokc V2.out (gok0 _))) false HG.out.symm).mono ?_
  rintro e w2 ⟨rfl, rr⟩
  replace V1 := Lib.hid (V1.out.below rr); replace V2 := Lib.hid (V2.out.below rr); replace HL := Lib.hid (then_below HL.out rr); clear rr
  go_wp2_with fail
  refine (v_alive _).mono ?_
  rintro e w3 ⟨rfl, rr⟩
  replace V1 := Lib.hid (V1.out.below rr); replace V2 := Lib.hid (V2.out.below rr); replace HL := Lib.hid (then_below HL.out rr); clear rr
  go_wp2_with fail
  go_ret
  exact ⟨rfl, HL.out⟩
set_option maxRecDepth 100000 in
set_option maxHeartbeats 8000000 in
theorem turned_bad1 {w : World} {a1 a2 : Option Addr} {n1 n2 c1 c2 : Nat} {q1 q2 : List Qr} (h1 : GOK w (a1, n1, c1, q1)) (h2 : GOK w (a2, n2, c2, q2)) (hg : ([(a1, n1, c1, q1), (a2, n2, c2, q2)] : List GI).any gbig = false) (hn : n1 = n2) (f1 : qrows q1) (f2 : qrows q2) (k1 : q1.all qok = false) :
    Calls Try.prog 3 #[.slice a1 n1 c1, .slice a2 n2 c2] w fun e w' => e = .returned (.bool true) ∧ Below w.heap.size w w' := by
  have HG := Lib.hid hg; have HF1 := Lib.hid f1; have HF2 := Lib.hid f2; have HK1 := Lib.hid k1; clear hg f1 f2 k1
  subst hn
  have j1 : ((n1 : Int) != (n1 : Int)) = false := by simp
  have V1 := Lib.hid h1; have V2 := Lib.hid h2; clear h1 h2
  go_enter Try.func3, Try.ntmps3
  go_wp2_with fail
  refine (v_alive _).mono ?_
  rintro e w1 ⟨rfl, rr⟩
  replace V1 := Lib.hid (V1.out.below rr); replace V2 := Lib.hid (V2.out.below rr); have HL := Lib.hid rr; clear rr
  go_wp2_with fail
  refine (v_great (W := w1) [(a1, n1, c1, q1), (a2, n1, c2, q2)] rfl rfl (by simp) (gokc V1.out (gokc V2.out (gok0 _))) false HG.out.symm).mono ?_
  rintro e w2 ⟨rfl, rr⟩
  replace V1 := Lib.hid (V1.out.below rr); replace V2 := Lib.hid (V2.out.below rr); replace HL := Lib.hid (then_below HL.out rr); clear rr
  go_wp2_with fail
  refine (v_check false HK1.out.symm V1.out.1 HF1.out).mono ?_
  rintro e w3 ⟨rfl, rr⟩
  replace V1 := Lib.hid (V1.out.below rr); replace V2 := Lib.hid (V2.out.below rr); replace HL := Lib.hid (then_below HL.out rr); clear rr
  go_wp2_with fail
  refine (v_alive _).mono ?_
  rintro e w4 ⟨rfl, rr⟩
  replace V1 := Lib.hid (V1.out.below rr); replace V2 := Lib.hid (V2.out.below rr); replace HL := Lib.hid (then_below HL.out rr); clear rr
  go_wp2_with fail
  go_ret
  exact ⟨rfl, HL.out⟩
set_option maxRecDepth 100000 in
set_option maxHeartbeats 8000000 in
theorem turned_bad2 {w : World} {a1 a2 : Option Addr} {n1 n2 c1 c2 : Nat} {q1 q2 : List Qr} (h1 : GOK w (a1, n1, c1, q1)) (h2 : GOK w (a2, n2, c2, q2)) (hg : ([(a1, n1, c1, q1), (a2, n2, c2, q2)] : List GI).any gbig = false) (hn : n1 = n2) (f1 : qrows q1) (f2 : qrows q2) (k1 : q1.all qok = true) (k2 : q2.all qok = false) :
    Calls Try.prog 3 #[.slice a1 n1 c1, .slice a2 n2 c2] w fun e w' => e = .returned (.bool true) ∧ Below w.heap.size w w' := by
  have HG := Lib.hid hg; have HF1 := Lib.hid f1; have HF2 := Lib.hid f2; have HK1 := Lib.hid k1; clear hg f1 f2 k1
  have HK2 := Lib.hid k2; clear k2
  subst hn
  have j1 : ((n1 : Int) != (n1 : Int)) = false := by simp
  have V1 := Lib.hid h1; have V2 := Lib.hid h2; clear h1 h2
  go_enter Try.func3, Try.ntmps3
  go_wp2_with fail
  refine (v_alive _).mono ?_
  rintro e w1 ⟨rfl, rr⟩
  replace V1 := Lib.hid (V1.out.below rr); replace V2 := Lib.hid (V2.out.below rr); have HL := Lib.hid rr; clear rr
  go_wp2_with fail
  refine (v_great (W := w1) [(a1, n1, c1, q1), (a2, n1, c2, q2)] rfl rfl (by simp) (gokc V1.out (gokc V2.out (gok0 _))) false HG.out.symm).mono ?_
  rintro e w2 ⟨rfl, rr⟩
  replace V1 := Lib.hid (V1.out.below rr); replace V2 := Lib.hid (V2.out.below rr); replace HL := Lib.hid (then_below HL.out rr); clear rr
  go_wp2_with fail
  refine (v_check true HK1.out.symm V1.out.1 HF1.out).mono ?_
  rintro e w3 ⟨rfl, rr⟩
  replace V1 := Lib.hid (V1.out.below rr); replace V2 := Lib.hid (V2.out.below rr); replace HL := Lib.hid (then_below HL.out rr); clear rr
  go_wp2_with fail
  refine (v_check false HK2.out.symm V2.out.1 HF2.out).mono ?_
  rintro e w4 ⟨rfl, rr⟩
  replace V1 := Lib.hid (V1.out.below rr); replace V2 := Lib.hid (V2.out.below rr); replace HL := Lib.hid (then_below HL.out rr); clear rr
  go_wp2_with fail
  refine (v_alive _).mono ?_
  rintro e w5 ⟨rfl, rr⟩
  replace V1 := Lib.hid (V1.out.below rr); replace V2 := Lib.hid (V2.out.below rr); replace HL := Lib.hid (then_below HL.out rr); clear rr
  go_wp2_with fail
  go_ret
  exact ⟨rfl, HL.out⟩
set_option maxRecDepth 100000 in
set_option maxHeartbeats 8000000 in
theorem turned_near {w : World} {a1 a2 : Option Addr} {n c1 c2 : Nat} {xs ys : List Rat} (h1 : GOK w (a1, n, c1, xs.map qr)) (h2 : GOK w (a2, n, c2, ys.map qr)) (hg : ([(a1, n, c1, xs.map qr), (a2, n, c2, ys.map qr)] : List GI).any gbig = false) (h30 : n ≤ 30) (hw1 : wts xs ≤ 300) (hw2 : wts ys ≤ 300) :
    Calls Try.prog 3 #[.slice a1 n c1, .slice a2 n c2] w fun e w' => e = .returned (.bool true) ∧ Below w.heap.size w w' := by
  have HG := Lib.hid hg; clear hg
  have V1 := Lib.hid h1; have V2 := Lib.hid h2; clear h1 h2
  have l1 := wts_len xs
  have l2 := wts_len ys
  have hz1 := wts_zeros n
  have hlx : xs.length = n := by have := V1.out.1.addr.1; simpa using this.symm
  have F1 : Hid (qrows (xs.map qr)) := Lib.hid ⟨fit_qrs (by omega), by simp; omega⟩
  have F2 : Hid (qrows (ys.map qr)) := Lib.hid ⟨fit_qrs (by omega), by simp; omega⟩
  have hz0 : dot xs (zeros n) = 0 := by rw [← hlx]; exact dot_zeros xs
  have hww : wts xs + wts (zeros n) ≤ 8900 := by omega
  have hwx : wts xs ≤ 9000 := by omega
  have hwz : wts (zeros n) ≤ 9000 := by omega
  have hn100 : n ≤ 100 := by omega
  have wD : wt (dot xs ys) ≤ 9999 := by have := wt_dot xs ys; omega
  have wS : wt (dot xs xs) ≤ 9999 := by have := wt_dot xs xs; omega
  have hcm : dot ys xs = dot xs ys := dot_comm ys xs
  have hself := dot_self xs
  rw [hlx] at hself
  obtain ⟨D, hD⟩ : ∃ D, D = dot xs ys := ⟨_, rfl⟩
  obtain ⟨S, hS⟩ : ∃ S, S = dot xs xs := ⟨_, rfl⟩
  rw [← hD] at wD hcm
  rw [← hS] at wS hself
  obtain ⟨z, hz⟩ : ∃ z, z = rsg S 0 := ⟨_, rfl⟩
  obtain ⟨R, hR⟩ : ∃ R, R = decide (xs = zeros n) := ⟨_, rfl⟩
  have j2 : decide (0 ≤ z) = true := by
    refine decide_eq_true ?_
    rw [hz]; unfold rsg
    have h : ¬ S < 0 := Rat.not_lt.2 hself.1
    rw [if_neg h]; split <;> omega
  have j3 : (z == 0) = R := by
    rw [hR, hz, Bool.eq_iff_iff, beq_iff_eq, decide_eq_true_iff, rsg_zero]
    exact hself.2
  have j4 : (0 : Int) ≤ z := of_decide_eq_true j2
  have HX := Lib.hid (show rsg S 0 = z from hz.symm)
  have hsum : wts xs + wts ys ≤ 8900 := by omega
  have hsum2 : wts ys + wts xs ≤ 8900 := by omega
  have hsum3 : wts xs + wts xs ≤ 8900 := by omega
  have Hc : Hid (dot ys xs = D) := Lib.hid hcm
  have HD := Lib.hid hD.symm
  have HS := Lib.hid hS.symm
  have H0 := Lib.hid hz0
  have HR := Lib.hid hR
  have hz3 : rsg (0 : Rat) 0 = 0 := (rsg_zero 0 0).2 rfl
  have HZ3 := Lib.hid hz3
  have w0 : wt 0 ≤ 9999 := by rw [wt_zero]; omega
  clear hD hS hz hR hcm hself hz0 hlx l1 l2 hz1 hz3
  have j1 : ((n : Int) != (n : Int)) = false := by simp
  go_enter Try.func3, Try.ntmps3
  go_wp2_with fail
  refine (v_alive _).mono ?_
  rintro e w1 ⟨rfl, rr⟩
  replace V1 := Lib.hid (V1.out.below rr); replace V2 := Lib.hid (V2.out.below rr); have HL := Lib.hid rr; clear rr
  go_wp2_with fail
  refine (v_great (W := w1) [(a1, n, c1, xs.map qr), (a2, n, c2, ys.map qr)] rfl rfl (by simp) (gokc V1.out (gokc V2.out (gok0 _))) false HG.out.symm).mono ?_
  rintro e w2 ⟨rfl, rr⟩
  replace V1 := Lib.hid (V1.out.below rr); replace V2 := Lib.hid (V2.out.below rr); replace HL := Lib.hid (then_below HL.out rr); clear rr
  go_wp2_with fail
  refine (v_check true (all_qok_qr _).symm V1.out.1 F1.out).mono ?_
  rintro e w3 ⟨rfl, rr⟩
  replace V1 := Lib.hid (V1.out.below rr); replace V2 := Lib.hid (V2.out.below rr); replace HL := Lib.hid (then_below HL.out rr); clear rr
  go_wp2_with fail
  refine (v_check true (all_qok_qr _).symm V2.out.1 F2.out).mono ?_
  rintro e w4 ⟨rfl, rr⟩
  replace V1 := Lib.hid (V1.out.below rr); replace V2 := Lib.hid (V2.out.below rr); replace HL := Lib.hid (then_below HL.out rr); clear rr
  go_wp2_with fail
  refine (k_dot D HD.out hsum V1.out.1 V2.out.1).mono ?_
  rintro e w5 ⟨ad1, kd1, od1, rd1, rfl, g, g', rr⟩
  replace V1 := Lib.hid (V1.out.below rr); replace V2 := Lib.hid (V2.out.below rr); replace HL := Lib.hid (then_below HL.out rr); have Gd1 := Lib.hid g; have Kd1 := Lib.hid g'; clear rr g
  have al := (Below.refl (w5).heap.size (w5)).alloc (Nat.le_refl _) (.cells #[.bool (qr D).1, .slice ad1 (qr D).2.1.length kd1, .slice od1 (qr D).2.2.length rd1] 31)
  replace V1 := Lib.hid (V1.out.below al); replace V2 := Lib.hid (V2.out.below al); replace Gd1 := Lib.hid (Gd1.out.below al); replace Kd1 := Lib.hid (Kd1.out.below al); replace HL := Lib.hid (then_below HL.out al); have Nd1 := Lib.hid (BoxN.new (w5) 31 #[.bool (qr D).1, .slice ad1 (qr D).2.1.length kd1, .slice od1 (qr D).2.2.length rd1]); clear al
  go_wp2_with fail
  refine (k_dot D Hc.out hsum2 V2.out.1 V1.out.1).mono ?_
  rintro e w6 ⟨ad2, kd2, od2, rd2, rfl, g, g', rr⟩
  replace V1 := Lib.hid (V1.out.below rr); replace V2 := Lib.hid (V2.out.below rr); replace Gd1 := Lib.hid (Gd1.out.below rr); replace Kd1 := Lib.hid (Kd1.out.below rr); replace Nd1 := Lib.hid (BoxN.under Nd1.out rr); replace HL := Lib.hid (then_below HL.out rr); have Gd2 := Lib.hid g; have Kd2 := Lib.hid g'; clear rr g
  have al := (Below.refl (w6).heap.size (w6)).alloc (Nat.le_refl _) (.cells #[.bool (qr D).1, .slice ad2 (qr D).2.1.length kd2, .slice od2 (qr D).2.2.length rd2] 31)
  replace V1 := Lib.hid (V1.out.below al); replace V2 := Lib.hid (V2.out.below al); replace Gd1 := Lib.hid (Gd1.out.below al); replace Kd1 := Lib.hid (Kd1.out.below al); replace Nd1 := Lib.hid (BoxN.under Nd1.out al); replace Gd2 := Lib.hid (Gd2.out.below al); replace Kd2 := Lib.hid (Kd2.out.below al); replace HL := Lib.hid (then_below HL.out al); have Nd2 := Lib.hid (BoxN.new (w6) 31 #[.bool (qr D).1, .slice ad2 (qr D).2.1.length kd2, .slice od2 (qr D).2.2.length rd2]); clear al
  go_wp2_with fail
  refine (k_zero n hn100).mono ?_
  rintro e w7 ⟨az, cz, rfl, hv, rr⟩
  replace V1 := Lib.hid (V1.out.below rr); replace V2 := Lib.hid (V2.out.below rr); replace Gd1 := Lib.hid (Gd1.out.below rr); replace Kd1 := Lib.hid (Kd1.out.below rr); replace Nd1 := Lib.hid (BoxN.under Nd1.out rr); replace Gd2 := Lib.hid (Gd2.out.below rr); replace Kd2 := Lib.hid (Kd2.out.below rr); replace Nd2 := Lib.hid (BoxN.under Nd2.out rr); replace HL := Lib.hid (then_below HL.out rr); have VZ := Lib.hid hv; clear rr hv
  go_wp2_with fail
  refine (k_dot 0 H0.out hww V1.out.1 VZ.out).mono ?_
  rintro e w8 ⟨ad3, kd3, od3, rd3, rfl, g, g', rr⟩
  replace V1 := Lib.hid (V1.out.below rr); replace V2 := Lib.hid (V2.out.below rr); replace Gd1 := Lib.hid (Gd1.out.below rr); replace Kd1 := Lib.hid (Kd1.out.below rr); replace Nd1 := Lib.hid (BoxN.under Nd1.out rr); replace Gd2 := Lib.hid (Gd2.out.below rr); replace Kd2 := Lib.hid (Kd2.out.below rr); replace Nd2 := Lib.hid (BoxN.under Nd2.out rr); replace VZ := Lib.hid (VZ.out.below rr); replace HL := Lib.hid (then_below HL.out rr); have Gd3 := Lib.hid g; have Kd3 := Lib.hid g'; clear rr g
  have al := (Below.refl (w8).heap.size (w8)).alloc (Nat.le_refl _) (.cells #[.bool (qr 0).1, .slice ad3 (qr 0).2.1.length kd3, .slice od3 (qr 0).2.2.length rd3] 31)
  replace V1 := Lib.hid (V1.out.below al); replace V2 := Lib.hid (V2.out.below al); replace Gd1 := Lib.hid (Gd1.out.below al); replace Kd1 := Lib.hid (Kd1.out.below al); replace Nd1 := Lib.hid (BoxN.under Nd1.out al); replace Gd2 := Lib.hid (Gd2.out.below al); replace Kd2 := Lib.hid (Kd2.out.below al); replace Nd2 := Lib.hid (BoxN.under Nd2.out al); replace VZ := Lib.hid (VZ.out.below al); replace Gd3 := Lib.hid (Gd3.out.below al); replace Kd3 := Lib.hid (Kd3.out.below al); replace HL := Lib.hid (then_below HL.out al); have Nd3 := Lib.hid (BoxN.new (w8) 31 #[.bool (qr 0).1, .slice ad3 (qr 0).2.1.length kd3, .slice od3 (qr 0).2.2.length rd3]); clear al
  go_wp2_with fail
  refine (k_dot S HS.out hsum3 V1.out.1 V1.out.1).mono ?_
  rintro e w9 ⟨ad4, kd4, od4, rd4, rfl, g, g', rr⟩
  replace V1 := Lib.hid (V1.out.below rr); replace V2 := Lib.hid (V2.out.below rr); replace Gd1 := Lib.hid (Gd1.out.below rr); replace Kd1 := Lib.hid (Kd1.out.below rr); replace Nd1 := Lib.hid (BoxN.under Nd1.out rr); replace Gd2 := Lib.hid (Gd2.out.below rr); replace Kd2 := Lib.hid (Kd2.out.below rr); replace Nd2 := Lib.hid (BoxN.under Nd2.out rr); replace VZ := Lib.hid (VZ.out.below rr); replace Gd3 := Lib.hid (Gd3.out.below rr); replace Kd3 := Lib.hid (Kd3.out.below rr); replace Nd3 := Lib.hid (BoxN.under Nd3.out rr); replace HL := Lib.hid (then_below HL.out rr); have Gd4 := Lib.hid g; have Kd4 := Lib.hid g'; clear rr g
  have al := (Below.refl (w9).heap.size (w9)).alloc (Nat.le_refl _) (.cells #[.bool (qr S).1, .slice ad4 (qr S).2.1.length kd4, .slice od4 (qr S).2.2.length rd4] 31)
  replace V1 := Lib.hid (V1.out.below al); replace V2 := Lib.hid (V2.out.below al); replace Gd1 := Lib.hid (Gd1.out.below al); replace Kd1 := Lib.hid (Kd1.out.below al); replace Nd1 := Lib.hid (BoxN.under Nd1.out al); replace Gd2 := Lib.hid (Gd2.out.below al); replace Kd2 := Lib.hid (Kd2.out.below al); replace Nd2 := Lib.hid (BoxN.under Nd2.out al); replace VZ := Lib.hid (VZ.out.below al); replace Gd3 := Lib.hid (Gd3.out.below al); replace Kd3 := Lib.hid (Kd3.out.below al); replace Nd3 := Lib.hid (BoxN.under Nd3.out al); replace Gd4 := Lib.hid (Gd4.out.below al); replace Kd4 := Lib.hid (Kd4.out.below al); replace HL := Lib.hid (then_below HL.out al); have Nd4 := Lib.hid (BoxN.new (w9) 31 #[.bool (qr S).1, .slice ad4 (qr S).2.1.length kd4, .slice od4 (qr S).2.2.length rd4]); clear al
  have x1_0 := Nd1.out.cell 0 _ rfl; have x1_1 := Nd1.out.cell 1 _ rfl; have x1_2 := Nd1.out.cell 2 _ rfl
  have x2_0 := Nd2.out.cell 0 _ rfl; have x2_1 := Nd2.out.cell 1 _ rfl; have x2_2 := Nd2.out.cell 2 _ rfl
  go_wp2_with fail
  refine (k_sr D wD Gd1.out Kd1.out Gd2.out Kd2.out).mono ?_
  rintro e w10 ⟨rfl, rr⟩
  replace V1 := Lib.hid (V1.out.below rr); replace V2 := Lib.hid (V2.out.below rr); replace Gd1 := Lib.hid (Gd1.out.below rr); replace Kd1 := Lib.hid (Kd1.out.below rr); replace Nd1 := Lib.hid (BoxN.under Nd1.out rr); replace Gd2 := Lib.hid (Gd2.out.below rr); replace Kd2 := Lib.hid (Kd2.out.below rr); replace Nd2 := Lib.hid (BoxN.under Nd2.out rr); replace VZ := Lib.hid (VZ.out.below rr); replace Gd3 := Lib.hid (Gd3.out.below rr); replace Kd3 := Lib.hid (Kd3.out.below rr); replace Nd3 := Lib.hid (BoxN.under Nd3.out rr); replace Gd4 := Lib.hid (Gd4.out.below rr); replace Kd4 := Lib.hid (Kd4.out.below rr); replace Nd4 := Lib.hid (BoxN.under Nd4.out rr); replace HL := Lib.hid (then_below HL.out rr); clear rr
  clear x1_0 x1_1 x1_2
  clear x2_0 x2_1 x2_2
  have x1_0 := Nd3.out.cell 0 _ rfl; have x1_1 := Nd3.out.cell 1 _ rfl; have x1_2 := Nd3.out.cell 2 _ rfl
  go_wp2_with fail
  refine (k_sign 0 0 HZ3.out w0 Gd3.out Kd3.out).mono ?_
  rintro e w11 ⟨rfl, rr⟩
  replace V1 := Lib.hid (V1.out.below rr); replace V2 := Lib.hid (V2.out.below rr); replace Gd1 := Lib.hid (Gd1.out.below rr); replace Kd1 := Lib.hid (Kd1.out.below rr); replace Nd1 := Lib.hid (BoxN.under Nd1.out rr); replace Gd2 := Lib.hid (Gd2.out.below rr); replace Kd2 := Lib.hid (Kd2.out.below rr); replace Nd2 := Lib.hid (BoxN.under Nd2.out rr); replace VZ := Lib.hid (VZ.out.below rr); replace Gd3 := Lib.hid (Gd3.out.below rr); replace Kd3 := Lib.hid (Kd3.out.below rr); replace Nd3 := Lib.hid (BoxN.under Nd3.out rr); replace Gd4 := Lib.hid (Gd4.out.below rr); replace Kd4 := Lib.hid (Kd4.out.below rr); replace Nd4 := Lib.hid (BoxN.under Nd4.out rr); replace HL := Lib.hid (then_below HL.out rr); clear rr
  clear x1_0 x1_1 x1_2
  have x1_0 := Nd4.out.cell 0 _ rfl; have x1_1 := Nd4.out.cell 1 _ rfl; have x1_2 := Nd4.out.cell 2 _ rfl
  go_wp2_with fail
  refine (k_sign S z HX.out wS Gd4.out Kd4.out).mono ?_
  rintro e w12 ⟨rfl, rr⟩
  replace V1 := Lib.hid (V1.out.below rr); replace V2 := Lib.hid (V2.out.below rr); replace Gd1 := Lib.hid (Gd1.out.below rr); replace Kd1 := Lib.hid (Kd1.out.below rr); replace Nd1 := Lib.hid (BoxN.under Nd1.out rr); replace Gd2 := Lib.hid (Gd2.out.below rr); replace Kd2 := Lib.hid (Kd2.out.below rr); replace Nd2 := Lib.hid (BoxN.under Nd2.out rr); replace VZ := Lib.hid (VZ.out.below rr); replace Gd3 := Lib.hid (Gd3.out.below rr); replace Kd3 := Lib.hid (Kd3.out.below rr); replace Nd3 := Lib.hid (BoxN.under Nd3.out rr); replace Gd4 := Lib.hid (Gd4.out.below rr); replace Kd4 := Lib.hid (Kd4.out.below rr); replace Nd4 := Lib.hid (BoxN.under Nd4.out rr); replace HL := Lib.hid (then_below HL.out rr); clear rr
  clear x1_0 x1_1 x1_2
  have x1_0 := Nd4.out.cell 0 _ rfl; have x1_1 := Nd4.out.cell 1 _ rfl; have x1_2 := Nd4.out.cell 2 _ rfl
  go_wp2_with fail
  refine (k_sign S z HX.out wS Gd4.out Kd4.out).mono ?_
  rintro e w13 ⟨rfl, rr⟩
  replace V1 := Lib.hid (V1.out.below rr); replace V2 := Lib.hid (V2.out.below rr); replace Gd1 := Lib.hid (Gd1.out.below rr); replace Kd1 := Lib.hid (Kd1.out.below rr); replace Nd1 := Lib.hid (BoxN.under Nd1.out rr); replace Gd2 := Lib.hid (Gd2.out.below rr); replace Kd2 := Lib.hid (Kd2.out.below rr); replace Nd2 := Lib.hid (BoxN.under Nd2.out rr); replace VZ := Lib.hid (VZ.out.below rr); replace Gd3 := Lib.hid (Gd3.out.below rr); replace Kd3 := Lib.hid (Kd3.out.below rr); replace Nd3 := Lib.hid (BoxN.under Nd3.out rr); replace Gd4 := Lib.hid (Gd4.out.below rr); replace Kd4 := Lib.hid (Kd4.out.below rr); replace Nd4 := Lib.hid (BoxN.under Nd4.out rr); replace HL := Lib.hid (then_below HL.out rr); clear rr
  clear x1_0 x1_1 x1_2
  go_wp2_with fail
  refine (k_zero n hn100).mono ?_
  rintro e w14 ⟨ay2, cy2, rfl, hv, rr⟩
  replace V1 := Lib.hid (V1.out.below rr); replace V2 := Lib.hid (V2.out.below rr); replace Gd1 := Lib.hid (Gd1.out.below rr); replace Kd1 := Lib.hid (Kd1.out.below rr); replace Nd1 := Lib.hid (BoxN.under Nd1.out rr); replace Gd2 := Lib.hid (Gd2.out.below rr); replace Kd2 := Lib.hid (Kd2.out.below rr); replace Nd2 := Lib.hid (BoxN.under Nd2.out rr); replace VZ := Lib.hid (VZ.out.below rr); replace Gd3 := Lib.hid (Gd3.out.below rr); replace Kd3 := Lib.hid (Kd3.out.below rr); replace Nd3 := Lib.hid (BoxN.under Nd3.out rr); replace Gd4 := Lib.hid (Gd4.out.below rr); replace Kd4 := Lib.hid (Kd4.out.below rr); replace Nd4 := Lib.hid (BoxN.under Nd4.out rr); replace HL := Lib.hid (then_below HL.out rr); have VY := Lib.hid hv; clear rr hv
  go_wp2_with fail
  refine (v_same R HR.out V1.out.1 VY.out hwx hwz).mono ?_
  rintro e w15 ⟨rfl, rr⟩
  replace V1 := Lib.hid (V1.out.below rr); replace V2 := Lib.hid (V2.out.below rr); replace Gd1 := Lib.hid (Gd1.out.below rr); replace Kd1 := Lib.hid (Kd1.out.below rr); replace Nd1 := Lib.hid (BoxN.under Nd1.out rr); replace Gd2 := Lib.hid (Gd2.out.below rr); replace Kd2 := Lib.hid (Kd2.out.below rr); replace Nd2 := Lib.hid (BoxN.under Nd2.out rr); replace VZ := Lib.hid (VZ.out.below rr); replace Gd3 := Lib.hid (Gd3.out.below rr); replace Kd3 := Lib.hid (Kd3.out.below rr); replace Nd3 := Lib.hid (BoxN.under Nd3.out rr); replace Gd4 := Lib.hid (Gd4.out.below rr); replace Kd4 := Lib.hid (Kd4.out.below rr); replace Nd4 := Lib.hid (BoxN.under Nd4.out rr); replace VY := Lib.hid (VY.out.below rr); replace HL := Lib.hid (then_below HL.out rr); clear rr
  go_wp2_with fail
  go_ret
  exact ⟨rfl, HL.out⟩
theorem vecsTurned_any {w : World} {a1 a2 : Option Addr} {n1 n2 c1 c2 : Nat} {q1 q2 : List Qr} (h1 : GOK w (a1, n1, c1, q1)) (h2 : GOK w (a2, n2, c2, q2)) :
    Calls Try.prog 3 #[.slice a1 n1 c1, .slice a2 n2 c2] w fun e w' => e = .returned (.bool true) ∧ Below w.heap.size w w' := by
  cases hg : ([(a1, n1, c1, q1), (a2, n2, c2, q2)] : List GI).any gbig with
  | true => exact turned_great h1 h2 hg
  | false =>
    have hgg := hg
    simp only [List.any_cons, List.any_nil, Bool.or_false, Bool.or_eq_false_iff] at hgg
    have b1 := gbig_no hgg.1
    have b2 := gbig_no hgg.2
    dsimp only at b1 b2
    by_cases hn : n1 = n2
    · have e1 := h1.1.addr.1
      have e2 := h2.1.addr.1
      have f1 := qrows_of e1 b1.1 h1.2 b1.2
      have f2 := qrows_of e2 b2.1 h2.2 b2.2
      cases k1 : q1.all qok with
      | false => exact turned_bad1 h1 h2 hg hn f1 f2 k1
      | true =>
        cases k2 : q2.all qok with
        | false => exact turned_bad2 h1 h2 hg hn f1 f2 k1 k2
        | true =>
          obtain ⟨xs, rfl, _, hw1⟩ := row_of e1 h1.2 b1.2 k1
          obtain ⟨ys, rfl, _, hw2⟩ := row_of e2 h2.2 b2.2 k2
          subst hn
          exact turned_near h1 h2 hg b1.1 hw1 hw2
    · exact turned_len h1 h2 hg hn
end Go.Proofs.Ytcndjjhdckbfkaa
