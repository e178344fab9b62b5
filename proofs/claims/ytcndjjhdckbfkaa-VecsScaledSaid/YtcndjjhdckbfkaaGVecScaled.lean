/- VecsScaled: its walks. -/
import Derived.Test.YtcndjjhdckbfkaaGVecK
import Derived.Deep.RegionHeld3
namespace Go.Proofs.Ytcndjjhdckbfkaa
open Go Go.Proofs Go.RowKit Go.Shelf Nu

attribute [local go_sem] Oper.semAt_some

theorem k_ofone {W : World} : Calls Try.prog 23 #[.int .i64 1] W (RAns W (1 : Rat)) := k_of 1 (by decide) (by decide)
theorem k_ofnil {W : World} : Calls Try.prog 23 #[.int .i64 0] W (RAns W (0 : Rat)) := k_of 0 (by decide) (by decide)
theorem val_wt {q : Qr} (f : Fit q) (h : q.2.1.length + q.2.2.length ≤ 300) : wt (qval q) ≤ 302 := by
  have h1 := f.is.len
  have h2 := wt_rl (qval q)
  omega

set_option maxRecDepth 100000 in
set_option maxHeartbeats 8000000 in
theorem scaled_0 {w : World} {a1 : Option Addr} {n1 c1 : Nat} {q1 : List Qr} {x y : Qr} {xa xb ya yb : Option Addr} {xc xd yc yd : Nat} (h1 : GOK w (a1, n1, c1, q1)) (g1 : Reads w (.slice xa x.2.1.length xc) x.2.1) (g2 : Reads w (.slice xb x.2.2.length xd) x.2.2) (u : Big x) (g3 : Reads w (.slice ya y.2.1.length yc) y.2.1) (g4 : Reads w (.slice yb y.2.2.length yd) y.2.2) (v : Big y) (hg : ∀ p : Option Addr, ([(a1, n1, c1, q1), (p, 2, 2, [x, y])] : List GI).any gbig = true) :
    Calls Try.prog 8 #[.slice a1 n1 c1, .agg #[.bool x.1, .slice xa x.2.1.length xc, .slice xb x.2.2.length xd], .agg #[.bool y.1, .slice ya y.2.1.length yc, .slice yb y.2.2.length yd]] w fun e w' => e = .returned (.bool true) ∧ Below w.heap.size w w' := by
  have HG := Lib.hid hg; clear hg
  have V1 := Lib.hid h1; have G1 := Lib.hid g1; have G2 := Lib.hid g2; have G3 := Lib.hid g3; have G4 := Lib.hid g4; clear h1 g1 g2 g3 g4
  have al := (Below.refl (w).heap.size (w)).alloc (Nat.le_refl _) (.cells #[.bool x.1, .slice xa x.2.1.length xc, .slice xb x.2.2.length xd] 31)
  replace V1 := Lib.hid (V1.out.below al); replace G1 := Lib.hid (G1.out.below al); replace G2 := Lib.hid (G2.out.below al); replace G3 := Lib.hid (G3.out.below al); replace G4 := Lib.hid (G4.out.below al); have HL := Lib.hid al; have NX := Lib.hid (BoxN.new (w) 31 #[.bool x.1, .slice xa x.2.1.length xc, .slice xb x.2.2.length xd]); clear al
  have NY := Lib.hid (BoxN.new1 w (.cells #[.bool x.1, .slice xa x.2.1.length xc, .slice xb x.2.2.length xd] 31) 31 #[.bool y.1, .slice ya y.2.1.length yc, .slice yb y.2.2.length yd])
  have al := (Below.refl ((w.alloc (.cells #[.bool x.1, .slice xa x.2.1.length xc, .slice xb x.2.2.length xd] 31))).heap.size ((w.alloc (.cells #[.bool x.1, .slice xa x.2.1.length xc, .slice xb x.2.2.length xd] 31)))).alloc (Nat.le_refl _) (.cells #[.bool y.1, .slice ya y.2.1.length yc, .slice yb y.2.2.length yd] 31)
  replace V1 := Lib.hid (V1.out.below al); replace G1 := Lib.hid (G1.out.below al); replace G2 := Lib.hid (G2.out.below al); replace G3 := Lib.hid (G3.out.below al); replace G4 := Lib.hid (G4.out.below al); replace NX := Lib.hid (BoxN.under NX.out al); replace HL := Lib.hid (then_below HL.out al); clear al
  go_enter Try.func8, Try.ntmps8
  go_wp2_with fail
  refine (v_alive _).mono ?_
  rintro e w1 ⟨rfl, rr⟩
  replace V1 := Lib.hid (V1.out.below rr); replace G1 := Lib.hid (G1.out.below rr); replace G2 := Lib.hid (G2.out.below rr); replace G3 := Lib.hid (G3.out.below rr); replace G4 := Lib.hid (G4.out.below rr); replace NX := Lib.hid (BoxN.under NX.out rr); replace NY := Lib.hid (BoxN.under NY.out rr); replace HL := Lib.hid (then_below HL.out rr); clear rr
  have x0_0 := NX.out.cell 0 _ rfl; have x0_1 := NX.out.cell 1 _ rfl; have x0_2 := NX.out.cell 2 _ rfl
  have x1_0 := NY.out.cell 0 _ rfl; have x1_1 := NY.out.cell 1 _ rfl; have x1_2 := NY.out.cell 2 _ rfl
  have VO := Lib.hid (k_two (q := x) (r := y) (W := w1) (m := w1.heap.size) rfl G1.out G2.out u G3.out G4.out v)
  have al := (Below.refl (w1).heap.size (w1)).alloc (Nat.le_refl _) (.cells #[.bool x.1, .slice xa x.2.1.length xc, .slice xb x.2.2.length xd, .bool y.1, .slice ya y.2.1.length yc, .slice yb y.2.2.length yd] 31)
  replace V1 := Lib.hid (V1.out.below al); replace G1 := Lib.hid (G1.out.below al); replace G2 := Lib.hid (G2.out.below al); replace G3 := Lib.hid (G3.out.below al); replace G4 := Lib.hid (G4.out.below al); replace NX := Lib.hid (BoxN.under NX.out al); replace NY := Lib.hid (BoxN.under NY.out al); replace HL := Lib.hid (then_below HL.out al); clear al
  go_wp2_with fail
  refine (k_great (W := (w1.alloc (.cells #[.bool x.1, .slice xa x.2.1.length xc, .slice xb x.2.2.length xd, .bool y.1, .slice ya y.2.1.length yc, .slice yb y.2.2.length yd] 31))) (b := w1.heap.size + 1) (by simp) [(a1, n1, c1, q1), (some ⟨w1.heap.size, 0, none⟩, 2, 2, [x, y])] rfl rfl (by simp) (gokc V1.out (gokc VO.out (gok0 _))) true (HG.out (some ⟨w1.heap.size, 0, none⟩)).symm).mono ?_
  rintro e w2 ⟨rfl, rr⟩
  replace V1 := Lib.hid (V1.out.below rr); replace G1 := Lib.hid (G1.out.below rr); replace G2 := Lib.hid (G2.out.below rr); replace G3 := Lib.hid (G3.out.below rr); replace G4 := Lib.hid (G4.out.below rr); replace NX := Lib.hid (BoxN.under NX.out rr); replace NY := Lib.hid (BoxN.under NY.out rr); clear VO; replace HL := Lib.hid (then_below HL.out rr); clear rr
  clear x0_0 x0_1 x0_2
  clear x1_0 x1_1 x1_2
  go_wp2_with fail
  refine (v_alive _).mono ?_
  rintro e w3 ⟨rfl, rr⟩
  replace V1 := Lib.hid (V1.out.below rr); replace G1 := Lib.hid (G1.out.below rr); replace G2 := Lib.hid (G2.out.below rr); replace G3 := Lib.hid (G3.out.below rr); replace G4 := Lib.hid (G4.out.below rr); replace NX := Lib.hid (BoxN.under NX.out rr); replace NY := Lib.hid (BoxN.under NY.out rr); replace HL := Lib.hid (then_below HL.out rr); clear rr
  go_wp2_with fail
  go_ret
  exact ⟨rfl, HL.out⟩
set_option maxRecDepth 100000 in
set_option maxHeartbeats 8000000 in
theorem scaled_1 {w : World} {a1 : Option Addr} {n1 c1 : Nat} {q1 : List Qr} {x y : Qr} {xa xb ya yb : Option Addr} {xc xd yc yd : Nat} (h1 : GOK w (a1, n1, c1, q1)) (g1 : Reads w (.slice xa x.2.1.length xc) x.2.1) (g2 : Reads w (.slice xb x.2.2.length xd) x.2.2) (u : Big x) (g3 : Reads w (.slice ya y.2.1.length yc) y.2.1) (g4 : Reads w (.slice yb y.2.2.length yd) y.2.2) (v : Big y) (hg : ∀ p : Option Addr, ([(a1, n1, c1, q1), (p, 2, 2, [x, y])] : List GI).any gbig = false) (f1 : qrows q1) (k1 : q1.all qok = false) :
    Calls Try.prog 8 #[.slice a1 n1 c1, .agg #[.bool x.1, .slice xa x.2.1.length xc, .slice xb x.2.2.length xd], .agg #[.bool y.1, .slice ya y.2.1.length yc, .slice yb y.2.2.length yd]] w fun e w' => e = .returned (.bool true) ∧ Below w.heap.size w w' := by
  have HG := Lib.hid hg; clear hg
  have HF1 := Lib.hid f1; have HK1 := Lib.hid k1; clear f1 k1
  have V1 := Lib.hid h1; have G1 := Lib.hid g1; have G2 := Lib.hid g2; have G3 := Lib.hid g3; have G4 := Lib.hid g4; clear h1 g1 g2 g3 g4
  have al := (Below.refl (w).heap.size (w)).alloc (Nat.le_refl _) (.cells #[.bool x.1, .slice xa x.2.1.length xc, .slice xb x.2.2.length xd] 31)
  replace V1 := Lib.hid (V1.out.below al); replace G1 := Lib.hid (G1.out.below al); replace G2 := Lib.hid (G2.out.below al); replace G3 := Lib.hid (G3.out.below al); replace G4 := Lib.hid (G4.out.below al); have HL := Lib.hid al; have NX := Lib.hid (BoxN.new (w) 31 #[.bool x.1, .slice xa x.2.1.length xc, .slice xb x.2.2.length xd]); clear al
  have NY := Lib.hid (BoxN.new1 w (.cells #[.bool x.1, .slice xa x.2.1.length xc, .slice xb x.2.2.length xd] 31) 31 #[.bool y.1, .slice ya y.2.1.length yc, .slice yb y.2.2.length yd])
  have al := (Below.refl ((w.alloc (.cells #[.bool x.1, .slice xa x.2.1.length xc, .slice xb x.2.2.length xd] 31))).heap.size ((w.alloc (.cells #[.bool x.1, .slice xa x.2.1.length xc, .slice xb x.2.2.length xd] 31)))).alloc (Nat.le_refl _) (.cells #[.bool y.1, .slice ya y.2.1.length yc, .slice yb y.2.2.length yd] 31)
  replace V1 := Lib.hid (V1.out.below al); replace G1 := Lib.hid (G1.out.below al); replace G2 := Lib.hid (G2.out.below al); replace G3 := Lib.hid (G3.out.below al); replace G4 := Lib.hid (G4.out.below al); replace NX := Lib.hid (BoxN.under NX.out al); replace HL := Lib.hid (then_below HL.out al); clear al
  go_enter Try.func8, Try.ntmps8
  go_wp2_with fail
  refine (v_alive _).mono ?_
  rintro e w1 ⟨rfl, rr⟩
  replace V1 := Lib.hid (V1.out.below rr); replace G1 := Lib.hid (G1.out.below rr); replace G2 := Lib.hid (G2.out.below rr); replace G3 := Lib.hid (G3.out.below rr); replace G4 := Lib.hid (G4.out.below rr); replace NX := Lib.hid (BoxN.under NX.out rr); replace NY := Lib.hid (BoxN.under NY.out rr); replace HL := Lib.hid (then_below HL.out rr); clear rr
  have x0_0 := NX.out.cell 0 _ rfl; have x0_1 := NX.out.cell 1 _ rfl; have x0_2 := NX.out.cell 2 _ rfl
  have x1_0 := NY.out.cell 0 _ rfl; have x1_1 := NY.out.cell 1 _ rfl; have x1_2 := NY.out.cell 2 _ rfl
  have VO := Lib.hid (k_two (q := x) (r := y) (W := w1) (m := w1.heap.size) rfl G1.out G2.out u G3.out G4.out v)
  have al := (Below.refl (w1).heap.size (w1)).alloc (Nat.le_refl _) (.cells #[.bool x.1, .slice xa x.2.1.length xc, .slice xb x.2.2.length xd, .bool y.1, .slice ya y.2.1.length yc, .slice yb y.2.2.length yd] 31)
  replace V1 := Lib.hid (V1.out.below al); replace G1 := Lib.hid (G1.out.below al); replace G2 := Lib.hid (G2.out.below al); replace G3 := Lib.hid (G3.out.below al); replace G4 := Lib.hid (G4.out.below al); replace NX := Lib.hid (BoxN.under NX.out al); replace NY := Lib.hid (BoxN.under NY.out al); replace HL := Lib.hid (then_below HL.out al); clear al
  go_wp2_with fail
  refine (k_great (W := (w1.alloc (.cells #[.bool x.1, .slice xa x.2.1.length xc, .slice xb x.2.2.length xd, .bool y.1, .slice ya y.2.1.length yc, .slice yb y.2.2.length yd] 31))) (b := w1.heap.size + 1) (by simp) [(a1, n1, c1, q1), (some ⟨w1.heap.size, 0, none⟩, 2, 2, [x, y])] rfl rfl (by simp) (gokc V1.out (gokc VO.out (gok0 _))) false (HG.out (some ⟨w1.heap.size, 0, none⟩)).symm).mono ?_
  rintro e w2 ⟨rfl, rr⟩
  replace V1 := Lib.hid (V1.out.below rr); replace G1 := Lib.hid (G1.out.below rr); replace G2 := Lib.hid (G2.out.below rr); replace G3 := Lib.hid (G3.out.below rr); replace G4 := Lib.hid (G4.out.below rr); replace NX := Lib.hid (BoxN.under NX.out rr); replace NY := Lib.hid (BoxN.under NY.out rr); clear VO; replace HL := Lib.hid (then_below HL.out rr); clear rr
  clear x0_0 x0_1 x0_2
  clear x1_0 x1_1 x1_2
  go_wp2_with fail
  refine (v_check false HK1.out.symm V1.out.1 HF1.out).mono ?_
  rintro e w3 ⟨rfl, rr⟩
  replace V1 := Lib.hid (V1.out.below rr); replace G1 := Lib.hid (G1.out.below rr); replace G2 := Lib.hid (G2.out.below rr); replace G3 := Lib.hid (G3.out.below rr); replace G4 := Lib.hid (G4.out.below rr); replace NX := Lib.hid (BoxN.under NX.out rr); replace NY := Lib.hid (BoxN.under NY.out rr); replace HL := Lib.hid (then_below HL.out rr); clear rr
  go_wp2_with fail
  refine (v_alive _).mono ?_
  rintro e w4 ⟨rfl, rr⟩
  replace V1 := Lib.hid (V1.out.below rr); replace G1 := Lib.hid (G1.out.below rr); replace G2 := Lib.hid (G2.out.below rr); replace G3 := Lib.hid (G3.out.below rr); replace G4 := Lib.hid (G4.out.below rr); replace NX := Lib.hid (BoxN.under NX.out rr); replace NY := Lib.hid (BoxN.under NY.out rr); replace HL := Lib.hid (then_below HL.out rr); clear rr
  go_wp2_with fail
  go_ret
  exact ⟨rfl, HL.out⟩
set_option maxRecDepth 100000 in
set_option maxHeartbeats 8000000 in
theorem scaled_near {w : World} {a1 : Option Addr} {n1 c1 : Nat} {xs : List Rat} {x y : Qr} {xa xb ya yb : Option Addr} {xc xd yc yd : Nat} (h1 : GOK w (a1, n1, c1, xs.map qr)) (g1 : Reads w (.slice xa x.2.1.length xc) x.2.1) (g2 : Reads w (.slice xb x.2.2.length xd) x.2.2) (u : Big x) (g3 : Reads w (.slice ya y.2.1.length yc) y.2.1) (g4 : Reads w (.slice yb y.2.2.length yd) y.2.2) (v : Big y) (hg : ∀ p : Option Addr, ([(a1, n1, c1, xs.map qr), (p, 2, 2, [x, y])] : List GI).any gbig = false) (h30 : n1 ≤ 30) (hw1 : wts xs ≤ 300) (fx : Fit x) (fy : Fit y) (lx : x.2.1.length + x.2.2.length ≤ 300) (ly : y.2.1.length + y.2.2.length ≤ 300) :
    Calls Try.prog 8 #[.slice a1 n1 c1, .agg #[.bool x.1, .slice xa x.2.1.length xc, .slice xb x.2.2.length xd], .agg #[.bool y.1, .slice ya y.2.1.length yc, .slice yb y.2.2.length yd]] w fun e w' => e = .returned (.bool true) ∧ Below w.heap.size w w' := by
  have HG := Lib.hid hg; clear hg
  have hlx : xs.length = n1 := by have := h1.1.addr.1; simpa using this.symm
  have l1 := wts_len xs
  have HF1 : Hid (qrows (xs.map qr)) := Lib.hid ⟨fit_qrs (by omega), by simp; omega⟩
  have HK1 : Hid ((xs.map qr).all qok = true) := Lib.hid (all_qok_qr _)
  have wX := val_wt fx lx
  have wY := val_wt fy ly
  obtain ⟨X, hX⟩ : ∃ X, X = qval x := ⟨_, rfl⟩
  obtain ⟨Y, hY⟩ : ∃ Y, Y = qval y := ⟨_, rfl⟩
  rw [← hX] at wX
  rw [← hY] at wY
  obtain ⟨us, hu⟩ : ∃ us, us = scl X xs := ⟨_, rfl⟩
  obtain ⟨vs, hv⟩ : ∃ vs, vs = scl Y us := ⟨_, rfl⟩
  obtain ⟨Z, hZ⟩ : ∃ Z, Z = X * Y := ⟨_, rfl⟩
  have wZ : wt Z ≤ 700 := by rw [hZ]; have := wt_mul X Y; omega
  have h3 : scl Z xs = vs := by rw [hv, hu, hZ]; exact (scl_scl X Y xs).symm
  have h4 : scl (1 : Rat) xs = xs := scl_one xs
  have h5 : scl (0 : Rat) xs = zeros n1 := by rw [← hlx]; exact scl_zero xs
  have ex := each_of (m := 300) hw1 (Nat.le_refl _)
  have eu : ∀ z ∈ us, wt z ≤ 700 := by rw [hu]; exact each_scl ex wX (by omega)
  have ev : ∀ z ∈ vs, wt z ≤ 9999 := by rw [hv]; exact each_scl eu wY (by omega)
  have ex9 : ∀ z ∈ xs, wt z ≤ 9999 := fun z hz => Nat.le_trans (ex z hz) (by omega)
  have eu9 : ∀ z ∈ us, wt z ≤ 9999 := fun z hz => Nat.le_trans (eu z hz) (by omega)
  have ez9 : ∀ z ∈ zeros n1, wt z ≤ 9999 := each_zeros (by omega)
  have b0 : n1 ≤ 60000 := by omega
  have b7 : n1 ≤ 100 := by omega
  have wZ9 : wt Z ≤ 9999 := by omega
  have wone : wt (1 : Rat) ≤ 9999 := by rw [show (1 : Rat) = ((1 : Int) : Rat) from rfl, wt_int 1 (by decide)]; omega
  have wnil : wt (0 : Rat) ≤ 9999 := by rw [show (0 : Rat) = ((0 : Int) : Rat) from rfl, wt_int 0 (by decide)]; omega
  have M1 : Hid (scl (qval x) xs = us) := Lib.hid (by rw [← hX]; exact hu.symm)
  have M2 : Hid (scl (qval y) us = vs) := Lib.hid (by rw [← hY]; exact hv.symm)
  have M3 : Hid (qval x * qval y = Z) := Lib.hid (by rw [← hX, ← hY]; exact hZ.symm)
  have M4 := Lib.hid h3
  have M5 := Lib.hid h4
  have M6 := Lib.hid h5
  have F1 := Lib.hid fx
  have F2 := Lib.hid fy
  clear hX hY hu hv hZ h3 h4 h5 hlx l1 wX wY wZ ex eu fx fy lx ly
  have V1 := Lib.hid h1; have G1 := Lib.hid g1; have G2 := Lib.hid g2; have G3 := Lib.hid g3; have G4 := Lib.hid g4; clear h1 g1 g2 g3 g4
  have al := (Below.refl (w).heap.size (w)).alloc (Nat.le_refl _) (.cells #[.bool x.1, .slice xa x.2.1.length xc, .slice xb x.2.2.length xd] 31)
  replace V1 := Lib.hid (V1.out.below al); replace G1 := Lib.hid (G1.out.below al); replace G2 := Lib.hid (G2.out.below al); replace G3 := Lib.hid (G3.out.below al); replace G4 := Lib.hid (G4.out.below al); have HL := Lib.hid al; have NX := Lib.hid (BoxN.new (w) 31 #[.bool x.1, .slice xa x.2.1.length xc, .slice xb x.2.2.length xd]); clear al
  have NY := Lib.hid (BoxN.new1 w (.cells #[.bool x.1, .slice xa x.2.1.length xc, .slice xb x.2.2.length xd] 31) 31 #[.bool y.1, .slice ya y.2.1.length yc, .slice yb y.2.2.length yd])
  have al := (Below.refl ((w.alloc (.cells #[.bool x.1, .slice xa x.2.1.length xc, .slice xb x.2.2.length xd] 31))).heap.size ((w.alloc (.cells #[.bool x.1, .slice xa x.2.1.length xc, .slice xb x.2.2.length xd] 31)))).alloc (Nat.le_refl _) (.cells #[.bool y.1, .slice ya y.2.1.length yc, .slice yb y.2.2.length yd] 31)
  replace V1 := Lib.hid (V1.out.below al); replace G1 := Lib.hid (G1.out.below al); replace G2 := Lib.hid (G2.out.below al); replace G3 := Lib.hid (G3.out.below al); replace G4 := Lib.hid (G4.out.below al); replace NX := Lib.hid (BoxN.under NX.out al); replace HL := Lib.hid (then_below HL.out al); clear al
  go_enter Try.func8, Try.ntmps8
  go_wp2_with fail
  refine (v_alive _).mono ?_
  rintro e w1 ⟨rfl, rr⟩
  replace V1 := Lib.hid (V1.out.below rr); replace G1 := Lib.hid (G1.out.below rr); replace G2 := Lib.hid (G2.out.below rr); replace G3 := Lib.hid (G3.out.below rr); replace G4 := Lib.hid (G4.out.below rr); replace NX := Lib.hid (BoxN.under NX.out rr); replace NY := Lib.hid (BoxN.under NY.out rr); replace HL := Lib.hid (then_below HL.out rr); clear rr
  have x0_0 := NX.out.cell 0 _ rfl; have x0_1 := NX.out.cell 1 _ rfl; have x0_2 := NX.out.cell 2 _ rfl
  have x1_0 := NY.out.cell 0 _ rfl; have x1_1 := NY.out.cell 1 _ rfl; have x1_2 := NY.out.cell 2 _ rfl
  have VO := Lib.hid (k_two (q := x) (r := y) (W := w1) (m := w1.heap.size) rfl G1.out G2.out u G3.out G4.out v)
  have al := (Below.refl (w1).heap.size (w1)).alloc (Nat.le_refl _) (.cells #[.bool x.1, .slice xa x.2.1.length xc, .slice xb x.2.2.length xd, .bool y.1, .slice ya y.2.1.length yc, .slice yb y.2.2.length yd] 31)
  replace V1 := Lib.hid (V1.out.below al); replace G1 := Lib.hid (G1.out.below al); replace G2 := Lib.hid (G2.out.below al); replace G3 := Lib.hid (G3.out.below al); replace G4 := Lib.hid (G4.out.below al); replace NX := Lib.hid (BoxN.under NX.out al); replace NY := Lib.hid (BoxN.under NY.out al); replace HL := Lib.hid (then_below HL.out al); clear al
  go_wp2_with fail
  refine (k_great (W := (w1.alloc (.cells #[.bool x.1, .slice xa x.2.1.length xc, .slice xb x.2.2.length xd, .bool y.1, .slice ya y.2.1.length yc, .slice yb y.2.2.length yd] 31))) (b := w1.heap.size + 1) (by simp) [(a1, n1, c1, xs.map qr), (some ⟨w1.heap.size, 0, none⟩, 2, 2, [x, y])] rfl rfl (by simp) (gokc V1.out (gokc VO.out (gok0 _))) false (HG.out (some ⟨w1.heap.size, 0, none⟩)).symm).mono ?_
  rintro e w2 ⟨rfl, rr⟩
  replace V1 := Lib.hid (V1.out.below rr); replace G1 := Lib.hid (G1.out.below rr); replace G2 := Lib.hid (G2.out.below rr); replace G3 := Lib.hid (G3.out.below rr); replace G4 := Lib.hid (G4.out.below rr); replace NX := Lib.hid (BoxN.under NX.out rr); replace NY := Lib.hid (BoxN.under NY.out rr); clear VO; replace HL := Lib.hid (then_below HL.out rr); clear rr
  clear x0_0 x0_1 x0_2
  clear x1_0 x1_1 x1_2
  go_wp2_with fail
  refine (v_check true HK1.out.symm V1.out.1 HF1.out).mono ?_
  rintro e w3 ⟨rfl, rr⟩
  replace V1 := Lib.hid (V1.out.below rr); replace G1 := Lib.hid (G1.out.below rr); replace G2 := Lib.hid (G2.out.below rr); replace G3 := Lib.hid (G3.out.below rr); replace G4 := Lib.hid (G4.out.below rr); replace NX := Lib.hid (BoxN.under NX.out rr); replace NY := Lib.hid (BoxN.under NY.out rr); replace HL := Lib.hid (then_below HL.out rr); clear rr
  go_wp2_with fail
  have al : Below w3.heap.size w3 w3.drew := ⟨rfl, rfl, rfl, Nat.le_refl _, fun _ _ => rfl⟩
  replace V1 := Lib.hid (V1.out.below al); replace G1 := Lib.hid (G1.out.below al); replace G2 := Lib.hid (G2.out.below al); replace G3 := Lib.hid (G3.out.below al); replace G4 := Lib.hid (G4.out.below al); replace NX := Lib.hid (BoxN.under NX.out al); replace NY := Lib.hid (BoxN.under NY.out al); replace HL := Lib.hid (then_below HL.out al); clear al; have mk0 := True.intro
  go_region_held3 (fun V => V.cell? ⟨w.heap.size, 0, none⟩ = some (.bool x.1) ∧ V.cell? ⟨w.heap.size, 1, none⟩ = some (.slice xa x.2.1.length xc) ∧ V.cell? ⟨w.heap.size, 2, none⟩ = some (.slice xb x.2.2.length xd) ∧ V.cell? ⟨w.heap.size + 1, 0, none⟩ = some (.bool y.1) ∧ V.cell? ⟨w.heap.size + 1, 1, none⟩ = some (.slice ya y.2.1.length yc) ∧ V.cell? ⟨w.heap.size + 1, 2, none⟩ = some (.slice yb y.2.2.length yd)) (exact ⟨NX.out.cell 0 _ rfl, NX.out.cell 1 _ rfl, NX.out.cell 2 _ rfl, NY.out.cell 0 _ rfl, NY.out.cell 1 _ rfl, NY.out.cell 2 _ rfl⟩) (first
    | (have nope := mk0; clear nope; (fail_if_success have nope := mk1); have mk1 := True.intro; go_at_call 19; refine (k_scaleq x F1.out us M1.out ex9 b0 V1.out.1 G1.out G2.out).mono ?_; rintro e w4 ⟨e1, k1, rfl, hv, rr⟩; replace V1 := Lib.hid (V1.out.below rr); replace G1 := Lib.hid (G1.out.below rr); replace G2 := Lib.hid (G2.out.below rr); replace G3 := Lib.hid (G3.out.below rr); replace G4 := Lib.hid (G4.out.below rr); replace NX := Lib.hid (BoxN.under NX.out rr); replace NY := Lib.hid (BoxN.under NY.out rr); replace HL := Lib.hid (then_below HL.out rr); have VA := Lib.hid hv; clear rr hv)
    | (have nope := mk1; clear nope; (fail_if_success have nope := mk2); have mk2 := True.intro; go_at_call 19; refine (k_scaleq y F2.out vs M2.out eu9 b0 VA.out G3.out G4.out).mono ?_; rintro e w5 ⟨e2, k2, rfl, hv, rr⟩; replace V1 := Lib.hid (V1.out.below rr); replace G1 := Lib.hid (G1.out.below rr); replace G2 := Lib.hid (G2.out.below rr); replace G3 := Lib.hid (G3.out.below rr); replace G4 := Lib.hid (G4.out.below rr); replace NX := Lib.hid (BoxN.under NX.out rr); replace NY := Lib.hid (BoxN.under NY.out rr); clear VA; replace HL := Lib.hid (then_below HL.out rr); have VB := Lib.hid hv; clear rr hv)
    | (have nope := mk2; clear nope; (fail_if_success have nope := mk3); have mk3 := True.intro; go_at_call 21; refine (k_mulq x y Z M3.out F1.out F2.out G1.out G2.out G3.out G4.out).mono ?_; rintro e w6 ⟨e3, k3, o3, r3, rfl, g, g', rr⟩; replace V1 := Lib.hid (V1.out.below rr); replace G1 := Lib.hid (G1.out.below rr); replace G2 := Lib.hid (G2.out.below rr); replace G3 := Lib.hid (G3.out.below rr); replace G4 := Lib.hid (G4.out.below rr); replace NX := Lib.hid (BoxN.under NX.out rr); replace NY := Lib.hid (BoxN.under NY.out rr); replace VB := Lib.hid (VB.out.below rr); replace HL := Lib.hid (then_below HL.out rr); have GZ := Lib.hid g; have KZ := Lib.hid g'; clear rr g)
    | (have nope := mk3; clear nope; (fail_if_success have nope := mk4); have mk4 := True.intro; go_at_call 19; refine (k_scale Z vs M4.out ex9 wZ9 b0 V1.out.1 GZ.out KZ.out).mono ?_; rintro e w7 ⟨e4, k4, rfl, hv, rr⟩; replace V1 := Lib.hid (V1.out.below rr); replace G1 := Lib.hid (G1.out.below rr); replace G2 := Lib.hid (G2.out.below rr); replace G3 := Lib.hid (G3.out.below rr); replace G4 := Lib.hid (G4.out.below rr); replace NX := Lib.hid (BoxN.under NX.out rr); replace NY := Lib.hid (BoxN.under NY.out rr); replace VB := Lib.hid (VB.out.below rr); clear GZ; clear KZ; replace HL := Lib.hid (then_below HL.out rr); have VC := Lib.hid hv; clear rr hv)
    | (have nope := mk4; clear nope; (fail_if_success have nope := mk5); have mk5 := True.intro; go_at_call 16; refine (v_samem true (by simp) VB.out VC.out ev ev b0).mono ?_; rintro e w8 ⟨rfl, rr⟩; replace V1 := Lib.hid (V1.out.below rr); replace G1 := Lib.hid (G1.out.below rr); replace G2 := Lib.hid (G2.out.below rr); replace G3 := Lib.hid (G3.out.below rr); replace G4 := Lib.hid (G4.out.below rr); replace NX := Lib.hid (BoxN.under NX.out rr); replace NY := Lib.hid (BoxN.under NY.out rr); clear VB; clear VC; replace HL := Lib.hid (then_below HL.out rr); clear rr)
    | (have nope := mk5; clear nope; (fail_if_success have nope := mk6); have mk6 := True.intro; go_at_call 23; refine (k_ofone).mono ?_; rintro e w9 ⟨e5, k5, o5, r5, rfl, g, g', rr⟩; replace V1 := Lib.hid (V1.out.below rr); replace G1 := Lib.hid (G1.out.below rr); replace G2 := Lib.hid (G2.out.below rr); replace G3 := Lib.hid (G3.out.below rr); replace G4 := Lib.hid (G4.out.below rr); replace NX := Lib.hid (BoxN.under NX.out rr); replace NY := Lib.hid (BoxN.under NY.out rr); replace HL := Lib.hid (then_below HL.out rr); have GO := Lib.hid g; have KO := Lib.hid g'; clear rr g)
    | (have nope := mk6; clear nope; (fail_if_success have nope := mk7); have mk7 := True.intro; go_at_call 19; refine (k_scale (1 : Rat) xs M5.out ex9 wone b0 V1.out.1 GO.out KO.out).mono ?_; rintro e w10 ⟨e6, k6, rfl, hv, rr⟩; replace V1 := Lib.hid (V1.out.below rr); replace G1 := Lib.hid (G1.out.below rr); replace G2 := Lib.hid (G2.out.below rr); replace G3 := Lib.hid (G3.out.below rr); replace G4 := Lib.hid (G4.out.below rr); replace NX := Lib.hid (BoxN.under NX.out rr); replace NY := Lib.hid (BoxN.under NY.out rr); clear GO; clear KO; replace HL := Lib.hid (then_below HL.out rr); have VD := Lib.hid hv; clear rr hv)
    | (have nope := mk7; clear nope; (fail_if_success have nope := mk8); have mk8 := True.intro; go_at_call 16; refine (v_samem true (by simp) VD.out V1.out.1 ex9 ex9 b0).mono ?_; rintro e w11 ⟨rfl, rr⟩; replace V1 := Lib.hid (V1.out.below rr); replace G1 := Lib.hid (G1.out.below rr); replace G2 := Lib.hid (G2.out.below rr); replace G3 := Lib.hid (G3.out.below rr); replace G4 := Lib.hid (G4.out.below rr); replace NX := Lib.hid (BoxN.under NX.out rr); replace NY := Lib.hid (BoxN.under NY.out rr); clear VD; replace HL := Lib.hid (then_below HL.out rr); clear rr)
    | (have nope := mk8; clear nope; (fail_if_success have nope := mk9); have mk9 := True.intro; go_at_call 23; refine (k_ofnil).mono ?_; rintro e w12 ⟨e7, k7, o7, r7, rfl, g, g', rr⟩; replace V1 := Lib.hid (V1.out.below rr); replace G1 := Lib.hid (G1.out.below rr); replace G2 := Lib.hid (G2.out.below rr); replace G3 := Lib.hid (G3.out.below rr); replace G4 := Lib.hid (G4.out.below rr); replace NX := Lib.hid (BoxN.under NX.out rr); replace NY := Lib.hid (BoxN.under NY.out rr); replace HL := Lib.hid (then_below HL.out rr); have GN := Lib.hid g; have KN := Lib.hid g'; clear rr g)
    | (have nope := mk9; clear nope; (fail_if_success have nope := mk10); have mk10 := True.intro; go_at_call 19; refine (k_scale (0 : Rat) (zeros n1) M6.out ex9 wnil b0 V1.out.1 GN.out KN.out).mono ?_; rintro e w13 ⟨e8, k8, rfl, hv, rr⟩; replace V1 := Lib.hid (V1.out.below rr); replace G1 := Lib.hid (G1.out.below rr); replace G2 := Lib.hid (G2.out.below rr); replace G3 := Lib.hid (G3.out.below rr); replace G4 := Lib.hid (G4.out.below rr); replace NX := Lib.hid (BoxN.under NX.out rr); replace NY := Lib.hid (BoxN.under NY.out rr); clear GN; clear KN; replace HL := Lib.hid (then_below HL.out rr); have VE := Lib.hid hv; clear rr hv)
    | (have nope := mk10; clear nope; (fail_if_success have nope := mk11); have mk11 := True.intro; go_at_call 13; refine (k_zero n1 b7).mono ?_; rintro e w14 ⟨e9, k9, rfl, hv, rr⟩; replace V1 := Lib.hid (V1.out.below rr); replace G1 := Lib.hid (G1.out.below rr); replace G2 := Lib.hid (G2.out.below rr); replace G3 := Lib.hid (G3.out.below rr); replace G4 := Lib.hid (G4.out.below rr); replace NX := Lib.hid (BoxN.under NX.out rr); replace NY := Lib.hid (BoxN.under NY.out rr); replace VE := Lib.hid (VE.out.below rr); replace HL := Lib.hid (then_below HL.out rr); have VN := Lib.hid hv; clear rr hv)
    | (have nope := mk11; clear nope; (fail_if_success have nope := mk12); have mk12 := True.intro; go_at_call 16; refine (v_samem true (by simp) VE.out VN.out ez9 ez9 b0).mono ?_; rintro e w15 ⟨rfl, rr⟩; replace V1 := Lib.hid (V1.out.below rr); replace G1 := Lib.hid (G1.out.below rr); replace G2 := Lib.hid (G2.out.below rr); replace G3 := Lib.hid (G3.out.below rr); replace G4 := Lib.hid (G4.out.below rr); replace NX := Lib.hid (BoxN.under NX.out rr); replace NY := Lib.hid (BoxN.under NY.out rr); clear VE; clear VN; replace HL := Lib.hid (then_below HL.out rr); clear rr))
  go_wp2_with fail
  go_ret
  exact ⟨rfl, HL.out⟩
theorem vecsScaled_any {w : World} {a1 : Option Addr} {n1 c1 : Nat} {q1 : List Qr} {x y : Qr} {xa xb ya yb : Option Addr} {xc xd yc yd : Nat} (h1 : GOK w (a1, n1, c1, q1)) (g1 : Reads w (.slice xa x.2.1.length xc) x.2.1) (g2 : Reads w (.slice xb x.2.2.length xd) x.2.2) (u : Big x) (g3 : Reads w (.slice ya y.2.1.length yc) y.2.1) (g4 : Reads w (.slice yb y.2.2.length yd) y.2.2) (v : Big y) :
    Calls Try.prog 8 #[.slice a1 n1 c1, .agg #[.bool x.1, .slice xa x.2.1.length xc, .slice xb x.2.2.length xd], .agg #[.bool y.1, .slice ya y.2.1.length yc, .slice yb y.2.2.length yd]] w fun e w' => e = .returned (.bool true) ∧ Below w.heap.size w w' := by
  cases hg : ([(a1, n1, c1, q1), (none, 2, 2, [x, y])] : List GI).any gbig with
  | true => exact scaled_0 h1 g1 g2 u g3 g4 v (fun _ => hg)
  | false =>
    have hgg := hg
    simp only [List.any_cons, List.any_nil, Bool.or_false, Bool.or_eq_false_iff] at hgg
    have b1 := gbig_no hgg.1
    have b3 := gbig_no hgg.2
    dsimp only at b1 b3
    have e1 := h1.1.addr.1
    have f1 := qrows_of e1 b1.1 h1.2 b1.2
    have hp := ssz_small b3.2
    simp only [psum] at hp
    cases k1 : q1.all qok with
    | false => exact scaled_1 h1 g1 g2 u g3 g4 v (fun _ => hg) f1 k1
    | true =>
      obtain ⟨xs, rfl, _, hw1⟩ := row_of e1 h1.2 b1.2 k1
      exact scaled_near h1 g1 g2 u g3 g4 v (fun _ => hg) b1.1 hw1 ⟨u.1, by omega, by omega⟩ ⟨v.1, by omega, by omega⟩ (by omega) (by omega)
end Go.Proofs.Ytcndjjhdckbfkaa
