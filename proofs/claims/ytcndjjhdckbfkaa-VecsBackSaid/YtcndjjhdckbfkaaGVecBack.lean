/- VecsBack: its walks. -/
import Derived.Test.YtcndjjhdckbfkaaGVecK
import Derived.Deep.RegionHeld3
namespace Go.Proofs.Ytcndjjhdckbfkaa
open Go Go.Proofs Go.RowKit Go.Shelf Nu

attribute [local go_sem] Oper.semAt_some

set_option maxRecDepth 100000 in
set_option maxHeartbeats 8000000 in
theorem back_0 {w : World} {a1 a2 : Option Addr} {n1 n2 c1 c2 : Nat} {q1 q2 : List Qr} {r : Qr} {ra rb : Option Addr} {rc rd : Nat} (h1 : GOK w (a1, n1, c1, q1)) (h2 : GOK w (a2, n2, c2, q2)) (g5 : Reads w (.slice ra r.2.1.length rc) r.2.1) (g6 : Reads w (.slice rb r.2.2.length rd) r.2.2) (u : Big r) (hg : ∀ x : Option Addr, ([(a1, n1, c1, q1), (a2, n2, c2, q2), (x, 1, 1, [r])] : List GI).any gbig = true) :
    Calls Try.prog 5 #[.slice a1 n1 c1, .slice a2 n2 c2, .agg #[.bool r.1, .slice ra r.2.1.length rc, .slice rb r.2.2.length rd]] w fun e w' => e = .returned (.bool true) ∧ Below w.heap.size w w' := by
  have HG := Lib.hid hg; clear hg
  have V1 := Lib.hid h1; have V2 := Lib.hid h2; have G5 := Lib.hid g5; have G6 := Lib.hid g6; clear h1 h2 g5 g6
  have al := (Below.refl (w).heap.size (w)).alloc (Nat.le_refl _) (.cells #[.bool r.1, .slice ra r.2.1.length rc, .slice rb r.2.2.length rd] 31)
  replace V1 := Lib.hid (V1.out.below al); replace V2 := Lib.hid (V2.out.below al); replace G5 := Lib.hid (G5.out.below al); replace G6 := Lib.hid (G6.out.below al); have HL := Lib.hid al; have NB := Lib.hid (BoxN.new (w) 31 #[.bool r.1, .slice ra r.2.1.length rc, .slice rb r.2.2.length rd]); clear al
  go_enter Try.func5, Try.ntmps5
  go_wp2_with fail
  refine (v_alive _).mono ?_
  rintro e w1 ⟨rfl, rr⟩
  replace V1 := Lib.hid (V1.out.below rr); replace V2 := Lib.hid (V2.out.below rr); replace G5 := Lib.hid (G5.out.below rr); replace G6 := Lib.hid (G6.out.below rr); replace NB := Lib.hid (BoxN.under NB.out rr); replace HL := Lib.hid (then_below HL.out rr); clear rr
  have x0_0 := NB.out.cell 0 _ rfl; have x0_1 := NB.out.cell 1 _ rfl; have x0_2 := NB.out.cell 2 _ rfl
  have VO := Lib.hid (k_one (q := r) (W := w1) (m := w1.heap.size) rfl G5.out G6.out u)
  have al := (Below.refl (w1).heap.size (w1)).alloc (Nat.le_refl _) (.cells #[.bool r.1, .slice ra r.2.1.length rc, .slice rb r.2.2.length rd] 31)
  replace V1 := Lib.hid (V1.out.below al); replace V2 := Lib.hid (V2.out.below al); replace G5 := Lib.hid (G5.out.below al); replace G6 := Lib.hid (G6.out.below al); replace NB := Lib.hid (BoxN.under NB.out al); replace HL := Lib.hid (then_below HL.out al); clear al
  go_wp2_with fail
  refine (k_great (W := (w1.alloc (.cells #[.bool r.1, .slice ra r.2.1.length rc, .slice rb r.2.2.length rd] 31))) (b := w1.heap.size + 1) (by simp) [(a1, n1, c1, q1), (a2, n2, c2, q2), (some ⟨w1.heap.size, 0, none⟩, 1, 1, [r])] rfl rfl (by simp) (gokc V1.out (gokc V2.out (gokc VO.out (gok0 _)))) true (HG.out (some ⟨w1.heap.size, 0, none⟩)).symm).mono ?_
  rintro e w2 ⟨rfl, rr⟩
  replace V1 := Lib.hid (V1.out.below rr); replace V2 := Lib.hid (V2.out.below rr); replace G5 := Lib.hid (G5.out.below rr); replace G6 := Lib.hid (G6.out.below rr); replace NB := Lib.hid (BoxN.under NB.out rr); clear VO; replace HL := Lib.hid (then_below HL.out rr); clear rr
  clear x0_0 x0_1 x0_2
  go_wp2_with fail
  refine (v_alive _).mono ?_
  rintro e w3 ⟨rfl, rr⟩
  replace V1 := Lib.hid (V1.out.below rr); replace V2 := Lib.hid (V2.out.below rr); replace G5 := Lib.hid (G5.out.below rr); replace G6 := Lib.hid (G6.out.below rr); replace NB := Lib.hid (BoxN.under NB.out rr); replace HL := Lib.hid (then_below HL.out rr); clear rr
  go_wp2_with fail
  go_ret
  exact ⟨rfl, HL.out⟩
set_option maxRecDepth 100000 in
set_option maxHeartbeats 8000000 in
theorem back_1 {w : World} {a1 a2 : Option Addr} {n1 n2 c1 c2 : Nat} {q1 q2 : List Qr} {r : Qr} {ra rb : Option Addr} {rc rd : Nat} (h1 : GOK w (a1, n1, c1, q1)) (h2 : GOK w (a2, n2, c2, q2)) (g5 : Reads w (.slice ra r.2.1.length rc) r.2.1) (g6 : Reads w (.slice rb r.2.2.length rd) r.2.2) (u : Big r) (hg : ∀ x : Option Addr, ([(a1, n1, c1, q1), (a2, n2, c2, q2), (x, 1, 1, [r])] : List GI).any gbig = false) (hn : n1 ≠ n2) :
    Calls Try.prog 5 #[.slice a1 n1 c1, .slice a2 n2 c2, .agg #[.bool r.1, .slice ra r.2.1.length rc, .slice rb r.2.2.length rd]] w fun e w' => e = .returned (.bool true) ∧ Below w.heap.size w w' := by
  have HG := Lib.hid hg; clear hg
  have j1 : ((n1 : Int) != (n2 : Int)) = true := by simp; omega
  clear hn
  have V1 := Lib.hid h1; have V2 := Lib.hid h2; have G5 := Lib.hid g5; have G6 := Lib.hid g6; clear h1 h2 g5 g6
  have al := (Below.refl (w).heap.size (w)).alloc (Nat.le_refl _) (.cells #[.bool r.1, .slice ra r.2.1.length rc, .slice rb r.2.2.length rd] 31)
  replace V1 := Lib.hid (V1.out.below al); replace V2 := Lib.hid (V2.out.below al); replace G5 := Lib.hid (G5.out.below al); replace G6 := Lib.hid (G6.out.below al); have HL := Lib.hid al; have NB := Lib.hid (BoxN.new (w) 31 #[.bool r.1, .slice ra r.2.1.length rc, .slice rb r.2.2.length rd]); clear al
  go_enter Try.func5, Try.ntmps5
  go_wp2_with fail
  refine (v_alive _).mono ?_
  rintro e w1 ⟨rfl, rr⟩
  replace V1 := Lib.hid (V1.out.below rr); replace V2 := Lib.hid (V2.out.below rr); replace G5 := Lib.hid (G5.out.below rr); replace G6 := Lib.hid (G6.out.below rr); replace NB := Lib.hid (BoxN.under NB.out rr); replace HL := Lib.hid (then_below HL.out rr); clear rr
  have x0_0 := NB.out.cell 0 _ rfl; have x0_1 := NB.out.cell 1 _ rfl; have x0_2 := NB.out.cell 2 _ rfl
  have VO := Lib.hid (k_one (q := r) (W := w1) (m := w1.heap.size) rfl G5.out G6.out u)
  have al := (Below.refl (w1).heap.size (w1)).alloc (Nat.le_refl _) (.cells #[.bool r.1, .slice ra r.2.1.length rc, .slice rb r.2.2.length rd] 31)
  replace V1 := Lib.hid (V1.out.below al); replace V2 := Lib.hid (V2.out.below al); replace G5 := Lib.hid (G5.out.below al); replace G6 := Lib.hid (G6.out.below al); replace NB := Lib.hid (BoxN.under NB.out al); replace HL := Lib.hid (then_below HL.out al); clear al
  go_wp2_with fail
  refine (k_great (W := (w1.alloc (.cells #[.bool r.1, .slice ra r.2.1.length rc, .slice rb r.2.2.length rd] 31))) (b := w1.heap.size + 1) (by simp) [(a1, n1, c1, q1), (a2, n2, c2, q2), (some ⟨w1.heap.size, 0, none⟩, 1, 1, [r])] rfl rfl (by simp) (gokc V1.out (gokc V2.out (gokc VO.out (gok0 _)))) false (HG.out (some ⟨w1.heap.size, 0, none⟩)).symm).mono ?_
  rintro e w2 ⟨rfl, rr⟩
  replace V1 := Lib.hid (V1.out.below rr); replace V2 := Lib.hid (V2.out.below rr); replace G5 := Lib.hid (G5.out.below rr); replace G6 := Lib.hid (G6.out.below rr); replace NB := Lib.hid (BoxN.under NB.out rr); clear VO; replace HL := Lib.hid (then_below HL.out rr); clear rr
  clear x0_0 x0_1 x0_2
  go_wp2_with fail
  refine (v_alive _).mono ?_
  rintro e w3 ⟨rfl, rr⟩
  replace V1 := Lib.hid (V1.out.below rr); replace V2 := Lib.hid (V2.out.below rr); replace G5 := Lib.hid (G5.out.below rr); replace G6 := Lib.hid (G6.out.below rr); replace NB := Lib.hid (BoxN.under NB.out rr); replace HL := Lib.hid (then_below HL.out rr); clear rr
  go_wp2_with fail
  go_ret
  exact ⟨rfl, HL.out⟩
set_option maxRecDepth 100000 in
set_option maxHeartbeats 8000000 in
theorem back_2 {w : World} {a1 a2 : Option Addr} {n1 n2 c1 c2 : Nat} {q1 q2 : List Qr} {r : Qr} {ra rb : Option Addr} {rc rd : Nat} (h1 : GOK w (a1, n1, c1, q1)) (h2 : GOK w (a2, n2, c2, q2)) (g5 : Reads w (.slice ra r.2.1.length rc) r.2.1) (g6 : Reads w (.slice rb r.2.2.length rd) r.2.2) (u : Big r) (hg : ∀ x : Option Addr, ([(a1, n1, c1, q1), (a2, n2, c2, q2), (x, 1, 1, [r])] : List GI).any gbig = false) (hn : n1 = n2) (f1 : qrows q1) (f2 : qrows q2) (f3 : Fit r) (k1 : q1.all qok = false) :
    Calls Try.prog 5 #[.slice a1 n1 c1, .slice a2 n2 c2, .agg #[.bool r.1, .slice ra r.2.1.length rc, .slice rb r.2.2.length rd]] w fun e w' => e = .returned (.bool true) ∧ Below w.heap.size w w' := by
  have HG := Lib.hid hg; clear hg
  have HF1 := Lib.hid f1; have HF2 := Lib.hid f2; have HF3 := Lib.hid f3; have HK1 := Lib.hid k1; clear f1 f2 f3 k1
  subst hn
  have j1 : ((n1 : Int) != (n1 : Int)) = false := by simp
  have V1 := Lib.hid h1; have V2 := Lib.hid h2; have G5 := Lib.hid g5; have G6 := Lib.hid g6; clear h1 h2 g5 g6
  have al := (Below.refl (w).heap.size (w)).alloc (Nat.le_refl _) (.cells #[.bool r.1, .slice ra r.2.1.length rc, .slice rb r.2.2.length rd] 31)
  replace V1 := Lib.hid (V1.out.below al); replace V2 := Lib.hid (V2.out.below al); replace G5 := Lib.hid (G5.out.below al); replace G6 := Lib.hid (G6.out.below al); have HL := Lib.hid al; have NB := Lib.hid (BoxN.new (w) 31 #[.bool r.1, .slice ra r.2.1.length rc, .slice rb r.2.2.length rd]); clear al
  go_enter Try.func5, Try.ntmps5
  go_wp2_with fail
  refine (v_alive _).mono ?_
  rintro e w1 ⟨rfl, rr⟩
  replace V1 := Lib.hid (V1.out.below rr); replace V2 := Lib.hid (V2.out.below rr); replace G5 := Lib.hid (G5.out.below rr); replace G6 := Lib.hid (G6.out.below rr); replace NB := Lib.hid (BoxN.under NB.out rr); replace HL := Lib.hid (then_below HL.out rr); clear rr
  have x0_0 := NB.out.cell 0 _ rfl; have x0_1 := NB.out.cell 1 _ rfl; have x0_2 := NB.out.cell 2 _ rfl
  have VO := Lib.hid (k_one (q := r) (W := w1) (m := w1.heap.size) rfl G5.out G6.out u)
  have al := (Below.refl (w1).heap.size (w1)).alloc (Nat.le_refl _) (.cells #[.bool r.1, .slice ra r.2.1.length rc, .slice rb r.2.2.length rd] 31)
  replace V1 := Lib.hid (V1.out.below al); replace V2 := Lib.hid (V2.out.below al); replace G5 := Lib.hid (G5.out.below al); replace G6 := Lib.hid (G6.out.below al); replace NB := Lib.hid (BoxN.under NB.out al); replace HL := Lib.hid (then_below HL.out al); clear al
  go_wp2_with fail
  refine (k_great (W := (w1.alloc (.cells #[.bool r.1, .slice ra r.2.1.length rc, .slice rb r.2.2.length rd] 31))) (b := w1.heap.size + 1) (by simp) [(a1, n1, c1, q1), (a2, n1, c2, q2), (some ⟨w1.heap.size, 0, none⟩, 1, 1, [r])] rfl rfl (by simp) (gokc V1.out (gokc V2.out (gokc VO.out (gok0 _)))) false (HG.out (some ⟨w1.heap.size, 0, none⟩)).symm).mono ?_
  rintro e w2 ⟨rfl, rr⟩
  replace V1 := Lib.hid (V1.out.below rr); replace V2 := Lib.hid (V2.out.below rr); replace G5 := Lib.hid (G5.out.below rr); replace G6 := Lib.hid (G6.out.below rr); replace NB := Lib.hid (BoxN.under NB.out rr); clear VO; replace HL := Lib.hid (then_below HL.out rr); clear rr
  clear x0_0 x0_1 x0_2
  go_wp2_with fail
  refine (v_check false HK1.out.symm V1.out.1 HF1.out).mono ?_
  rintro e w3 ⟨rfl, rr⟩
  replace V1 := Lib.hid (V1.out.below rr); replace V2 := Lib.hid (V2.out.below rr); replace G5 := Lib.hid (G5.out.below rr); replace G6 := Lib.hid (G6.out.below rr); replace NB := Lib.hid (BoxN.under NB.out rr); replace HL := Lib.hid (then_below HL.out rr); clear rr
  go_wp2_with fail
  refine (v_alive _).mono ?_
  rintro e w4 ⟨rfl, rr⟩
  replace V1 := Lib.hid (V1.out.below rr); replace V2 := Lib.hid (V2.out.below rr); replace G5 := Lib.hid (G5.out.below rr); replace G6 := Lib.hid (G6.out.below rr); replace NB := Lib.hid (BoxN.under NB.out rr); replace HL := Lib.hid (then_below HL.out rr); clear rr
  go_wp2_with fail
  go_ret
  exact ⟨rfl, HL.out⟩
set_option maxRecDepth 100000 in
set_option maxHeartbeats 8000000 in
theorem back_3 {w : World} {a1 a2 : Option Addr} {n1 n2 c1 c2 : Nat} {q1 q2 : List Qr} {r : Qr} {ra rb : Option Addr} {rc rd : Nat} (h1 : GOK w (a1, n1, c1, q1)) (h2 : GOK w (a2, n2, c2, q2)) (g5 : Reads w (.slice ra r.2.1.length rc) r.2.1) (g6 : Reads w (.slice rb r.2.2.length rd) r.2.2) (u : Big r) (hg : ∀ x : Option Addr, ([(a1, n1, c1, q1), (a2, n2, c2, q2), (x, 1, 1, [r])] : List GI).any gbig = false) (hn : n1 = n2) (f1 : qrows q1) (f2 : qrows q2) (f3 : Fit r) (k1 : q1.all qok = true) (k2 : q2.all qok = false) :
    Calls Try.prog 5 #[.slice a1 n1 c1, .slice a2 n2 c2, .agg #[.bool r.1, .slice ra r.2.1.length rc, .slice rb r.2.2.length rd]] w fun e w' => e = .returned (.bool true) ∧ Below w.heap.size w w' := by
  have HG := Lib.hid hg; clear hg
  have HF1 := Lib.hid f1; have HF2 := Lib.hid f2; have HF3 := Lib.hid f3; have HK1 := Lib.hid k1; clear f1 f2 f3 k1
  have HK2 := Lib.hid k2; clear k2
  subst hn
  have j1 : ((n1 : Int) != (n1 : Int)) = false := by simp
  have V1 := Lib.hid h1; have V2 := Lib.hid h2; have G5 := Lib.hid g5; have G6 := Lib.hid g6; clear h1 h2 g5 g6
  have al := (Below.refl (w).heap.size (w)).alloc (Nat.le_refl _) (.cells #[.bool r.1, .slice ra r.2.1.length rc, .slice rb r.2.2.length rd] 31)
  replace V1 := Lib.hid (V1.out.below al); replace V2 := Lib.hid (V2.out.below al); replace G5 := Lib.hid (G5.out.below al); replace G6 := Lib.hid (G6.out.below al); have HL := Lib.hid al; have NB := Lib.hid (BoxN.new (w) 31 #[.bool r.1, .slice ra r.2.1.length rc, .slice rb r.2.2.length rd]); clear al
  go_enter Try.func5, Try.ntmps5
  go_wp2_with fail
  refine (v_alive _).mono ?_
  rintro e w1 ⟨rfl, rr⟩
  replace V1 := Lib.hid (V1.out.below rr); replace V2 := Lib.hid (V2.out.below rr); replace G5 := Lib.hid (G5.out.below rr); replace G6 := Lib.hid (G6.out.below rr); replace NB := Lib.hid (BoxN.under NB.out rr); replace HL := Lib.hid (then_below HL.out rr); clear rr
  have x0_0 := NB.out.cell 0 _ rfl; have x0_1 := NB.out.cell 1 _ rfl; have x0_2 := NB.out.cell 2 _ rfl
  have VO := Lib.hid (k_one (q := r) (W := w1) (m := w1.heap.size) rfl G5.out G6.out u)
  have al := (Below.refl (w1).heap.size (w1)).alloc (Nat.le_refl _) (.cells #[.bool r.1, .slice ra r.2.1.length rc, .slice rb r.2.2.length rd] 31)
  replace V1 := Lib.hid (V1.out.below al); replace V2 := Lib.hid (V2.out.below al); replace G5 := Lib.hid (G5.out.below al); replace G6 := Lib.hid (G6.out.below al); replace NB := Lib.hid (BoxN.under NB.out al); replace HL := Lib.hid (then_below HL.out al); clear al
  go_wp2_with fail
  refine (k_great (W := (w1.alloc (.cells #[.bool r.1, .slice ra r.2.1.length rc, .slice rb r.2.2.length rd] 31))) (b := w1.heap.size + 1) (by simp) [(a1, n1, c1, q1), (a2, n1, c2, q2), (some ⟨w1.heap.size, 0, none⟩, 1, 1, [r])] rfl rfl (by simp) (gokc V1.out (gokc V2.out (gokc VO.out (gok0 _)))) false (HG.out (some ⟨w1.heap.size, 0, none⟩)).symm).mono ?_
  rintro e w2 ⟨rfl, rr⟩
  replace V1 := Lib.hid (V1.out.below rr); replace V2 := Lib.hid (V2.out.below rr); replace G5 := Lib.hid (G5.out.below rr); replace G6 := Lib.hid (G6.out.below rr); replace NB := Lib.hid (BoxN.under NB.out rr); clear VO; replace HL := Lib.hid (then_below HL.out rr); clear rr
  clear x0_0 x0_1 x0_2
  go_wp2_with fail
  refine (v_check true HK1.out.symm V1.out.1 HF1.out).mono ?_
  rintro e w3 ⟨rfl, rr⟩
  replace V1 := Lib.hid (V1.out.below rr); replace V2 := Lib.hid (V2.out.below rr); replace G5 := Lib.hid (G5.out.below rr); replace G6 := Lib.hid (G6.out.below rr); replace NB := Lib.hid (BoxN.under NB.out rr); replace HL := Lib.hid (then_below HL.out rr); clear rr
  go_wp2_with fail
  refine (v_check false HK2.out.symm V2.out.1 HF2.out).mono ?_
  rintro e w4 ⟨rfl, rr⟩
  replace V1 := Lib.hid (V1.out.below rr); replace V2 := Lib.hid (V2.out.below rr); replace G5 := Lib.hid (G5.out.below rr); replace G6 := Lib.hid (G6.out.below rr); replace NB := Lib.hid (BoxN.under NB.out rr); replace HL := Lib.hid (then_below HL.out rr); clear rr
  go_wp2_with fail
  refine (v_alive _).mono ?_
  rintro e w5 ⟨rfl, rr⟩
  replace V1 := Lib.hid (V1.out.below rr); replace V2 := Lib.hid (V2.out.below rr); replace G5 := Lib.hid (G5.out.below rr); replace G6 := Lib.hid (G6.out.below rr); replace NB := Lib.hid (BoxN.under NB.out rr); replace HL := Lib.hid (then_below HL.out rr); clear rr
  go_wp2_with fail
  go_ret
  exact ⟨rfl, HL.out⟩
set_option maxRecDepth 100000 in
set_option maxHeartbeats 8000000 in
theorem back_4 {w : World} {a1 a2 : Option Addr} {n1 n2 c1 c2 : Nat} {q1 q2 : List Qr} {r : Qr} {ra rb : Option Addr} {rc rd : Nat} (h1 : GOK w (a1, n1, c1, q1)) (h2 : GOK w (a2, n2, c2, q2)) (g5 : Reads w (.slice ra r.2.1.length rc) r.2.1) (g6 : Reads w (.slice rb r.2.2.length rd) r.2.2) (u : Big r) (hg : ∀ x : Option Addr, ([(a1, n1, c1, q1), (a2, n2, c2, q2), (x, 1, 1, [r])] : List GI).any gbig = false) (hn : n1 = n2) (f1 : qrows q1) (f2 : qrows q2) (f3 : Fit r) (k1 : q1.all qok = true) (k2 : q2.all qok = true) (k3 : qok r = false) :
    Calls Try.prog 5 #[.slice a1 n1 c1, .slice a2 n2 c2, .agg #[.bool r.1, .slice ra r.2.1.length rc, .slice rb r.2.2.length rd]] w fun e w' => e = .returned (.bool true) ∧ Below w.heap.size w w' := by
  have HG := Lib.hid hg; clear hg
  have HF1 := Lib.hid f1; have HF2 := Lib.hid f2; have HF3 := Lib.hid f3; have HK1 := Lib.hid k1; clear f1 f2 f3 k1
  have HK2 := Lib.hid k2; clear k2
  have HK3 := Lib.hid k3; clear k3
  subst hn
  have j1 : ((n1 : Int) != (n1 : Int)) = false := by simp
  have V1 := Lib.hid h1; have V2 := Lib.hid h2; have G5 := Lib.hid g5; have G6 := Lib.hid g6; clear h1 h2 g5 g6
  have al := (Below.refl (w).heap.size (w)).alloc (Nat.le_refl _) (.cells #[.bool r.1, .slice ra r.2.1.length rc, .slice rb r.2.2.length rd] 31)
  replace V1 := Lib.hid (V1.out.below al); replace V2 := Lib.hid (V2.out.below al); replace G5 := Lib.hid (G5.out.below al); replace G6 := Lib.hid (G6.out.below al); have HL := Lib.hid al; have NB := Lib.hid (BoxN.new (w) 31 #[.bool r.1, .slice ra r.2.1.length rc, .slice rb r.2.2.length rd]); clear al
  go_enter Try.func5, Try.ntmps5
  go_wp2_with fail
  refine (v_alive _).mono ?_
  rintro e w1 ⟨rfl, rr⟩
  replace V1 := Lib.hid (V1.out.below rr); replace V2 := Lib.hid (V2.out.below rr); replace G5 := Lib.hid (G5.out.below rr); replace G6 := Lib.hid (G6.out.below rr); replace NB := Lib.hid (BoxN.under NB.out rr); replace HL := Lib.hid (then_below HL.out rr); clear rr
  have x0_0 := NB.out.cell 0 _ rfl; have x0_1 := NB.out.cell 1 _ rfl; have x0_2 := NB.out.cell 2 _ rfl
  have VO := Lib.hid (k_one (q := r) (W := w1) (m := w1.heap.size) rfl G5.out G6.out u)
  have al := (Below.refl (w1).heap.size (w1)).alloc (Nat.le_refl _) (.cells #[.bool r.1, .slice ra r.2.1.length rc, .slice rb r.2.2.length rd] 31)
  replace V1 := Lib.hid (V1.out.below al); replace V2 := Lib.hid (V2.out.below al); replace G5 := Lib.hid (G5.out.below al); replace G6 := Lib.hid (G6.out.below al); replace NB := Lib.hid (BoxN.under NB.out al); replace HL := Lib.hid (then_below HL.out al); clear al
  go_wp2_with fail
  refine (k_great (W := (w1.alloc (.cells #[.bool r.1, .slice ra r.2.1.length rc, .slice rb r.2.2.length rd] 31))) (b := w1.heap.size + 1) (by simp) [(a1, n1, c1, q1), (a2, n1, c2, q2), (some ⟨w1.heap.size, 0, none⟩, 1, 1, [r])] rfl rfl (by simp) (gokc V1.out (gokc V2.out (gokc VO.out (gok0 _)))) false (HG.out (some ⟨w1.heap.size, 0, none⟩)).symm).mono ?_
  rintro e w2 ⟨rfl, rr⟩
  replace V1 := Lib.hid (V1.out.below rr); replace V2 := Lib.hid (V2.out.below rr); replace G5 := Lib.hid (G5.out.below rr); replace G6 := Lib.hid (G6.out.below rr); replace NB := Lib.hid (BoxN.under NB.out rr); clear VO; replace HL := Lib.hid (then_below HL.out rr); clear rr
  clear x0_0 x0_1 x0_2
  go_wp2_with fail
  refine (v_check true HK1.out.symm V1.out.1 HF1.out).mono ?_
  rintro e w3 ⟨rfl, rr⟩
  replace V1 := Lib.hid (V1.out.below rr); replace V2 := Lib.hid (V2.out.below rr); replace G5 := Lib.hid (G5.out.below rr); replace G6 := Lib.hid (G6.out.below rr); replace NB := Lib.hid (BoxN.under NB.out rr); replace HL := Lib.hid (then_below HL.out rr); clear rr
  go_wp2_with fail
  refine (v_check true HK2.out.symm V2.out.1 HF2.out).mono ?_
  rintro e w4 ⟨rfl, rr⟩
  replace V1 := Lib.hid (V1.out.below rr); replace V2 := Lib.hid (V2.out.below rr); replace G5 := Lib.hid (G5.out.below rr); replace G6 := Lib.hid (G6.out.below rr); replace NB := Lib.hid (BoxN.under NB.out rr); replace HL := Lib.hid (then_below HL.out rr); clear rr
  have x0_0 := NB.out.cell 0 _ rfl; have x0_1 := NB.out.cell 1 _ rfl; have x0_2 := NB.out.cell 2 _ rfl
  go_wp2_with fail
  refine (k_rcheck r false HK3.out HF3.out G5.out G6.out).mono ?_
  rintro e w5 ⟨rfl, rr⟩
  replace V1 := Lib.hid (V1.out.below rr); replace V2 := Lib.hid (V2.out.below rr); replace G5 := Lib.hid (G5.out.below rr); replace G6 := Lib.hid (G6.out.below rr); replace NB := Lib.hid (BoxN.under NB.out rr); replace HL := Lib.hid (then_below HL.out rr); clear rr
  clear x0_0 x0_1 x0_2
  go_wp2_with fail
  refine (v_alive _).mono ?_
  rintro e w6 ⟨rfl, rr⟩
  replace V1 := Lib.hid (V1.out.below rr); replace V2 := Lib.hid (V2.out.below rr); replace G5 := Lib.hid (G5.out.below rr); replace G6 := Lib.hid (G6.out.below rr); replace NB := Lib.hid (BoxN.under NB.out rr); replace HL := Lib.hid (then_below HL.out rr); clear rr
  go_wp2_with fail
  go_ret
  exact ⟨rfl, HL.out⟩
set_option maxRecDepth 100000 in
set_option maxHeartbeats 8000000 in
theorem back_near {w : World} {a1 a2 : Option Addr} {n1 c1 c2 : Nat} {xs ys : List Rat} {T : Rat} {ra rb : Option Addr} {rc rd : Nat} (h1 : GOK w (a1, n1, c1, xs.map qr)) (h2 : GOK w (a2, n1, c2, ys.map qr)) (g5 : Reads w (.slice ra (qr T).2.1.length rc) (qr T).2.1) (g6 : Reads w (.slice rb (qr T).2.2.length rd) (qr T).2.2) (hg : ∀ x : Option Addr, ([(a1, n1, c1, xs.map qr), (a2, n1, c2, ys.map qr), (x, 1, 1, [qr T])] : List GI).any gbig = false) (h30 : n1 ≤ 30) (hw1 : wts xs ≤ 300) (hw2 : wts ys ≤ 300) (hwT : wt T ≤ 301) :
    Calls Try.prog 5 #[.slice a1 n1 c1, .slice a2 n1 c2, .agg #[.bool (qr T).1, .slice ra (qr T).2.1.length rc, .slice rb (qr T).2.2.length rd]] w fun e w' => e = .returned (.bool true) ∧ Below w.heap.size w w' := by
  have HG := Lib.hid hg; clear hg
  have l1 := wts_len xs
  have l2 := wts_len ys
  have hz1 := wts_zeros n1
  have hlx : xs.length = n1 := by have := h1.1.addr.1; simpa using this.symm
  have hly : ys.length = n1 := by have := h2.1.addr.1; simpa using this.symm
  have HF1 : Hid (qrows (xs.map qr)) := Lib.hid ⟨fit_qrs (by omega), by simp; omega⟩
  have HF2 : Hid (qrows (ys.map qr)) := Lib.hid ⟨fit_qrs (by omega), by simp; omega⟩
  have HF3 : Hid (Fit (qr T)) := Lib.hid (fit_qr (by omega))
  have HK1 : Hid ((xs.map qr).all qok = true) := Lib.hid (all_qok_qr _)
  have HK2 : Hid ((ys.map qr).all qok = true) := Lib.hid (all_qok_qr _)
  have HK3 : Hid (qok (qr T) = true) := Lib.hid (qok_qr _)
  have U := Lib.hid (big_qr T (by omega))
  obtain ⟨us, hu⟩ : ∃ us, us = axpy T xs ys := ⟨_, rfl⟩
  obtain ⟨ss, hs⟩ : ∃ ss, ss = scl T ys := ⟨_, rfl⟩
  obtain ⟨T', hT⟩ : ∃ T', T' = 0 - T := ⟨_, rfl⟩
  have hwT' : wt T' ≤ 302 := by rw [hT]; have := wt_sub 0 T; rw [wt_zero] at this; omega
  have hback : axpy T' us ys = xs := by rw [hT, hu]; exact axpy_back T xs ys (by omega)
  have hzero : axpy ((0 : Int) : Rat) xs ys = xs := axpy_zero xs ys (by omega)
  have hscl : axpy T (zeros n1) ys = ss := by rw [hs, ← hly]; exact axpy_zeros T ys
  have ex := each_of (m := 300) hw1 (Nat.le_refl _)
  have ey := each_of (m := 300) hw2 (Nat.le_refl _)
  have eu : ∀ z ∈ us, wt z ≤ 1000 := by rw [hu]; exact each_axpy ex ey hwT (by omega)
  have es : ∀ z ∈ ss, wt z ≤ 9999 := by rw [hs]; exact each_scl ey hwT (by omega)
  have ex3 : ∀ z ∈ xs, wt z ≤ 3000 := fun z hz => Nat.le_trans (ex z hz) (by omega)
  have ey3 : ∀ z ∈ ys, wt z ≤ 3000 := fun z hz => Nat.le_trans (ey z hz) (by omega)
  have ey9 : ∀ z ∈ ys, wt z ≤ 9999 := fun z hz => Nat.le_trans (ey z hz) (by omega)
  have eu3 : ∀ z ∈ us, wt z ≤ 3000 := fun z hz => Nat.le_trans (eu z hz) (by omega)
  have ez3 : ∀ z ∈ zeros n1, wt z ≤ 3000 := each_zeros (by omega)
  have wz : wt ((0 : Int) : Rat) = 1 := wt_int 0 (by decide)
  have t3 : wt T ≤ 3000 := by omega
  have t4 : wt T' ≤ 3000 := by omega
  have t5 : wt ((0 : Int) : Rat) ≤ 3000 := by omega
  have b0 : n1 ≤ 60000 := by omega
  have hT2 : ((0 : Int) : Rat) - T = T' := hT.symm
  have b6 : wts xs ≤ 9000 := by omega
  have b7 : n1 ≤ 100 := by omega
  have b8 : wt ((0 : Int) : Rat) ≤ 9999 := by omega
  have b9 : wt T ≤ 9999 := by omega
  have M1 := Lib.hid hu.symm
  have M2 := Lib.hid hback
  have M3 := Lib.hid hzero
  have M4 := Lib.hid hscl
  have M5 := Lib.hid hs.symm
  have M6 := Lib.hid hT2
  clear hu hs hT hT2 hback hzero hscl hlx hly l1 l2 hz1 hwT' wz ex ey eu
  have j1 : ((n1 : Int) != (n1 : Int)) = false := by simp
  have j2 : ((n1 : Int) == (n1 : Int)) = true := by simp
  have V1 := Lib.hid h1; have V2 := Lib.hid h2; have G5 := Lib.hid g5; have G6 := Lib.hid g6; clear h1 h2 g5 g6
  have al := (Below.refl (w).heap.size (w)).alloc (Nat.le_refl _) (.cells #[.bool (qr T).1, .slice ra (qr T).2.1.length rc, .slice rb (qr T).2.2.length rd] 31)
  replace V1 := Lib.hid (V1.out.below al); replace V2 := Lib.hid (V2.out.below al); replace G5 := Lib.hid (G5.out.below al); replace G6 := Lib.hid (G6.out.below al); have HL := Lib.hid al; have NB := Lib.hid (BoxN.new (w) 31 #[.bool (qr T).1, .slice ra (qr T).2.1.length rc, .slice rb (qr T).2.2.length rd]); clear al
  go_enter Try.func5, Try.ntmps5
  go_wp2_with fail
  refine (v_alive _).mono ?_
  rintro e w1 ⟨rfl, rr⟩
  replace V1 := Lib.hid (V1.out.below rr); replace V2 := Lib.hid (V2.out.below rr); replace G5 := Lib.hid (G5.out.below rr); replace G6 := Lib.hid (G6.out.below rr); replace NB := Lib.hid (BoxN.under NB.out rr); replace HL := Lib.hid (then_below HL.out rr); clear rr
  have x0_0 := NB.out.cell 0 _ rfl; have x0_1 := NB.out.cell 1 _ rfl; have x0_2 := NB.out.cell 2 _ rfl
  have VO := Lib.hid (k_one (q := (qr T)) (W := w1) (m := w1.heap.size) rfl G5.out G6.out U.out)
  have al := (Below.refl (w1).heap.size (w1)).alloc (Nat.le_refl _) (.cells #[.bool (qr T).1, .slice ra (qr T).2.1.length rc, .slice rb (qr T).2.2.length rd] 31)
  replace V1 := Lib.hid (V1.out.below al); replace V2 := Lib.hid (V2.out.below al); replace G5 := Lib.hid (G5.out.below al); replace G6 := Lib.hid (G6.out.below al); replace NB := Lib.hid (BoxN.under NB.out al); replace HL := Lib.hid (then_below HL.out al); clear al
  go_wp2_with fail
  refine (k_great (W := (w1.alloc (.cells #[.bool (qr T).1, .slice ra (qr T).2.1.length rc, .slice rb (qr T).2.2.length rd] 31))) (b := w1.heap.size + 1) (by simp) [(a1, n1, c1, xs.map qr), (a2, n1, c2, ys.map qr), (some ⟨w1.heap.size, 0, none⟩, 1, 1, [(qr T)])] rfl rfl (by simp) (gokc V1.out (gokc V2.out (gokc VO.out (gok0 _)))) false (HG.out (some ⟨w1.heap.size, 0, none⟩)).symm).mono ?_
  rintro e w2 ⟨rfl, rr⟩
  replace V1 := Lib.hid (V1.out.below rr); replace V2 := Lib.hid (V2.out.below rr); replace G5 := Lib.hid (G5.out.below rr); replace G6 := Lib.hid (G6.out.below rr); replace NB := Lib.hid (BoxN.under NB.out rr); clear VO; replace HL := Lib.hid (then_below HL.out rr); clear rr
  clear x0_0 x0_1 x0_2
  go_wp2_with fail
  refine (v_check true HK1.out.symm V1.out.1 HF1.out).mono ?_
  rintro e w3 ⟨rfl, rr⟩
  replace V1 := Lib.hid (V1.out.below rr); replace V2 := Lib.hid (V2.out.below rr); replace G5 := Lib.hid (G5.out.below rr); replace G6 := Lib.hid (G6.out.below rr); replace NB := Lib.hid (BoxN.under NB.out rr); replace HL := Lib.hid (then_below HL.out rr); clear rr
  go_wp2_with fail
  refine (v_check true HK2.out.symm V2.out.1 HF2.out).mono ?_
  rintro e w4 ⟨rfl, rr⟩
  replace V1 := Lib.hid (V1.out.below rr); replace V2 := Lib.hid (V2.out.below rr); replace G5 := Lib.hid (G5.out.below rr); replace G6 := Lib.hid (G6.out.below rr); replace NB := Lib.hid (BoxN.under NB.out rr); replace HL := Lib.hid (then_below HL.out rr); clear rr
  have x0_0 := NB.out.cell 0 _ rfl; have x0_1 := NB.out.cell 1 _ rfl; have x0_2 := NB.out.cell 2 _ rfl
  go_wp2_with fail
  refine (k_rcheck (qr T) true HK3.out HF3.out G5.out G6.out).mono ?_
  rintro e w5 ⟨rfl, rr⟩
  replace V1 := Lib.hid (V1.out.below rr); replace V2 := Lib.hid (V2.out.below rr); replace G5 := Lib.hid (G5.out.below rr); replace G6 := Lib.hid (G6.out.below rr); replace NB := Lib.hid (BoxN.under NB.out rr); replace HL := Lib.hid (then_below HL.out rr); clear rr
  clear x0_0 x0_1 x0_2
  have x0_0 := NB.out.cell 0 _ rfl; have x0_1 := NB.out.cell 1 _ rfl; have x0_2 := NB.out.cell 2 _ rfl
  go_wp2_with fail
  refine (k_add T us M1.out ex3 ey3 t3 b0 V1.out.1 V2.out.1 G5.out G6.out).mono ?_
  rintro e w6 ⟨e1, k1, rfl, hv, rr⟩
  replace V1 := Lib.hid (V1.out.below rr); replace V2 := Lib.hid (V2.out.below rr); replace G5 := Lib.hid (G5.out.below rr); replace G6 := Lib.hid (G6.out.below rr); replace NB := Lib.hid (BoxN.under NB.out rr); replace HL := Lib.hid (then_below HL.out rr); have VU := Lib.hid hv; clear rr hv
  clear x0_0 x0_1 x0_2
  go_wp2_with fail
  have al : Below w6.heap.size w6 w6.drew := ⟨rfl, rfl, rfl, Nat.le_refl _, fun _ _ => rfl⟩
  replace V1 := Lib.hid (V1.out.below al); replace V2 := Lib.hid (V2.out.below al); replace G5 := Lib.hid (G5.out.below al); replace G6 := Lib.hid (G6.out.below al); replace NB := Lib.hid (BoxN.under NB.out al); replace VU := Lib.hid (VU.out.below al); replace HL := Lib.hid (then_below HL.out al); clear al
  go_region_held3 (fun V => V.cell? ⟨w.heap.size, 0, none⟩ = some (.bool (qr T).1) ∧ V.cell? ⟨w.heap.size, 1, none⟩ = some (.slice ra (qr T).2.1.length rc) ∧ V.cell? ⟨w.heap.size, 2, none⟩ = some (.slice rb (qr T).2.2.length rd)) (exact ⟨NB.out.cell 0 _ rfl, NB.out.cell 1 _ rfl, NB.out.cell 2 _ rfl⟩) (first
    | (go_at_call 23; refine (k_of 0 (by decide) (by decide)).mono ?_; rintro e w7 ⟨e2, k2, o2, r2, rfl, g, g', rr⟩; replace V1 := Lib.hid (V1.out.below rr); replace V2 := Lib.hid (V2.out.below rr); replace G5 := Lib.hid (G5.out.below rr); replace G6 := Lib.hid (G6.out.below rr); replace NB := Lib.hid (BoxN.under NB.out rr); replace VU := Lib.hid (VU.out.below rr); replace HL := Lib.hid (then_below HL.out rr); have GZ := Lib.hid g; have KZ := Lib.hid g'; clear rr g)
    | (go_at_call 22; refine (k_rsub ((0 : Int) : Rat) T T' M6.out b8 b9 GZ.out KZ.out G5.out G6.out).mono ?_; rintro e w8 ⟨e3, k3, o3, r3, rfl, g, g', rr⟩; replace V1 := Lib.hid (V1.out.below rr); replace V2 := Lib.hid (V2.out.below rr); replace G5 := Lib.hid (G5.out.below rr); replace G6 := Lib.hid (G6.out.below rr); replace NB := Lib.hid (BoxN.under NB.out rr); replace VU := Lib.hid (VU.out.below rr); clear GZ; clear KZ; replace HL := Lib.hid (then_below HL.out rr); have GT := Lib.hid g; have KT := Lib.hid g'; clear rr g)
    | (go_at_call 18; refine (k_add T' xs M2.out eu3 ey3 t4 b0 VU.out V2.out.1 GT.out KT.out).mono ?_; rintro e w9 ⟨e4, k4, rfl, hv, rr⟩; replace V1 := Lib.hid (V1.out.below rr); replace V2 := Lib.hid (V2.out.below rr); replace G5 := Lib.hid (G5.out.below rr); replace G6 := Lib.hid (G6.out.below rr); replace NB := Lib.hid (BoxN.under NB.out rr); replace VU := Lib.hid (VU.out.below rr); clear GT; clear KT; replace HL := Lib.hid (then_below HL.out rr); have VY := Lib.hid hv; clear rr hv))
  go_wp2_with fail
  refine (k_of 0 (by decide) (by decide)).mono ?_
  rintro e w10 ⟨e5, k5, o5, r5, rfl, g, g', rr⟩
  replace V1 := Lib.hid (V1.out.below rr); replace V2 := Lib.hid (V2.out.below rr); replace G5 := Lib.hid (G5.out.below rr); replace G6 := Lib.hid (G6.out.below rr); replace NB := Lib.hid (BoxN.under NB.out rr); replace VU := Lib.hid (VU.out.below rr); replace VY := Lib.hid (VY.out.below rr); replace HL := Lib.hid (then_below HL.out rr); have GZ := Lib.hid g; have KZ := Lib.hid g'; clear rr g
  go_wp2_with fail
  refine (k_add ((0 : Int) : Rat) xs M3.out ex3 ey3 t5 b0 V1.out.1 V2.out.1 GZ.out KZ.out).mono ?_
  rintro e w11 ⟨e6, k6, rfl, hv, rr⟩
  replace V1 := Lib.hid (V1.out.below rr); replace V2 := Lib.hid (V2.out.below rr); replace G5 := Lib.hid (G5.out.below rr); replace G6 := Lib.hid (G6.out.below rr); replace NB := Lib.hid (BoxN.under NB.out rr); replace VU := Lib.hid (VU.out.below rr); replace VY := Lib.hid (VY.out.below rr); clear GZ; clear KZ; replace HL := Lib.hid (then_below HL.out rr); have VZ := Lib.hid hv; clear rr hv
  go_wp2_with fail
  have al : Below w11.heap.size w11 w11.drew := ⟨rfl, rfl, rfl, Nat.le_refl _, fun _ _ => rfl⟩
  replace V1 := Lib.hid (V1.out.below al); replace V2 := Lib.hid (V2.out.below al); replace G5 := Lib.hid (G5.out.below al); replace G6 := Lib.hid (G6.out.below al); replace NB := Lib.hid (BoxN.under NB.out al); replace VU := Lib.hid (VU.out.below al); replace VY := Lib.hid (VY.out.below al); replace VZ := Lib.hid (VZ.out.below al); replace HL := Lib.hid (then_below HL.out al); clear al
  go_region_held3 (fun V => V.cell? ⟨w.heap.size, 0, none⟩ = some (.bool (qr T).1) ∧ V.cell? ⟨w.heap.size, 1, none⟩ = some (.slice ra (qr T).2.1.length rc) ∧ V.cell? ⟨w.heap.size, 2, none⟩ = some (.slice rb (qr T).2.2.length rd)) (exact ⟨NB.out.cell 0 _ rfl, NB.out.cell 1 _ rfl, NB.out.cell 2 _ rfl⟩) (first
    | (go_at_call 13; refine (k_zero n1 b7).mono ?_; rintro e w12 ⟨e7, k7, rfl, hv, rr⟩; replace V1 := Lib.hid (V1.out.below rr); replace V2 := Lib.hid (V2.out.below rr); replace G5 := Lib.hid (G5.out.below rr); replace G6 := Lib.hid (G6.out.below rr); replace NB := Lib.hid (BoxN.under NB.out rr); replace VU := Lib.hid (VU.out.below rr); replace VY := Lib.hid (VY.out.below rr); replace VZ := Lib.hid (VZ.out.below rr); replace HL := Lib.hid (then_below HL.out rr); have VN := Lib.hid hv; clear rr hv)
    | (go_at_call 18; refine (k_add T ss M4.out ez3 ey3 t3 b0 VN.out V2.out.1 G5.out G6.out).mono ?_; rintro e w13 ⟨e8, k8, rfl, hv, rr⟩; replace V1 := Lib.hid (V1.out.below rr); replace V2 := Lib.hid (V2.out.below rr); replace G5 := Lib.hid (G5.out.below rr); replace G6 := Lib.hid (G6.out.below rr); replace NB := Lib.hid (BoxN.under NB.out rr); replace VU := Lib.hid (VU.out.below rr); replace VY := Lib.hid (VY.out.below rr); replace VZ := Lib.hid (VZ.out.below rr); clear VN; replace HL := Lib.hid (then_below HL.out rr); have VS := Lib.hid hv; clear rr hv))
  go_wp2_with fail
  refine (v_same true (by simp) VY.out V1.out.1 b6 b6).mono ?_
  rintro e w14 ⟨rfl, rr⟩
  replace V1 := Lib.hid (V1.out.below rr); replace V2 := Lib.hid (V2.out.below rr); replace G5 := Lib.hid (G5.out.below rr); replace G6 := Lib.hid (G6.out.below rr); replace NB := Lib.hid (BoxN.under NB.out rr); replace VU := Lib.hid (VU.out.below rr); clear VY; replace VZ := Lib.hid (VZ.out.below rr); replace VS := Lib.hid (VS.out.below rr); replace HL := Lib.hid (then_below HL.out rr); clear rr
  go_wp2_with fail
  refine (v_same true (by simp) VZ.out V1.out.1 b6 b6).mono ?_
  rintro e w15 ⟨rfl, rr⟩
  replace V1 := Lib.hid (V1.out.below rr); replace V2 := Lib.hid (V2.out.below rr); replace G5 := Lib.hid (G5.out.below rr); replace G6 := Lib.hid (G6.out.below rr); replace NB := Lib.hid (BoxN.under NB.out rr); replace VU := Lib.hid (VU.out.below rr); clear VZ; replace VS := Lib.hid (VS.out.below rr); replace HL := Lib.hid (then_below HL.out rr); clear rr
  have x0_0 := NB.out.cell 0 _ rfl; have x0_1 := NB.out.cell 1 _ rfl; have x0_2 := NB.out.cell 2 _ rfl
  go_wp2_with fail
  refine (k_scale T ss M5.out ey9 b9 b0 V2.out.1 G5.out G6.out).mono ?_
  rintro e w16 ⟨e9, k9, rfl, hv, rr⟩
  replace V1 := Lib.hid (V1.out.below rr); replace V2 := Lib.hid (V2.out.below rr); replace G5 := Lib.hid (G5.out.below rr); replace G6 := Lib.hid (G6.out.below rr); replace NB := Lib.hid (BoxN.under NB.out rr); replace VU := Lib.hid (VU.out.below rr); replace VS := Lib.hid (VS.out.below rr); replace HL := Lib.hid (then_below HL.out rr); have VR := Lib.hid hv; clear rr hv
  clear x0_0 x0_1 x0_2
  go_wp2_with fail
  refine (v_samem true (by simp) VS.out VR.out es es b0).mono ?_
  rintro e w17 ⟨rfl, rr⟩
  replace V1 := Lib.hid (V1.out.below rr); replace V2 := Lib.hid (V2.out.below rr); replace G5 := Lib.hid (G5.out.below rr); replace G6 := Lib.hid (G6.out.below rr); replace NB := Lib.hid (BoxN.under NB.out rr); replace VU := Lib.hid (VU.out.below rr); replace VS := Lib.hid (VS.out.below rr); replace VR := Lib.hid (VR.out.below rr); replace HL := Lib.hid (then_below HL.out rr); clear rr
  go_wp2_with fail
  go_ret
  exact ⟨rfl, HL.out⟩
theorem vecsBack_any {w : World} {a1 a2 : Option Addr} {n1 n2 c1 c2 : Nat} {q1 q2 : List Qr} {r : Qr} {ra rb : Option Addr} {rc rd : Nat} (h1 : GOK w (a1, n1, c1, q1)) (h2 : GOK w (a2, n2, c2, q2)) (g5 : Reads w (.slice ra r.2.1.length rc) r.2.1) (g6 : Reads w (.slice rb r.2.2.length rd) r.2.2) (u : Big r) :
    Calls Try.prog 5 #[.slice a1 n1 c1, .slice a2 n2 c2, .agg #[.bool r.1, .slice ra r.2.1.length rc, .slice rb r.2.2.length rd]] w fun e w' => e = .returned (.bool true) ∧ Below w.heap.size w w' := by
  have hx : ∀ x : Option Addr, gbig (x, 1, 1, [r]) = gbig (none, 1, 1, [r]) := fun _ => rfl
  cases hg : ([(a1, n1, c1, q1), (a2, n2, c2, q2), (none, 1, 1, [r])] : List GI).any gbig with
  | true => exact back_0 h1 h2 g5 g6 u (fun _ => hg)
  | false =>
    have hgg := hg
    simp only [List.any_cons, List.any_nil, Bool.or_false, Bool.or_eq_false_iff] at hgg
    have b1 := gbig_no hgg.1
    have b2 := gbig_no hgg.2.1
    have b3 := gbig_no hgg.2.2
    dsimp only at b1 b2 b3
    by_cases hn : n1 = n2
    · have e1 := h1.1.addr.1
      have e2 := h2.1.addr.1
      have f1 := qrows_of e1 b1.1 h1.2 b1.2
      have f2 := qrows_of e2 b2.1 h2.2 b2.2
      have f3 := one_fit u b3.2
      cases k1 : q1.all qok with
      | false => exact back_2 h1 h2 g5 g6 u (fun _ => hg) hn f1 f2 f3 k1
      | true =>
        cases k2 : q2.all qok with
        | false => exact back_3 h1 h2 g5 g6 u (fun _ => hg) hn f1 f2 f3 k1 k2
        | true =>
          cases k3 : qok r with
          | false => exact back_4 h1 h2 g5 g6 u (fun _ => hg) hn f1 f2 f3 k1 k2 k3
          | true =>
            obtain ⟨xs, rfl, _, hw1⟩ := row_of e1 h1.2 b1.2 k1
            obtain ⟨ys, rfl, _, hw2⟩ := row_of e2 h2.2 b2.2 k2
            obtain ⟨T, rfl, hwT⟩ := one_rat u b3.2 k3
            subst hn
            exact back_near h1 h2 g5 g6 (fun _ => hg) b1.1 hw1 hw2 hwT
    · exact back_1 h1 h2 g5 g6 u (fun _ => hg) hn
end Go.Proofs.Ytcndjjhdckbfkaa
