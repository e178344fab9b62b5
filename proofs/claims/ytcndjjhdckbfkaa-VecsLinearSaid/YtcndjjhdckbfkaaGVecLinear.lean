/- VecsLinear: its walks. -/
import Derived.Test.YtcndjjhdckbfkaaGVecK
import Derived.Deep.RegionHeld3
namespace Go.Proofs.Ytcndjjhdckbfkaa
open Go Go.Proofs Go.RowKit Go.Shelf Nu

attribute [local go_sem] Oper.semAt_some

set_option maxRecDepth 100000 in
set_option maxHeartbeats 8000000 in
theorem linear_0 {w : World} {a1 a2 a3 : Option Addr} {n1 n2 n3 c1 c2 c3 : Nat} {q1 q2 q3 : List Qr} {r : Qr} {ra rb : Option Addr} {rc rd : Nat} (h1 : GOK w (a1, n1, c1, q1)) (h2 : GOK w (a2, n2, c2, q2)) (h3 : GOK w (a3, n3, c3, q3)) (g5 : Reads w (.slice ra r.2.1.length rc) r.2.1) (g6 : Reads w (.slice rb r.2.2.length rd) r.2.2) (u : Big r) (hg : ∀ x : Option Addr, ([(a1, n1, c1, q1), (a2, n2, c2, q2), (a3, n3, c3, q3), (x, 1, 1, [r])] : List GI).any gbig = true) :
    Calls Try.prog 4 #[.agg #[.slice a1 n1 c1, .slice a2 n2 c2, .slice a3 n3 c3, .bool r.1, .slice ra r.2.1.length rc, .slice rb r.2.2.length rd]] w fun e w' => e = .returned (.bool true) ∧ Below w.heap.size w w' := by
  have HG := Lib.hid hg; clear hg
  have V1 := Lib.hid h1; have V2 := Lib.hid h2; have V3 := Lib.hid h3; have G5 := Lib.hid g5; have G6 := Lib.hid g6; clear h1 h2 h3 g5 g6
  have NT := Lib.hid (BoxN.new w 40 #[.slice a1 n1 c1, .slice a2 n2 c2, .slice a3 n3 c3, .bool r.1, .slice ra r.2.1.length rc, .slice rb r.2.2.length rd])
  have al := (Below.refl (w).heap.size (w)).alloc (Nat.le_refl _) (.cells #[.slice a1 n1 c1, .slice a2 n2 c2, .slice a3 n3 c3, .bool r.1, .slice ra r.2.1.length rc, .slice rb r.2.2.length rd] 40)
  replace V1 := Lib.hid (V1.out.below al); replace V2 := Lib.hid (V2.out.below al); replace V3 := Lib.hid (V3.out.below al); replace G5 := Lib.hid (G5.out.below al); replace G6 := Lib.hid (G6.out.below al); have HL := Lib.hid al; clear al
  go_enter Try.func4, Try.ntmps4
  go_wp2_with fail
  refine (v_alive _).mono ?_
  rintro e w1 ⟨rfl, rr⟩
  replace V1 := Lib.hid (V1.out.below rr); replace V2 := Lib.hid (V2.out.below rr); replace V3 := Lib.hid (V3.out.below rr); replace G5 := Lib.hid (G5.out.below rr); replace G6 := Lib.hid (G6.out.below rr); replace NT := Lib.hid (BoxN.under NT.out rr); replace HL := Lib.hid (then_below HL.out rr); clear rr
  have y0 := NT.out.cell 0 _ rfl; have y1 := NT.out.cell 1 _ rfl; have y2 := NT.out.cell 2 _ rfl; have y3 := NT.out.cell 3 _ rfl; have y4 := NT.out.cell 4 _ rfl; have y5 := NT.out.cell 5 _ rfl
  have VO := Lib.hid (k_one (q := r) (W := w1) (m := w1.heap.size) rfl G5.out G6.out u)
  have al := (Below.refl (w1).heap.size (w1)).alloc (Nat.le_refl _) (.cells #[.bool r.1, .slice ra r.2.1.length rc, .slice rb r.2.2.length rd] 31)
  replace V1 := Lib.hid (V1.out.below al); replace V2 := Lib.hid (V2.out.below al); replace V3 := Lib.hid (V3.out.below al); replace G5 := Lib.hid (G5.out.below al); replace G6 := Lib.hid (G6.out.below al); replace NT := Lib.hid (BoxN.under NT.out al); replace HL := Lib.hid (then_below HL.out al); clear al
  go_wp2_with fail
  refine (k_great (W := (w1.alloc (.cells #[.bool r.1, .slice ra r.2.1.length rc, .slice rb r.2.2.length rd] 31))) (b := w1.heap.size + 1) (by simp) [(a1, n1, c1, q1), (a2, n2, c2, q2), (a3, n3, c3, q3), (some ⟨w1.heap.size, 0, none⟩, 1, 1, [r])] rfl rfl (by simp) (gokc V1.out (gokc V2.out (gokc V3.out (gokc VO.out (gok0 _))))) true (HG.out (some ⟨w1.heap.size, 0, none⟩)).symm).mono ?_
  rintro e w2 ⟨rfl, rr⟩
  replace V1 := Lib.hid (V1.out.below rr); replace V2 := Lib.hid (V2.out.below rr); replace V3 := Lib.hid (V3.out.below rr); replace G5 := Lib.hid (G5.out.below rr); replace G6 := Lib.hid (G6.out.below rr); replace NT := Lib.hid (BoxN.under NT.out rr); clear VO; replace HL := Lib.hid (then_below HL.out rr); clear rr
  clear y0 y1 y2 y3 y4 y5
  go_wp2_with fail
  refine (v_alive _).mono ?_
  rintro e w3 ⟨rfl, rr⟩
  replace V1 := Lib.hid (V1.out.below rr); replace V2 := Lib.hid (V2.out.below rr); replace V3 := Lib.hid (V3.out.below rr); replace G5 := Lib.hid (G5.out.below rr); replace G6 := Lib.hid (G6.out.below rr); replace NT := Lib.hid (BoxN.under NT.out rr); replace HL := Lib.hid (then_below HL.out rr); clear rr
  go_wp2_with fail
  go_ret
  exact ⟨rfl, HL.out⟩
set_option maxRecDepth 100000 in
set_option maxHeartbeats 8000000 in
theorem linear_1 {w : World} {a1 a2 a3 : Option Addr} {n1 n2 n3 c1 c2 c3 : Nat} {q1 q2 q3 : List Qr} {r : Qr} {ra rb : Option Addr} {rc rd : Nat} (h1 : GOK w (a1, n1, c1, q1)) (h2 : GOK w (a2, n2, c2, q2)) (h3 : GOK w (a3, n3, c3, q3)) (g5 : Reads w (.slice ra r.2.1.length rc) r.2.1) (g6 : Reads w (.slice rb r.2.2.length rd) r.2.2) (u : Big r) (hg : ∀ x : Option Addr, ([(a1, n1, c1, q1), (a2, n2, c2, q2), (a3, n3, c3, q3), (x, 1, 1, [r])] : List GI).any gbig = false) (ht : 10 < n1) :
    Calls Try.prog 4 #[.agg #[.slice a1 n1 c1, .slice a2 n2 c2, .slice a3 n3 c3, .bool r.1, .slice ra r.2.1.length rc, .slice rb r.2.2.length rd]] w fun e w' => e = .returned (.bool true) ∧ Below w.heap.size w w' := by
  have HG := Lib.hid hg; clear hg
  have i0 : (10 : Int) < (n1 : Int) := by omega
  have j0 : decide ((10 : Int) < (n1 : Int)) = true := decide_eq_true (by omega)
  have V1 := Lib.hid h1; have V2 := Lib.hid h2; have V3 := Lib.hid h3; have G5 := Lib.hid g5; have G6 := Lib.hid g6; clear h1 h2 h3 g5 g6
  have NT := Lib.hid (BoxN.new w 40 #[.slice a1 n1 c1, .slice a2 n2 c2, .slice a3 n3 c3, .bool r.1, .slice ra r.2.1.length rc, .slice rb r.2.2.length rd])
  have al := (Below.refl (w).heap.size (w)).alloc (Nat.le_refl _) (.cells #[.slice a1 n1 c1, .slice a2 n2 c2, .slice a3 n3 c3, .bool r.1, .slice ra r.2.1.length rc, .slice rb r.2.2.length rd] 40)
  replace V1 := Lib.hid (V1.out.below al); replace V2 := Lib.hid (V2.out.below al); replace V3 := Lib.hid (V3.out.below al); replace G5 := Lib.hid (G5.out.below al); replace G6 := Lib.hid (G6.out.below al); have HL := Lib.hid al; clear al
  go_enter Try.func4, Try.ntmps4
  go_wp2_with fail
  refine (v_alive _).mono ?_
  rintro e w1 ⟨rfl, rr⟩
  replace V1 := Lib.hid (V1.out.below rr); replace V2 := Lib.hid (V2.out.below rr); replace V3 := Lib.hid (V3.out.below rr); replace G5 := Lib.hid (G5.out.below rr); replace G6 := Lib.hid (G6.out.below rr); replace NT := Lib.hid (BoxN.under NT.out rr); replace HL := Lib.hid (then_below HL.out rr); clear rr
  have y0 := NT.out.cell 0 _ rfl; have y1 := NT.out.cell 1 _ rfl; have y2 := NT.out.cell 2 _ rfl; have y3 := NT.out.cell 3 _ rfl; have y4 := NT.out.cell 4 _ rfl; have y5 := NT.out.cell 5 _ rfl
  have VO := Lib.hid (k_one (q := r) (W := w1) (m := w1.heap.size) rfl G5.out G6.out u)
  have al := (Below.refl (w1).heap.size (w1)).alloc (Nat.le_refl _) (.cells #[.bool r.1, .slice ra r.2.1.length rc, .slice rb r.2.2.length rd] 31)
  replace V1 := Lib.hid (V1.out.below al); replace V2 := Lib.hid (V2.out.below al); replace V3 := Lib.hid (V3.out.below al); replace G5 := Lib.hid (G5.out.below al); replace G6 := Lib.hid (G6.out.below al); replace NT := Lib.hid (BoxN.under NT.out al); replace HL := Lib.hid (then_below HL.out al); clear al
  go_wp2_with fail
  refine (k_great (W := (w1.alloc (.cells #[.bool r.1, .slice ra r.2.1.length rc, .slice rb r.2.2.length rd] 31))) (b := w1.heap.size + 1) (by simp) [(a1, n1, c1, q1), (a2, n2, c2, q2), (a3, n3, c3, q3), (some ⟨w1.heap.size, 0, none⟩, 1, 1, [r])] rfl rfl (by simp) (gokc V1.out (gokc V2.out (gokc V3.out (gokc VO.out (gok0 _))))) false (HG.out (some ⟨w1.heap.size, 0, none⟩)).symm).mono ?_
  rintro e w2 ⟨rfl, rr⟩
  replace V1 := Lib.hid (V1.out.below rr); replace V2 := Lib.hid (V2.out.below rr); replace V3 := Lib.hid (V3.out.below rr); replace G5 := Lib.hid (G5.out.below rr); replace G6 := Lib.hid (G6.out.below rr); replace NT := Lib.hid (BoxN.under NT.out rr); clear VO; replace HL := Lib.hid (then_below HL.out rr); clear rr
  clear y0 y1 y2 y3 y4 y5
  have y0 := NT.out.cell 0 _ rfl; have y1 := NT.out.cell 1 _ rfl; have y2 := NT.out.cell 2 _ rfl; have y3 := NT.out.cell 3 _ rfl; have y4 := NT.out.cell 4 _ rfl; have y5 := NT.out.cell 5 _ rfl
  go_wp2_with fail
  refine (v_alive _).mono ?_
  rintro e w3 ⟨rfl, rr⟩
  replace V1 := Lib.hid (V1.out.below rr); replace V2 := Lib.hid (V2.out.below rr); replace V3 := Lib.hid (V3.out.below rr); replace G5 := Lib.hid (G5.out.below rr); replace G6 := Lib.hid (G6.out.below rr); replace NT := Lib.hid (BoxN.under NT.out rr); replace HL := Lib.hid (then_below HL.out rr); clear rr
  go_wp2_with fail
  go_ret
  exact ⟨rfl, HL.out⟩
set_option maxRecDepth 100000 in
set_option maxHeartbeats 8000000 in
theorem linear_2 {w : World} {a1 a2 a3 : Option Addr} {n1 n2 n3 c1 c2 c3 : Nat} {q1 q2 q3 : List Qr} {r : Qr} {ra rb : Option Addr} {rc rd : Nat} (h1 : GOK w (a1, n1, c1, q1)) (h2 : GOK w (a2, n2, c2, q2)) (h3 : GOK w (a3, n3, c3, q3)) (g5 : Reads w (.slice ra r.2.1.length rc) r.2.1) (g6 : Reads w (.slice rb r.2.2.length rd) r.2.2) (u : Big r) (hg : ∀ x : Option Addr, ([(a1, n1, c1, q1), (a2, n2, c2, q2), (a3, n3, c3, q3), (x, 1, 1, [r])] : List GI).any gbig = false) (ht : ¬ 10 < n1) (hn : n1 ≠ n2) :
    Calls Try.prog 4 #[.agg #[.slice a1 n1 c1, .slice a2 n2 c2, .slice a3 n3 c3, .bool r.1, .slice ra r.2.1.length rc, .slice rb r.2.2.length rd]] w fun e w' => e = .returned (.bool true) ∧ Below w.heap.size w w' := by
  have HG := Lib.hid hg; clear hg
  have i0 : ¬ (10 : Int) < (n1 : Int) := by omega
  have j0 : decide ((10 : Int) < (n1 : Int)) = false := decide_eq_false (by omega)
  have j1 : ((n1 : Int) != (n2 : Int)) = true := by simp; omega
  clear hn
  have V1 := Lib.hid h1; have V2 := Lib.hid h2; have V3 := Lib.hid h3; have G5 := Lib.hid g5; have G6 := Lib.hid g6; clear h1 h2 h3 g5 g6
  have NT := Lib.hid (BoxN.new w 40 #[.slice a1 n1 c1, .slice a2 n2 c2, .slice a3 n3 c3, .bool r.1, .slice ra r.2.1.length rc, .slice rb r.2.2.length rd])
  have al := (Below.refl (w).heap.size (w)).alloc (Nat.le_refl _) (.cells #[.slice a1 n1 c1, .slice a2 n2 c2, .slice a3 n3 c3, .bool r.1, .slice ra r.2.1.length rc, .slice rb r.2.2.length rd] 40)
  replace V1 := Lib.hid (V1.out.below al); replace V2 := Lib.hid (V2.out.below al); replace V3 := Lib.hid (V3.out.below al); replace G5 := Lib.hid (G5.out.below al); replace G6 := Lib.hid (G6.out.below al); have HL := Lib.hid al; clear al
  go_enter Try.func4, Try.ntmps4
  go_wp2_with fail
  refine (v_alive _).mono ?_
  rintro e w1 ⟨rfl, rr⟩
  replace V1 := Lib.hid (V1.out.below rr); replace V2 := Lib.hid (V2.out.below rr); replace V3 := Lib.hid (V3.out.below rr); replace G5 := Lib.hid (G5.out.below rr); replace G6 := Lib.hid (G6.out.below rr); replace NT := Lib.hid (BoxN.under NT.out rr); replace HL := Lib.hid (then_below HL.out rr); clear rr
  have y0 := NT.out.cell 0 _ rfl; have y1 := NT.out.cell 1 _ rfl; have y2 := NT.out.cell 2 _ rfl; have y3 := NT.out.cell 3 _ rfl; have y4 := NT.out.cell 4 _ rfl; have y5 := NT.out.cell 5 _ rfl
  have VO := Lib.hid (k_one (q := r) (W := w1) (m := w1.heap.size) rfl G5.out G6.out u)
  have al := (Below.refl (w1).heap.size (w1)).alloc (Nat.le_refl _) (.cells #[.bool r.1, .slice ra r.2.1.length rc, .slice rb r.2.2.length rd] 31)
  replace V1 := Lib.hid (V1.out.below al); replace V2 := Lib.hid (V2.out.below al); replace V3 := Lib.hid (V3.out.below al); replace G5 := Lib.hid (G5.out.below al); replace G6 := Lib.hid (G6.out.below al); replace NT := Lib.hid (BoxN.under NT.out al); replace HL := Lib.hid (then_below HL.out al); clear al
  go_wp2_with fail
  refine (k_great (W := (w1.alloc (.cells #[.bool r.1, .slice ra r.2.1.length rc, .slice rb r.2.2.length rd] 31))) (b := w1.heap.size + 1) (by simp) [(a1, n1, c1, q1), (a2, n2, c2, q2), (a3, n3, c3, q3), (some ⟨w1.heap.size, 0, none⟩, 1, 1, [r])] rfl rfl (by simp) (gokc V1.out (gokc V2.out (gokc V3.out (gokc VO.out (gok0 _))))) false (HG.out (some ⟨w1.heap.size, 0, none⟩)).symm).mono ?_
  rintro e w2 ⟨rfl, rr⟩
  replace V1 := Lib.hid (V1.out.below rr); replace V2 := Lib.hid (V2.out.below rr); replace V3 := Lib.hid (V3.out.below rr); replace G5 := Lib.hid (G5.out.below rr); replace G6 := Lib.hid (G6.out.below rr); replace NT := Lib.hid (BoxN.under NT.out rr); clear VO; replace HL := Lib.hid (then_below HL.out rr); clear rr
  clear y0 y1 y2 y3 y4 y5
  have y0 := NT.out.cell 0 _ rfl; have y1 := NT.out.cell 1 _ rfl; have y2 := NT.out.cell 2 _ rfl; have y3 := NT.out.cell 3 _ rfl; have y4 := NT.out.cell 4 _ rfl; have y5 := NT.out.cell 5 _ rfl
  go_wp2_with fail
  refine (v_alive _).mono ?_
  rintro e w3 ⟨rfl, rr⟩
  replace V1 := Lib.hid (V1.out.below rr); replace V2 := Lib.hid (V2.out.below rr); replace V3 := Lib.hid (V3.out.below rr); replace G5 := Lib.hid (G5.out.below rr); replace G6 := Lib.hid (G6.out.below rr); replace NT := Lib.hid (BoxN.under NT.out rr); replace HL := Lib.hid (then_below HL.out rr); clear rr
  go_wp2_with fail
  go_ret
  exact ⟨rfl, HL.out⟩
set_option maxRecDepth 100000 in
set_option maxHeartbeats 8000000 in
theorem linear_3 {w : World} {a1 a2 a3 : Option Addr} {n1 n2 n3 c1 c2 c3 : Nat} {q1 q2 q3 : List Qr} {r : Qr} {ra rb : Option Addr} {rc rd : Nat} (h1 : GOK w (a1, n1, c1, q1)) (h2 : GOK w (a2, n2, c2, q2)) (h3 : GOK w (a3, n3, c3, q3)) (g5 : Reads w (.slice ra r.2.1.length rc) r.2.1) (g6 : Reads w (.slice rb r.2.2.length rd) r.2.2) (u : Big r) (hg : ∀ x : Option Addr, ([(a1, n1, c1, q1), (a2, n2, c2, q2), (a3, n3, c3, q3), (x, 1, 1, [r])] : List GI).any gbig = false) (ht : ¬ 10 < n1) (hn : n1 = n2) (hm : n1 ≠ n3) :
    Calls Try.prog 4 #[.agg #[.slice a1 n1 c1, .slice a2 n2 c2, .slice a3 n3 c3, .bool r.1, .slice ra r.2.1.length rc, .slice rb r.2.2.length rd]] w fun e w' => e = .returned (.bool true) ∧ Below w.heap.size w w' := by
  have HG := Lib.hid hg; clear hg
  have i0 : ¬ (10 : Int) < (n1 : Int) := by omega
  have j0 : decide ((10 : Int) < (n1 : Int)) = false := decide_eq_false (by omega)
  subst hn
  have j1 : ((n1 : Int) != (n1 : Int)) = false := by simp
  have j2 : ((n1 : Int) != (n3 : Int)) = true := by simp; omega
  clear hm
  have V1 := Lib.hid h1; have V2 := Lib.hid h2; have V3 := Lib.hid h3; have G5 := Lib.hid g5; have G6 := Lib.hid g6; clear h1 h2 h3 g5 g6
  have NT := Lib.hid (BoxN.new w 40 #[.slice a1 n1 c1, .slice a2 n1 c2, .slice a3 n3 c3, .bool r.1, .slice ra r.2.1.length rc, .slice rb r.2.2.length rd])
  have al := (Below.refl (w).heap.size (w)).alloc (Nat.le_refl _) (.cells #[.slice a1 n1 c1, .slice a2 n1 c2, .slice a3 n3 c3, .bool r.1, .slice ra r.2.1.length rc, .slice rb r.2.2.length rd] 40)
  replace V1 := Lib.hid (V1.out.below al); replace V2 := Lib.hid (V2.out.below al); replace V3 := Lib.hid (V3.out.below al); replace G5 := Lib.hid (G5.out.below al); replace G6 := Lib.hid (G6.out.below al); have HL := Lib.hid al; clear al
  go_enter Try.func4, Try.ntmps4
  go_wp2_with fail
  refine (v_alive _).mono ?_
  rintro e w1 ⟨rfl, rr⟩
  replace V1 := Lib.hid (V1.out.below rr); replace V2 := Lib.hid (V2.out.below rr); replace V3 := Lib.hid (V3.out.below rr); replace G5 := Lib.hid (G5.out.below rr); replace G6 := Lib.hid (G6.out.below rr); replace NT := Lib.hid (BoxN.under NT.out rr); replace HL := Lib.hid (then_below HL.out rr); clear rr
  have y0 := NT.out.cell 0 _ rfl; have y1 := NT.out.cell 1 _ rfl; have y2 := NT.out.cell 2 _ rfl; have y3 := NT.out.cell 3 _ rfl; have y4 := NT.out.cell 4 _ rfl; have y5 := NT.out.cell 5 _ rfl
  have VO := Lib.hid (k_one (q := r) (W := w1) (m := w1.heap.size) rfl G5.out G6.out u)
  have al := (Below.refl (w1).heap.size (w1)).alloc (Nat.le_refl _) (.cells #[.bool r.1, .slice ra r.2.1.length rc, .slice rb r.2.2.length rd] 31)
  replace V1 := Lib.hid (V1.out.below al); replace V2 := Lib.hid (V2.out.below al); replace V3 := Lib.hid (V3.out.below al); replace G5 := Lib.hid (G5.out.below al); replace G6 := Lib.hid (G6.out.below al); replace NT := Lib.hid (BoxN.under NT.out al); replace HL := Lib.hid (then_below HL.out al); clear al
  go_wp2_with fail
  refine (k_great (W := (w1.alloc (.cells #[.bool r.1, .slice ra r.2.1.length rc, .slice rb r.2.2.length rd] 31))) (b := w1.heap.size + 1) (by simp) [(a1, n1, c1, q1), (a2, n1, c2, q2), (a3, n3, c3, q3), (some ⟨w1.heap.size, 0, none⟩, 1, 1, [r])] rfl rfl (by simp) (gokc V1.out (gokc V2.out (gokc V3.out (gokc VO.out (gok0 _))))) false (HG.out (some ⟨w1.heap.size, 0, none⟩)).symm).mono ?_
  rintro e w2 ⟨rfl, rr⟩
  replace V1 := Lib.hid (V1.out.below rr); replace V2 := Lib.hid (V2.out.below rr); replace V3 := Lib.hid (V3.out.below rr); replace G5 := Lib.hid (G5.out.below rr); replace G6 := Lib.hid (G6.out.below rr); replace NT := Lib.hid (BoxN.under NT.out rr); clear VO; replace HL := Lib.hid (then_below HL.out rr); clear rr
  clear y0 y1 y2 y3 y4 y5
  have y0 := NT.out.cell 0 _ rfl; have y1 := NT.out.cell 1 _ rfl; have y2 := NT.out.cell 2 _ rfl; have y3 := NT.out.cell 3 _ rfl; have y4 := NT.out.cell 4 _ rfl; have y5 := NT.out.cell 5 _ rfl
  go_wp2_with fail
  refine (v_alive _).mono ?_
  rintro e w3 ⟨rfl, rr⟩
  replace V1 := Lib.hid (V1.out.below rr); replace V2 := Lib.hid (V2.out.below rr); replace V3 := Lib.hid (V3.out.below rr); replace G5 := Lib.hid (G5.out.below rr); replace G6 := Lib.hid (G6.out.below rr); replace NT := Lib.hid (BoxN.under NT.out rr); replace HL := Lib.hid (then_below HL.out rr); clear rr
  go_wp2_with fail
  go_ret
  exact ⟨rfl, HL.out⟩
set_option maxRecDepth 100000 in
set_option maxHeartbeats 8000000 in
theorem linear_4 {w : World} {a1 a2 a3 : Option Addr} {n1 n2 n3 c1 c2 c3 : Nat} {q1 q2 q3 : List Qr} {r : Qr} {ra rb : Option Addr} {rc rd : Nat} (h1 : GOK w (a1, n1, c1, q1)) (h2 : GOK w (a2, n2, c2, q2)) (h3 : GOK w (a3, n3, c3, q3)) (g5 : Reads w (.slice ra r.2.1.length rc) r.2.1) (g6 : Reads w (.slice rb r.2.2.length rd) r.2.2) (u : Big r) (hg : ∀ x : Option Addr, ([(a1, n1, c1, q1), (a2, n2, c2, q2), (a3, n3, c3, q3), (x, 1, 1, [r])] : List GI).any gbig = false) (ht : ¬ 10 < n1) (hn : n1 = n2) (hm : n1 = n3) (f1 : qrows q1) (f2 : qrows q2) (f3 : qrows q3) (f4 : Fit r) (k1 : q1.all qok = false) :
    Calls Try.prog 4 #[.agg #[.slice a1 n1 c1, .slice a2 n2 c2, .slice a3 n3 c3, .bool r.1, .slice ra r.2.1.length rc, .slice rb r.2.2.length rd]] w fun e w' => e = .returned (.bool true) ∧ Below w.heap.size w w' := by
  have HG := Lib.hid hg; clear hg
  have i0 : ¬ (10 : Int) < (n1 : Int) := by omega
  have j0 : decide ((10 : Int) < (n1 : Int)) = false := decide_eq_false (by omega)
  subst hn
  have j1 : ((n1 : Int) != (n1 : Int)) = false := by simp
  subst hm
  have HF1 := Lib.hid f1; have HF2 := Lib.hid f2; have HF3 := Lib.hid f3; have HF4 := Lib.hid f4; clear f1 f2 f3 f4
  have HK1 := Lib.hid k1; clear k1
  have V1 := Lib.hid h1; have V2 := Lib.hid h2; have V3 := Lib.hid h3; have G5 := Lib.hid g5; have G6 := Lib.hid g6; clear h1 h2 h3 g5 g6
  have NT := Lib.hid (BoxN.new w 40 #[.slice a1 n1 c1, .slice a2 n1 c2, .slice a3 n1 c3, .bool r.1, .slice ra r.2.1.length rc, .slice rb r.2.2.length rd])
  have al := (Below.refl (w).heap.size (w)).alloc (Nat.le_refl _) (.cells #[.slice a1 n1 c1, .slice a2 n1 c2, .slice a3 n1 c3, .bool r.1, .slice ra r.2.1.length rc, .slice rb r.2.2.length rd] 40)
  replace V1 := Lib.hid (V1.out.below al); replace V2 := Lib.hid (V2.out.below al); replace V3 := Lib.hid (V3.out.below al); replace G5 := Lib.hid (G5.out.below al); replace G6 := Lib.hid (G6.out.below al); have HL := Lib.hid al; clear al
  go_enter Try.func4, Try.ntmps4
  go_wp2_with fail
  refine (v_alive _).mono ?_
  rintro e w1 ⟨rfl, rr⟩
  replace V1 := Lib.hid (V1.out.below rr); replace V2 := Lib.hid (V2.out.below rr); replace V3 := Lib.hid (V3.out.below rr); replace G5 := Lib.hid (G5.out.below rr); replace G6 := Lib.hid (G6.out.below rr); replace NT := Lib.hid (BoxN.under NT.out rr); replace HL := Lib.hid (then_below HL.out rr); clear rr
  have y0 := NT.out.cell 0 _ rfl; have y1 := NT.out.cell 1 _ rfl; have y2 := NT.out.cell 2 _ rfl; have y3 := NT.out.cell 3 _ rfl; have y4 := NT.out.cell 4 _ rfl; have y5 := NT.out.cell 5 _ rfl
  have VO := Lib.hid (k_one (q := r) (W := w1) (m := w1.heap.size) rfl G5.out G6.out u)
  have al := (Below.refl (w1).heap.size (w1)).alloc (Nat.le_refl _) (.cells #[.bool r.1, .slice ra r.2.1.length rc, .slice rb r.2.2.length rd] 31)
  replace V1 := Lib.hid (V1.out.below al); replace V2 := Lib.hid (V2.out.below al); replace V3 := Lib.hid (V3.out.below al); replace G5 := Lib.hid (G5.out.below al); replace G6 := Lib.hid (G6.out.below al); replace NT := Lib.hid (BoxN.under NT.out al); replace HL := Lib.hid (then_below HL.out al); clear al
  go_wp2_with fail
  refine (k_great (W := (w1.alloc (.cells #[.bool r.1, .slice ra r.2.1.length rc, .slice rb r.2.2.length rd] 31))) (b := w1.heap.size + 1) (by simp) [(a1, n1, c1, q1), (a2, n1, c2, q2), (a3, n1, c3, q3), (some ⟨w1.heap.size, 0, none⟩, 1, 1, [r])] rfl rfl (by simp) (gokc V1.out (gokc V2.out (gokc V3.out (gokc VO.out (gok0 _))))) false (HG.out (some ⟨w1.heap.size, 0, none⟩)).symm).mono ?_
  rintro e w2 ⟨rfl, rr⟩
  replace V1 := Lib.hid (V1.out.below rr); replace V2 := Lib.hid (V2.out.below rr); replace V3 := Lib.hid (V3.out.below rr); replace G5 := Lib.hid (G5.out.below rr); replace G6 := Lib.hid (G6.out.below rr); replace NT := Lib.hid (BoxN.under NT.out rr); clear VO; replace HL := Lib.hid (then_below HL.out rr); clear rr
  clear y0 y1 y2 y3 y4 y5
  have y0 := NT.out.cell 0 _ rfl; have y1 := NT.out.cell 1 _ rfl; have y2 := NT.out.cell 2 _ rfl; have y3 := NT.out.cell 3 _ rfl; have y4 := NT.out.cell 4 _ rfl; have y5 := NT.out.cell 5 _ rfl
  go_wp2_with fail
  refine (v_check false HK1.out.symm V1.out.1 HF1.out).mono ?_
  rintro e w3 ⟨rfl, rr⟩
  replace V1 := Lib.hid (V1.out.below rr); replace V2 := Lib.hid (V2.out.below rr); replace V3 := Lib.hid (V3.out.below rr); replace G5 := Lib.hid (G5.out.below rr); replace G6 := Lib.hid (G6.out.below rr); replace NT := Lib.hid (BoxN.under NT.out rr); replace HL := Lib.hid (then_below HL.out rr); clear rr
  clear y0 y1 y2 y3 y4 y5
  go_wp2_with fail
  refine (v_alive _).mono ?_
  rintro e w4 ⟨rfl, rr⟩
  replace V1 := Lib.hid (V1.out.below rr); replace V2 := Lib.hid (V2.out.below rr); replace V3 := Lib.hid (V3.out.below rr); replace G5 := Lib.hid (G5.out.below rr); replace G6 := Lib.hid (G6.out.below rr); replace NT := Lib.hid (BoxN.under NT.out rr); replace HL := Lib.hid (then_below HL.out rr); clear rr
  go_wp2_with fail
  go_ret
  exact ⟨rfl, HL.out⟩
set_option maxRecDepth 100000 in
set_option maxHeartbeats 8000000 in
theorem linear_5 {w : World} {a1 a2 a3 : Option Addr} {n1 n2 n3 c1 c2 c3 : Nat} {q1 q2 q3 : List Qr} {r : Qr} {ra rb : Option Addr} {rc rd : Nat} (h1 : GOK w (a1, n1, c1, q1)) (h2 : GOK w (a2, n2, c2, q2)) (h3 : GOK w (a3, n3, c3, q3)) (g5 : Reads w (.slice ra r.2.1.length rc) r.2.1) (g6 : Reads w (.slice rb r.2.2.length rd) r.2.2) (u : Big r) (hg : ∀ x : Option Addr, ([(a1, n1, c1, q1), (a2, n2, c2, q2), (a3, n3, c3, q3), (x, 1, 1, [r])] : List GI).any gbig = false) (ht : ¬ 10 < n1) (hn : n1 = n2) (hm : n1 = n3) (f1 : qrows q1) (f2 : qrows q2) (f3 : qrows q3) (f4 : Fit r) (k1 : q1.all qok = true) (k2 : q2.all qok = false) :
    Calls Try.prog 4 #[.agg #[.slice a1 n1 c1, .slice a2 n2 c2, .slice a3 n3 c3, .bool r.1, .slice ra r.2.1.length rc, .slice rb r.2.2.length rd]] w fun e w' => e = .returned (.bool true) ∧ Below w.heap.size w w' := by
  have HG := Lib.hid hg; clear hg
  have i0 : ¬ (10 : Int) < (n1 : Int) := by omega
  have j0 : decide ((10 : Int) < (n1 : Int)) = false := decide_eq_false (by omega)
  subst hn
  have j1 : ((n1 : Int) != (n1 : Int)) = false := by simp
  subst hm
  have HF1 := Lib.hid f1; have HF2 := Lib.hid f2; have HF3 := Lib.hid f3; have HF4 := Lib.hid f4; clear f1 f2 f3 f4
  have HK1 := Lib.hid k1; clear k1
  have HK2 := Lib.hid k2; clear k2
  have V1 := Lib.hid h1; have V2 := Lib.hid h2; have V3 := Lib.hid h3; have G5 := Lib.hid g5; have G6 := Lib.hid g6; clear h1 h2 h3 g5 g6
  have NT := Lib.hid (BoxN.new w 40 #[.slice a1 n1 c1, .slice a2 n1 c2, .slice a3 n1 c3, .bool r.1, .slice ra r.2.1.length rc, .slice rb r.2.2.length rd])
  have al := (Below.refl (w).heap.size (w)).alloc (Nat.le_refl _) (.cells #[.slice a1 n1 c1, .slice a2 n1 c2, .slice a3 n1 c3, .bool r.1, .slice ra r.2.1.length rc, .slice rb r.2.2.length rd] 40)
  replace V1 := Lib.hid (V1.out.below al); replace V2 := Lib.hid (V2.out.below al); replace V3 := Lib.hid (V3.out.below al); replace G5 := Lib.hid (G5.out.below al); replace G6 := Lib.hid (G6.out.below al); have HL := Lib.hid al; clear al
  go_enter Try.func4, Try.ntmps4
  go_wp2_with fail
  refine (v_alive _).mono ?_
  rintro e w1 ⟨rfl, rr⟩
  replace V1 := Lib.hid (V1.out.below rr); replace V2 := Lib.hid (V2.out.below rr); replace V3 := Lib.hid (V3.out.below rr); replace G5 := Lib.hid (G5.out.below rr); replace G6 := Lib.hid (G6.out.below rr); replace NT := Lib.hid (BoxN.under NT.out rr); replace HL := Lib.hid (then_below HL.out rr); clear rr
  have y0 := NT.out.cell 0 _ rfl; have y1 := NT.out.cell 1 _ rfl; have y2 := NT.out.cell 2 _ rfl; have y3 := NT.out.cell 3 _ rfl; have y4 := NT.out.cell 4 _ rfl; have y5 := NT.out.cell 5 _ rfl
  have VO := Lib.hid (k_one (q := r) (W := w1) (m := w1.heap.size) rfl G5.out G6.out u)
  have al := (Below.refl (w1).heap.size (w1)).alloc (Nat.le_refl _) (.cells #[.bool r.1, .slice ra r.2.1.length rc, .slice rb r.2.2.length rd] 31)
  replace V1 := Lib.hid (V1.out.below al); replace V2 := Lib.hid (V2.out.below al); replace V3 := Lib.hid (V3.out.below al); replace G5 := Lib.hid (G5.out.below al); replace G6 := Lib.hid (G6.out.below al); replace NT := Lib.hid (BoxN.under NT.out al); replace HL := Lib.hid (then_below HL.out al); clear al
  go_wp2_with fail
  refine (k_great (W := (w1.alloc (.cells #[.bool r.1, .slice ra r.2.1.length rc, .slice rb r.2.2.length rd] 31))) (b := w1.heap.size + 1) (by simp) [(a1, n1, c1, q1), (a2, n1, c2, q2), (a3, n1, c3, q3), (some ⟨w1.heap.size, 0, none⟩, 1, 1, [r])] rfl rfl (by simp) (gokc V1.out (gokc V2.out (gokc V3.out (gokc VO.out (gok0 _))))) false (HG.out (some ⟨w1.heap.size, 0, none⟩)).symm).mono ?_
  rintro e w2 ⟨rfl, rr⟩
  replace V1 := Lib.hid (V1.out.below rr); replace V2 := Lib.hid (V2.out.below rr); replace V3 := Lib.hid (V3.out.below rr); replace G5 := Lib.hid (G5.out.below rr); replace G6 := Lib.hid (G6.out.below rr); replace NT := Lib.hid (BoxN.under NT.out rr); clear VO; replace HL := Lib.hid (then_below HL.out rr); clear rr
  clear y0 y1 y2 y3 y4 y5
  have y0 := NT.out.cell 0 _ rfl; have y1 := NT.out.cell 1 _ rfl; have y2 := NT.out.cell 2 _ rfl; have y3 := NT.out.cell 3 _ rfl; have y4 := NT.out.cell 4 _ rfl; have y5 := NT.out.cell 5 _ rfl
  go_wp2_with fail
  refine (v_check true HK1.out.symm V1.out.1 HF1.out).mono ?_
  rintro e w3 ⟨rfl, rr⟩
  replace V1 := Lib.hid (V1.out.below rr); replace V2 := Lib.hid (V2.out.below rr); replace V3 := Lib.hid (V3.out.below rr); replace G5 := Lib.hid (G5.out.below rr); replace G6 := Lib.hid (G6.out.below rr); replace NT := Lib.hid (BoxN.under NT.out rr); replace HL := Lib.hid (then_below HL.out rr); clear rr
  clear y0 y1 y2 y3 y4 y5
  have y0 := NT.out.cell 0 _ rfl; have y1 := NT.out.cell 1 _ rfl; have y2 := NT.out.cell 2 _ rfl; have y3 := NT.out.cell 3 _ rfl; have y4 := NT.out.cell 4 _ rfl; have y5 := NT.out.cell 5 _ rfl
  go_wp2_with fail
  refine (v_check false HK2.out.symm V2.out.1 HF2.out).mono ?_
  rintro e w4 ⟨rfl, rr⟩
  replace V1 := Lib.hid (V1.out.below rr); replace V2 := Lib.hid (V2.out.below rr); replace V3 := Lib.hid (V3.out.below rr); replace G5 := Lib.hid (G5.out.below rr); replace G6 := Lib.hid (G6.out.below rr); replace NT := Lib.hid (BoxN.under NT.out rr); replace HL := Lib.hid (then_below HL.out rr); clear rr
  clear y0 y1 y2 y3 y4 y5
  go_wp2_with fail
  refine (v_alive _).mono ?_
  rintro e w5 ⟨rfl, rr⟩
  replace V1 := Lib.hid (V1.out.below rr); replace V2 := Lib.hid (V2.out.below rr); replace V3 := Lib.hid (V3.out.below rr); replace G5 := Lib.hid (G5.out.below rr); replace G6 := Lib.hid (G6.out.below rr); replace NT := Lib.hid (BoxN.under NT.out rr); replace HL := Lib.hid (then_below HL.out rr); clear rr
  go_wp2_with fail
  go_ret
  exact ⟨rfl, HL.out⟩
set_option maxRecDepth 100000 in
set_option maxHeartbeats 8000000 in
theorem linear_6 {w : World} {a1 a2 a3 : Option Addr} {n1 n2 n3 c1 c2 c3 : Nat} {q1 q2 q3 : List Qr} {r : Qr} {ra rb : Option Addr} {rc rd : Nat} (h1 : GOK w (a1, n1, c1, q1)) (h2 : GOK w (a2, n2, c2, q2)) (h3 : GOK w (a3, n3, c3, q3)) (g5 : Reads w (.slice ra r.2.1.length rc) r.2.1) (g6 : Reads w (.slice rb r.2.2.length rd) r.2.2) (u : Big r) (hg : ∀ x : Option Addr, ([(a1, n1, c1, q1), (a2, n2, c2, q2), (a3, n3, c3, q3), (x, 1, 1, [r])] : List GI).any gbig = false) (ht : ¬ 10 < n1) (hn : n1 = n2) (hm : n1 = n3) (f1 : qrows q1) (f2 : qrows q2) (f3 : qrows q3) (f4 : Fit r) (k1 : q1.all qok = true) (k2 : q2.all qok = true) (k3 : q3.all qok = false) :
    Calls Try.prog 4 #[.agg #[.slice a1 n1 c1, .slice a2 n2 c2, .slice a3 n3 c3, .bool r.1, .slice ra r.2.1.length rc, .slice rb r.2.2.length rd]] w fun e w' => e = .returned (.bool true) ∧ Below w.heap.size w w' := by
  have HG := Lib.hid hg; clear hg
  have i0 : ¬ (10 : Int) < (n1 : Int) := by omega
  have j0 : decide ((10 : Int) < (n1 : Int)) = false := decide_eq_false (by omega)
  subst hn
  have j1 : ((n1 : Int) != (n1 : Int)) = false := by simp
  subst hm
  have HF1 := Lib.hid f1; have HF2 := Lib.hid f2; have HF3 := Lib.hid f3; have HF4 := Lib.hid f4; clear f1 f2 f3 f4
  have HK1 := Lib.hid k1; clear k1
  have HK2 := Lib.hid k2; clear k2
  have HK3 := Lib.hid k3; clear k3
  have V1 := Lib.hid h1; have V2 := Lib.hid h2; have V3 := Lib.hid h3; have G5 := Lib.hid g5; have G6 := Lib.hid g6; clear h1 h2 h3 g5 g6
  have NT := Lib.hid (BoxN.new w 40 #[.slice a1 n1 c1, .slice a2 n1 c2, .slice a3 n1 c3, .bool r.1, .slice ra r.2.1.length rc, .slice rb r.2.2.length rd])
  have al := (Below.refl (w).heap.size (w)).alloc (Nat.le_refl _) (.cells #[.slice a1 n1 c1, .slice a2 n1 c2, .slice a3 n1 c3, .bool r.1, .slice ra r.2.1.length rc, .slice rb r.2.2.length rd] 40)
  replace V1 := Lib.hid (V1.out.below al); replace V2 := Lib.hid (V2.out.below al); replace V3 := Lib.hid (V3.out.below al); replace G5 := Lib.hid (G5.out.below al); replace G6 := Lib.hid (G6.out.below al); have HL := Lib.hid al; clear al
  go_enter Try.func4, Try.ntmps4
  go_wp2_with fail
  refine (v_alive _).mono ?_
  rintro e w1 ⟨rfl, rr⟩
  replace V1 := Lib.hid (V1.out.below rr); replace V2 := Lib.hid (V2.out.below rr); replace V3 := Lib.hid (V3.out.below rr); replace G5 := Lib.hid (G5.out.below rr); replace G6 := Lib.hid (G6.out.below rr); replace NT := Lib.hid (BoxN.under NT.out rr); replace HL := Lib.hid (then_below HL.out rr); clear rr
  have y0 := NT.out.cell 0 _ rfl; have y1 := NT.out.cell 1 _ rfl; have y2 := NT.out.cell 2 _ rfl; have y3 := NT.out.cell 3 _ rfl; have y4 := NT.out.cell 4 _ rfl; have y5 := NT.out.cell 5 _ rfl
  have VO := Lib.hid (k_one (q := r) (W := w1) (m := w1.heap.size) rfl G5.out G6.out u)
  have al := (Below.refl (w1).heap.size (w1)).alloc (Nat.le_refl _) (.cells #[.bool r.1, .slice ra r.2.1.length rc, .slice rb r.2.2.length rd] 31)
  replace V1 := Lib.hid (V1.out.below al); replace V2 := Lib.hid (V2.out.below al); replace V3 := Lib.hid (V3.out.below al); replace G5 := Lib.hid (G5.out.below al); replace G6 := Lib.hid (G6.out.below al); replace NT := Lib.hid (BoxN.under NT.out al); replace HL := Lib.hid (then_below HL.out al); clear al
  go_wp2_with fail
  refine (k_great (W := (w1.alloc (.cells #[.bool r.1, .slice ra r.2.1.length rc, .slice rb r.2.2.length rd] 31))) (b := w1.heap.size + 1) (by simp) [(a1, n1, c1, q1), (a2, n1, c2, q2), (a3, n1, c3, q3), (some ⟨w1.heap.size, 0, none⟩, 1, 1, [r])] rfl rfl (by simp) (gokc V1.out (gokc V2.out (gokc V3.out (gokc VO.out (gok0 _))))) false (HG.out (some ⟨w1.heap.size, 0, none⟩)).symm).mono ?_
  rintro e w2 ⟨rfl, rr⟩
  replace V1 := Lib.hid (V1.out.below rr); replace V2 := Lib.hid (V2.out.below rr); replace V3 := Lib.hid (V3.out.below rr); replace G5 := Lib.hid (G5.out.below rr); replace G6 := Lib.hid (G6.out.below rr); replace NT := Lib.hid (BoxN.under NT.out rr); clear VO; replace HL := Lib.hid (then_below HL.out rr); clear rr
  clear y0 y1 y2 y3 y4 y5
  have y0 := NT.out.cell 0 _ rfl; have y1 := NT.out.cell 1 _ rfl; have y2 := NT.out.cell 2 _ rfl; have y3 := NT.out.cell 3 _ rfl; have y4 := NT.out.cell 4 _ rfl; have y5 := NT.out.cell 5 _ rfl
  go_wp2_with fail
  refine (v_check true HK1.out.symm V1.out.1 HF1.out).mono ?_
  rintro e w3 ⟨rfl, rr⟩
  replace V1 := Lib.hid (V1.out.below rr); replace V2 := Lib.hid (V2.out.below rr); replace V3 := Lib.hid (V3.out.below rr); replace G5 := Lib.hid (G5.out.below rr); replace G6 := Lib.hid (G6.out.below rr); replace NT := Lib.hid (BoxN.under NT.out rr); replace HL := Lib.hid (then_below HL.out rr); clear rr
  clear y0 y1 y2 y3 y4 y5
  have y0 := NT.out.cell 0 _ rfl; have y1 := NT.out.cell 1 _ rfl; have y2 := NT.out.cell 2 _ rfl; have y3 := NT.out.cell 3 _ rfl; have y4 := NT.out.cell 4 _ rfl; have y5 := NT.out.cell 5 _ rfl
  go_wp2_with fail
  refine (v_check true HK2.out.symm V2.out.1 HF2.out).mono ?_
  rintro e w4 ⟨rfl, rr⟩
  replace V1 := Lib.hid (V1.out.below rr); replace V2 := Lib.hid (V2.out.below rr); replace V3 := Lib.hid (V3.out.below rr); replace G5 := Lib.hid (G5.out.below rr); replace G6 := Lib.hid (G6.out.below rr); replace NT := Lib.hid (BoxN.under NT.out rr); replace HL := Lib.hid (then_below HL.out rr); clear rr
  clear y0 y1 y2 y3 y4 y5
  have y0 := NT.out.cell 0 _ rfl; have y1 := NT.out.cell 1 _ rfl; have y2 := NT.out.cell 2 _ rfl; have y3 := NT.out.cell 3 _ rfl; have y4 := NT.out.cell 4 _ rfl; have y5 := NT.out.cell 5 _ rfl
  go_wp2_with fail
  refine (v_check false HK3.out.symm V3.out.1 HF3.out).mono ?_
  rintro e w5 ⟨rfl, rr⟩
  replace V1 := Lib.hid (V1.out.below rr); replace V2 := Lib.hid (V2.out.below rr); replace V3 := Lib.hid (V3.out.below rr); replace G5 := Lib.hid (G5.out.below rr); replace G6 := Lib.hid (G6.out.below rr); replace NT := Lib.hid (BoxN.under NT.out rr); replace HL := Lib.hid (then_below HL.out rr); clear rr
  clear y0 y1 y2 y3 y4 y5
  go_wp2_with fail
  refine (v_alive _).mono ?_
  rintro e w6 ⟨rfl, rr⟩
  replace V1 := Lib.hid (V1.out.below rr); replace V2 := Lib.hid (V2.out.below rr); replace V3 := Lib.hid (V3.out.below rr); replace G5 := Lib.hid (G5.out.below rr); replace G6 := Lib.hid (G6.out.below rr); replace NT := Lib.hid (BoxN.under NT.out rr); replace HL := Lib.hid (then_below HL.out rr); clear rr
  go_wp2_with fail
  go_ret
  exact ⟨rfl, HL.out⟩
set_option maxRecDepth 100000 in
set_option maxHeartbeats 8000000 in
theorem linear_7 {w : World} {a1 a2 a3 : Option Addr} {n1 n2 n3 c1 c2 c3 : Nat} {q1 q2 q3 : List Qr} {r : Qr} {ra rb : Option Addr} {rc rd : Nat} (h1 : GOK w (a1, n1, c1, q1)) (h2 : GOK w (a2, n2, c2, q2)) (h3 : GOK w (a3, n3, c3, q3)) (g5 : Reads w (.slice ra r.2.1.length rc) r.2.1) (g6 : Reads w (.slice rb r.2.2.length rd) r.2.2) (u : Big r) (hg : ∀ x : Option Addr, ([(a1, n1, c1, q1), (a2, n2, c2, q2), (a3, n3, c3, q3), (x, 1, 1, [r])] : List GI).any gbig = false) (ht : ¬ 10 < n1) (hn : n1 = n2) (hm : n1 = n3) (f1 : qrows q1) (f2 : qrows q2) (f3 : qrows q3) (f4 : Fit r) (k1 : q1.all qok = true) (k2 : q2.all qok = true) (k3 : q3.all qok = true) (k4 : qok r = false) :
    Calls Try.prog 4 #[.agg #[.slice a1 n1 c1, .slice a2 n2 c2, .slice a3 n3 c3, .bool r.1, .slice ra r.2.1.length rc, .slice rb r.2.2.length rd]] w fun e w' => e = .returned (.bool true) ∧ Below w.heap.size w w' := by
  have HG := Lib.hid hg; clear hg
  have i0 : ¬ (10 : Int) < (n1 : Int) := by omega
  have j0 : decide ((10 : Int) < (n1 : Int)) = false := decide_eq_false (by omega)
  subst hn
  have j1 : ((n1 : Int) != (n1 : Int)) = false := by simp
  subst hm
  have HF1 := Lib.hid f1; have HF2 := Lib.hid f2; have HF3 := Lib.hid f3; have HF4 := Lib.hid f4; clear f1 f2 f3 f4
  have HK1 := Lib.hid k1; clear k1
  have HK2 := Lib.hid k2; clear k2
  have HK3 := Lib.hid k3; clear k3
  have HK4 := Lib.hid k4; clear k4
  have V1 := Lib.hid h1; have V2 := Lib.hid h2; have V3 := Lib.hid h3; have G5 := Lib.hid g5; have G6 := Lib.hid g6; clear h1 h2 h3 g5 g6
  have NT := Lib.hid (BoxN.new w 40 #[.slice a1 n1 c1, .slice a2 n1 c2, .slice a3 n1 c3, .bool r.1, .slice ra r.2.1.length rc, .slice rb r.2.2.length rd])
  have al := (Below.refl (w).heap.size (w)).alloc (Nat.le_refl _) (.cells #[.slice a1 n1 c1, .slice a2 n1 c2, .slice a3 n1 c3, .bool r.1, .slice ra r.2.1.length rc, .slice rb r.2.2.length rd] 40)
  replace V1 := Lib.hid (V1.out.below al); replace V2 := Lib.hid (V2.out.below al); replace V3 := Lib.hid (V3.out.below al); replace G5 := Lib.hid (G5.out.below al); replace G6 := Lib.hid (G6.out.below al); have HL := Lib.hid al; clear al
  go_enter Try.func4, Try.ntmps4
  go_wp2_with fail
  refine (v_alive _).mono ?_
  rintro e w1 ⟨rfl, rr⟩
  replace V1 := Lib.hid (V1.out.below rr); replace V2 := Lib.hid (V2.out.below rr); replace V3 := Lib.hid (V3.out.below rr); replace G5 := Lib.hid (G5.out.below rr); replace G6 := Lib.hid (G6.out.below rr); replace NT := Lib.hid (BoxN.under NT.out rr); replace HL := Lib.hid (then_below HL.out rr); clear rr
  have y0 := NT.out.cell 0 _ rfl; have y1 := NT.out.cell 1 _ rfl; have y2 := NT.out.cell 2 _ rfl; have y3 := NT.out.cell 3 _ rfl; have y4 := NT.out.cell 4 _ rfl; have y5 := NT.out.cell 5 _ rfl
  have VO := Lib.hid (k_one (q := r) (W := w1) (m := w1.heap.size) rfl G5.out G6.out u)
  have al := (Below.refl (w1).heap.size (w1)).alloc (Nat.le_refl _) (.cells #[.bool r.1, .slice ra r.2.1.length rc, .slice rb r.2.2.length rd] 31)
  replace V1 := Lib.hid (V1.out.below al); replace V2 := Lib.hid (V2.out.below al); replace V3 := Lib.hid (V3.out.below al); replace G5 := Lib.hid (G5.out.below al); replace G6 := Lib.hid (G6.out.below al); replace NT := Lib.hid (BoxN.under NT.out al); replace HL := Lib.hid (then_below HL.out al); clear al
  go_wp2_with fail
  refine (k_great (W := (w1.alloc (.cells #[.bool r.1, .slice ra r.2.1.length rc, .slice rb r.2.2.length rd] 31))) (b := w1.heap.size + 1) (by simp) [(a1, n1, c1, q1), (a2, n1, c2, q2), (a3, n1, c3, q3), (some ⟨w1.heap.size, 0, none⟩, 1, 1, [r])] rfl rfl (by simp) (gokc V1.out (gokc V2.out (gokc V3.out (gokc VO.out (gok0 _))))) false (HG.out (some ⟨w1.heap.size, 0, none⟩)).symm).mono ?_
  rintro e w2 ⟨rfl, rr⟩
  replace V1 := Lib.hid (V1.out.below rr); replace V2 := Lib.hid (V2.out.below rr); replace V3 := Lib.hid (V3.out.below rr); replace G5 := Lib.hid (G5.out.below rr); replace G6 := Lib.hid (G6.out.below rr); replace NT := Lib.hid (BoxN.under NT.out rr); clear VO; replace HL := Lib.hid (then_below HL.out rr); clear rr
  clear y0 y1 y2 y3 y4 y5
  have y0 := NT.out.cell 0 _ rfl; have y1 := NT.out.cell 1 _ rfl; have y2 := NT.out.cell 2 _ rfl; have y3 := NT.out.cell 3 _ rfl; have y4 := NT.out.cell 4 _ rfl; have y5 := NT.out.cell 5 _ rfl
  go_wp2_with fail
  refine (v_check true HK1.out.symm V1.out.1 HF1.out).mono ?_
  rintro e w3 ⟨rfl, rr⟩
  replace V1 := Lib.hid (V1.out.below rr); replace V2 := Lib.hid (V2.out.below rr); replace V3 := Lib.hid (V3.out.below rr); replace G5 := Lib.hid (G5.out.below rr); replace G6 := Lib.hid (G6.out.below rr); replace NT := Lib.hid (BoxN.under NT.out rr); replace HL := Lib.hid (then_below HL.out rr); clear rr
  clear y0 y1 y2 y3 y4 y5
  have y0 := NT.out.cell 0 _ rfl; have y1 := NT.out.cell 1 _ rfl; have y2 := NT.out.cell 2 _ rfl; have y3 := NT.out.cell 3 _ rfl; have y4 := NT.out.cell 4 _ rfl; have y5 := NT.out.cell 5 _ rfl
  go_wp2_with fail
  refine (v_check true HK2.out.symm V2.out.1 HF2.out).mono ?_
  rintro e w4 ⟨rfl, rr⟩
  replace V1 := Lib.hid (V1.out.below rr); replace V2 := Lib.hid (V2.out.below rr); replace V3 := Lib.hid (V3.out.below rr); replace G5 := Lib.hid (G5.out.below rr); replace G6 := Lib.hid (G6.out.below rr); replace NT := Lib.hid (BoxN.under NT.out rr); replace HL := Lib.hid (then_below HL.out rr); clear rr
  clear y0 y1 y2 y3 y4 y5
  have y0 := NT.out.cell 0 _ rfl; have y1 := NT.out.cell 1 _ rfl; have y2 := NT.out.cell 2 _ rfl; have y3 := NT.out.cell 3 _ rfl; have y4 := NT.out.cell 4 _ rfl; have y5 := NT.out.cell 5 _ rfl
  go_wp2_with fail
  refine (v_check true HK3.out.symm V3.out.1 HF3.out).mono ?_
  rintro e w5 ⟨rfl, rr⟩
  replace V1 := Lib.hid (V1.out.below rr); replace V2 := Lib.hid (V2.out.below rr); replace V3 := Lib.hid (V3.out.below rr); replace G5 := Lib.hid (G5.out.below rr); replace G6 := Lib.hid (G6.out.below rr); replace NT := Lib.hid (BoxN.under NT.out rr); replace HL := Lib.hid (then_below HL.out rr); clear rr
  clear y0 y1 y2 y3 y4 y5
  have y0 := NT.out.cell 0 _ rfl; have y1 := NT.out.cell 1 _ rfl; have y2 := NT.out.cell 2 _ rfl; have y3 := NT.out.cell 3 _ rfl; have y4 := NT.out.cell 4 _ rfl; have y5 := NT.out.cell 5 _ rfl
  go_wp2_with fail
  refine (k_rcheck r false HK4.out HF4.out G5.out G6.out).mono ?_
  rintro e w6 ⟨rfl, rr⟩
  replace V1 := Lib.hid (V1.out.below rr); replace V2 := Lib.hid (V2.out.below rr); replace V3 := Lib.hid (V3.out.below rr); replace G5 := Lib.hid (G5.out.below rr); replace G6 := Lib.hid (G6.out.below rr); replace NT := Lib.hid (BoxN.under NT.out rr); replace HL := Lib.hid (then_below HL.out rr); clear rr
  clear y0 y1 y2 y3 y4 y5
  go_wp2_with fail
  refine (v_alive _).mono ?_
  rintro e w7 ⟨rfl, rr⟩
  replace V1 := Lib.hid (V1.out.below rr); replace V2 := Lib.hid (V2.out.below rr); replace V3 := Lib.hid (V3.out.below rr); replace G5 := Lib.hid (G5.out.below rr); replace G6 := Lib.hid (G6.out.below rr); replace NT := Lib.hid (BoxN.under NT.out rr); replace HL := Lib.hid (then_below HL.out rr); clear rr
  go_wp2_with fail
  go_ret
  exact ⟨rfl, HL.out⟩
set_option maxRecDepth 100000 in
set_option maxHeartbeats 8000000 in
theorem linear_near {w : World} {a1 a2 a3 : Option Addr} {n1 c1 c2 c3 : Nat} {xs ys zs : List Rat} {T : Rat} {ra rb : Option Addr} {rc rd : Nat} (h1 : GOK w (a1, n1, c1, xs.map qr)) (h2 : GOK w (a2, n1, c2, ys.map qr)) (h3 : GOK w (a3, n1, c3, zs.map qr)) (g5 : Reads w (.slice ra (qr T).2.1.length rc) (qr T).2.1) (g6 : Reads w (.slice rb (qr T).2.2.length rd) (qr T).2.2) (hg : ∀ x : Option Addr, ([(a1, n1, c1, xs.map qr), (a2, n1, c2, ys.map qr), (a3, n1, c3, zs.map qr), (x, 1, 1, [qr T])] : List GI).any gbig = false) (h10 : ¬ 10 < n1) (hw1 : wts xs ≤ 300) (hw2 : wts ys ≤ 300) (hw3 : wts zs ≤ 300) (hwT : wt T ≤ 301) :
    Calls Try.prog 4 #[.agg #[.slice a1 n1 c1, .slice a2 n1 c2, .slice a3 n1 c3, .bool (qr T).1, .slice ra (qr T).2.1.length rc, .slice rb (qr T).2.2.length rd]] w fun e w' => e = .returned (.bool true) ∧ Below w.heap.size w w' := by
  have HG := Lib.hid hg; clear hg
  have i0 : ¬ (10 : Int) < (n1 : Int) := by omega
  have j0 : decide ((10 : Int) < (n1 : Int)) = false := decide_eq_false i0
  have j1 : ((n1 : Int) != (n1 : Int)) = false := by simp
  have l1 := wts_len xs
  have l2 := wts_len ys
  have l3 := wts_len zs
  have hlx : xs.length = n1 := by have := h1.1.addr.1; simpa using this.symm
  have hly : ys.length = n1 := by have := h2.1.addr.1; simpa using this.symm
  have HF1 : Hid (qrows (xs.map qr)) := Lib.hid ⟨fit_qrs (by omega), by simp; omega⟩
  have HF2 : Hid (qrows (ys.map qr)) := Lib.hid ⟨fit_qrs (by omega), by simp; omega⟩
  have HF3 : Hid (qrows (zs.map qr)) := Lib.hid ⟨fit_qrs (by omega), by simp; omega⟩
  have HF4 : Hid (Fit (qr T)) := Lib.hid (fit_qr (by omega))
  have HK1 : Hid ((xs.map qr).all qok = true) := Lib.hid (all_qok_qr _)
  have HK2 : Hid ((ys.map qr).all qok = true) := Lib.hid (all_qok_qr _)
  have HK3 : Hid ((zs.map qr).all qok = true) := Lib.hid (all_qok_qr _)
  have HK4 : Hid (qok (qr T) = true) := Lib.hid (qok_qr _)
  have U : Hid (Big (qr T)) := Lib.hid (big_qr T (by omega))
  have hm1 : xs.length * wt T ≤ 10 * 301 := Nat.mul_le_mul (by omega) hwT
  have hm2 : ys.length * wt T ≤ 10 * 301 := Nat.mul_le_mul (by omega) hwT
  have a1' := wts_axpy T xs ys
  have a2' := wts_scl T ys
  have d1 := wt_dot xs zs
  have d2 := wt_dot ys zs
  have d3 := wt_dot (axpy T xs ys) zs
  have d4 := wt_mul T (dot ys zs)
  have e1 := dot_axpy T xs ys zs (by omega)
  have e2 := dot_scl T ys zs
  have ex3 := each_of (m := 3000) hw1 (by omega)
  have ey3 := each_of (m := 3000) hw2 (by omega)
  have ey9 : ∀ z ∈ ys, wt z ≤ 9999 := fun z hz => Nat.le_trans (ey3 z hz) (by omega)
  have b0 : n1 ≤ 60000 := by omega
  have t3 : wt T ≤ 3000 := by omega
  have t9 : wt T ≤ 9999 := by omega
  obtain ⟨us, hu⟩ : ∃ us, us = axpy T xs ys := ⟨_, rfl⟩
  obtain ⟨vs, hv⟩ : ∃ vs, vs = scl T ys := ⟨_, rfl⟩
  obtain ⟨D, hD⟩ : ∃ D, D = dot us zs := ⟨_, rfl⟩
  obtain ⟨Y, hY⟩ : ∃ Y, Y = dot xs zs := ⟨_, rfl⟩
  obtain ⟨Z, hZ⟩ : ∃ Z, Z = dot ys zs := ⟨_, rfl⟩
  obtain ⟨P, hP⟩ : ∃ P, P = T * Z := ⟨_, rfl⟩
  rw [← hu, ← hD] at e1 d3
  rw [← hu] at a1'
  rw [← hY] at e1 d1
  rw [← hZ] at e1 e2 d2 d4
  rw [← hP] at e1 e2 d4
  rw [← hv] at a2' e2
  have q1 : wts us + wts zs ≤ 8900 := by omega
  have q2 : wts xs + wts zs ≤ 8900 := by omega
  have q3 : wts ys + wts zs ≤ 8900 := by omega
  have q4 : wts vs + wts zs ≤ 8900 := by omega
  have wD : wt D ≤ 9999 := by omega
  have wY : wt Y ≤ 9999 := by omega
  have wZ : wt Z ≤ 9999 := by omega
  have wP : wt P ≤ 9999 := by omega
  have M1 := Lib.hid hu.symm
  have M2 := Lib.hid hD.symm
  have M3 := Lib.hid hY.symm
  have M4 := Lib.hid hZ.symm
  have M5 := Lib.hid hv.symm
  have M6 := Lib.hid e2
  have M7 := Lib.hid hP.symm
  have M8 := Lib.hid e1.symm
  clear hu hv hD hY hZ hP e1 e2 a1' a2' d1 d2 d3 d4 hm1 hm2 hlx hly l1 l2 l3
  have V1 := Lib.hid h1; have V2 := Lib.hid h2; have V3 := Lib.hid h3
  have M := (((Mem.start w).add g6).add g5).new 40 [.slice a1 n1 c1, .slice a2 n1 c2, .slice a3 n1 c3, .bool (qr T).1, .slice ra (qr T).2.1.length rc, .slice rb (qr T).2.2.length rd]
  clear h1 h2 h3 g5 g6
  have M' : Mem w [(w.heap.size, 40, [.slice a1 n1 c1, .slice a2 n1 c2, .slice a3 n1 c3, .bool (qr T).1, .slice ra (qr T).2.1.length rc, .slice rb (qr T).2.2.length rd])] [(.slice ra (qr T).2.1.length rc, (qr T).2.1), (.slice rb (qr T).2.2.length rd, (qr T).2.2)] _ := M
  clear M; have M := M'; clear M'
  go_enter Try.func4, Try.ntmps4
  go_wp2_with fail
  refine (v_alive _).mono ?_
  rintro e w1 ⟨rfl, rr⟩
  have M' := M.up rr; clear M rr; have M := M'; clear M'
  have y0 := M.cell 0 rfl 0 rfl; have y1 := M.cell 0 rfl 1 rfl; have y2 := M.cell 0 rfl 2 rfl; have y3 := M.cell 0 rfl 3 rfl; have y4 := M.cell 0 rfl 4 rfl; have y5 := M.cell 0 rfl 5 rfl
  have VO := k_one (q := qr T) (W := w1) (m := w1.heap.size) rfl (M.get 0 rfl) (M.get 1 rfl) U.out
  replace M := M.new 31 [.bool (qr T).1, .slice ra (qr T).2.1.length rc, .slice rb (qr T).2.2.length rd]
  have M' : Mem w [(w1.heap.size, 31, [.bool (qr T).1, .slice ra (qr T).2.1.length rc, .slice rb (qr T).2.2.length rd]), (w.heap.size, 40, [.slice a1 n1 c1, .slice a2 n1 c2, .slice a3 n1 c3, .bool (qr T).1, .slice ra (qr T).2.1.length rc, .slice rb (qr T).2.2.length rd])] [(.slice ra (qr T).2.1.length rc, (qr T).2.1), (.slice rb (qr T).2.2.length rd, (qr T).2.2)] _ := M
  clear M; have M := M'; clear M'
  go_wp2_with fail
  refine (k_great (W := (w1.alloc (.cells #[.bool (qr T).1, .slice ra (qr T).2.1.length rc, .slice rb (qr T).2.2.length rd] 31))) (b := w1.heap.size + 1) (by simp) [(a1, n1, c1, xs.map qr), (a2, n1, c2, ys.map qr), (a3, n1, c3, zs.map qr), (some ⟨w1.heap.size, 0, none⟩, 1, 1, [(qr T)])] rfl rfl (by simp) (gokc (V1.out.below M.below) (gokc (V2.out.below M.below) (gokc (V3.out.below M.below) (gokc VO (gok0 _))))) false (HG.out (some ⟨w1.heap.size, 0, none⟩)).symm).mono ?_
  rintro e w2 ⟨rfl, rr⟩
  have M' := M.up rr; clear M rr; have M := M'; clear M'
  clear VO
  clear y0 y1 y2 y3 y4 y5
  have y0 := M.cell 1 rfl 0 rfl; have y1 := M.cell 1 rfl 1 rfl; have y2 := M.cell 1 rfl 2 rfl; have y3 := M.cell 1 rfl 3 rfl; have y4 := M.cell 1 rfl 4 rfl; have y5 := M.cell 1 rfl 5 rfl
  go_wp2_with fail
  refine (v_check true HK1.out.symm (V1.out.below M.below).1 HF1.out).mono ?_
  rintro e w3 ⟨rfl, rr⟩
  have M' := M.up rr; clear M rr; have M := M'; clear M'
  clear y0 y1 y2 y3 y4 y5
  have y0 := M.cell 1 rfl 0 rfl; have y1 := M.cell 1 rfl 1 rfl; have y2 := M.cell 1 rfl 2 rfl; have y3 := M.cell 1 rfl 3 rfl; have y4 := M.cell 1 rfl 4 rfl; have y5 := M.cell 1 rfl 5 rfl
  go_wp2_with fail
  refine (v_check true HK2.out.symm (V2.out.below M.below).1 HF2.out).mono ?_
  rintro e w4 ⟨rfl, rr⟩
  have M' := M.up rr; clear M rr; have M := M'; clear M'
  clear y0 y1 y2 y3 y4 y5
  have y0 := M.cell 1 rfl 0 rfl; have y1 := M.cell 1 rfl 1 rfl; have y2 := M.cell 1 rfl 2 rfl; have y3 := M.cell 1 rfl 3 rfl; have y4 := M.cell 1 rfl 4 rfl; have y5 := M.cell 1 rfl 5 rfl
  go_wp2_with fail
  refine (v_check true HK3.out.symm (V3.out.below M.below).1 HF3.out).mono ?_
  rintro e w5 ⟨rfl, rr⟩
  have M' := M.up rr; clear M rr; have M := M'; clear M'
  clear y0 y1 y2 y3 y4 y5
  have y0 := M.cell 1 rfl 0 rfl; have y1 := M.cell 1 rfl 1 rfl; have y2 := M.cell 1 rfl 2 rfl; have y3 := M.cell 1 rfl 3 rfl; have y4 := M.cell 1 rfl 4 rfl; have y5 := M.cell 1 rfl 5 rfl
  go_wp2_with fail
  refine (k_rcheck (qr T) true HK4.out HF4.out (M.get 0 rfl) (M.get 1 rfl)).mono ?_
  rintro e w6 ⟨rfl, rr⟩
  have M' := M.up rr; clear M rr; have M := M'; clear M'
  clear y0 y1 y2 y3 y4 y5
  have y0 := M.cell 1 rfl 0 rfl; have y1 := M.cell 1 rfl 1 rfl; have y2 := M.cell 1 rfl 2 rfl; have y3 := M.cell 1 rfl 3 rfl; have y4 := M.cell 1 rfl 4 rfl; have y5 := M.cell 1 rfl 5 rfl
  go_wp2_with fail
  refine (k_add T us M1.out ex3 ey3 t3 b0 (V1.out.below M.below).1 (V2.out.below M.below).1 (M.get 0 rfl) (M.get 1 rfl)).mono ?_
  rintro e w7 ⟨e1, k1, rfl, VU, rr⟩
  have M' := M.up rr; clear M rr; have M := M'; clear M'
  clear y0 y1 y2 y3 y4 y5
  have y0 := M.cell 1 rfl 0 rfl; have y1 := M.cell 1 rfl 1 rfl; have y2 := M.cell 1 rfl 2 rfl; have y3 := M.cell 1 rfl 3 rfl; have y4 := M.cell 1 rfl 4 rfl; have y5 := M.cell 1 rfl 5 rfl
  go_wp2_with fail
  refine (k_dot D M2.out q1 VU (V3.out.below M.below).1).mono ?_
  rintro e w8 ⟨ad1, kd1, od1, rd1, rfl, g, g', rr⟩
  have M' := ((M.up rr).add g).add g'; clear M rr g g'; have M := M'; clear M'
  clear y0 y1 y2 y3 y4 y5
  replace M := M.new 31 [.bool (qr D).1, .slice ad1 (qr D).2.1.length kd1, .slice od1 (qr D).2.2.length rd1]
  have M' : Mem w [(w8.heap.size, 31, [.bool (qr D).1, .slice ad1 (qr D).2.1.length kd1, .slice od1 (qr D).2.2.length rd1]), (w1.heap.size, 31, [.bool (qr T).1, .slice ra (qr T).2.1.length rc, .slice rb (qr T).2.2.length rd]), (w.heap.size, 40, [.slice a1 n1 c1, .slice a2 n1 c2, .slice a3 n1 c3, .bool (qr T).1, .slice ra (qr T).2.1.length rc, .slice rb (qr T).2.2.length rd])] [(.slice od1 (qr D).2.2.length rd1, (qr D).2.2), (.slice ad1 (qr D).2.1.length kd1, (qr D).2.1), (.slice ra (qr T).2.1.length rc, (qr T).2.1), (.slice rb (qr T).2.2.length rd, (qr T).2.2)] _ := M
  clear M; have M := M'; clear M'
  clear VU
  have y0 := M.cell 2 rfl 0 rfl; have y1 := M.cell 2 rfl 1 rfl; have y2 := M.cell 2 rfl 2 rfl; have y3 := M.cell 2 rfl 3 rfl; have y4 := M.cell 2 rfl 4 rfl; have y5 := M.cell 2 rfl 5 rfl
  go_wp2_with fail
  refine (k_dot Y M3.out q2 (V1.out.below M.below).1 (V3.out.below M.below).1).mono ?_
  rintro e w9 ⟨ad2, kd2, od2, rd2, rfl, g, g', rr⟩
  have M' := ((M.up rr).add g).add g'; clear M rr g g'; have M := M'; clear M'
  clear y0 y1 y2 y3 y4 y5
  replace M := M.new 31 [.bool (qr Y).1, .slice ad2 (qr Y).2.1.length kd2, .slice od2 (qr Y).2.2.length rd2]
  have M' : Mem w [(w9.heap.size, 31, [.bool (qr Y).1, .slice ad2 (qr Y).2.1.length kd2, .slice od2 (qr Y).2.2.length rd2]), (w8.heap.size, 31, [.bool (qr D).1, .slice ad1 (qr D).2.1.length kd1, .slice od1 (qr D).2.2.length rd1]), (w1.heap.size, 31, [.bool (qr T).1, .slice ra (qr T).2.1.length rc, .slice rb (qr T).2.2.length rd]), (w.heap.size, 40, [.slice a1 n1 c1, .slice a2 n1 c2, .slice a3 n1 c3, .bool (qr T).1, .slice ra (qr T).2.1.length rc, .slice rb (qr T).2.2.length rd])] [(.slice od2 (qr Y).2.2.length rd2, (qr Y).2.2), (.slice ad2 (qr Y).2.1.length kd2, (qr Y).2.1), (.slice od1 (qr D).2.2.length rd1, (qr D).2.2), (.slice ad1 (qr D).2.1.length kd1, (qr D).2.1), (.slice ra (qr T).2.1.length rc, (qr T).2.1), (.slice rb (qr T).2.2.length rd, (qr T).2.2)] _ := M
  clear M; have M := M'; clear M'
  have y0 := M.cell 3 rfl 0 rfl; have y1 := M.cell 3 rfl 1 rfl; have y2 := M.cell 3 rfl 2 rfl; have y3 := M.cell 3 rfl 3 rfl; have y4 := M.cell 3 rfl 4 rfl; have y5 := M.cell 3 rfl 5 rfl
  go_wp2_with fail
  refine (k_dot Z M4.out q3 (V2.out.below M.below).1 (V3.out.below M.below).1).mono ?_
  rintro e w10 ⟨ad3, kd3, od3, rd3, rfl, g, g', rr⟩
  have M' := ((M.up rr).add g).add g'; clear M rr g g'; have M := M'; clear M'
  clear y0 y1 y2 y3 y4 y5
  replace M := M.new 31 [.bool (qr Z).1, .slice ad3 (qr Z).2.1.length kd3, .slice od3 (qr Z).2.2.length rd3]
  have M' : Mem w [(w10.heap.size, 31, [.bool (qr Z).1, .slice ad3 (qr Z).2.1.length kd3, .slice od3 (qr Z).2.2.length rd3]), (w9.heap.size, 31, [.bool (qr Y).1, .slice ad2 (qr Y).2.1.length kd2, .slice od2 (qr Y).2.2.length rd2]), (w8.heap.size, 31, [.bool (qr D).1, .slice ad1 (qr D).2.1.length kd1, .slice od1 (qr D).2.2.length rd1]), (w1.heap.size, 31, [.bool (qr T).1, .slice ra (qr T).2.1.length rc, .slice rb (qr T).2.2.length rd]), (w.heap.size, 40, [.slice a1 n1 c1, .slice a2 n1 c2, .slice a3 n1 c3, .bool (qr T).1, .slice ra (qr T).2.1.length rc, .slice rb (qr T).2.2.length rd])] [(.slice od3 (qr Z).2.2.length rd3, (qr Z).2.2), (.slice ad3 (qr Z).2.1.length kd3, (qr Z).2.1), (.slice od2 (qr Y).2.2.length rd2, (qr Y).2.2), (.slice ad2 (qr Y).2.1.length kd2, (qr Y).2.1), (.slice od1 (qr D).2.2.length rd1, (qr D).2.2), (.slice ad1 (qr D).2.1.length kd1, (qr D).2.1), (.slice ra (qr T).2.1.length rc, (qr T).2.1), (.slice rb (qr T).2.2.length rd, (qr T).2.2)] _ := M
  clear M; have M := M'; clear M'
  go_wp2_with fail
  apply region_cut_nsss (Fact := (fun bd4 e2 k2 ad4 kd4 od4 rd4 W => Mem w [(bd4, 31, [.bool (qr P).1, .slice ad4 (qr P).2.1.length kd4, .slice od4 (qr P).2.2.length rd4]), (w10.heap.size, 31, [.bool (qr Z).1, .slice ad3 (qr Z).2.1.length kd3, .slice od3 (qr Z).2.2.length rd3]), (w9.heap.size, 31, [.bool (qr Y).1, .slice ad2 (qr Y).2.1.length kd2, .slice od2 (qr Y).2.2.length rd2]), (w8.heap.size, 31, [.bool (qr D).1, .slice ad1 (qr D).2.1.length kd1, .slice od1 (qr D).2.2.length rd1]), (w1.heap.size, 31, [.bool (qr T).1, .slice ra (qr T).2.1.length rc, .slice rb (qr T).2.2.length rd]), (w.heap.size, 40, [.slice a1 n1 c1, .slice a2 n1 c2, .slice a3 n1 c3, .bool (qr T).1, .slice ra (qr T).2.1.length rc, .slice rb (qr T).2.2.length rd])] [(.slice od4 (qr P).2.2.length rd4, (qr P).2.2), (.slice ad4 (qr P).2.1.length kd4, (qr P).2.1), (.slice od3 (qr Z).2.2.length rd3, (qr Z).2.2), (.slice ad3 (qr Z).2.1.length kd3, (qr Z).2.1), (.slice od2 (qr Y).2.2.length rd2, (qr Y).2.2), (.slice ad2 (qr Y).2.1.length kd2, (qr Y).2.1), (.slice od1 (qr D).2.2.length rd1, (qr D).2.2), (.slice ad1 (qr D).2.1.length kd1, (qr D).2.1), (.slice ra (qr T).2.1.length rc, (qr T).2.1), (.slice rb (qr T).2.2.length rd, (qr T).2.2)] W))
  case first =>
    refine region_mem (S := (fun W => BoxN W (w.heap.size) 40 #[.slice a1 n1 c1, .slice a2 n1 c2, .slice a3 n1 c3, .bool (qr T).1, .slice ra (qr T).2.1.length rc, .slice rb (qr T).2.2.length rd])) M (by kernel_rfl) ?_
    intro V0 M
    have hS0 : (fun W => BoxN W (w.heap.size) 40 #[.slice a1 n1 c1, .slice a2 n1 c2, .slice a3 n1 c3, .bool (qr T).1, .slice ra (qr T).2.1.length rc, .slice rb (qr T).2.2.length rd]) V0 := M.box 4 rfl
    refine wpAnyH_take (i := 0) (oi := ⟨_, _, _, _, _, _⟩) (v := (.pointer (some ⟨w.heap.size, 1, none⟩))) rfl (by kernel_rfl) (by kernel_rfl) (by kernel_rfl) (fun _ _ _ h => nomatch h.1) (Or.inl ⟨by rfl, fun W3 hS => by go_simp⟩) hS0 ?_
    try simp only [Act.put, List.setIfInBounds_toArray, List.set_cons_zero, List.set_cons_succ]
    refine wpAnyH_take (i := 1) (oi := ⟨_, _, _, _, _, _⟩) (v := (.slice a2 n1 c2)) rfl (by kernel_rfl) (by kernel_rfl) (by kernel_rfl) (fun _ _ _ h => nomatch h.1) (Or.inl ⟨by rfl, fun W3 hS => by have hS1 := hS; have c1_0 := hS1.cell 0 _ rfl; have c1_1 := hS1.cell 1 _ rfl; have c1_2 := hS1.cell 2 _ rfl; have c1_3 := hS1.cell 3 _ rfl; have c1_4 := hS1.cell 4 _ rfl; have c1_5 := hS1.cell 5 _ rfl; go_simp⟩) hS0 ?_
    try simp only [Act.put, List.setIfInBounds_toArray, List.set_cons_zero, List.set_cons_succ]
    refine wpAnyH_take (i := 2) (oi := ⟨_, _, _, _, _, _⟩) (v := (.pointer (some ⟨w.heap.size, 3, none⟩))) rfl (by kernel_rfl) (by kernel_rfl) (by kernel_rfl) (fun _ _ _ h => nomatch h.1) (Or.inl ⟨by rfl, fun W3 hS => by go_simp⟩) hS0 ?_
    try simp only [Act.put, List.setIfInBounds_toArray, List.set_cons_zero, List.set_cons_succ]
    refine wpAnyH_take (i := 3) (oi := ⟨_, _, _, _, _, _⟩) (v := (.agg #[.bool (qr T).1, .slice ra (qr T).2.1.length rc, .slice rb (qr T).2.2.length rd])) rfl (by kernel_rfl) (by kernel_rfl) (by kernel_rfl) (fun _ _ _ h => nomatch h.1) (Or.inl ⟨by rfl, fun W3 hS => by have hS1 := hS; have c1_0 := hS1.cell 0 _ rfl; have c1_1 := hS1.cell 1 _ rfl; have c1_2 := hS1.cell 2 _ rfl; have c1_3 := hS1.cell 3 _ rfl; have c1_4 := hS1.cell 4 _ rfl; have c1_5 := hS1.cell 5 _ rfl; go_simp⟩) hS0 ?_
    try simp only [Act.put, List.setIfInBounds_toArray, List.set_cons_zero, List.set_cons_succ]
    refine wpAnyH_take (i := 5) (oi := ⟨_, _, _, _, _, _⟩) (v := (.pointer (some ⟨w.heap.size, 2, none⟩))) rfl (by kernel_rfl) (by kernel_rfl) (by kernel_rfl) (fun _ _ _ h => nomatch h.1) (Or.inl ⟨by rfl, fun W3 hS => by go_simp⟩) hS0 ?_
    try simp only [Act.put, List.setIfInBounds_toArray, List.set_cons_zero, List.set_cons_succ]
    refine wpAnyH_take (i := 6) (oi := ⟨_, _, _, _, _, _⟩) (v := (.slice a3 n1 c3)) rfl (by kernel_rfl) (by kernel_rfl) (by kernel_rfl) (fun _ _ _ h => nomatch h.1) (Or.inl ⟨by rfl, fun W3 hS => by have hS1 := hS; have c1_0 := hS1.cell 0 _ rfl; have c1_1 := hS1.cell 1 _ rfl; have c1_2 := hS1.cell 2 _ rfl; have c1_3 := hS1.cell 3 _ rfl; have c1_4 := hS1.cell 4 _ rfl; have c1_5 := hS1.cell 5 _ rfl; go_simp⟩) hS0 ?_
    try simp only [Act.put, List.setIfInBounds_toArray, List.set_cons_zero, List.set_cons_succ]
    clear hS0
    refine wpAnyH_all (rs := [4, 11]) (by kernel_rfl) (by simp) ?_
    intro i hi
    have hi2 : i = 4 ∨ i = 11 := by simpa using hi
    clear hi
    rcases hi2 with rfl | rfl
    · refine wpOp_intro rfl (fun K1 hK => ?_)
      go_simp
      refine (k_scale T vs M5.out ey9 t9 b0 (V2.out.below M.below).1 (M.get 6 rfl) (M.get 7 rfl)).mono ?_
      rintro e V1_4 ⟨e2, k2, rfl, hv, rr⟩
      have VS := hv
      clear hv
      have M' := M.up rr
      clear M rr 
      have M := M'; clear M'
      refine hK _ _ ⟨M.box 4 rfl, ?_⟩
      clear hK K1
      refine wpAnyH_all (rs := [7, 11]) (by kernel_rfl) (by simp) ?_
      intro i hi
      have hi2 : i = 7 ∨ i = 11 := by simpa using hi
      clear hi
      rcases hi2 with rfl | rfl
      · refine wpOp_intro rfl (fun K2 hK => ?_)
        go_simp
        refine (k_dot P M6.out q4 VS (V3.out.below M.below).1).mono ?_
        rintro e V2_7 ⟨ad4, kd4, od4, rd4, rfl, g, g', rr⟩
        clear VS
        have M' := ((M.up rr).add g).add g'
        clear M rr g g'
        have M := M'; clear M'
        refine hK _ _ ⟨M.box 4 rfl, ?_⟩
        clear hK K2
        have hS0 : (fun W => BoxN W (w.heap.size) 40 #[.slice a1 n1 c1, .slice a2 n1 c2, .slice a3 n1 c3, .bool (qr T).1, .slice ra (qr T).2.1.length rc, .slice rb (qr T).2.2.length rd]) _ := M.box 4 rfl
        refine wpAnyH_take (i := 8) (oi := ⟨_, _, _, _, _, _⟩) (v := (.tuple #[.agg #[.bool (qr P).1, .slice ad4 (qr P).2.1.length kd4, .slice od4 (qr P).2.2.length rd4], .int .i64 0])) rfl (by kernel_rfl) (by kernel_rfl) (by kernel_rfl) (fun _ _ _ h => nomatch h.1) (Or.inl ⟨by rfl, fun W3 hS => by go_simp⟩) hS0 ?_
        try simp only [Act.put, List.setIfInBounds_toArray, List.set_cons_zero, List.set_cons_succ]
        refine wpAnyH_take (i := 9) (oi := ⟨_, _, _, _, _, _⟩) (v := (.agg #[.bool (qr P).1, .slice ad4 (qr P).2.1.length kd4, .slice od4 (qr P).2.2.length rd4])) rfl (by kernel_rfl) (by kernel_rfl) (by kernel_rfl) (fun _ _ _ h => nomatch h.1) (Or.inl ⟨by rfl, fun W3 hS => by go_simp⟩) hS0 ?_
        try simp only [Act.put, List.setIfInBounds_toArray, List.set_cons_zero, List.set_cons_succ]
        refine wpAnyH_take (i := 10) (oi := ⟨_, _, _, _, _, _⟩) (v := (.int .i64 0)) rfl (by kernel_rfl) (by kernel_rfl) (by kernel_rfl) (fun _ _ _ h => nomatch h.1) (Or.inl ⟨by rfl, fun W3 hS => by go_simp⟩) hS0 ?_
        try simp only [Act.put, List.setIfInBounds_toArray, List.set_cons_zero, List.set_cons_succ]
        clear hS0
        refine wpAnyH_all (rs := [11]) (by kernel_rfl) (by simp) ?_
        intro i hi
        obtain rfl : i = 11 := by simpa using hi
        refine wpOp_intro rfl (fun K3 hK => ?_)
        clear hi
        go_simp
        obtain ⟨bd4, V3_11, hV, hb, M'⟩ := M.fresh 31 [.bool false, .slice none 0 0, .slice none 0 0]
        rw [← hV, ← hb]
        clear M hV hb; have M := M'; clear M'
        refine hK _ _ ⟨M.box 5 rfl, ?_⟩
        clear hK K3
        have f0_0 := M.fr 0 rfl 0; have f0_1 := M.fr 0 rfl 1; have f0_2 := M.fr 0 rfl 2
        have z0_0 := M.cell 0 rfl 0 rfl; have z0_1 := M.cell 0 rfl 1 rfl; have z0_2 := M.cell 0 rfl 2 rfl
        refine wpAnyH_all (rs := [12]) (by kernel_rfl) (by simp) ?_
        intro i hi
        obtain rfl : i = 12 := by simpa using hi
        refine wpOp_intro rfl (fun Ks4 hK => ?_)
        clear hi
        go_simp
        have M' := (((M.put 0 rfl rfl 0 (.bool (qr P).1)).put 0 rfl rfl 1 (.slice ad4 (qr P).2.1.length kd4)).put 0 rfl rfl 2 (.slice od4 (qr P).2.2.length rd4))
        clear M f0_0 z0_0 f0_1 z0_1 f0_2 z0_2
        have M : Mem w [(bd4, 31, [.bool (qr P).1, .slice ad4 (qr P).2.1.length kd4, .slice od4 (qr P).2.2.length rd4]), (w10.heap.size, 31, [.bool (qr Z).1, .slice ad3 (qr Z).2.1.length kd3, .slice od3 (qr Z).2.2.length rd3]), (w9.heap.size, 31, [.bool (qr Y).1, .slice ad2 (qr Y).2.1.length kd2, .slice od2 (qr Y).2.2.length rd2]), (w8.heap.size, 31, [.bool (qr D).1, .slice ad1 (qr D).2.1.length kd1, .slice od1 (qr D).2.2.length rd1]), (w1.heap.size, 31, [.bool (qr T).1, .slice ra (qr T).2.1.length rc, .slice rb (qr T).2.2.length rd]), (w.heap.size, 40, [.slice a1 n1 c1, .slice a2 n1 c2, .slice a3 n1 c3, .bool (qr T).1, .slice ra (qr T).2.1.length rc, .slice rb (qr T).2.2.length rd])] [(.slice od4 (qr P).2.2.length rd4, (qr P).2.2), (.slice ad4 (qr P).2.1.length kd4, (qr P).2.1), (.slice od3 (qr Z).2.2.length rd3, (qr Z).2.2), (.slice ad3 (qr Z).2.1.length kd3, (qr Z).2.1), (.slice od2 (qr Y).2.2.length rd2, (qr Y).2.2), (.slice ad2 (qr Y).2.1.length kd2, (qr Y).2.1), (.slice od1 (qr D).2.2.length rd1, (qr D).2.2), (.slice ad1 (qr D).2.1.length kd1, (qr D).2.1), (.slice ra (qr T).2.1.length rc, (qr T).2.1), (.slice rb (qr T).2.2.length rd, (qr T).2.2)] _ := M'
        clear M'
        refine hK _ _ ⟨M.box 5 rfl, ?_⟩
        clear hK Ks4
        have hS0 : (fun W => BoxN W (w.heap.size) 40 #[.slice a1 n1 c1, .slice a2 n1 c2, .slice a3 n1 c3, .bool (qr T).1, .slice ra (qr T).2.1.length rc, .slice rb (qr T).2.2.length rd]) _ := M.box 5 rfl
        refine wpAnyH_take (i := 13) (oi := ⟨_, _, _, _, _, _⟩) (v := (.int .i64 0)) rfl (by kernel_rfl) (by kernel_rfl) (by kernel_rfl) (fun _ _ _ h => nomatch h.1) (Or.inl ⟨by rfl, fun W3 hS => by go_simp⟩) hS0 ?_
        try simp only [Act.put, List.setIfInBounds_toArray, List.set_cons_zero, List.set_cons_succ]
        clear hS0
        refine wpAnyH_done (by kernel_rfl) ?_ _
        exact ⟨rfl, bd4, e2, k2, ad4, kd4, od4, rd4, rfl, M⟩
      · refine wpOp_intro rfl (fun K2 hK => ?_)
        go_simp
        have al := (Below.refl V1_4.heap.size V1_4).alloc (Nat.le_refl _) (.cells #[.bool false, .slice none 0 0, .slice none 0 0] 31)
        replace VS := VS.below al
        clear al
        obtain ⟨bd4, V2_11, hV, hb, M'⟩ := M.fresh 31 [.bool false, .slice none 0 0, .slice none 0 0]
        rw [← hV, ← hb]
        rw [← hV] at VS
        clear M hV hb; have M := M'; clear M'
        refine hK _ _ ⟨M.box 5 rfl, ?_⟩
        clear hK K2
        refine wpAnyH_all (rs := [7]) (by kernel_rfl) (by simp) ?_
        intro i hi
        obtain rfl : i = 7 := by simpa using hi
        refine wpOp_intro rfl (fun K5 hK => ?_)
        clear hi
        go_simp
        refine (k_dot P M6.out q4 VS (V3.out.below M.below).1).mono ?_
        rintro e V5_7 ⟨ad4, kd4, od4, rd4, rfl, g, g', rr⟩
        clear VS
        have M' := ((M.up rr).add g).add g'
        clear M rr g g'
        have M := M'; clear M'
        refine hK _ _ ⟨M.box 5 rfl, ?_⟩
        clear hK K5
        have hS0 : (fun W => BoxN W (w.heap.size) 40 #[.slice a1 n1 c1, .slice a2 n1 c2, .slice a3 n1 c3, .bool (qr T).1, .slice ra (qr T).2.1.length rc, .slice rb (qr T).2.2.length rd]) _ := M.box 5 rfl
        refine wpAnyH_take (i := 8) (oi := ⟨_, _, _, _, _, _⟩) (v := (.tuple #[.agg #[.bool (qr P).1, .slice ad4 (qr P).2.1.length kd4, .slice od4 (qr P).2.2.length rd4], .int .i64 0])) rfl (by kernel_rfl) (by kernel_rfl) (by kernel_rfl) (fun _ _ _ h => nomatch h.1) (Or.inl ⟨by rfl, fun W3 hS => by go_simp⟩) hS0 ?_
        try simp only [Act.put, List.setIfInBounds_toArray, List.set_cons_zero, List.set_cons_succ]
        refine wpAnyH_take (i := 9) (oi := ⟨_, _, _, _, _, _⟩) (v := (.agg #[.bool (qr P).1, .slice ad4 (qr P).2.1.length kd4, .slice od4 (qr P).2.2.length rd4])) rfl (by kernel_rfl) (by kernel_rfl) (by kernel_rfl) (fun _ _ _ h => nomatch h.1) (Or.inl ⟨by rfl, fun W3 hS => by go_simp⟩) hS0 ?_
        try simp only [Act.put, List.setIfInBounds_toArray, List.set_cons_zero, List.set_cons_succ]
        refine wpAnyH_take (i := 10) (oi := ⟨_, _, _, _, _, _⟩) (v := (.int .i64 0)) rfl (by kernel_rfl) (by kernel_rfl) (by kernel_rfl) (fun _ _ _ h => nomatch h.1) (Or.inl ⟨by rfl, fun W3 hS => by go_simp⟩) hS0 ?_
        try simp only [Act.put, List.setIfInBounds_toArray, List.set_cons_zero, List.set_cons_succ]
        clear hS0
        have f0_0 := M.fr 0 rfl 0; have f0_1 := M.fr 0 rfl 1; have f0_2 := M.fr 0 rfl 2
        have z0_0 := M.cell 0 rfl 0 rfl; have z0_1 := M.cell 0 rfl 1 rfl; have z0_2 := M.cell 0 rfl 2 rfl
        refine wpAnyH_all (rs := [12]) (by kernel_rfl) (by simp) ?_
        intro i hi
        obtain rfl : i = 12 := by simpa using hi
        refine wpOp_intro rfl (fun Ks6 hK => ?_)
        clear hi
        go_simp
        have M' := (((M.put 0 rfl rfl 0 (.bool (qr P).1)).put 0 rfl rfl 1 (.slice ad4 (qr P).2.1.length kd4)).put 0 rfl rfl 2 (.slice od4 (qr P).2.2.length rd4))
        clear M f0_0 z0_0 f0_1 z0_1 f0_2 z0_2
        have M : Mem w [(bd4, 31, [.bool (qr P).1, .slice ad4 (qr P).2.1.length kd4, .slice od4 (qr P).2.2.length rd4]), (w10.heap.size, 31, [.bool (qr Z).1, .slice ad3 (qr Z).2.1.length kd3, .slice od3 (qr Z).2.2.length rd3]), (w9.heap.size, 31, [.bool (qr Y).1, .slice ad2 (qr Y).2.1.length kd2, .slice od2 (qr Y).2.2.length rd2]), (w8.heap.size, 31, [.bool (qr D).1, .slice ad1 (qr D).2.1.length kd1, .slice od1 (qr D).2.2.length rd1]), (w1.heap.size, 31, [.bool (qr T).1, .slice ra (qr T).2.1.length rc, .slice rb (qr T).2.2.length rd]), (w.heap.size, 40, [.slice a1 n1 c1, .slice a2 n1 c2, .slice a3 n1 c3, .bool (qr T).1, .slice ra (qr T).2.1.length rc, .slice rb (qr T).2.2.length rd])] [(.slice od4 (qr P).2.2.length rd4, (qr P).2.2), (.slice ad4 (qr P).2.1.length kd4, (qr P).2.1), (.slice od3 (qr Z).2.2.length rd3, (qr Z).2.2), (.slice ad3 (qr Z).2.1.length kd3, (qr Z).2.1), (.slice od2 (qr Y).2.2.length rd2, (qr Y).2.2), (.slice ad2 (qr Y).2.1.length kd2, (qr Y).2.1), (.slice od1 (qr D).2.2.length rd1, (qr D).2.2), (.slice ad1 (qr D).2.1.length kd1, (qr D).2.1), (.slice ra (qr T).2.1.length rc, (qr T).2.1), (.slice rb (qr T).2.2.length rd, (qr T).2.2)] _ := M'
        clear M'
        refine hK _ _ ⟨M.box 5 rfl, ?_⟩
        clear hK Ks6
        have hS0 : (fun W => BoxN W (w.heap.size) 40 #[.slice a1 n1 c1, .slice a2 n1 c2, .slice a3 n1 c3, .bool (qr T).1, .slice ra (qr T).2.1.length rc, .slice rb (qr T).2.2.length rd]) _ := M.box 5 rfl
        refine wpAnyH_take (i := 13) (oi := ⟨_, _, _, _, _, _⟩) (v := (.int .i64 0)) rfl (by kernel_rfl) (by kernel_rfl) (by kernel_rfl) (fun _ _ _ h => nomatch h.1) (Or.inl ⟨by rfl, fun W3 hS => by go_simp⟩) hS0 ?_
        try simp only [Act.put, List.setIfInBounds_toArray, List.set_cons_zero, List.set_cons_succ]
        clear hS0
        refine wpAnyH_done (by kernel_rfl) ?_ _
        exact ⟨rfl, bd4, e2, k2, ad4, kd4, od4, rd4, rfl, M⟩
    · refine wpOp_intro rfl (fun K1 hK => ?_)
      go_simp
      obtain ⟨bd4, V1_11, hV, hb, M'⟩ := M.fresh 31 [.bool false, .slice none 0 0, .slice none 0 0]
      rw [← hV, ← hb]
      clear M hV hb; have M := M'; clear M'
      refine hK _ _ ⟨M.box 5 rfl, ?_⟩
      clear hK K1
      refine wpAnyH_all (rs := [4]) (by kernel_rfl) (by simp) ?_
      intro i hi
      obtain rfl : i = 4 := by simpa using hi
      refine wpOp_intro rfl (fun K7 hK => ?_)
      clear hi
      go_simp
      refine (k_scale T vs M5.out ey9 t9 b0 (V2.out.below M.below).1 (M.get 6 rfl) (M.get 7 rfl)).mono ?_
      rintro e V7_4 ⟨e2, k2, rfl, hv, rr⟩
      have VS := hv
      clear hv
      have M' := M.up rr
      clear M rr 
      have M := M'; clear M'
      refine hK _ _ ⟨M.box 5 rfl, ?_⟩
      clear hK K7
      refine wpAnyH_all (rs := [7]) (by kernel_rfl) (by simp) ?_
      intro i hi
      obtain rfl : i = 7 := by simpa using hi
      refine wpOp_intro rfl (fun K8 hK => ?_)
      clear hi
      go_simp
      refine (k_dot P M6.out q4 VS (V3.out.below M.below).1).mono ?_
      rintro e V8_7 ⟨ad4, kd4, od4, rd4, rfl, g, g', rr⟩
      clear VS
      have M' := ((M.up rr).add g).add g'
      clear M rr g g'
      have M := M'; clear M'
      refine hK _ _ ⟨M.box 5 rfl, ?_⟩
      clear hK K8
      have hS0 : (fun W => BoxN W (w.heap.size) 40 #[.slice a1 n1 c1, .slice a2 n1 c2, .slice a3 n1 c3, .bool (qr T).1, .slice ra (qr T).2.1.length rc, .slice rb (qr T).2.2.length rd]) _ := M.box 5 rfl
      refine wpAnyH_take (i := 8) (oi := ⟨_, _, _, _, _, _⟩) (v := (.tuple #[.agg #[.bool (qr P).1, .slice ad4 (qr P).2.1.length kd4, .slice od4 (qr P).2.2.length rd4], .int .i64 0])) rfl (by kernel_rfl) (by kernel_rfl) (by kernel_rfl) (fun _ _ _ h => nomatch h.1) (Or.inl ⟨by rfl, fun W3 hS => by go_simp⟩) hS0 ?_
      try simp only [Act.put, List.setIfInBounds_toArray, List.set_cons_zero, List.set_cons_succ]
      refine wpAnyH_take (i := 9) (oi := ⟨_, _, _, _, _, _⟩) (v := (.agg #[.bool (qr P).1, .slice ad4 (qr P).2.1.length kd4, .slice od4 (qr P).2.2.length rd4])) rfl (by kernel_rfl) (by kernel_rfl) (by kernel_rfl) (fun _ _ _ h => nomatch h.1) (Or.inl ⟨by rfl, fun W3 hS => by go_simp⟩) hS0 ?_
      try simp only [Act.put, List.setIfInBounds_toArray, List.set_cons_zero, List.set_cons_succ]
      refine wpAnyH_take (i := 10) (oi := ⟨_, _, _, _, _, _⟩) (v := (.int .i64 0)) rfl (by kernel_rfl) (by kernel_rfl) (by kernel_rfl) (fun _ _ _ h => nomatch h.1) (Or.inl ⟨by rfl, fun W3 hS => by go_simp⟩) hS0 ?_
      try simp only [Act.put, List.setIfInBounds_toArray, List.set_cons_zero, List.set_cons_succ]
      clear hS0
      have f0_0 := M.fr 0 rfl 0; have f0_1 := M.fr 0 rfl 1; have f0_2 := M.fr 0 rfl 2
      have z0_0 := M.cell 0 rfl 0 rfl; have z0_1 := M.cell 0 rfl 1 rfl; have z0_2 := M.cell 0 rfl 2 rfl
      refine wpAnyH_all (rs := [12]) (by kernel_rfl) (by simp) ?_
      intro i hi
      obtain rfl : i = 12 := by simpa using hi
      refine wpOp_intro rfl (fun Ks9 hK => ?_)
      clear hi
      go_simp
      have M' := (((M.put 0 rfl rfl 0 (.bool (qr P).1)).put 0 rfl rfl 1 (.slice ad4 (qr P).2.1.length kd4)).put 0 rfl rfl 2 (.slice od4 (qr P).2.2.length rd4))
      clear M f0_0 z0_0 f0_1 z0_1 f0_2 z0_2
      have M : Mem w [(bd4, 31, [.bool (qr P).1, .slice ad4 (qr P).2.1.length kd4, .slice od4 (qr P).2.2.length rd4]), (w10.heap.size, 31, [.bool (qr Z).1, .slice ad3 (qr Z).2.1.length kd3, .slice od3 (qr Z).2.2.length rd3]), (w9.heap.size, 31, [.bool (qr Y).1, .slice ad2 (qr Y).2.1.length kd2, .slice od2 (qr Y).2.2.length rd2]), (w8.heap.size, 31, [.bool (qr D).1, .slice ad1 (qr D).2.1.length kd1, .slice od1 (qr D).2.2.length rd1]), (w1.heap.size, 31, [.bool (qr T).1, .slice ra (qr T).2.1.length rc, .slice rb (qr T).2.2.length rd]), (w.heap.size, 40, [.slice a1 n1 c1, .slice a2 n1 c2, .slice a3 n1 c3, .bool (qr T).1, .slice ra (qr T).2.1.length rc, .slice rb (qr T).2.2.length rd])] [(.slice od4 (qr P).2.2.length rd4, (qr P).2.2), (.slice ad4 (qr P).2.1.length kd4, (qr P).2.1), (.slice od3 (qr Z).2.2.length rd3, (qr Z).2.2), (.slice ad3 (qr Z).2.1.length kd3, (qr Z).2.1), (.slice od2 (qr Y).2.2.length rd2, (qr Y).2.2), (.slice ad2 (qr Y).2.1.length kd2, (qr Y).2.1), (.slice od1 (qr D).2.2.length rd1, (qr D).2.2), (.slice ad1 (qr D).2.1.length kd1, (qr D).2.1), (.slice ra (qr T).2.1.length rc, (qr T).2.1), (.slice rb (qr T).2.2.length rd, (qr T).2.2)] _ := M'
      clear M'
      refine hK _ _ ⟨M.box 5 rfl, ?_⟩
      clear hK Ks9
      have hS0 : (fun W => BoxN W (w.heap.size) 40 #[.slice a1 n1 c1, .slice a2 n1 c2, .slice a3 n1 c3, .bool (qr T).1, .slice ra (qr T).2.1.length rc, .slice rb (qr T).2.2.length rd]) _ := M.box 5 rfl
      refine wpAnyH_take (i := 13) (oi := ⟨_, _, _, _, _, _⟩) (v := (.int .i64 0)) rfl (by kernel_rfl) (by kernel_rfl) (by kernel_rfl) (fun _ _ _ h => nomatch h.1) (Or.inl ⟨by rfl, fun W3 hS => by go_simp⟩) hS0 ?_
      try simp only [Act.put, List.setIfInBounds_toArray, List.set_cons_zero, List.set_cons_succ]
      clear hS0
      refine wpAnyH_done (by kernel_rfl) ?_ _
      exact ⟨rfl, bd4, e2, k2, ad4, kd4, od4, rd4, rfl, M⟩
  intro bd4 e2 k2 ad4 kd4 od4 rd4 V M
  go_wp2_with fail
  replace M := M.drew; have mk0 := True.intro
  go_region_held3 (fun V => V.cell? ⟨w.heap.size, 3, none⟩ = some (.bool (qr T).1) ∧ V.cell? ⟨w.heap.size, 4, none⟩ = some (.slice ra (qr T).2.1.length rc) ∧ V.cell? ⟨w.heap.size, 5, none⟩ = some (.slice rb (qr T).2.2.length rd) ∧ V.cell? ⟨w8.heap.size, 0, none⟩ = some (.bool (qr D).1) ∧ V.cell? ⟨w8.heap.size, 1, none⟩ = some (.slice ad1 (qr D).2.1.length kd1) ∧ V.cell? ⟨w8.heap.size, 2, none⟩ = some (.slice od1 (qr D).2.2.length rd1) ∧ V.cell? ⟨w9.heap.size, 0, none⟩ = some (.bool (qr Y).1) ∧ V.cell? ⟨w9.heap.size, 1, none⟩ = some (.slice ad2 (qr Y).2.1.length kd2) ∧ V.cell? ⟨w9.heap.size, 2, none⟩ = some (.slice od2 (qr Y).2.2.length rd2) ∧ V.cell? ⟨w10.heap.size, 0, none⟩ = some (.bool (qr Z).1) ∧ V.cell? ⟨w10.heap.size, 1, none⟩ = some (.slice ad3 (qr Z).2.1.length kd3) ∧ V.cell? ⟨w10.heap.size, 2, none⟩ = some (.slice od3 (qr Z).2.2.length rd3) ∧ V.cell? ⟨bd4, 0, none⟩ = some (.bool (qr P).1) ∧ V.cell? ⟨bd4, 1, none⟩ = some (.slice ad4 (qr P).2.1.length kd4) ∧ V.cell? ⟨bd4, 2, none⟩ = some (.slice od4 (qr P).2.2.length rd4)) (exact ⟨M.cell 5 rfl 3 rfl, M.cell 5 rfl 4 rfl, M.cell 5 rfl 5 rfl, M.cell 3 rfl 0 rfl, M.cell 3 rfl 1 rfl, M.cell 3 rfl 2 rfl, M.cell 2 rfl 0 rfl, M.cell 2 rfl 1 rfl, M.cell 2 rfl 2 rfl, M.cell 1 rfl 0 rfl, M.cell 1 rfl 1 rfl, M.cell 1 rfl 2 rfl, M.cell 0 rfl 0 rfl, M.cell 0 rfl 1 rfl, M.cell 0 rfl 2 rfl⟩) (first
    | (have nope := mk0; clear nope; (fail_if_success have nope := mk1); have mk1 := True.intro; go_at_call 21; refine (k_mul T Z P M7.out t9 wZ (M.get 8 rfl) (M.get 9 rfl) (M.get 3 rfl) (M.get 2 rfl)).mono ?_; rintro e u11 ⟨e3, k3, o3, r3, rfl, g, g', rr⟩; have M' := ((M.up rr).add g).add g'; clear M rr g g'; have M := M'; clear M')
    | (have nope := mk1; clear nope; (fail_if_success have nope := mk2); have mk2 := True.intro; go_at_call 20; refine (k_radd Y P D M8.out wY wP (M.get 7 rfl) (M.get 6 rfl) (M.get 1 rfl) (M.get 0 rfl)).mono ?_; rintro e u12 ⟨e4, k4, o4, r4, rfl, g, g', rr⟩; have M' := ((M.up rr).add g).add g'; clear M rr g g'; have M := M'; clear M')
    | (have nope := mk2; clear nope; (fail_if_success have nope := mk3); have mk3 := True.intro; go_at_call 14; refine (k_sr D wD (M.get 11 rfl) (M.get 10 rfl) (M.get 1 rfl) (M.get 0 rfl)).mono ?_; rintro e u13 ⟨rfl, rr⟩; have M' := M.up rr; clear M rr; have M := M'; clear M')
    | (have nope := mk3; clear nope; (fail_if_success have nope := mk4); have mk4 := True.intro; go_at_call 21; refine (k_mul T Z P M7.out t9 wZ (M.get 12 rfl) (M.get 13 rfl) (M.get 7 rfl) (M.get 6 rfl)).mono ?_; rintro e u14 ⟨e5, k5, o5, r5, rfl, g, g', rr⟩; have M' := ((M.up rr).add g).add g'; clear M rr g g'; have M := M'; clear M')
    | (have nope := mk4; clear nope; (fail_if_success have nope := mk5); have mk5 := True.intro; go_at_call 14; refine (k_sr P wP (M.get 7 rfl) (M.get 6 rfl) (M.get 1 rfl) (M.get 0 rfl)).mono ?_; rintro e u15 ⟨rfl, rr⟩; have M' := M.up rr; clear M rr; have M := M'; clear M'))
  go_wp2_with fail
  go_ret
  exact ⟨rfl, M.below⟩
theorem vecsLinear_any {w : World} {a1 a2 a3 : Option Addr} {n1 n2 n3 c1 c2 c3 : Nat} {q1 q2 q3 : List Qr} {r : Qr} {ra rb : Option Addr} {rc rd : Nat} (h1 : GOK w (a1, n1, c1, q1)) (h2 : GOK w (a2, n2, c2, q2)) (h3 : GOK w (a3, n3, c3, q3)) (g5 : Reads w (.slice ra r.2.1.length rc) r.2.1) (g6 : Reads w (.slice rb r.2.2.length rd) r.2.2) (u : Big r) :
    Calls Try.prog 4 #[.agg #[.slice a1 n1 c1, .slice a2 n2 c2, .slice a3 n3 c3, .bool r.1, .slice ra r.2.1.length rc, .slice rb r.2.2.length rd]] w fun e w' => e = .returned (.bool true) ∧ Below w.heap.size w w' := by
  cases hg : ([(a1, n1, c1, q1), (a2, n2, c2, q2), (a3, n3, c3, q3), (none, 1, 1, [r])] : List GI).any gbig with
  | true => exact linear_0 h1 h2 h3 g5 g6 u (fun _ => hg)
  | false =>
    have hgg := hg
    simp only [List.any_cons, List.any_nil, Bool.or_false, Bool.or_eq_false_iff] at hgg
    have b1 := gbig_no hgg.1
    have b2 := gbig_no hgg.2.1
    have b3 := gbig_no hgg.2.2.1
    have b4 := gbig_no hgg.2.2.2
    dsimp only at b1 b2 b3 b4
    by_cases ht : 10 < n1
    · exact linear_1 h1 h2 h3 g5 g6 u (fun _ => hg) ht
    by_cases hn : n1 = n2
    · by_cases hm : n1 = n3
      · have e1 := h1.1.addr.1
        have e2 := h2.1.addr.1
        have e3 := h3.1.addr.1
        have f1 := qrows_of e1 b1.1 h1.2 b1.2
        have f2 := qrows_of e2 b2.1 h2.2 b2.2
        have f3 := qrows_of e3 b3.1 h3.2 b3.2
        have f4 := one_fit u b4.2
        cases k1 : q1.all qok with
        | false => exact linear_4 h1 h2 h3 g5 g6 u (fun _ => hg) ht hn hm f1 f2 f3 f4 k1
        | true =>
          cases k2 : q2.all qok with
          | false => exact linear_5 h1 h2 h3 g5 g6 u (fun _ => hg) ht hn hm f1 f2 f3 f4 k1 k2
          | true =>
            cases k3 : q3.all qok with
            | false => exact linear_6 h1 h2 h3 g5 g6 u (fun _ => hg) ht hn hm f1 f2 f3 f4 k1 k2 k3
            | true =>
              cases k4 : qok r with
              | false => exact linear_7 h1 h2 h3 g5 g6 u (fun _ => hg) ht hn hm f1 f2 f3 f4 k1 k2 k3 k4
              | true =>
                obtain ⟨xs, rfl, _, hw1⟩ := row_of e1 h1.2 b1.2 k1
                obtain ⟨ys, rfl, _, hw2⟩ := row_of e2 h2.2 b2.2 k2
                obtain ⟨zs, rfl, _, hw3⟩ := row_of e3 h3.2 b3.2 k3
                obtain ⟨T, rfl, hwT⟩ := one_rat u b4.2 k4
                subst hn
                subst hm
                exact linear_near h1 h2 h3 g5 g6 (fun _ => hg) ht hw1 hw2 hw3 hwT
      · exact linear_3 h1 h2 h3 g5 g6 u (fun _ => hg) ht hn hm
    · exact linear_2 h1 h2 h3 g5 g6 u (fun _ => hg) ht hn
end Go.Proofs.Ytcndjjhdckbfkaa
