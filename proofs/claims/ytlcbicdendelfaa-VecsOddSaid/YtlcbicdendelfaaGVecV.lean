/- Rows of fractions: some answers that the document fixes. -/
import Derived.Test.YtlcbicdendelfaaGVecN
namespace Go.Proofs.Ytlcbicdendelfaa
open Go Go.Proofs Go.RowKit Go.Shelf Nu

attribute [local go_sem] Oper.semAt_some

set_option maxRecDepth 100000 in
set_option maxHeartbeats 8000000 in
theorem v_alive (w : World) : Calls Try.prog 14 #[] w fun e w' => e = .returned (.bool true) ∧ Below w.heap.size w w' := by
  have hf := fit_qr (X := ((11 : Int) : Rat)) (by rw [wt_int 11 (by decide)]; omega)
  have kt := fun (W : World) {p1 o1 : Option Addr} {q1 r1 : Nat} (g1 : Reads W (.slice p1 (qr ((11 : Int) : Rat)).2.1.length q1) (qr ((11 : Int) : Rat)).2.1) (g2 : Reads W (.slice o1 (qr ((11 : Int) : Rat)).2.2.length r1) (qr ((11 : Int) : Rat)).2.2) => r_text ⟨#[49, 49]⟩ (qr_can _).is t_eleven hf.2.1 hf.2.2 g1 g2
  clear hf
  go_enter Try.func14, Try.ntmps14
  go_wp2_with fail
  refine (o_of (W := w) (b := w.heap.size) (by first | rfl | simp) [1, 2] rfl rfl (by decide) (by decide)).mono ?_
  rintro e w1 ⟨a1, c1, rfl, hv, rr⟩
  have HL := Lib.hid rr; have V1 := Lib.hid hv; clear rr hv
  go_wp2_with fail
  refine (o_of (W := w1) (b := w1.heap.size) (by first | rfl | simp) [3, 4] rfl rfl (by decide) (by decide)).mono ?_
  rintro e w2 ⟨a2, c2, rfl, hv, rr⟩
  replace V1 := Lib.hid (V1.out.below rr); replace HL := Lib.hid (then_below HL.out rr); have V2 := Lib.hid hv; clear rr hv
  go_wp2_with fail
  refine (o_dot 11 rfl (by decide) (by decide) (by decide) V1.out V2.out).mono ?_
  rintro e w3 ⟨a3, c3, o3, r3, rfl, g, g', rr⟩
  clear V1; clear V2; replace HL := Lib.hid (then_below HL.out rr); have G1 := Lib.hid g; have G2 := Lib.hid g'; clear rr g
  obtain ⟨q, hq⟩ : ∃ q, q = qr ((11 : Int) : Rat) := ⟨_, rfl⟩
  rw [← hq] at G1 G2 kt ⊢
  have HQ := Lib.hid hq; clear hq
  have al := (Below.refl w3.heap.size w3).alloc (Nat.le_refl _) (.cells #[.bool q.1, .slice a3 q.2.1.length c3, .slice o3 q.2.2.length r3] 43)
  replace G1 := Lib.hid (G1.out.below al); replace G2 := Lib.hid (G2.out.below al); replace HL := Lib.hid (then_below HL.out al); have N1 := Lib.hid (BoxN.new w3 43 #[.bool q.1, .slice a3 q.2.1.length c3, .slice o3 q.2.2.length r3]); clear al
  go_wp2_with fail
  refine (o_of (W := (w3.alloc (.cells #[.bool q.1, .slice a3 q.2.1.length c3, .slice o3 q.2.2.length r3] 43))) (b := w3.heap.size + 1) (by first | rfl | simp) [1] rfl rfl (by decide) (by decide)).mono ?_
  rintro e w4 ⟨a4, c4, rfl, hv, rr⟩
  replace G1 := Lib.hid (G1.out.below rr); replace G2 := Lib.hid (G2.out.below rr); replace N1 := Lib.hid (BoxN.under N1.out rr); replace HL := Lib.hid (then_below HL.out rr); have V4 := Lib.hid hv; clear rr hv
  go_wp2_with fail
  refine (v_dot_no (by simp) V4.out (VReads.nil _) (qrows_ints [1] (by decide) (by decide)) ⟨by simp, by simp⟩).mono ?_
  rintro e w5 ⟨rfl, rr⟩
  replace G1 := Lib.hid (G1.out.below rr); replace G2 := Lib.hid (G2.out.below rr); replace N1 := Lib.hid (BoxN.under N1.out rr); clear V4; replace HL := Lib.hid (then_below HL.out rr); clear rr
  have al := (Below.refl w5.heap.size w5).alloc (Nat.le_refl _) (.cells #[.bool false, .slice none 0 0, .slice none 0 0] 43)
  replace G1 := Lib.hid (G1.out.below al); replace G2 := Lib.hid (G2.out.below al); replace N1 := Lib.hid (BoxN.under N1.out al); replace HL := Lib.hid (then_below HL.out al); clear al
  have al := (Below.refl (w5.alloc (.cells #[.bool false, .slice none 0 0, .slice none 0 0] 43)).heap.size (w5.alloc (.cells #[.bool false, .slice none 0 0, .slice none 0 0] 43))).alloc (Nat.le_refl _) (.cells #[.bool false, .slice none 0 0, .slice none 0 0] 43)
  replace G1 := Lib.hid (G1.out.below al); replace G2 := Lib.hid (G2.out.below al); replace N1 := Lib.hid (BoxN.under N1.out al); replace HL := Lib.hid (then_below HL.out al); clear al
  have Z1 := Lib.hid (o_none (W := (w5.alloc (.cells #[.bool false, .slice none 0 0, .slice none 0 0] 43))) (b := w5.heap.size + 1) (by simp))
  go_wp2_with fail
  refine (o_of (W := ((w5.alloc (.cells #[.bool false, .slice none 0 0, .slice none 0 0] 43)).alloc (.cells #[.bool false, .slice none 0 0, .slice none 0 0] 43))) (b := w5.heap.size + 1 + 1) (by first | rfl | simp) [1] rfl rfl (by decide) (by decide)).mono ?_
  rintro e w6 ⟨a5, c5, rfl, hv, rr⟩
  replace G1 := Lib.hid (G1.out.below rr); replace G2 := Lib.hid (G2.out.below rr); replace N1 := Lib.hid (BoxN.under N1.out rr); replace Z1 := Lib.hid (Z1.out.below rr); replace HL := Lib.hid (then_below HL.out rr); have V5 := Lib.hid hv; clear rr hv
  go_wp2_with fail
  refine (v_dot_no (by rw [k_none]; simp) Z1.out V5.out q_none (qrows_ints [1] (by decide) (by decide))).mono ?_
  rintro e w7 ⟨rfl, rr⟩
  replace G1 := Lib.hid (G1.out.below rr); replace G2 := Lib.hid (G2.out.below rr); replace N1 := Lib.hid (BoxN.under N1.out rr); clear Z1; clear V5; replace HL := Lib.hid (then_below HL.out rr); clear rr
  have al := (Below.refl w7.heap.size w7).alloc (Nat.le_refl _) (.cells #[.bool false, .slice none 0 0, .slice none 0 0] 43)
  replace G1 := Lib.hid (G1.out.below al); replace G2 := Lib.hid (G2.out.below al); replace N1 := Lib.hid (BoxN.under N1.out al); replace HL := Lib.hid (then_below HL.out al); clear al
  go_wp2_with fail
  refine (o_of (W := (w7.alloc (.cells #[.bool false, .slice none 0 0, .slice none 0 0] 43))) (b := w7.heap.size + 1) (by first | rfl | simp) [1, 2] rfl rfl (by decide) (by decide)).mono ?_
  rintro e w8 ⟨a6, c6, rfl, hv, rr⟩
  replace G1 := Lib.hid (G1.out.below rr); replace G2 := Lib.hid (G2.out.below rr); replace N1 := Lib.hid (BoxN.under N1.out rr); replace HL := Lib.hid (then_below HL.out rr); have V6 := Lib.hid hv; clear rr hv
  go_wp2_with fail
  refine (o_of (W := w8) (b := w8.heap.size) (by first | rfl | simp) [3, 4] rfl rfl (by decide) (by decide)).mono ?_
  rintro e w9 ⟨a7, c7, rfl, hv, rr⟩
  replace G1 := Lib.hid (G1.out.below rr); replace G2 := Lib.hid (G2.out.below rr); replace N1 := Lib.hid (BoxN.under N1.out rr); replace V6 := Lib.hid (V6.out.below rr); replace HL := Lib.hid (then_below HL.out rr); have V7 := Lib.hid hv; clear rr hv
  go_wp2_with fail
  refine (o_rat 2 (by decide) (by decide)).mono ?_
  rintro e w10 ⟨a8, c8, o8, r8, rfl, g, g', rr⟩
  replace G1 := Lib.hid (G1.out.below rr); replace G2 := Lib.hid (G2.out.below rr); replace N1 := Lib.hid (BoxN.under N1.out rr); replace V6 := Lib.hid (V6.out.below rr); replace V7 := Lib.hid (V7.out.below rr); replace HL := Lib.hid (then_below HL.out rr); have G3 := Lib.hid g; have G4 := Lib.hid g'; clear rr g
  go_wp2_with fail
  refine (o_add 2 [7, 10] rfl rfl (by decide) (by decide) (by decide) (by decide) V6.out V7.out G3.out G4.out).mono ?_
  rintro e w11 ⟨a9, c9, rfl, hv, rr⟩
  replace G1 := Lib.hid (G1.out.below rr); replace G2 := Lib.hid (G2.out.below rr); replace N1 := Lib.hid (BoxN.under N1.out rr); clear V6; clear V7; clear G3; clear G4; replace HL := Lib.hid (then_below HL.out rr); have V9 := Lib.hid hv; clear rr hv
  have x0 := N1.out.cell 0 _ rfl; have x1 := N1.out.cell 1 _ rfl; have x2 := N1.out.cell 2 _ rfl
  go_wp2_with fail
  refine (kt _ G1.out G2.out).mono ?_
  rintro e w12 ⟨rfl, rr⟩
  clear G1; clear G2; clear N1; replace V9 := Lib.hid (V9.out.below rr); replace HL := Lib.hid (then_below HL.out rr); clear rr
  clear x0 x1 x2 kt
  go_wp2_with fail
  refine (o_of (W := w12) (b := w12.heap.size) (by first | rfl | simp) [7, 10] rfl rfl (by decide) (by decide)).mono ?_
  rintro e w13 ⟨a10, c10, rfl, hv, rr⟩
  replace V9 := Lib.hid (V9.out.below rr); replace HL := Lib.hid (then_below HL.out rr); have V10 := Lib.hid hv; clear rr hv
  go_wp2_with fail
  refine (o_same (by decide) (by decide) V9.out V10.out).mono ?_
  rintro e w14 ⟨rfl, rr⟩
  clear V9; clear V10; replace HL := Lib.hid (then_below HL.out rr); clear rr
  go_wp2_with fail
  refine (o_of (W := w14) (b := w14.heap.size) (by first | rfl | simp) [1, 3] rfl rfl (by decide) (by decide)).mono ?_
  rintro e w15 ⟨a11, c11, rfl, hv, rr⟩
  replace HL := Lib.hid (then_below HL.out rr); have V11 := Lib.hid hv; clear rr hv
  go_wp2_with fail
  refine (o_rat (-2) (by decide) (by decide)).mono ?_
  rintro e w16 ⟨a12, c12, o12, r12, rfl, g, g', rr⟩
  replace V11 := Lib.hid (V11.out.below rr); replace HL := Lib.hid (then_below HL.out rr); have G3 := Lib.hid g; have G4 := Lib.hid g'; clear rr g
  go_wp2_with fail
  refine (o_scale (-2) [-2, -6] rfl rfl (by decide) (by decide) (by decide) V11.out G3.out G4.out).mono ?_
  rintro e w17 ⟨a13, c13, rfl, hv, rr⟩
  clear V11; clear G3; clear G4; replace HL := Lib.hid (then_below HL.out rr); have V13 := Lib.hid hv; clear rr hv
  go_wp2_with fail
  refine (o_of (W := w17) (b := w17.heap.size) (by first | rfl | simp) [-2, -6] rfl rfl (by decide) (by decide)).mono ?_
  rintro e w18 ⟨a14, c14, rfl, hv, rr⟩
  replace V13 := Lib.hid (V13.out.below rr); replace HL := Lib.hid (then_below HL.out rr); have V14 := Lib.hid hv; clear rr hv
  go_wp2_with fail
  refine (o_same (by decide) (by decide) V13.out V14.out).mono ?_
  rintro e w19 ⟨rfl, rr⟩
  clear V13; clear V14; replace HL := Lib.hid (then_below HL.out rr); clear rr
  go_wp2_with fail
  refine (o_zero 2 2 rfl (by decide)).mono ?_
  rintro e w20 ⟨a15, c15, rfl, hv, rr⟩
  replace HL := Lib.hid (then_below HL.out rr); have V15 := Lib.hid hv; clear rr hv
  go_wp2_with fail
  refine (o_of (W := w20) (b := w20.heap.size) (by first | rfl | simp) [0, 0] rfl rfl (by decide) (by decide)).mono ?_
  rintro e w21 ⟨a16, c16, rfl, hv, rr⟩
  replace V15 := Lib.hid (V15.out.below rr); replace HL := Lib.hid (then_below HL.out rr); have V16 := Lib.hid hv; clear rr hv
  go_wp2_with fail
  refine (o_same (zs := [0, 0]) (by decide) (by decide) V15.out V16.out).mono ?_
  rintro e w22 ⟨rfl, rr⟩
  clear V15; clear V16; replace HL := Lib.hid (then_below HL.out rr); clear rr
  go_wp2_with fail
  refine (o_of (W := w22) (b := w22.heap.size) (by first | rfl | simp) [1] rfl rfl (by decide) (by decide)).mono ?_
  rintro e w23 ⟨a17, c17, rfl, hv, rr⟩
  replace HL := Lib.hid (then_below HL.out rr); have V17 := Lib.hid hv; clear rr hv
  go_wp2_with fail
  refine (o_of (W := w23) (b := w23.heap.size) (by first | rfl | simp) [1, 2] rfl rfl (by decide) (by decide)).mono ?_
  rintro e w24 ⟨a18, c18, rfl, hv, rr⟩
  replace V17 := Lib.hid (V17.out.below rr); replace HL := Lib.hid (then_below HL.out rr); have V18 := Lib.hid hv; clear rr hv
  go_wp2_with fail
  refine (v_same_no (by simp) V17.out V18.out (qrows_ints [1] (by decide) (by decide)) (qrows_ints [1, 2] (by decide) (by decide))).mono ?_
  rintro e w25 ⟨rfl, rr⟩
  clear V17; clear V18; replace HL := Lib.hid (then_below HL.out rr); clear rr
  have al := (Below.refl w25.heap.size w25).alloc (Nat.le_refl _) (.cells #[.bool false, .slice none 0 0, .slice none 0 0] 43)
  replace HL := Lib.hid (then_below HL.out al); clear al
  go_wp2_with fail
  refine (v_check false k_none.symm (o_none (W := w25) (b := w25.heap.size) rfl) q_none).mono ?_
  rintro e w26 ⟨rfl, rr⟩
  replace HL := Lib.hid (then_below HL.out rr); clear rr
  go_wp2_with fail
  go_ret
  exact ⟨rfl, HL.out⟩
end Go.Proofs.Ytlcbicdendelfaa
