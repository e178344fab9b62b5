/- Grids of fractions: some answers that the document fixes. -/
import Derived.BigQuiet
import Derived.Test.YtgmbaamfobhceaaGreatGGlU
set_option linter.unusedSimpArgs false
set_option linter.unusedVariables false
set_option maxHeartbeats 8000000
namespace Go.Proofs.YtgmbaamfobhceaaGreat
open Go Go.Proofs Go.RowKit Go.Shelf Nu
set_option linter.unusedVariables false
set_option linter.unusedSimpArgs false
set_option maxRecDepth 100000
attribute [local go_sem] Oper.semAt_some
theorem o_bad1 : grows [(ints [1, 2]).map qr, (ints [3]).map qr] := ⟨by decide, fun r hr => by
 simp only [List.mem_cons, List.not_mem_nil, or_false] at hr
 rcases hr with rfl | rfl
 · exact qrows_ints _ (by decide) (by decide)
 · exact qrows_ints _ (by decide) (by decide)⟩
theorem o_bad2 : gokB [(ints [1, 2]).map qr, (ints [3]).map qr] = false := by simp [gokB, cols, ints]
theorem gl_alive (w : World) : Calls Tryz.prog 11 #[] w fun e w' => e = .returned (.bool true) ∧ Below w.heap.size w w' := by
 go_enter Tryz.func11, Tryz.ntmps11
 go_wp2_with fail
 refine (o_of (W := w) (b := w.heap.size) (by first | rfl | simp) [1, 2] rfl rfl (by decide) (by decide)).mono ?_
 rintro e w1 ⟨a1, c1, rfl, hv, rr⟩
 have HL := Lib.hid rr; have V1 := Lib.hid hv; clear rr hv
 go_wp2_with fail
 refine (o_of (W := w1) (b := w1.heap.size) (by first | rfl | simp) [3, 4] rfl rfl (by decide) (by decide)).mono ?_
 rintro e w2 ⟨a2, c2, rfl, hv, rr⟩
 replace V1 := Lib.hid (V1.out.below rr); replace HL := Lib.hid (then_below HL.out rr); have V2 := Lib.hid hv; clear rr hv
 go_wp2_with fail
 refine (o_of (W := w2) (b := w2.heap.size) (by first | rfl | simp) [5, 6] rfl rfl (by decide) (by decide)).mono ?_
 rintro e w3 ⟨a3, c3, rfl, hv, rr⟩
 replace V1 := Lib.hid (V1.out.below rr); replace V2 := Lib.hid (V2.out.below rr); replace HL := Lib.hid (then_below HL.out rr); have V3 := Lib.hid hv; clear rr hv
 have G1 := Lib.hid (lit_grid (W := w3) [(.slice a1 2 c1, (ints [1, 2]).map qr), (.slice a2 2 c2, (ints [3, 4]).map qr), (.slice a3 2 c3, (ints [5, 6]).map qr)] (by intro p hp; simp only [List.mem_cons, List.not_mem_nil, or_false] at hp; rcases hp with rfl | rfl | rfl; exact V1.out; exact V2.out; exact V3.out) (vs := #[.slice a1 2 c1, .slice a2 2 c2, .slice a3 2 c3]) rfl (b := w3.heap.size) (by first | rfl | simp) (m := 3) rfl)
 clear V1
 clear V2
 clear V3
 have al := (Below.refl w3.heap.size w3).alloc (Nat.le_refl _) (.cells #[.slice a1 2 c1, .slice a2 2 c2, .slice a3 2 c3] 30)
 replace HL := Lib.hid (then_below HL.out al); clear al
 go_wp2_with fail
 refine (o_turn [[1, 2], [3, 4], [5, 6]] 2 [[1, 3, 5], [2, 4, 6]] G1.out (by omega) rfl (by omega) (by decide) (by decide) (by decide +kernel)).mono ?_
 rintro e w4 ⟨ta, tn, tc, rfl, htn, hg, rr⟩
 clear G1; replace HL := Lib.hid (then_below HL.out rr); have GT := Lib.hid hg; clear rr hg
 obtain rfl : tn = 2 := htn
 go_wp2_with fail
 refine (o_of (W := w4) (b := w4.heap.size) (by first | rfl | simp) [1, 2] rfl rfl (by decide) (by decide)).mono ?_
 rintro e w5 ⟨a4, c4, rfl, hv, rr⟩
 replace GT := Lib.hid (GT.out.below rr); replace HL := Lib.hid (then_below HL.out rr); have V4 := Lib.hid hv; clear rr hv
 go_wp2_with fail
 refine (o_of (W := w5) (b := w5.heap.size) (by first | rfl | simp) [3] rfl rfl (by decide) (by decide)).mono ?_
 rintro e w6 ⟨a5, c5, rfl, hv, rr⟩
 replace GT := Lib.hid (GT.out.below rr); replace V4 := Lib.hid (V4.out.below rr); replace HL := Lib.hid (then_below HL.out rr); have V5 := Lib.hid hv; clear rr hv
 have G2 := Lib.hid (lit_grid (W := w6) [(.slice a4 2 c4, (ints [1, 2]).map qr), (.slice a5 1 c5, (ints [3]).map qr)] (by intro p hp; simp only [List.mem_cons, List.not_mem_nil, or_false] at hp; rcases hp with rfl | rfl; exact V4.out; exact V5.out) (vs := #[.slice a4 2 c4, .slice a5 1 c5]) rfl (b := w6.heap.size) (by first | rfl | simp) (m := 2) rfl)
 clear V4
 clear V5
 have al := (Below.refl w6.heap.size w6).alloc (Nat.le_refl _) (.cells #[.slice a4 2 c4, .slice a5 1 c5] 30)
 replace GT := Lib.hid (GT.out.below al); replace HL := Lib.hid (then_below HL.out al); clear al
 go_wp2_with fail
 refine (g_turn_no G2.out o_bad1 o_bad2).mono ?_
 rintro e w7 ⟨rfl, rr⟩
 replace GT := Lib.hid (GT.out.below rr); clear G2; replace HL := Lib.hid (then_below HL.out rr); clear rr
 go_wp2_with fail
 refine (o_of (W := w7) (b := w7.heap.size) (by first | rfl | simp) [1, 2] rfl rfl (by decide) (by decide)).mono ?_
 rintro e w8 ⟨a6, c6, rfl, hv, rr⟩
 replace GT := Lib.hid (GT.out.below rr); replace HL := Lib.hid (then_below HL.out rr); have V6 := Lib.hid hv; clear rr hv
 go_wp2_with fail
 refine (o_of (W := w8) (b := w8.heap.size) (by first | rfl | simp) [3, 4] rfl rfl (by decide) (by decide)).mono ?_
 rintro e w9 ⟨a7, c7, rfl, hv, rr⟩
 replace GT := Lib.hid (GT.out.below rr); replace V6 := Lib.hid (V6.out.below rr); replace HL := Lib.hid (then_below HL.out rr); have V7 := Lib.hid hv; clear rr hv
 have G3 := Lib.hid (lit_grid (W := w9) [(.slice a6 2 c6, (ints [1, 2]).map qr), (.slice a7 2 c7, (ints [3, 4]).map qr)] (by intro p hp; simp only [List.mem_cons, List.not_mem_nil, or_false] at hp; rcases hp with rfl | rfl; exact V6.out; exact V7.out) (vs := #[.slice a6 2 c6, .slice a7 2 c7]) rfl (b := w9.heap.size) (by first | rfl | simp) (m := 2) rfl)
 clear V6
 clear V7
 have al := (Below.refl w9.heap.size w9).alloc (Nat.le_refl _) (.cells #[.slice a6 2 c6, .slice a7 2 c7] 30)
 replace GT := Lib.hid (GT.out.below al); replace HL := Lib.hid (then_below HL.out al); clear al
 go_wp2_with fail
 refine (o_of (W := (w9.alloc (.cells #[.slice a6 2 c6, .slice a7 2 c7] 30))) (b := w9.heap.size + 1) (by first | rfl | simp) [1, -1] rfl rfl (by decide) (by decide)).mono ?_
 rintro e w10 ⟨a8, c8, rfl, hv, rr⟩
 replace GT := Lib.hid (GT.out.below rr); replace G3 := Lib.hid (G3.out.below rr); replace HL := Lib.hid (then_below HL.out rr); have V8 := Lib.hid hv; clear rr hv
 go_wp2_with fail
 refine (o_times [[1, 2], [3, 4]] [1, -1] [-1, -1] G3.out V8.out (by omega) (by decide) (by decide) (by decide) (by decide) (by decide +kernel) rfl).mono ?_
 rintro e w11 ⟨ba, bc, rfl, hv, rr⟩
 replace GT := Lib.hid (GT.out.below rr); clear G3; clear V8; replace HL := Lib.hid (then_below HL.out rr); have VB := Lib.hid hv; clear rr hv
 go_wp2_with fail
 refine (o_of (W := w11) (b := w11.heap.size) (by first | rfl | simp) [1, 2] rfl rfl (by decide) (by decide)).mono ?_
 rintro e w12 ⟨a9, c9, rfl, hv, rr⟩
 replace GT := Lib.hid (GT.out.below rr); replace VB := Lib.hid (VB.out.below rr); replace HL := Lib.hid (then_below HL.out rr); have V9 := Lib.hid hv; clear rr hv
 go_wp2_with fail
 refine (o_of (W := w12) (b := w12.heap.size) (by first | rfl | simp) [2, 4] rfl rfl (by decide) (by decide)).mono ?_
 rintro e w13 ⟨a10, c10, rfl, hv, rr⟩
 replace GT := Lib.hid (GT.out.below rr); replace VB := Lib.hid (VB.out.below rr); replace V9 := Lib.hid (V9.out.below rr); replace HL := Lib.hid (then_below HL.out rr); have V10 := Lib.hid hv; clear rr hv
 go_wp2_with fail
 refine (o_of (W := w13) (b := w13.heap.size) (by first | rfl | simp) [0, 1] rfl rfl (by decide) (by decide)).mono ?_
 rintro e w14 ⟨a11, c11, rfl, hv, rr⟩
 replace GT := Lib.hid (GT.out.below rr); replace VB := Lib.hid (VB.out.below rr); replace V9 := Lib.hid (V9.out.below rr); replace V10 := Lib.hid (V10.out.below rr); replace HL := Lib.hid (then_below HL.out rr); have V11 := Lib.hid hv; clear rr hv
 have G4 := Lib.hid (lit_grid (W := w14) [(.slice a9 2 c9, (ints [1, 2]).map qr), (.slice a10 2 c10, (ints [2, 4]).map qr), (.slice a11 2 c11, (ints [0, 1]).map qr)] (by intro p hp; simp only [List.mem_cons, List.not_mem_nil, or_false] at hp; rcases hp with rfl | rfl | rfl; exact V9.out; exact V10.out; exact V11.out) (vs := #[.slice a9 2 c9, .slice a10 2 c10, .slice a11 2 c11]) rfl (b := w14.heap.size) (by first | rfl | simp) (m := 3) rfl)
 clear V9
 clear V10
 clear V11
 have al := (Below.refl w14.heap.size w14).alloc (Nat.le_refl _) (.cells #[.slice a9 2 c9, .slice a10 2 c10, .slice a11 2 c11] 30)
 replace GT := Lib.hid (GT.out.below al); replace VB := Lib.hid (VB.out.below al); replace HL := Lib.hid (then_below HL.out al); clear al
 go_wp2_with fail
 refine (o_rank [[1, 2], [2, 4], [0, 1]] 2 2 G4.out (by omega) (by omega) (by omega) (by decide) (by decide +kernel) (by decide +kernel)).mono ?_
 rintro e w15 ⟨rfl, rr⟩
 replace GT := Lib.hid (GT.out.below rr); replace VB := Lib.hid (VB.out.below rr); clear G4; replace HL := Lib.hid (then_below HL.out rr); clear rr
 go_wp2_with fail
 refine (o_of (W := w15) (b := w15.heap.size) (by first | rfl | simp) [1, 1] rfl rfl (by decide) (by decide)).mono ?_
 rintro e w16 ⟨a12, c12, rfl, hv, rr⟩
 replace GT := Lib.hid (GT.out.below rr); replace VB := Lib.hid (VB.out.below rr); replace HL := Lib.hid (then_below HL.out rr); have V12 := Lib.hid hv; clear rr hv
 go_wp2_with fail
 refine (o_of (W := w16) (b := w16.heap.size) (by first | rfl | simp) [1, -1] rfl rfl (by decide) (by decide)).mono ?_
 rintro e w17 ⟨a13, c13, rfl, hv, rr⟩
 replace GT := Lib.hid (GT.out.below rr); replace VB := Lib.hid (VB.out.below rr); replace V12 := Lib.hid (V12.out.below rr); replace HL := Lib.hid (then_below HL.out rr); have V13 := Lib.hid hv; clear rr hv
 have G5 := Lib.hid (lit_grid (W := w17) [(.slice a12 2 c12, (ints [1, 1]).map qr), (.slice a13 2 c13, (ints [1, -1]).map qr)] (by intro p hp; simp only [List.mem_cons, List.not_mem_nil, or_false] at hp; rcases hp with rfl | rfl; exact V12.out; exact V13.out) (vs := #[.slice a12 2 c12, .slice a13 2 c13]) rfl (b := w17.heap.size) (by first | rfl | simp) (m := 2) rfl)
 clear V12
 clear V13
 have al := (Below.refl w17.heap.size w17).alloc (Nat.le_refl _) (.cells #[.slice a12 2 c12, .slice a13 2 c13] 30)
 replace GT := Lib.hid (GT.out.below al); replace VB := Lib.hid (VB.out.below al); replace HL := Lib.hid (then_below HL.out al); clear al
 go_wp2_with fail
 refine (o_of (W := (w17.alloc (.cells #[.slice a12 2 c12, .slice a13 2 c13] 30))) (b := w17.heap.size + 1) (by first | rfl | simp) [3, 1] rfl rfl (by decide) (by decide)).mono ?_
 rintro e w18 ⟨a14, c14, rfl, hv, rr⟩
 replace GT := Lib.hid (GT.out.below rr); replace VB := Lib.hid (VB.out.below rr); replace G5 := Lib.hid (G5.out.below rr); replace HL := Lib.hid (then_below HL.out rr); have V14 := Lib.hid hv; clear rr hv
 go_wp2_with fail
 refine (o_solve [[1, 1], [1, -1]] [3, 1] 2 0 [2, 1] G5.out V14.out (by decide) (by decide) (by decide) (by decide) (by decide) (by decide) (by decide +kernel) (by decide +kernel)).mono ?_
 rintro e w19 ⟨sa, sn, sc, rfl, hsv, rr⟩
 replace GT := Lib.hid (GT.out.below rr); replace VB := Lib.hid (VB.out.below rr); clear G5; clear V14; replace HL := Lib.hid (then_below HL.out rr); clear rr
 obtain ⟨hsn, hsv⟩ := hsv rfl; subst hsn; have VS := Lib.hid hsv; clear hsv
 go_wp2_with fail
 refine (o_of (W := w19) (b := w19.heap.size) (by first | rfl | simp) [1, 1] rfl rfl (by decide) (by decide)).mono ?_
 rintro e w20 ⟨a15, c15, rfl, hv, rr⟩
 replace GT := Lib.hid (GT.out.below rr); replace VB := Lib.hid (VB.out.below rr); replace VS := Lib.hid (VS.out.below rr); replace HL := Lib.hid (then_below HL.out rr); have V15 := Lib.hid hv; clear rr hv
 have G6 := Lib.hid (lit_grid (W := w20) [(.slice a15 2 c15, (ints [1, 1]).map qr)] (by intro p hp; simp only [List.mem_cons, List.not_mem_nil, or_false] at hp; rcases hp with rfl; exact V15.out) (vs := #[.slice a15 2 c15]) rfl (b := w20.heap.size) (by first | rfl | simp) (m := 1) rfl)
 clear V15
 have al := (Below.refl w20.heap.size w20).alloc (Nat.le_refl _) (.cells #[.slice a15 2 c15] 30)
 replace GT := Lib.hid (GT.out.below al); replace VB := Lib.hid (VB.out.below al); replace VS := Lib.hid (VS.out.below al); replace HL := Lib.hid (then_below HL.out al); clear al
 go_wp2_with fail
 refine (o_of (W := (w20.alloc (.cells #[.slice a15 2 c15] 30))) (b := w20.heap.size + 1) (by first | rfl | simp) [2] rfl rfl (by decide) (by decide)).mono ?_
 rintro e w21 ⟨a16, c16, rfl, hv, rr⟩
 replace GT := Lib.hid (GT.out.below rr); replace VB := Lib.hid (VB.out.below rr); replace VS := Lib.hid (VS.out.below rr); replace G6 := Lib.hid (G6.out.below rr); replace HL := Lib.hid (then_below HL.out rr); have V16 := Lib.hid hv; clear rr hv
 go_wp2_with fail
 refine (o_solve [[1, 1]] [2] 2 8 [] G6.out V16.out (by decide) (by decide) (by decide) (by decide) (by decide) (by decide) (by decide +kernel) (by decide +kernel)).mono ?_
 rintro e w22 ⟨ua, un, uc, rfl, -, rr⟩
 replace GT := Lib.hid (GT.out.below rr); replace VB := Lib.hid (VB.out.below rr); replace VS := Lib.hid (VS.out.below rr); clear G6; clear V16; replace HL := Lib.hid (then_below HL.out rr); clear rr
 go_wp2_with fail
 refine (o_of (W := w22) (b := w22.heap.size) (by first | rfl | simp) [1] rfl rfl (by decide) (by decide)).mono ?_
 rintro e w23 ⟨a17, c17, rfl, hv, rr⟩
 replace GT := Lib.hid (GT.out.below rr); replace VB := Lib.hid (VB.out.below rr); replace VS := Lib.hid (VS.out.below rr); replace HL := Lib.hid (then_below HL.out rr); have V17 := Lib.hid hv; clear rr hv
 go_wp2_with fail
 refine (o_of (W := w23) (b := w23.heap.size) (by first | rfl | simp) [1] rfl rfl (by decide) (by decide)).mono ?_
 rintro e w24 ⟨a18, c18, rfl, hv, rr⟩
 replace GT := Lib.hid (GT.out.below rr); replace VB := Lib.hid (VB.out.below rr); replace VS := Lib.hid (VS.out.below rr); replace V17 := Lib.hid (V17.out.below rr); replace HL := Lib.hid (then_below HL.out rr); have V18 := Lib.hid hv; clear rr hv
 have G7 := Lib.hid (lit_grid (W := w24) [(.slice a17 1 c17, (ints [1]).map qr), (.slice a18 1 c18, (ints [1]).map qr)] (by intro p hp; simp only [List.mem_cons, List.not_mem_nil, or_false] at hp; rcases hp with rfl | rfl; exact V17.out; exact V18.out) (vs := #[.slice a17 1 c17, .slice a18 1 c18]) rfl (b := w24.heap.size) (by first | rfl | simp) (m := 2) rfl)
 clear V17
 clear V18
 have al := (Below.refl w24.heap.size w24).alloc (Nat.le_refl _) (.cells #[.slice a17 1 c17, .slice a18 1 c18] 30)
 replace GT := Lib.hid (GT.out.below al); replace VB := Lib.hid (VB.out.below al); replace VS := Lib.hid (VS.out.below al); replace HL := Lib.hid (then_below HL.out al); clear al
 go_wp2_with fail
 refine (o_of (W := (w24.alloc (.cells #[.slice a17 1 c17, .slice a18 1 c18] 30))) (b := w24.heap.size + 1) (by first | rfl | simp) [1, 2] rfl rfl (by decide) (by decide)).mono ?_
 rintro e w25 ⟨a19, c19, rfl, hv, rr⟩
 replace GT := Lib.hid (GT.out.below rr); replace VB := Lib.hid (VB.out.below rr); replace VS := Lib.hid (VS.out.below rr); replace G7 := Lib.hid (G7.out.below rr); replace HL := Lib.hid (then_below HL.out rr); have V19 := Lib.hid hv; clear rr hv
 go_wp2_with fail
 refine (o_solve [[1], [1]] [1, 2] 1 6 [] G7.out V19.out (by decide) (by decide) (by decide) (by decide) (by decide) (by decide) (by decide +kernel) (by decide +kernel)).mono ?_
 rintro e w26 ⟨xa, xn, xc, rfl, -, rr⟩
 replace GT := Lib.hid (GT.out.below rr); replace VB := Lib.hid (VB.out.below rr); replace VS := Lib.hid (VS.out.below rr); clear G7; clear V19; replace HL := Lib.hid (then_below HL.out rr); clear rr
 obtain ⟨gb, go, ra, rc, rfl, hgb, hgc, hgv⟩ := GT.out.row (k := 0) (r := (ints [1, 3, 5]).map qr) rfl
 have hgv : VReads w26 (.slice ra 3 rc) ((ints [1, 3, 5]).map qr) := hgv
 have hgc : World.cell? w26 ⟨gb, go, none⟩ = some (.slice ra 3 rc) := hgc
 have VR := Lib.hid hgv; have HC := Lib.hid (fun (W : World) (r : Below w26.heap.size w26 W) => show W.cell? ⟨gb, go, none⟩ = some (.slice ra 3 rc) from (r.cell (p := ⟨gb, go, none⟩) hgb).trans hgc); clear GT hgb hgc hgv
 go_wp2_with fail
 have M : Mem w26 [] [] w26 := Mem.start w26
 refine region_mem (S := (fun (W : World) => W.cell? ⟨gb, go, none⟩ = some (.slice ra 3 rc))) M (by kernel_rfl) ?_
 intro V0 M
 have hS0 : (fun (W : World) => W.cell? ⟨gb, go, none⟩ = some (.slice ra 3 rc)) V0 := HC.out _ M.below
 refine wtk 0 (.int .i64 0) rfl (fun _ _ _ h => h) (Or.inl ⟨by rfl, fun W3 hS => by go_simp⟩) hS0 ?_
 try simp only [Act.put, List.setIfInBounds_toArray, List.set_cons_zero, List.set_cons_succ]
 refine wtk 1 (.bool true) rfl (fun _ _ _ h => h) (Or.inl ⟨by rfl, fun W3 hS => by go_simp⟩) hS0 ?_
 try simp only [Act.put, List.setIfInBounds_toArray, List.set_cons_zero, List.set_cons_succ]
 refine wtk 2 (.bool true) rfl (fun _ _ _ h => h) (Or.inl ⟨by rfl, fun W3 hS => by go_simp⟩) hS0 ?_
 try simp only [Act.put, List.setIfInBounds_toArray, List.set_cons_zero, List.set_cons_succ]
 refine wtk 3 (.int .i64 1) rfl (fun _ _ _ h => h) (Or.inl ⟨by rfl, fun W3 hS => by go_simp⟩) hS0 ?_
 try simp only [Act.put, List.setIfInBounds_toArray, List.set_cons_zero, List.set_cons_succ]
 refine wtk 4 (.bool true) rfl (fun _ _ _ h => h) (Or.inl ⟨by rfl, fun W3 hS => by go_simp⟩) hS0 ?_
 try simp only [Act.put, List.setIfInBounds_toArray, List.set_cons_zero, List.set_cons_succ]
 refine wtk 5 (.bool true) rfl (fun _ _ _ h => h) (Or.inl ⟨by rfl, fun W3 hS => by go_simp⟩) hS0 ?_
 try simp only [Act.put, List.setIfInBounds_toArray, List.set_cons_zero, List.set_cons_succ]
 refine wtk 6 (.bool true) rfl (fun _ _ _ h => h) (Or.inl ⟨by rfl, fun W3 hS => by go_simp⟩) hS0 ?_
 try simp only [Act.put, List.setIfInBounds_toArray, List.set_cons_zero, List.set_cons_succ]
 refine wtk 7 (.int .i64 0) rfl (fun _ _ _ h => h) (Or.inl ⟨by rfl, fun W3 hS => by go_simp⟩) hS0 ?_
 try simp only [Act.put, List.setIfInBounds_toArray, List.set_cons_zero, List.set_cons_succ]
 refine wtk 8 (.bool true) rfl (fun _ _ _ h => h) (Or.inl ⟨by rfl, fun W3 hS => by go_simp⟩) hS0 ?_
 try simp only [Act.put, List.setIfInBounds_toArray, List.set_cons_zero, List.set_cons_succ]
 refine wtk 9 (.bool true) rfl (fun _ _ _ h => h) (Or.inl ⟨by rfl, fun W3 hS => by go_simp⟩) hS0 ?_
 try simp only [Act.put, List.setIfInBounds_toArray, List.set_cons_zero, List.set_cons_succ]
 refine wtk 10 (.bool true) rfl (fun _ _ _ h => h) (Or.inl ⟨by rfl, fun W3 hS => by go_simp⟩) hS0 ?_
 try simp only [Act.put, List.setIfInBounds_toArray, List.set_cons_zero, List.set_cons_succ]
 refine wtk 11 (.int .i64 0) rfl (fun _ _ _ h => h) (Or.inl ⟨by rfl, fun W3 hS => by go_simp⟩) hS0 ?_
 try simp only [Act.put, List.setIfInBounds_toArray, List.set_cons_zero, List.set_cons_succ]
 refine wtk 12 (.bool true) rfl (fun _ _ _ h => h) (Or.inl ⟨by rfl, fun W3 hS => by go_simp⟩) hS0 ?_
 try simp only [Act.put, List.setIfInBounds_toArray, List.set_cons_zero, List.set_cons_succ]
 refine wtk 13 (.bool true) rfl (fun _ _ _ h => h) (Or.inl ⟨by rfl, fun W3 hS => by go_simp⟩) hS0 ?_
 try simp only [Act.put, List.setIfInBounds_toArray, List.set_cons_zero, List.set_cons_succ]
 refine wtk 14 (.bool true) rfl (fun _ _ _ h => h) (Or.inl ⟨by rfl, fun W3 hS => by go_simp⟩) hS0 ?_
 try simp only [Act.put, List.setIfInBounds_toArray, List.set_cons_zero, List.set_cons_succ]
 refine wtk 15 (.int .i64 0) rfl (fun _ _ _ h => h) (Or.inl ⟨by rfl, fun W3 hS => by go_simp⟩) hS0 ?_
 try simp only [Act.put, List.setIfInBounds_toArray, List.set_cons_zero, List.set_cons_succ]
 refine wtk 16 (.bool true) rfl (fun _ _ _ h => h) (Or.inl ⟨by rfl, fun W3 hS => by go_simp⟩) hS0 ?_
 try simp only [Act.put, List.setIfInBounds_toArray, List.set_cons_zero, List.set_cons_succ]
 refine wtk 17 (.bool true) rfl (fun _ _ _ h => h) (Or.inl ⟨by rfl, fun W3 hS => by go_simp⟩) hS0 ?_
 try simp only [Act.put, List.setIfInBounds_toArray, List.set_cons_zero, List.set_cons_succ]
 refine wtk 18 (.bool true) rfl (fun _ _ _ h => h) (Or.inl ⟨by rfl, fun W3 hS => by go_simp⟩) hS0 ?_
 try simp only [Act.put, List.setIfInBounds_toArray, List.set_cons_zero, List.set_cons_succ]
 refine wtk 19 (.int .i64 8) rfl (fun _ _ _ h => h) (Or.inl ⟨by rfl, fun W3 hS => by go_simp⟩) hS0 ?_
 try simp only [Act.put, List.setIfInBounds_toArray, List.set_cons_zero, List.set_cons_succ]
 refine wtk 20 (.bool true) rfl (fun _ _ _ h => h) (Or.inl ⟨by rfl, fun W3 hS => by go_simp⟩) hS0 ?_
 try simp only [Act.put, List.setIfInBounds_toArray, List.set_cons_zero, List.set_cons_succ]
 refine wtk 21 (.bool true) rfl (fun _ _ _ h => h) (Or.inl ⟨by rfl, fun W3 hS => by go_simp⟩) hS0 ?_
 try simp only [Act.put, List.setIfInBounds_toArray, List.set_cons_zero, List.set_cons_succ]
 refine wtk 22 (.bool true) rfl (fun _ _ _ h => h) (Or.inl ⟨by rfl, fun W3 hS => by go_simp⟩) hS0 ?_
 try simp only [Act.put, List.setIfInBounds_toArray, List.set_cons_zero, List.set_cons_succ]
 refine wtk 23 (.int .i64 6) rfl (fun _ _ _ h => h) (Or.inl ⟨by rfl, fun W3 hS => by go_simp⟩) hS0 ?_
 try simp only [Act.put, List.setIfInBounds_toArray, List.set_cons_zero, List.set_cons_succ]
 refine wtk 24 (.bool true) rfl (fun _ _ _ h => h) (Or.inl ⟨by rfl, fun W3 hS => by go_simp⟩) hS0 ?_
 try simp only [Act.put, List.setIfInBounds_toArray, List.set_cons_zero, List.set_cons_succ]
 refine wtk 25 (.bool true) rfl (fun _ _ _ h => h) (Or.inl ⟨by rfl, fun W3 hS => by go_simp⟩) hS0 ?_
 try simp only [Act.put, List.setIfInBounds_toArray, List.set_cons_zero, List.set_cons_succ]
 refine wtk 26 (.bool true) rfl (fun _ _ _ h => h) (Or.inl ⟨by rfl, fun W3 hS => by go_simp⟩) hS0 ?_
 try simp only [Act.put, List.setIfInBounds_toArray, List.set_cons_zero, List.set_cons_succ]
 refine wtk 27 (.int .i64 ((2 : Nat) : Int)) rfl (fun _ _ _ h => h) (Or.inl ⟨by rfl, fun W3 hS => by go_simp⟩) hS0 ?_
 try simp only [Act.put, List.setIfInBounds_toArray, List.set_cons_zero, List.set_cons_succ]
 refine wtk 28 (.bool true) rfl (fun _ _ _ h => h) (Or.inl ⟨by rfl, fun W3 hS => by go_simp⟩) hS0 ?_
 try simp only [Act.put, List.setIfInBounds_toArray, List.set_cons_zero, List.set_cons_succ]
 refine wtk 29 (.bool true) rfl (fun _ _ _ h => h) (Or.inl ⟨by rfl, fun W3 hS => by go_simp⟩) hS0 ?_
 try simp only [Act.put, List.setIfInBounds_toArray, List.set_cons_zero, List.set_cons_succ]
 refine wtk 30 (.bool true) rfl (fun _ _ _ h => h) (Or.inl ⟨by rfl, fun W3 hS => by go_simp⟩) hS0 ?_
 try simp only [Act.put, List.setIfInBounds_toArray, List.set_cons_zero, List.set_cons_succ]
 refine wtk 31 (.slice (some ⟨gb, go, none⟩) 2 tc) rfl (fun _ _ _ h => h) (Or.inl ⟨by rfl, fun W3 hS => by go_simp⟩) hS0 ?_
 try simp only [Act.put, List.setIfInBounds_toArray, List.set_cons_zero, List.set_cons_succ]
 refine wtk 32 (.int .i64 ((2 : Nat) : Int)) rfl (fun _ _ _ h => h) (Or.inl ⟨by rfl, fun W3 hS => by go_simp⟩) hS0 ?_
 try simp only [Act.put, List.setIfInBounds_toArray, List.set_cons_zero, List.set_cons_succ]
 refine wtk 33 (.bool true) rfl (fun _ _ _ h => h) (Or.inl ⟨by rfl, fun W3 hS => by go_simp⟩) hS0 ?_
 try simp only [Act.put, List.setIfInBounds_toArray, List.set_cons_zero, List.set_cons_succ]
 refine wtk 34 (.bool true) rfl (fun _ _ _ h => h) (Or.inl ⟨by rfl, fun W3 hS => by go_simp⟩) hS0 ?_
 try simp only [Act.put, List.setIfInBounds_toArray, List.set_cons_zero, List.set_cons_succ]
 refine wtk 35 (.bool true) rfl (fun _ _ _ h => h) (Or.inl ⟨by rfl, fun W3 hS => by go_simp⟩) hS0 ?_
 try simp only [Act.put, List.setIfInBounds_toArray, List.set_cons_zero, List.set_cons_succ]
 refine wtk 36 (.slice (some ⟨gb, go, none⟩) 2 tc) rfl (fun _ _ _ h => h) (Or.inl ⟨by rfl, fun W3 hS => by go_simp⟩) hS0 ?_
 try simp only [Act.put, List.setIfInBounds_toArray, List.set_cons_zero, List.set_cons_succ]
 refine wtk 37 (.pointer (some ⟨gb, go, none⟩)) rfl (fun _ _ _ h => h) (Or.inl ⟨by rfl, fun W3 hS => by go_simp⟩) hS0 ?_
 try simp only [Act.put, List.setIfInBounds_toArray, List.set_cons_zero, List.set_cons_succ]
 refine wtk 38 (.slice ra 3 rc) rfl (fun _ _ _ h => h) (Or.inl ⟨by rfl, fun W3 hS => by have hS0 := hS; go_simp⟩) hS0 ?_
 try simp only [Act.put, List.setIfInBounds_toArray, List.set_cons_zero, List.set_cons_succ]
 clear hS0
 refine one_op 39 rfl (fun K1 hK => ?_)
 go_simp
 obtain ⟨n39, V1_39, hV, hb, M'⟩ := M.fresh 2 [.int .i64 1, .int .i64 3, .int .i64 5]
 rw [← hV, ← hb]
 clear M hV hb; have M := M'; clear M'
 refine hK _ _ ⟨HC.out _ M.below, ?_⟩
 clear hK K1
 refine one_op 40 rfl (fun K2 hK => ?_)
 go_simp
 refine (o_ofB [1, 3, 5] rfl (M.box 0 rfl) rfl (by decide) (by decide)).mono ?_
 rintro e V2_40 ⟨q39, qc39, rfl, hw39, rr⟩
 have M' := M.up rr
 clear M rr 
 have M := M'; clear M'
 refine hK _ _ ⟨HC.out _ M.below, ?_⟩
 clear hK K2
 refine one_op 41 rfl (fun K3 hK => ?_)
 go_simp
 refine (o_same (by decide) (by decide) (VR.out.below M.below) hw39).mono ?_
 rintro e V3_41 ⟨rfl, rr⟩
 have M' := M.up rr
 clear M rr 
 have M := M'; clear M'
 refine hK _ _ ⟨HC.out _ M.below, ?_⟩
 clear hK K3
 have hS0 : (fun (W : World) => W.cell? ⟨gb, go, none⟩ = some (.slice ra 3 rc)) _ := HC.out _ M.below
 refine wtk 42 (.bool true) rfl (fun _ _ _ h => h) (Or.inl ⟨by rfl, fun W3 hS => by go_simp⟩) hS0 ?_
 try simp only [Act.put, List.setIfInBounds_toArray, List.set_cons_zero, List.set_cons_succ]
 refine wtk 43 (.bool true) rfl (fun _ _ _ h => h) (Or.inl ⟨by rfl, fun W3 hS => by go_simp⟩) hS0 ?_
 try simp only [Act.put, List.setIfInBounds_toArray, List.set_cons_zero, List.set_cons_succ]
 refine wtk 44 (.slice ba 2 bc) rfl (fun _ _ _ h => h) (Or.inl ⟨by rfl, fun W3 hS => by go_simp⟩) hS0 ?_
 try simp only [Act.put, List.setIfInBounds_toArray, List.set_cons_zero, List.set_cons_succ]
 clear hS0
 refine one_op 45 rfl (fun K4 hK => ?_)
 go_simp
 obtain ⟨n45, V4_45, hV, hb, M'⟩ := M.fresh 2 [.int .i64 (-1), .int .i64 (-1)]
 rw [← hV, ← hb]
 clear M hV hb; have M := M'; clear M'
 refine hK _ _ ⟨HC.out _ M.below, ?_⟩
 clear hK K4
 refine one_op 46 rfl (fun K5 hK => ?_)
 go_simp
 refine (o_ofB [-1, -1] rfl (M.box 0 rfl) rfl (by decide) (by decide)).mono ?_
 rintro e V5_46 ⟨q45, qc45, rfl, hw45, rr⟩
 have M' := M.up rr
 clear M rr 
 have M := M'; clear M'
 refine hK _ _ ⟨HC.out _ M.below, ?_⟩
 clear hK K5
 refine one_op 47 rfl (fun K6 hK => ?_)
 go_simp
 refine (o_same (by decide) (by decide) (VB.out.below M.below) hw45).mono ?_
 rintro e V6_47 ⟨rfl, rr⟩
 have M' := M.up rr
 clear M rr 
 have M := M'; clear M'
 refine hK _ _ ⟨HC.out _ M.below, ?_⟩
 clear hK K6
 have hS0 : (fun (W : World) => W.cell? ⟨gb, go, none⟩ = some (.slice ra 3 rc)) _ := HC.out _ M.below
 refine wtk 48 (.bool true) rfl (fun _ _ _ h => h) (Or.inl ⟨by rfl, fun W3 hS => by go_simp⟩) hS0 ?_
 try simp only [Act.put, List.setIfInBounds_toArray, List.set_cons_zero, List.set_cons_succ]
 refine wtk 49 (.bool true) rfl (fun _ _ _ h => h) (Or.inl ⟨by rfl, fun W3 hS => by go_simp⟩) hS0 ?_
 try simp only [Act.put, List.setIfInBounds_toArray, List.set_cons_zero, List.set_cons_succ]
 refine wtk 50 (.slice sa 2 sc) rfl (fun _ _ _ h => h) (Or.inl ⟨by rfl, fun W3 hS => by go_simp⟩) hS0 ?_
 try simp only [Act.put, List.setIfInBounds_toArray, List.set_cons_zero, List.set_cons_succ]
 clear hS0
 refine one_op 51 rfl (fun K7 hK => ?_)
 go_simp
 obtain ⟨n51, V7_51, hV, hb, M'⟩ := M.fresh 2 [.int .i64 2, .int .i64 1]
 rw [← hV, ← hb]
 clear M hV hb; have M := M'; clear M'
 refine hK _ _ ⟨HC.out _ M.below, ?_⟩
 clear hK K7
 refine one_op 52 rfl (fun K8 hK => ?_)
 go_simp
 refine (o_ofB [2, 1] rfl (M.box 0 rfl) rfl (by decide) (by decide)).mono ?_
 rintro e V8_52 ⟨q51, qc51, rfl, hw51, rr⟩
 have M' := M.up rr
 clear M rr 
 have M := M'; clear M'
 refine hK _ _ ⟨HC.out _ M.below, ?_⟩
 clear hK K8
 refine one_op 53 rfl (fun K9 hK => ?_)
 go_simp
 refine (o_same (by decide) (by decide) (VS.out.below M.below) hw51).mono ?_
 rintro e V9_53 ⟨rfl, rr⟩
 have M' := M.up rr
 clear M rr 
 have M := M'; clear M'
 refine hK _ _ ⟨HC.out _ M.below, ?_⟩
 clear hK K9
 have hS0 : (fun (W : World) => W.cell? ⟨gb, go, none⟩ = some (.slice ra 3 rc)) _ := HC.out _ M.below
 refine wtk 54 (.bool true) rfl (fun _ _ _ h => h) (Or.inl ⟨by rfl, fun W3 hS => by go_simp⟩) hS0 ?_
 try simp only [Act.put, List.setIfInBounds_toArray, List.set_cons_zero, List.set_cons_succ]
 refine wtk 55 (.bool true) rfl (fun _ _ _ h => h) (Or.inl ⟨by rfl, fun W3 hS => by go_simp⟩) hS0 ?_
 try simp only [Act.put, List.setIfInBounds_toArray, List.set_cons_zero, List.set_cons_succ]
 clear hS0
 refine wdn ?_
 have HE := Lib.hid M.below
 clear M
 go_wp2_with fail
 go_ret
 exact ⟨rfl, then_below HL.out HE.out⟩
end Go.Proofs.YtgmbaamfobhceaaGreat
