/- VecsDots: its walk. VecsDots: all cases. -/
import Derived.Test.YtdjfooflhpkcbaaGreatDoorGVoK
set_option maxHeartbeats 16000000
set_option linter.unusedSimpArgs false
set_option linter.unusedVariables false
namespace Go.Proofs.YtdjfooflhpkcbaaGreatDoor
open Go Go.Proofs Go.RowKit Go.Shelf Nu
set_option linter.unusedVariables false
set_option linter.unusedSimpArgs false
set_option maxRecDepth 100000
attribute [local go_sem] Oper.semAt_some
theorem cell_al' {W : World} {a : Addr} {v : Value} (o : Obj) (h : W.cell? a = some v) : (W.alloc o).cell? a = some v := by
 rw [World.cell?_alloc_some _ _ _ (by rw [h]; rfl)]
 exact h
theorem dots_seg {w w0 w1 w2 w3 u3 w4 wb v : World} {B n1 n2 g1 d1 g2 d2 : Nat} {ps1 ps2 : List Fp} {P : Qr} {a3 a4 a5 a6 : Option Addr} {c3 c4 c5 c6 : Nat} (HS0 : w.heap.size ≤ w0.heap.size)
  (F1 : FR w1 w0.heap.size w1.heap.size (some ⟨g1, 0, none⟩) n1 d1 ps1) (F2 : FR w2 w1.heap.size w2.heap.size (some ⟨g2, 0, none⟩) n2 d2 ps2)
  (F3 : Fresh w3 w2.heap.size (.slice a3 P.2.1.length c3) P.2.1) (F4 : Fresh w3 w2.heap.size (.slice a4 P.2.2.length c4) P.2.2) (T3 : Two (.slice a3 P.2.1.length c3) (.slice a4 P.2.2.length c4))
  (F5 : Fresh w4 u3.heap.size (.slice a5 P.2.1.length c5) P.2.1) (F6 : Fresh w4 u3.heap.size (.slice a6 P.2.2.length c6) P.2.2) (T5 : Two (.slice a5 P.2.1.length c5) (.slice a6 P.2.2.length c6)) (BP : P.2.1.length ≤ 80000 ∧ P.2.2.length ≤ 80000)
  (S01 : w0.heap.size ≤ w1.heap.size) (S12 : w1.heap.size ≤ w2.heap.size) (S23 : w2.heap.size ≤ w3.heap.size) (S3 : w3.heap.size ≤ u3.heap.size) (S34 : u3.heap.size ≤ w4.heap.size) (S4 : w4.heap.size ≤ B) (h1 : n1 ≤ 30) (h2 : n2 ≤ 30)
  (L1 : Below w1.heap.size w1 wb) (L2 : Below w2.heap.size w2 wb) (L3 : Below w3.heap.size w3 wb) (L4 : Below w4.heap.size w4 wb) (q : Below B wb v) :
  Seg v w.heap.size B ((([] ++ tolds (fx ps1) (fy ps1) 0 n1) ++ tolds (fx ps2) (fy ps2) (0 + 2 * n1 + 1) n2) ++ [(.slice a3 P.2.1.length c3, 0 + 2 * n1 + 1 + 2 * n2 + 1 + 1), (.slice a4 P.2.2.length c4, 0 + 2 * n1 + 1 + 2 * n2 + 1 + 2)] ++ [(.slice a5 P.2.1.length c5, 0 + 2 * n1 + 1 + 2 * n2 + 1 + 2 + 1), (.slice a6 P.2.2.length c6, 0 + 2 * n1 + 1 + 2 * n2 + 1 + 2 + 2)])
   (([] ++ [(.slice (some ⟨g1, 0, none⟩) n1 d1, 0 + 2 * n1 + 1)]) ++ [(.slice (some ⟨g2, 0, none⟩) n2 d2, 0 + 2 * n1 + 1 + 2 * n2 + 1)]) := by
 have E1 : Below w1.heap.size w1 v := L1.trans (q.mono (by omega))
 have E2 : Below w2.heap.size w2 v := L2.trans (q.mono (by omega))
 have E3 : Below w3.heap.size w3 v := L3.trans (q.mono (by omega))
 have E4 : Below w4.heap.size w4 v := L4.trans (q.mono (by omega))
 have k1 := (F1.below E1).seg S01 (m := 0) (k := 0 + 2 * n1 + 1) (by omega) (by omega)
 have k2 := (F2.below E2).seg S12 (m := 0 + 2 * n1 + 1) (k := 0 + 2 * n1 + 1 + 2 * n2 + 1) (by omega) (by omega)
 have k3 := seg_own (s := P.1) F3 F4 T3 (by omega) (by omega) E3 S23 S3 (i := 0 + 2 * n1 + 1 + 2 * n2 + 1 + 1) (j := 0 + 2 * n1 + 1 + 2 * n2 + 1 + 2) (by omega) (by omega)
 have k4 := seg_own (s := P.1) F5 F6 T5 (by omega) (by omega) E4 S34 S4 (i := 0 + 2 * n1 + 1 + 2 * n2 + 1 + 2 + 1) (j := 0 + 2 * n1 + 1 + 2 * n2 + 1 + 2 + 2) (by omega) (by omega)
 have k := (((((Seg.nil HS0 : Seg v _ _ [] []).app k1).app k2).app k3).app k4)
 rw [List.append_nil, List.append_nil] at k
 exact k
theorem dots_walk {w : World} {a1 a2 : Option Addr} {n1 n2 c1 c2 : Nat} {q1 q2 : List Qr} {P : Qr} {E : Int} {R1 R2 : Bool} (hV1 : GOK w (a1, n1, c1, q1)) (hV2 : GOK w (a2, n2, c2, q2)) (hg : ([(a1, n1, c1, q1), (a2, n2, c2, q2)] : List GI).any gbig = false) (h30 : n1 ≤ 30) (h31 : n2 ≤ 30)
  (hb1 : ∀ q ∈ q1, q.2.1.length ≤ 100000 ∧ q.2.2.length ≤ 100000) (hb2 : ∀ q ∈ q2, q.2.1.length ≤ 100000 ∧ q.2.2.length ≤ 100000) (bP : P.2.1.length ≤ 80000 ∧ P.2.2.length ≤ 80000)
  (kD : ∀ (W : World) (a b : Option Addr) (c d : Nat), VReads W (.slice a n1 c) q1 → VReads W (.slice b n2 d) q2 → Calls Tryz.prog 9 #[.slice a n1 c, .slice b n2 d] W fun e w' => ∃ a c a' c', e = .returned (.tuple #[.agg #[.bool P.1, .slice a P.2.1.length c, .slice a' P.2.2.length c'], .int .i64 E]) ∧ Fresh w' W.heap.size (.slice a P.2.1.length c) P.2.1 ∧ Fresh w' W.heap.size (.slice a' P.2.2.length c') P.2.2 ∧ Two (.slice a P.2.1.length c) (.slice a' P.2.2.length c') ∧ Below W.heap.size W w') (jD : ∀ (W : World) (a b : Option Addr) (c d : Nat), VReads W (.slice a n1 c) q1 → VReads W (.slice b n2 d) q2 → Calls Tryz.prog 10 #[.slice a n1 c, .slice b n2 d] W fun e w' => ∃ a c a' c', e = .returned (.tuple #[.agg #[.bool P.1, .slice a P.2.1.length c, .slice a' P.2.2.length c'], .int .i64 E]) ∧ Reads w' (.slice a P.2.1.length c) P.2.1 ∧ Reads w' (.slice a' P.2.2.length c') P.2.2 ∧ Below W.heap.size W w') (kC : ∀ (W : World) (a : Option Addr) (c : Nat), VReads W (.slice a n1 c) q1 → Calls Tryz.prog 12 #[.slice a n1 c] W fun e w' => e = .returned (.bool R1) ∧ Below W.heap.size W w') (jC : ∀ (W : World) (a : Option Addr) (c : Nat), VReads W (.slice a n1 c) q1 → Calls Tryz.prog 13 #[.slice a n1 c] W fun e w' => e = .returned (.bool R1) ∧ Below W.heap.size W w') (kS : ∀ (W : World) (a b : Option Addr) (c d : Nat), VReads W (.slice a n1 c) q1 → VReads W (.slice b n2 d) q2 → Calls Tryz.prog 14 #[.slice a n1 c, .slice b n2 d] W fun e w' => e = .returned (.bool R2) ∧ Below W.heap.size W w') (jS : ∀ (W : World) (a b : Option Addr) (c d : Nat), VReads W (.slice a n1 c) q1 → VReads W (.slice b n2 d) q2 → Calls Tryz.prog 15 #[.slice a n1 c, .slice b n2 d] W fun e w' => e = .returned (.bool R2) ∧ Below W.heap.size W w') :
  Calls Tryz.prog 3 #[.slice a1 n1 c1, .slice a2 n2 c2] w fun e w' => e = .returned (.bool true) ∧ Below w.heap.size w w' := by
 have HN1 := Lib.hid (show n1 = q1.length from hV1.1.addr.1)
 have HN2 := Lib.hid (show n2 = q2.length from hV2.1.addr.1)
 have V1 := Lib.hid hV1
 have V2 := Lib.hid hV2
 have HG := Lib.hid hg
 have HB1 := Lib.hid hb1
 have HB2 := Lib.hid hb2
 have BP := Lib.hid bP
 have KD := Lib.hid kD
 have JD := Lib.hid jD
 have KC := Lib.hid kC
 have JC := Lib.hid jC
 have KS := Lib.hid kS
 have JS := Lib.hid jS
 have L := Lib.hid (Below.refl w.heap.size w)
 have rE : (E != E) = false := by simp
 have r1 : (R1 != R1) = false := by simp
 have r2 : (R2 != R2) = false := by simp
 clear hV1 hV2 hg hb1 hb2 bP kD jD kC jC kS jS
 go_enter Tryz.func3, Tryz.ntmps3
 go_wp2_with fail
 refine (v_great (W := w) [(a1, n1, c1, q1), (a2, n2, c2, q2)] rfl rfl (by simp) (gkc V1.out (gkc V2.out (gk0 _))) false HG.out.symm).mono ?_
 rintro e w0 ⟨rfl, rr⟩
 replace L := Lib.hid (then_below L.out rr)
 have HS0 := Lib.hid rr.size
 clear rr HG
 have L0 := Lib.hid (Below.refl w0.heap.size w0)
 go_wp2_with fail
 refine (twinR_fr HN1.out (V1.out.1.below L.out) (by omega) HB1.out).mono ?_
 rintro e w1 ⟨g1, d1, ps1, rfl, t1, f1, rr⟩
 replace L := Lib.hid (then_below L.out rr)
 replace L0 := Lib.hid (then_below L0.out rr)
 have T1 := Lib.hid t1
 have F1 := Lib.hid f1
 have S01 := Lib.hid rr.size
 clear t1 f1 rr
 have L1 := Lib.hid (Below.refl w1.heap.size w1)
 go_wp2_with fail
 refine (twinR_fr HN2.out (V2.out.1.below L.out) (by omega) HB2.out).mono ?_
 rintro e w2 ⟨g2, d2, ps2, rfl, t2, f2, rr⟩
 replace L := Lib.hid (then_below L.out rr)
 replace L0 := Lib.hid (then_below L0.out rr)
 replace L1 := Lib.hid (then_below L1.out rr)
 have T2 := Lib.hid t2
 have F2 := Lib.hid f2
 have S12 := Lib.hid rr.size
 clear t2 f2 rr
 have L2 := Lib.hid (Below.refl w2.heap.size w2)
 go_wp2_with fail
 refine (KD.out _ _ _ _ _ ((T1.out.vreads' HN1.out).below L1.out) ((T2.out.vreads' HN2.out).below L2.out)).mono ?_
 rintro e w3 ⟨a3, c3, a4, c4, rfl, f3, f4, tw3, rr⟩
 replace L := Lib.hid (then_below L.out rr)
 replace L0 := Lib.hid (then_below L0.out rr)
 replace L1 := Lib.hid (then_below L1.out rr)
 replace L2 := Lib.hid (then_below L2.out rr)
 have F3 := Lib.hid f3
 have F4 := Lib.hid f4
 have T3 := Lib.hid tw3
 have S23 := Lib.hid rr.size
 clear f3 f4 tw3 rr
 have L3 := Lib.hid (Below.refl w3.heap.size w3)
 go_wp2_with fail
 obtain ⟨u3, hu3⟩ : ∃ u, u = w3.alloc (.cells #[.bool P.1, .slice a3 P.2.1.length c3, .slice a4 P.2.2.length c4] 30) := ⟨_, rfl⟩
 have rr : Below w3.heap.size w3 u3 := by rw [hu3]; exact (Below.refl _ _).alloc (Nat.le_refl _) _
 replace L := Lib.hid (then_below L.out rr)
 replace L0 := Lib.hid (then_below L0.out rr)
 replace L1 := Lib.hid (then_below L1.out rr)
 replace L2 := Lib.hid (then_below L2.out rr)
 replace L3 := Lib.hid (then_below L3.out rr)
 have X3 := Lib.hid (show BoxN u3 w3.heap.size 30 #[.bool P.1, .slice a3 P.2.1.length c3, .slice a4 P.2.2.length c4] by rw [hu3]; exact BoxN.new _ _ _)
 have E3 := Lib.hid (show w3.heap.size + 1 = u3.heap.size by rw [hu3]; simp)
 rw [← hu3]
 clear hu3 rr
 have M3 := Lib.hid (Below.refl u3.heap.size u3)
 go_wp2_with fail
 refine (KD.out _ _ _ _ _ ((T1.out.vreads' HN1.out).below L1.out) ((T2.out.vreads' HN2.out).below L2.out)).mono ?_
 rintro e w4 ⟨a5, c5, a6, c6, rfl, f5, f6, tw5, rr⟩
 replace L := Lib.hid (then_below L.out rr)
 replace L0 := Lib.hid (then_below L0.out rr)
 replace L1 := Lib.hid (then_below L1.out rr)
 replace L2 := Lib.hid (then_below L2.out rr)
 replace L3 := Lib.hid (then_below L3.out rr)
 replace M3 := Lib.hid (then_below M3.out rr)
 have F5 := Lib.hid f5
 have F6 := Lib.hid f6
 have T5 := Lib.hid tw5
 have S34 := Lib.hid rr.size
 clear f5 f6 tw5 rr
 have L4 := Lib.hid (Below.refl w4.heap.size w4)
 go_wp2_with fail
 obtain ⟨u4, hu4⟩ : ∃ u, u = w4.alloc (.cells #[.bool P.1, .slice a5 P.2.1.length c5, .slice a6 P.2.2.length c6] 30) := ⟨_, rfl⟩
 have rr : Below w4.heap.size w4 u4 := by rw [hu4]; exact (Below.refl _ _).alloc (Nat.le_refl _) _
 replace L := Lib.hid (then_below L.out rr)
 replace L0 := Lib.hid (then_below L0.out rr)
 replace L1 := Lib.hid (then_below L1.out rr)
 replace L2 := Lib.hid (then_below L2.out rr)
 replace L3 := Lib.hid (then_below L3.out rr)
 replace M3 := Lib.hid (then_below M3.out rr)
 replace L4 := Lib.hid (then_below L4.out rr)
 have X4 := Lib.hid (show BoxN u4 w4.heap.size 30 #[.bool P.1, .slice a5 P.2.1.length c5, .slice a6 P.2.2.length c6] by rw [hu4]; exact BoxN.new _ _ _)
 have E4 := Lib.hid (show w4.heap.size + 1 = u4.heap.size by rw [hu4]; simp)
 rw [← hu4]
 clear hu4 rr
 have M4 := Lib.hid (Below.refl u4.heap.size u4)
 go_wp2_with fail
 refine (JD.out _ _ _ _ _ (V1.out.1.below L.out) (V2.out.1.below L.out)).mono ?_
 rintro e w5 ⟨a7, c7, a8, c8, rfl, f7, f8, rr⟩
 replace L := Lib.hid (then_below L.out rr)
 replace L0 := Lib.hid (then_below L0.out rr)
 replace L1 := Lib.hid (then_below L1.out rr)
 replace L2 := Lib.hid (then_below L2.out rr)
 replace L3 := Lib.hid (then_below L3.out rr)
 replace M3 := Lib.hid (then_below M3.out rr)
 replace L4 := Lib.hid (then_below L4.out rr)
 replace M4 := Lib.hid (then_below M4.out rr)
 have F7 := Lib.hid f7
 have F8 := Lib.hid f8
 have S45 := Lib.hid rr.size
 clear f7 f8 rr
 have L5 := Lib.hid (Below.refl w5.heap.size w5)
 have z30 := cell_al' (.cells #[.bool P.1, .slice a7 P.2.1.length c7, .slice a8 P.2.2.length c8] 30) ((X3.out.under M3.out).cell 0 _ rfl)
 have z31 := cell_al' (.cells #[.bool P.1, .slice a7 P.2.1.length c7, .slice a8 P.2.2.length c8] 30) ((X3.out.under M3.out).cell 1 _ rfl)
 have z32 := cell_al' (.cells #[.bool P.1, .slice a7 P.2.1.length c7, .slice a8 P.2.2.length c8] 30) ((X3.out.under M3.out).cell 2 _ rfl)
 have kl := (X3.out.under M3.out).lt
 go_wp2_with fail
 obtain ⟨u5, hu5⟩ : ∃ u, u = w5.alloc (.cells #[.bool P.1, .slice a7 P.2.1.length c7, .slice a8 P.2.2.length c8] 30) := ⟨_, rfl⟩
 have rr : Below w5.heap.size w5 u5 := by rw [hu5]; exact (Below.refl _ _).alloc (Nat.le_refl _) _
 replace L := Lib.hid (then_below L.out rr)
 replace L0 := Lib.hid (then_below L0.out rr)
 replace L1 := Lib.hid (then_below L1.out rr)
 replace L2 := Lib.hid (then_below L2.out rr)
 replace L3 := Lib.hid (then_below L3.out rr)
 replace M3 := Lib.hid (then_below M3.out rr)
 replace L4 := Lib.hid (then_below L4.out rr)
 replace M4 := Lib.hid (then_below M4.out rr)
 replace L5 := Lib.hid (then_below L5.out rr)
 have X5 := Lib.hid (show BoxN u5 w5.heap.size 30 #[.bool P.1, .slice a7 P.2.1.length c7, .slice a8 P.2.2.length c8] by rw [hu5]; exact BoxN.new _ _ _)
 have E5 := Lib.hid (show w5.heap.size + 1 = u5.heap.size by rw [hu5]; simp)
 rw [← hu5]
 clear hu5 rr
 have M5 := Lib.hid (Below.refl u5.heap.size u5)
 clear z30 z31 z32 kl
 refine (sameRat_same BP.out.1 BP.out.2 (F3.out.reads.below L3.out) (F4.out.reads.below L3.out) (F7.out.below L5.out) (F8.out.below L5.out)).mono ?_
 rintro e w6 ⟨rfl, rr⟩
 replace L := Lib.hid (then_below L.out rr)
 replace L0 := Lib.hid (then_below L0.out rr)
 replace L1 := Lib.hid (then_below L1.out rr)
 replace L2 := Lib.hid (then_below L2.out rr)
 replace L3 := Lib.hid (then_below L3.out rr)
 replace M3 := Lib.hid (then_below M3.out rr)
 replace L4 := Lib.hid (then_below L4.out rr)
 replace M4 := Lib.hid (then_below M4.out rr)
 replace L5 := Lib.hid (then_below L5.out rr)
 replace M5 := Lib.hid (then_below M5.out rr)
 clear rr
 have z40 := (X4.out.under M4.out).cell 0 _ rfl
 have z41 := (X4.out.under M4.out).cell 1 _ rfl
 have z42 := (X4.out.under M4.out).cell 2 _ rfl
 have z50 := (X5.out.under M5.out).cell 0 _ rfl
 have z51 := (X5.out.under M5.out).cell 1 _ rfl
 have z52 := (X5.out.under M5.out).cell 2 _ rfl
 go_wp2_with fail
 refine (sameRat_same BP.out.1 BP.out.2 (F5.out.reads.below L4.out) (F6.out.reads.below L4.out) (F7.out.below L5.out) (F8.out.below L5.out)).mono ?_
 rintro e w7 ⟨rfl, rr⟩
 replace L := Lib.hid (then_below L.out rr)
 replace L0 := Lib.hid (then_below L0.out rr)
 replace L1 := Lib.hid (then_below L1.out rr)
 replace L2 := Lib.hid (then_below L2.out rr)
 replace L3 := Lib.hid (then_below L3.out rr)
 replace M3 := Lib.hid (then_below M3.out rr)
 replace L4 := Lib.hid (then_below L4.out rr)
 replace M4 := Lib.hid (then_below M4.out rr)
 replace L5 := Lib.hid (then_below L5.out rr)
 replace M5 := Lib.hid (then_below M5.out rr)
 clear rr
 clear z40 z41 z42
 clear z50 z51 z52
 go_wp2_with fail
 refine (KC.out _ _ _ ((T1.out.vreads' HN1.out).below L1.out)).mono ?_
 rintro e w8 ⟨rfl, rr⟩
 replace L := Lib.hid (then_below L.out rr)
 replace L0 := Lib.hid (then_below L0.out rr)
 replace L1 := Lib.hid (then_below L1.out rr)
 replace L2 := Lib.hid (then_below L2.out rr)
 replace L3 := Lib.hid (then_below L3.out rr)
 replace M3 := Lib.hid (then_below M3.out rr)
 replace L4 := Lib.hid (then_below L4.out rr)
 replace M4 := Lib.hid (then_below M4.out rr)
 replace L5 := Lib.hid (then_below L5.out rr)
 replace M5 := Lib.hid (then_below M5.out rr)
 clear rr
 go_wp2_with fail
 refine (JC.out _ _ _ (V1.out.1.below L.out)).mono ?_
 rintro e w9 ⟨rfl, rr⟩
 replace L := Lib.hid (then_below L.out rr)
 replace L0 := Lib.hid (then_below L0.out rr)
 replace L1 := Lib.hid (then_below L1.out rr)
 replace L2 := Lib.hid (then_below L2.out rr)
 replace L3 := Lib.hid (then_below L3.out rr)
 replace M3 := Lib.hid (then_below M3.out rr)
 replace L4 := Lib.hid (then_below L4.out rr)
 replace M4 := Lib.hid (then_below M4.out rr)
 replace L5 := Lib.hid (then_below L5.out rr)
 replace M5 := Lib.hid (then_below M5.out rr)
 clear rr
 go_wp2_with fail
 refine (KS.out _ _ _ _ _ ((T1.out.vreads' HN1.out).below L1.out) ((T2.out.vreads' HN2.out).below L2.out)).mono ?_
 rintro e w10 ⟨rfl, rr⟩
 replace L := Lib.hid (then_below L.out rr)
 replace L0 := Lib.hid (then_below L0.out rr)
 replace L1 := Lib.hid (then_below L1.out rr)
 replace L2 := Lib.hid (then_below L2.out rr)
 replace L3 := Lib.hid (then_below L3.out rr)
 replace M3 := Lib.hid (then_below M3.out rr)
 replace L4 := Lib.hid (then_below L4.out rr)
 replace M4 := Lib.hid (then_below M4.out rr)
 replace L5 := Lib.hid (then_below L5.out rr)
 replace M5 := Lib.hid (then_below M5.out rr)
 clear rr
 go_wp2_with fail
 refine (JS.out _ _ _ _ _ (V1.out.1.below L.out) (V2.out.1.below L.out)).mono ?_
 rintro e w11 ⟨rfl, rr⟩
 replace L := Lib.hid (then_below L.out rr)
 replace L0 := Lib.hid (then_below L0.out rr)
 replace L1 := Lib.hid (then_below L1.out rr)
 replace L2 := Lib.hid (then_below L2.out rr)
 replace L3 := Lib.hid (then_below L3.out rr)
 replace M3 := Lib.hid (then_below M3.out rr)
 replace L4 := Lib.hid (then_below L4.out rr)
 replace M4 := Lib.hid (then_below M4.out rr)
 replace L5 := Lib.hid (then_below L5.out rr)
 replace M5 := Lib.hid (then_below M5.out rr)
 clear rr
 go_wp2_with fail
 refine (leftR_n HN1.out (T1.out.below L1.out) (V1.out.1.below L.out) (by omega) HB1.out).mono ?_
 rintro e w12 ⟨rfl, rr⟩
 replace L := Lib.hid (then_below L.out rr)
 replace L0 := Lib.hid (then_below L0.out rr)
 replace L1 := Lib.hid (then_below L1.out rr)
 replace L2 := Lib.hid (then_below L2.out rr)
 replace L3 := Lib.hid (then_below L3.out rr)
 replace M3 := Lib.hid (then_below M3.out rr)
 replace L4 := Lib.hid (then_below L4.out rr)
 replace M4 := Lib.hid (then_below M4.out rr)
 replace L5 := Lib.hid (then_below L5.out rr)
 replace M5 := Lib.hid (then_below M5.out rr)
 clear rr
 go_wp2_with fail
 refine (leftR_n HN2.out (T2.out.below L2.out) (V2.out.1.below L.out) (by omega) HB2.out).mono ?_
 rintro e w13 ⟨rfl, rr⟩
 replace L := Lib.hid (then_below L.out rr)
 replace L0 := Lib.hid (then_below L0.out rr)
 replace L1 := Lib.hid (then_below L1.out rr)
 replace L2 := Lib.hid (then_below L2.out rr)
 replace L3 := Lib.hid (then_below L3.out rr)
 replace M3 := Lib.hid (then_below M3.out rr)
 replace L4 := Lib.hid (then_below L4.out rr)
 replace M4 := Lib.hid (then_below M4.out rr)
 replace L5 := Lib.hid (then_below L5.out rr)
 replace M5 := Lib.hid (then_below M5.out rr)
 clear rr KD JD KC JC KS JS
 have hsz := Lib.hid M5.out.size
 go_wp2_with fail
 obtain ⟨wb, hwb⟩ : ∃ u, u = w13.alloc (.cells #[.int .i64 0, .slice none 0 0, .slice none 0 0, .slice none 0 0, .slice none 0 0, .slice none 0 0, .slice none 0 0, .slice none 0 0, .slice none 0 0, .slice none 0 0, .slice none 0 0, .slice none 0 0, .slice none 0 0] 50) := ⟨_, rfl⟩
 have rr : Below w13.heap.size w13 wb := by rw [hwb]; exact (Below.refl _ _).alloc (Nat.le_refl _) _
 replace L := Lib.hid (then_below L.out rr)
 replace L0 := Lib.hid (then_below L0.out rr)
 replace L1 := Lib.hid (then_below L1.out rr)
 replace L2 := Lib.hid (then_below L2.out rr)
 replace L3 := Lib.hid (then_below L3.out rr)
 replace M3 := Lib.hid (then_below M3.out rr)
 replace L4 := Lib.hid (then_below L4.out rr)
 replace M4 := Lib.hid (then_below M4.out rr)
 replace L5 := Lib.hid (then_below L5.out rr)
 replace M5 := Lib.hid (then_below M5.out rr)
 obtain ⟨B, hB⟩ : ∃ B, B = w13.heap.size := ⟨_, rfl⟩
 have h0 := Lib.hid (show BT wb B 0 (.slice none 0 0) (.slice none 0 0) [] [] by rw [hwb, hB]; exact BT.new _)
 have hBs := Lib.hid (show B ≤ wb.heap.size by rw [hwb, hB]; simp)
 have hsB := Lib.hid (show u5.heap.size ≤ B by rw [hB]; exact hsz.out)
 have q0 := Lib.hid (Below.refl B wb)
 rw [← hB, ← hwb]
 clear hB hwb rr
 have SZ := Lib.hid (show w.heap.size ≤ w0.heap.size ∧ w0.heap.size ≤ w1.heap.size ∧ w1.heap.size ≤ w2.heap.size ∧ w2.heap.size ≤ w3.heap.size ∧ w3.heap.size < u3.heap.size ∧ u3.heap.size ≤ w4.heap.size ∧ w4.heap.size < u4.heap.size ∧ u4.heap.size ≤ u5.heap.size ∧ u5.heap.size ≤ B from ⟨HS0.out, S01.out, S12.out, S23.out, by have := E3.out; omega, S34.out, by have := E4.out; omega, by have := E5.out; have := S45.out; omega, hsB.out⟩)
 obtain ⟨z1, z2, z3, z4, z5, z6, z7, z8, z9⟩ := SZ.out
 go_wp2_with fail
 refine (bt_fr h0.out (F1.out.below L1.out) q0.out (by omega) (by omega) (by simp; omega) (by simp)).mono ?_
 rintro e v1 ⟨rfl, x1, y1, b1, rr⟩
 replace q0 := Lib.hid (q0.out.trans rr)
 have h1 := Lib.hid b1
 clear b1 rr h0
 go_wp2_with fail
 refine (bt_fr h1.out (F2.out.below L2.out) q0.out (by omega) (by omega) (by simp [tolds_len]; omega) (by simp)).mono ?_
 rintro e v2 ⟨rfl, x2, y2, b2, rr⟩
 replace q0 := Lib.hid (q0.out.trans rr)
 have h2 := Lib.hid b2
 clear b2 rr h1
 have z30 := (q0.out.cell (p := ⟨w3.heap.size, 0, none⟩) (show w3.heap.size < B by omega)).trans ((X3.out.under M3.out).cell 0 _ rfl)
 have z31 := (q0.out.cell (p := ⟨w3.heap.size, 1, none⟩) (show w3.heap.size < B by omega)).trans ((X3.out.under M3.out).cell 1 _ rfl)
 have z32 := (q0.out.cell (p := ⟨w3.heap.size, 2, none⟩) (show w3.heap.size < B by omega)).trans ((X3.out.under M3.out).cell 2 _ rfl)
 go_wp2_with fail
 refine (bt_rat' h2.out (by omega) (by simp [tolds_len]; omega)).mono ?_
 rintro e v3 ⟨rfl, x3, b3, rr⟩
 replace q0 := Lib.hid (q0.out.trans rr)
 have h3 := Lib.hid b3
 clear b3 rr h2
 clear z30 z31 z32
 have z40 := (q0.out.cell (p := ⟨w4.heap.size, 0, none⟩) (show w4.heap.size < B by omega)).trans ((X4.out.under M4.out).cell 0 _ rfl)
 have z41 := (q0.out.cell (p := ⟨w4.heap.size, 1, none⟩) (show w4.heap.size < B by omega)).trans ((X4.out.under M4.out).cell 1 _ rfl)
 have z42 := (q0.out.cell (p := ⟨w4.heap.size, 2, none⟩) (show w4.heap.size < B by omega)).trans ((X4.out.under M4.out).cell 2 _ rfl)
 go_wp2_with fail
 refine (bt_rat' h3.out (by omega) (by simp [tolds_len]; omega)).mono ?_
 rintro e v4 ⟨rfl, x4, b4, rr⟩
 replace q0 := Lib.hid (q0.out.trans rr)
 have h4 := Lib.hid b4
 clear b4 rr h3
 clear z40 z41 z42
 go_wp2_with fail
 have SG := Lib.hid (dots_seg (P := P) HS0.out F1.out F2.out F3.out F4.out T3.out F5.out F6.out T5.out BP.out S01.out S12.out S23.out (show w3.heap.size ≤ u3.heap.size by omega) S34.out (show w4.heap.size ≤ B by omega) h30 h31 (L1.out) (L2.out) (L3.out) (L4.out) q0.out)
 have HWB := Lib.hid (L.out.trans (q0.out.mono (by omega)))
 refine (SG.out.apart (w := w) (base := w.heap.size) h4.out (Nat.le_refl _) (by simp) (by simp) (by simp [tolds_len]; omega) (by simp) HWB.out).mono ?_
 rintro e w' ⟨rfl, rb⟩
 have RB := Lib.hid rb
 clear rb
 go_wp2_with fail
 go_ret
 exact ⟨rfl, RB.out⟩
theorem row_of {n : Nat} {qs : List Qr} (hn : n = qs.length) (hb : ∀ q ∈ qs, Big q) (hg : ssz n qs ≤ 300) (hk : qs.all qok = true) : ∃ xs : List Rat, qs = xs.map qr ∧ xs.length = n ∧ wts xs ≤ 300 := by
 have hf := fit_of_small hb hg
 refine ⟨qs.map qval, fits_eq hf hk, by simp [hn], ?_⟩
 have h1 := wts_psum (qs.map qval)
 rw [← fits_eq hf hk] at h1
 have := ssz_small hg
 omega
theorem qrows_of {n : Nat} {qs : List Qr} (hn : n = qs.length) (h30 : n ≤ 30) (hb : ∀ q ∈ qs, Big q) (hg : ssz n qs ≤ 300) : qrows qs := ⟨fit_of_small hb hg, by omega⟩
theorem dots_great {w : World} {a1 a2 : Option Addr} {n1 n2 c1 c2 : Nat} {q1 q2 : List Qr} (hV1 : GOK w (a1, n1, c1, q1)) (hV2 : GOK w (a2, n2, c2, q2)) (hg : ([(a1, n1, c1, q1), (a2, n2, c2, q2)] : List GI).any gbig = true) :
  Calls Tryz.prog 3 #[.slice a1 n1 c1, .slice a2 n2 c2] w fun e w' => e = .returned (.bool true) ∧ Below w.heap.size w w' := by
 have V1 := Lib.hid hV1
 have V2 := Lib.hid hV2
 have HG := Lib.hid hg
 clear hV1 hV2 hg
 go_enter Tryz.func3, Tryz.ntmps3
 go_wp2_with fail
 refine (v_great (W := w) [(a1, n1, c1, q1), (a2, n2, c2, q2)] rfl rfl (by simp) (gkc V1.out (gkc V2.out (gk0 _))) true HG.out.symm).mono ?_
 rintro e w0 ⟨rfl, rr⟩
 have L := Lib.hid rr
 clear rr
 go_wp2_with fail
 go_ret
 exact ⟨rfl, L.out⟩
theorem wt_dot (xs ys : List Rat) : wt (dot xs ys) ≤ wts xs + wts ys + 1 := Nat.le_trans (wt_rsum _) (by have := wts_zmul xs ys; omega)
theorem not_big {a : Option Addr} {n c : Nat} {q : List Qr} (h : gbig (a, n, c, q) = false) : n ≤ 30 ∧ ssz n q ≤ 300 := by
 unfold gbig at h
 simp only [Bool.or_eq_false_iff, decide_eq_false_iff_not] at h
 omega
theorem near_len {n : Nat} {qs : List Qr} (hb : ∀ q ∈ qs, Big q) (hg : ssz n qs ≤ 300) : ∀ q ∈ qs, q.2.1.length ≤ 100000 ∧ q.2.2.length ≤ 100000 := fun q hq => by
 have := ssz_small hg
 have := psum_mem hq
 omega
theorem dots_all {w : World} {a1 a2 : Option Addr} {n1 n2 c1 c2 : Nat} {q1 q2 : List Qr} (h1 : GOK w (a1, n1, c1, q1)) (h2 : GOK w (a2, n2, c2, q2)) :
  Calls Tryz.prog 3 #[.slice a1 n1 c1, .slice a2 n2 c2] w fun e w' => e = .returned (.bool true) ∧ Below w.heap.size w w' := by
 cases hg : ([(a1, n1, c1, q1), (a2, n2, c2, q2)] : List GI).any gbig with
 | true => exact dots_great h1 h2 hg
 | false =>
  have hg2 := hg
  simp only [List.any_cons, List.any_nil, Bool.or_false, Bool.or_eq_false_iff] at hg2
  obtain ⟨s1, s2⟩ := not_big hg2.1
  obtain ⟨s3, s4⟩ := not_big hg2.2
  have hn1 : n1 = q1.length := h1.1.addr.1
  have hn2 : n2 = q2.length := h2.1.addr.1
  have f1 := qrows_of hn1 s1 h1.2 s2
  have f2 := qrows_of hn2 s3 h2.2 s4
  have e1 := near_len h1.2 s2
  have e2 := near_len h2.2 s4
  cases hk : (decide (n1 = n2) && (q1.all qok && q2.all qok)) with
  | false =>
   refine dots_walk (P := (false, [], [])) (E := 1) (R1 := q1.all qok) (R2 := false) h1 h2 hg s1 s3 e1 e2 (by simp) (fun W a b c d v1 v2 => ?_) (fun W a b c d v1 v2 => ?_) (fun W a c v => v_check _ rfl v f1) (fun W a c v => rv_check _ rfl v f1) (fun W a b c d v1 v2 => v_same_no hk v1 v2 f1 f2) (fun W a b c d v1 v2 => rv_same_no hk v1 v2 f1 f2)
   · refine (v_dot_no hk v1 v2 f1 f2).mono ?_
     rintro e w' ⟨rfl, r⟩
     exact ⟨none, 0, none, 0, rfl, Fresh.nil _ _, Fresh.nil _ _, .inl rfl, r⟩
   · refine (rv_dot_no hk v1 v2 f1 f2).mono ?_
     rintro e w' ⟨rfl, r⟩
     exact ⟨none, 0, none, 0, rfl, Reads.nil _, Reads.nil _, r⟩
  | true =>
   simp only [Bool.and_eq_true, decide_eq_true_eq] at hk
   obtain ⟨rfl, k1, k2⟩ := hk
   obtain ⟨xs, rfl, lx, wx⟩ := row_of hn1 h1.2 s2 k1
   obtain ⟨ys, rfl, ly, wy⟩ := row_of hn2 h2.2 s4 k2
   have hd := wt_dot xs ys
   have fd := fit_qr (X := dot xs ys) (by omega)
   exact dots_walk (P := qr (dot xs ys)) (E := 0) (R1 := (xs.map qr).all qok) (R2 := decide (xs = ys)) h1 h2 hg s1 s3 e1 e2 ⟨by have := fd.2.1; omega, by have := fd.2.2; omega⟩ (fun W a b c d v1 v2 => v_dot_own v1 v2 (by omega)) (fun W a b c d v1 v2 => rv_dot v1 v2 (by omega)) (fun W a c v => v_check _ rfl v f1) (fun W a c v => rv_check _ rfl v f1) (fun W a b c d v1 v2 => v_same _ rfl v1 v2 (by omega) (by omega)) (fun W a b c d v1 v2 => rv_same _ rfl v1 v2 (fun x hx => Nat.le_trans (wt_mem hx) (by omega)) (fun x hx => Nat.le_trans (wt_mem hx) (by omega)) (by omega))
end Go.Proofs.YtdjfooflhpkcbaaGreatDoor
