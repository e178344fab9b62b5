/- VecsAdds: its walk. VecsAdds: all cases. -/
import Derived.Test.YtdjfooflhpkcbaaGreatDoorGVoK
set_option maxHeartbeats 16000000
set_option linter.unusedSimpArgs false
set_option linter.unusedVariables false
namespace Go.Proofs.YtdjfooflhpkcbaaGreatDoor
open Go Go.Proofs Go.RowKit Go.Shelf Nu
set_option linter.unusedVariables false
set_option linter.unusedSimpArgs false
set_option maxRecDepth 100000
attribute [local go_sem] Oper.semAt_some
theorem k_great {W : World} {b : Nat} (hb : W.heap.size = b) (zs : List GI) {vs : Array Value} (hv : vs = (zs.map gival).toArray) {m : Nat} (hm : m = zs.length) (hl : zs.length ≤ 10) (hz : ∀ t ∈ zs, GOK W t) (R : Bool) (hR : R = zs.any gbig) :
  Calls Tryz.prog 7 #[.slice (some ⟨b, 0, none⟩) m m] (W.alloc (.cells vs 22)) fun e w' => e = .returned (.bool R) ∧ Below W.heap.size W w' := by
 subst hb; exact v_great zs hv hm hl hz R hR
theorem k_one {W : World} {q : Qr} {a b : Option Addr} {c d m : Nat} (hm : W.heap.size = m) (g1 : Reads W (.slice a q.2.1.length c) q.2.1) (g2 : Reads W (.slice b q.2.2.length d) q.2.2) (u : Big q) : GOK (W.alloc (.cells #[.bool q.1, .slice a q.2.1.length c, .slice b q.2.2.length d] 30)) (some ⟨m, 0, none⟩, 1, 1, [q]) := by
 subst hm
 have hB : BoxN (W.alloc (.cells #[.bool q.1, .slice a q.2.1.length c, .slice b q.2.2.length d] 30)) W.heap.size 30 #[.bool q.1, .slice a q.2.1.length c, .slice b q.2.2.length d] := BoxN.new W _ _
 have al : Below W.heap.size W (W.alloc (.cells #[.bool q.1, .slice a q.2.1.length c, .slice b q.2.2.length d] 30)) := (Below.refl _ _).alloc (Nat.le_refl _) _
 refine ⟨.inr (.inl ⟨W.heap.size, 0, 1, rfl, hB.lt, Nat.le_refl _, fun j x hx => ?_⟩), fun x hx => ?_⟩
 · match j with
   | 0 =>
    obtain rfl : q = x := by simpa using hx
    exact ⟨a, c, b, d, hB.cell 0 _ rfl, hB.cell 1 _ rfl, hB.cell 2 _ rfl, g1.below al, g2.below al⟩
   | j + 1 => simp at hx
 · obtain rfl : x = q := by simpa using hx
   exact u
theorem adds_seg {w w0 w1 w2 w3 u3 w4 w5 wb v : World} {B n1 n2 m4 m5 g1 d1 g2 d2 : Nat} {ps1 ps2 ps4 ps5 : List Fp} {t : Qr} {g3 d3 g4 d4 : Nat} {b4 b5 : Nat} {a4 a5 : Option Addr} {c4 c5 : Nat} (HS0 : w.heap.size ≤ w0.heap.size)
  (F1 : FR w1 w0.heap.size w1.heap.size (some ⟨g1, 0, none⟩) n1 d1 ps1) (F2 : FR w2 w1.heap.size w2.heap.size (some ⟨g2, 0, none⟩) n2 d2 ps2)
  (F3 : Fresh w3 w2.heap.size (.slice (some ⟨g3, 0, none⟩) t.2.1.length d3) t.2.1) (F3' : Fresh w3 w2.heap.size (.slice (some ⟨g4, 0, none⟩) t.2.2.length d4) t.2.2) (T3 : Two (.slice (some ⟨g3, 0, none⟩) t.2.1.length d3) (.slice (some ⟨g4, 0, none⟩) t.2.2.length d4))
  (F4 : FR w4 b4 w4.heap.size a4 m4 c4 ps4) (F5 : FR w5 b5 w5.heap.size a5 m5 c5 ps5) (hb4 : u3.heap.size ≤ b4) (hb5 : w4.heap.size ≤ b5) (BP : t.2.1.length ≤ 80000 ∧ t.2.2.length ≤ 80000)
  (S01 : w0.heap.size ≤ w1.heap.size) (S12 : w1.heap.size ≤ w2.heap.size) (S23 : w2.heap.size ≤ w3.heap.size) (S3 : w3.heap.size ≤ u3.heap.size) (S34 : u3.heap.size ≤ w4.heap.size) (S45 : w4.heap.size ≤ w5.heap.size) (S5 : w5.heap.size ≤ B) (h1 : n1 ≤ 30) (h2 : n2 ≤ 30) (h4 : m4 ≤ 30) (h5 : m5 ≤ 30)
  (L1 : Below w1.heap.size w1 wb) (L2 : Below w2.heap.size w2 wb) (L3 : Below w3.heap.size w3 wb) (L4 : Below w4.heap.size w4 wb) (L5 : Below w5.heap.size w5 wb) (q : Below B wb v) :
  Seg v w.heap.size B (((([] ++ tolds (fx ps1) (fy ps1) 0 n1) ++ tolds (fx ps2) (fy ps2) (0 + 2 * n1 + 1) n2) ++ [(.slice (some ⟨g3, 0, none⟩) t.2.1.length d3, 0 + 2 * n1 + 1 + 2 * n2 + 1 + 1), (.slice (some ⟨g4, 0, none⟩) t.2.2.length d4, 0 + 2 * n1 + 1 + 2 * n2 + 1 + 2)] ++ tolds (fx ps4) (fy ps4) (0 + 2 * n1 + 1 + 2 * n2 + 1 + 2) m4) ++ tolds (fx ps5) (fy ps5) (0 + 2 * n1 + 1 + 2 * n2 + 1 + 2 + 2 * m4 + 1) m5)
   ((([] ++ [(.slice (some ⟨g1, 0, none⟩) n1 d1, 0 + 2 * n1 + 1)]) ++ [(.slice (some ⟨g2, 0, none⟩) n2 d2, 0 + 2 * n1 + 1 + 2 * n2 + 1)] ++ [(.slice a4 m4 c4, 0 + 2 * n1 + 1 + 2 * n2 + 1 + 2 + 2 * m4 + 1)]) ++ [(.slice a5 m5 c5, 0 + 2 * n1 + 1 + 2 * n2 + 1 + 2 + 2 * m4 + 1 + 2 * m5 + 1)]) := by
 have E1 : Below w1.heap.size w1 v := L1.trans (q.mono (by omega))
 have E2 : Below w2.heap.size w2 v := L2.trans (q.mono (by omega))
 have E3 : Below w3.heap.size w3 v := L3.trans (q.mono (by omega))
 have E4 : Below w4.heap.size w4 v := L4.trans (q.mono (by omega))
 have E5 : Below w5.heap.size w5 v := L5.trans (q.mono (by omega))
 have k1 := (F1.below E1).seg S01 (m := 0) (k := 0 + 2 * n1 + 1) (by omega) (by omega)
 have k2 := (F2.below E2).seg S12 (m := 0 + 2 * n1 + 1) (k := 0 + 2 * n1 + 1 + 2 * n2 + 1) (by omega) (by omega)
 have k3 := seg_own (s := t.1) F3 F3' T3 (by omega) (by omega) E3 S23 S3 (i := 0 + 2 * n1 + 1 + 2 * n2 + 1 + 1) (j := 0 + 2 * n1 + 1 + 2 * n2 + 1 + 2) (by omega) (by omega)
 have k4 := ((F4.below E4).wide hb4 (Nat.le_refl _)).seg S34 (m := 0 + 2 * n1 + 1 + 2 * n2 + 1 + 2) (k := 0 + 2 * n1 + 1 + 2 * n2 + 1 + 2 + 2 * m4 + 1) (by omega) (by omega)
 have k5 := ((F5.below E5).wide hb5 S5).seg (Nat.le_trans S45 S5) (m := 0 + 2 * n1 + 1 + 2 * n2 + 1 + 2 + 2 * m4 + 1) (k := 0 + 2 * n1 + 1 + 2 * n2 + 1 + 2 + 2 * m4 + 1 + 2 * m5 + 1) (by omega) (by omega)
 have k := ((((((Seg.nil HS0 : Seg v _ _ [] []).app k1).app k2).app k3).app k4).app k5)
 rw [List.append_nil] at k
 exact k
theorem adds_walk {w : World} {a1 a2 : Option Addr} {n1 n2 m c1 c2 : Nat} {q1 q2 : List Qr} {t : Qr} {pa pb : Option Addr} {pc pd : Nat} {P1 P2 : List Qr} {E : Int} (hV1 : GOK w (a1, n1, c1, q1)) (hV2 : GOK w (a2, n2, c2, q2)) (g1 : Reads w (.slice pa t.2.1.length pc) t.2.1) (g2 : Reads w (.slice pb t.2.2.length pd) t.2.2) (gt : Big t)
  (hg : ([(a1, n1, c1, q1), (a2, n2, c2, q2), (some ⟨w.heap.size + 1, 0, none⟩, 1, 1, [t])] : List GI).any gbig = false) (h30 : n1 ≤ 30) (h31 : n2 ≤ 30) (h32 : m ≤ 30)
  (hb1 : ∀ q ∈ q1, q.2.1.length ≤ 100000 ∧ q.2.2.length ≤ 100000) (hb2 : ∀ q ∈ q2, q.2.1.length ≤ 100000 ∧ q.2.2.length ≤ 100000) (bt : t.2.1.length ≤ 80000 ∧ t.2.2.length ≤ 80000) (bS : ∀ q ∈ P1, q.2.1.length ≤ 80000 ∧ q.2.2.length ≤ 80000) (bA : ∀ q ∈ P2, q.2.1.length ≤ 80000 ∧ q.2.2.length ≤ 80000)
  (kS : ∀ (W : World) (a p o : Option Addr) (c d e : Nat), VReads W (.slice a n1 c) q1 → Reads W (.slice p t.2.1.length d) t.2.1 → Reads W (.slice o t.2.2.length e) t.2.2 → Calls Tryz.prog 21 #[.slice a n1 c, .agg #[.bool t.1, .slice p t.2.1.length d, .slice o t.2.2.length e]] W fun e w' => ∃ a c ps, e = .returned (.slice a n1 c) ∧ FR w' (W.heap.size + 1) w'.heap.size a n1 c ps ∧ VReads w' (.slice a n1 c) P1 ∧ Below W.heap.size W w') (jS : ∀ (W : World) (a p o : Option Addr) (c d e : Nat), VReads W (.slice a n1 c) q1 → Reads W (.slice p t.2.1.length d) t.2.1 → Reads W (.slice o t.2.2.length e) t.2.2 → Calls Tryz.prog 25 #[.slice a n1 c, .agg #[.bool t.1, .slice p t.2.1.length d, .slice o t.2.2.length e]] W fun e w' => ∃ a c, e = .returned (.slice a n1 c) ∧ VReads w' (.slice a n1 c) P1 ∧ Below W.heap.size W w') (kA : ∀ (W : World) (a b p o : Option Addr) (c c' d e : Nat), VReads W (.slice a n1 c) q1 → VReads W (.slice b n2 c') q2 → Reads W (.slice p t.2.1.length d) t.2.1 → Reads W (.slice o t.2.2.length e) t.2.2 → Calls Tryz.prog 22 #[.slice a n1 c, .slice b n2 c', .agg #[.bool t.1, .slice p t.2.1.length d, .slice o t.2.2.length e]] W fun e w' => ∃ a c ps, e = .returned (.tuple #[(.slice a m c), .int .i64 E]) ∧ FR w' (W.heap.size) w'.heap.size a m c ps ∧ VReads w' (.slice a m c) P2 ∧ Below W.heap.size W w') (jA : ∀ (W : World) (a b p o : Option Addr) (c c' d e : Nat), VReads W (.slice a n1 c) q1 → VReads W (.slice b n2 c') q2 → Reads W (.slice p t.2.1.length d) t.2.1 → Reads W (.slice o t.2.2.length e) t.2.2 → Calls Tryz.prog 23 #[.slice a n1 c, .slice b n2 c', .agg #[.bool t.1, .slice p t.2.1.length d, .slice o t.2.2.length e]] W fun e w' => ∃ a c, e = .returned (.tuple #[(.slice a m c), .int .i64 E]) ∧ VReads w' (.slice a m c) P2 ∧ Below W.heap.size W w') :
  Calls Tryz.prog 4 #[.slice a1 n1 c1, .slice a2 n2 c2, .agg #[.bool t.1, .slice pa t.2.1.length pc, .slice pb t.2.2.length pd]] w fun e w' => e = .returned (.bool true) ∧ Below w.heap.size w w' := by
 have HN1 := Lib.hid (show n1 = q1.length from hV1.1.addr.1)
 have HN2 := Lib.hid (show n2 = q2.length from hV2.1.addr.1)
 have V1 := Lib.hid hV1
 have V2 := Lib.hid hV2
 have G1 := Lib.hid g1
 have G2 := Lib.hid g2
 have GT := Lib.hid gt
 have HG := Lib.hid hg
 have HB1 := Lib.hid hb1
 have HB2 := Lib.hid hb2
 have BT8 := Lib.hid bt
 have HBT := Lib.hid (show t.2.1.length ≤ 100000 ∧ t.2.2.length ≤ 100000 by omega)
 have BS := Lib.hid bS
 have BA := Lib.hid bA
 have KS := Lib.hid kS
 have JS := Lib.hid jS
 have KA := Lib.hid kA
 have JA := Lib.hid jA
 have L := Lib.hid (Below.refl w.heap.size w)
 have rE : (E != E) = false := by simp
 clear hV1 hV2 g1 g2 gt hg hb1 hb2 bt bS bA kS jS kA jA
 go_enter Tryz.func4, Tryz.ntmps4
 have XB := Lib.hid (BoxN.new w 30 #[.bool t.1, .slice pa t.2.1.length pc, .slice pb t.2.2.length pd])
 have al : Below w.heap.size w (w.alloc (.cells #[.bool t.1, .slice pa t.2.1.length pc, .slice pb t.2.2.length pd] 30)) := (Below.refl _ _).alloc (Nat.le_refl _) _
 have al2 : Below (w.alloc (.cells #[.bool t.1, .slice pa t.2.1.length pc, .slice pb t.2.2.length pd] 30)).heap.size (w.alloc (.cells #[.bool t.1, .slice pa t.2.1.length pc, .slice pb t.2.2.length pd] 30)) ((w.alloc (.cells #[.bool t.1, .slice pa t.2.1.length pc, .slice pb t.2.2.length pd] 30)).alloc (.cells #[.bool t.1, .slice pa t.2.1.length pc, .slice pb t.2.2.length pd] 30)) := (Below.refl _ _).alloc (Nat.le_refl _) _
 have VO := Lib.hid (k_one (W := w.alloc (.cells #[.bool t.1, .slice pa t.2.1.length pc, .slice pb t.2.2.length pd] 30)) (m := w.heap.size + 1) (by simp) (G1.out.below al) (G2.out.below al) GT.out)
 replace L := Lib.hid (then_below al al2)
 have LX := Lib.hid al2
 clear al al2
 go_wp2_with fail
 refine (k_great (W := (w.alloc (.cells #[.bool t.1, .slice pa t.2.1.length pc, .slice pb t.2.2.length pd] 30)).alloc (.cells #[.bool t.1, .slice pa t.2.1.length pc, .slice pb t.2.2.length pd] 30)) (b := w.heap.size + 1 + 1) (by simp) [(a1, n1, c1, q1), (a2, n2, c2, q2), (some ⟨w.heap.size + 1, 0, none⟩, 1, 1, [t])] rfl rfl (by simp) (gkc ⟨V1.out.1.below L.out, V1.out.2⟩ (gkc ⟨V2.out.1.below L.out, V2.out.2⟩ (gkc VO.out (gk0 _)))) false HG.out.symm).mono ?_
 rintro e w0 ⟨rfl, rr⟩
 replace L := Lib.hid (then_below L.out rr)
 replace LX := Lib.hid (then_below LX.out rr)
 have HS0 := Lib.hid L.out.size
 clear rr HG VO
 have L0 := Lib.hid (Below.refl w0.heap.size w0)
 go_wp2_with fail
 refine (twinR_fr HN1.out (V1.out.1.below L.out) (by omega) HB1.out).mono ?_
 rintro e w1 ⟨g1, d1, ps1, rfl, t1, f1, rr⟩
 replace L := Lib.hid (then_below L.out rr)
 replace LX := Lib.hid (then_below LX.out rr)
 replace L0 := Lib.hid (then_below L0.out rr)
 have T1 := Lib.hid t1
 have F1 := Lib.hid f1
 have S01 := Lib.hid rr.size
 clear t1 f1 rr
 have L1 := Lib.hid (Below.refl w1.heap.size w1)
 go_wp2_with fail
 refine (twinR_fr HN2.out (V2.out.1.below L.out) (by omega) HB2.out).mono ?_
 rintro e w2 ⟨g2, d2, ps2, rfl, t2, f2, rr⟩
 replace L := Lib.hid (then_below L.out rr)
 replace LX := Lib.hid (then_below LX.out rr)
 replace L0 := Lib.hid (then_below L0.out rr)
 replace L1 := Lib.hid (then_below L1.out rr)
 have T2 := Lib.hid t2
 have F2 := Lib.hid f2
 have S12 := Lib.hid rr.size
 clear t2 f2 rr
 have L2 := Lib.hid (Below.refl w2.heap.size w2)
 have p0 := (XB.out.under LX.out).cell 0 _ rfl
 have p1 := (XB.out.under LX.out).cell 1 _ rfl
 have p2 := (XB.out.under LX.out).cell 2 _ rfl
 go_wp2_with fail
 refine (rtwin_own (n := t.1) HBT.out.1 HBT.out.2 (G1.out.below L.out) (G2.out.below L.out)).mono ?_
 rintro e w3 ⟨g3, d3, g4, d4, rfl, t3, t4, rr, tw3⟩
 replace L := Lib.hid (then_below L.out rr)
 replace LX := Lib.hid (then_below LX.out rr)
 replace L0 := Lib.hid (then_below L0.out rr)
 replace L1 := Lib.hid (then_below L1.out rr)
 replace L2 := Lib.hid (then_below L2.out rr)
 have T3 := Lib.hid t3
 have T4 := Lib.hid t4
 have TW := Lib.hid tw3
 have S23 := Lib.hid rr.size
 clear t3 t4 tw3 rr
 clear p0 p1 p2
 have L3 := Lib.hid (Below.refl w3.heap.size w3)
 go_wp2_with fail
 obtain ⟨u3, hu3⟩ : ∃ u, u = w3.alloc (.cells #[.bool t.1, .slice (some ⟨g3, 0, none⟩) t.2.1.length d3, .slice (some ⟨g4, 0, none⟩) t.2.2.length d4] 30) := ⟨_, rfl⟩
 have rr : Below w3.heap.size w3 u3 := by rw [hu3]; exact (Below.refl _ _).alloc (Nat.le_refl _) _
 replace L := Lib.hid (then_below L.out rr)
 replace LX := Lib.hid (then_below LX.out rr)
 replace L0 := Lib.hid (then_below L0.out rr)
 replace L1 := Lib.hid (then_below L1.out rr)
 replace L2 := Lib.hid (then_below L2.out rr)
 replace L3 := Lib.hid (then_below L3.out rr)
 have X3 := Lib.hid (show BoxN u3 w3.heap.size 30 #[.bool t.1, .slice (some ⟨g3, 0, none⟩) t.2.1.length d3, .slice (some ⟨g4, 0, none⟩) t.2.2.length d4] by rw [hu3]; exact BoxN.new _ _ _)
 have E3 := Lib.hid (show w3.heap.size + 1 = u3.heap.size by rw [hu3]; simp)
 rw [← hu3]
 clear hu3 rr
 have M3 := Lib.hid (Below.refl u3.heap.size u3)
 refine (KS.out _ _ _ _ _ _ _ ((T1.out.vreads' HN1.out).below L1.out) (T3.out.fresh.reads.below L3.out) (T4.out.fresh.reads.below L3.out)).mono ?_
 rintro e w4 ⟨a4, c4, zs4, rfl, f4, v4, rr⟩
 replace L := Lib.hid (then_below L.out rr)
 replace LX := Lib.hid (then_below LX.out rr)
 replace L0 := Lib.hid (then_below L0.out rr)
 replace L1 := Lib.hid (then_below L1.out rr)
 replace L2 := Lib.hid (then_below L2.out rr)
 replace L3 := Lib.hid (then_below L3.out rr)
 replace M3 := Lib.hid (then_below M3.out rr)
 have F4 := Lib.hid f4
 have R4 := Lib.hid v4
 have S34 := Lib.hid rr.size
 clear f4 v4 rr
 have L4 := Lib.hid (Below.refl w4.heap.size w4)
 have z0 := (X3.out.under M3.out).cell 0 _ rfl
 have z1 := (X3.out.under M3.out).cell 1 _ rfl
 have z2 := (X3.out.under M3.out).cell 2 _ rfl
 go_wp2_with fail
 refine (KA.out _ _ _ _ _ _ _ _ _ ((T1.out.vreads' HN1.out).below L1.out) ((T2.out.vreads' HN2.out).below L2.out) (T3.out.fresh.reads.below L3.out) (T4.out.fresh.reads.below L3.out)).mono ?_
 rintro e w5 ⟨a5, c5, zs5, rfl, f5, v5, rr⟩
 replace L := Lib.hid (then_below L.out rr)
 replace LX := Lib.hid (then_below LX.out rr)
 replace L0 := Lib.hid (then_below L0.out rr)
 replace L1 := Lib.hid (then_below L1.out rr)
 replace L2 := Lib.hid (then_below L2.out rr)
 replace L3 := Lib.hid (then_below L3.out rr)
 replace M3 := Lib.hid (then_below M3.out rr)
 replace L4 := Lib.hid (then_below L4.out rr)
 have F5 := Lib.hid f5
 have R5 := Lib.hid v5
 have S45 := Lib.hid rr.size
 clear f5 v5 rr
 clear z0 z1 z2
 have L5 := Lib.hid (Below.refl w5.heap.size w5)
 have p0 := (XB.out.under LX.out).cell 0 _ rfl
 have p1 := (XB.out.under LX.out).cell 1 _ rfl
 have p2 := (XB.out.under LX.out).cell 2 _ rfl
 go_wp2_with fail
 refine (JA.out _ _ _ _ _ _ _ _ _ (V1.out.1.below L.out) (V2.out.1.below L.out) (G1.out.below L.out) (G2.out.below L.out)).mono ?_
 rintro e w6 ⟨a6, c6, rfl, v6, rr⟩
 replace L := Lib.hid (then_below L.out rr)
 replace LX := Lib.hid (then_below LX.out rr)
 replace L0 := Lib.hid (then_below L0.out rr)
 replace L1 := Lib.hid (then_below L1.out rr)
 replace L2 := Lib.hid (then_below L2.out rr)
 replace L3 := Lib.hid (then_below L3.out rr)
 replace M3 := Lib.hid (then_below M3.out rr)
 replace L4 := Lib.hid (then_below L4.out rr)
 replace L5 := Lib.hid (then_below L5.out rr)
 have R6 := Lib.hid v6
 clear v6 rr
 clear p0 p1 p2
 have L6 := Lib.hid (Below.refl w6.heap.size w6)
 have p0 := (XB.out.under LX.out).cell 0 _ rfl
 have p1 := (XB.out.under LX.out).cell 1 _ rfl
 have p2 := (XB.out.under LX.out).cell 2 _ rfl
 go_wp2_with fail
 refine (JS.out _ _ _ _ _ _ _ (V1.out.1.below L.out) (G1.out.below L.out) (G2.out.below L.out)).mono ?_
 rintro e w7 ⟨a7, c7, rfl, v7, rr⟩
 replace L := Lib.hid (then_below L.out rr)
 replace LX := Lib.hid (then_below LX.out rr)
 replace L0 := Lib.hid (then_below L0.out rr)
 replace L1 := Lib.hid (then_below L1.out rr)
 replace L2 := Lib.hid (then_below L2.out rr)
 replace L3 := Lib.hid (then_below L3.out rr)
 replace M3 := Lib.hid (then_below M3.out rr)
 replace L4 := Lib.hid (then_below L4.out rr)
 replace L5 := Lib.hid (then_below L5.out rr)
 replace L6 := Lib.hid (then_below L6.out rr)
 have R7 := Lib.hid v7
 clear v7 rr
 clear p0 p1 p2
 have L7 := Lib.hid (Below.refl w7.heap.size w7)
 go_wp2_with fail
 refine (sr_rows (R4.out.below L4.out) (R7.out.below L7.out) (by omega) BS.out).mono ?_
 rintro e w8 ⟨rfl, rr⟩
 replace L := Lib.hid (then_below L.out rr)
 replace LX := Lib.hid (then_below LX.out rr)
 replace L0 := Lib.hid (then_below L0.out rr)
 replace L1 := Lib.hid (then_below L1.out rr)
 replace L2 := Lib.hid (then_below L2.out rr)
 replace L3 := Lib.hid (then_below L3.out rr)
 replace M3 := Lib.hid (then_below M3.out rr)
 replace L4 := Lib.hid (then_below L4.out rr)
 replace L5 := Lib.hid (then_below L5.out rr)
 replace L6 := Lib.hid (then_below L6.out rr)
 replace L7 := Lib.hid (then_below L7.out rr)
 clear rr
 go_wp2_with fail
 refine (sr_rows (R5.out.below L5.out) (R6.out.below L6.out) (by omega) BA.out).mono ?_
 rintro e w9 ⟨rfl, rr⟩
 replace L := Lib.hid (then_below L.out rr)
 replace LX := Lib.hid (then_below LX.out rr)
 replace L0 := Lib.hid (then_below L0.out rr)
 replace L1 := Lib.hid (then_below L1.out rr)
 replace L2 := Lib.hid (then_below L2.out rr)
 replace L3 := Lib.hid (then_below L3.out rr)
 replace M3 := Lib.hid (then_below M3.out rr)
 replace L4 := Lib.hid (then_below L4.out rr)
 replace L5 := Lib.hid (then_below L5.out rr)
 replace L6 := Lib.hid (then_below L6.out rr)
 replace L7 := Lib.hid (then_below L7.out rr)
 clear rr
 go_wp2_with fail
 refine (leftR_n HN1.out (T1.out.below L1.out) (V1.out.1.below L.out) (by omega) HB1.out).mono ?_
 rintro e w10 ⟨rfl, rr⟩
 replace L := Lib.hid (then_below L.out rr)
 replace LX := Lib.hid (then_below LX.out rr)
 replace L0 := Lib.hid (then_below L0.out rr)
 replace L1 := Lib.hid (then_below L1.out rr)
 replace L2 := Lib.hid (then_below L2.out rr)
 replace L3 := Lib.hid (then_below L3.out rr)
 replace M3 := Lib.hid (then_below M3.out rr)
 replace L4 := Lib.hid (then_below L4.out rr)
 replace L5 := Lib.hid (then_below L5.out rr)
 replace L6 := Lib.hid (then_below L6.out rr)
 replace L7 := Lib.hid (then_below L7.out rr)
 clear rr
 have p0 := (XB.out.under LX.out).cell 0 _ rfl
 have p1 := (XB.out.under LX.out).cell 1 _ rfl
 have p2 := (XB.out.under LX.out).cell 2 _ rfl
 have z0 := (X3.out.under M3.out).cell 0 _ rfl
 have z1 := (X3.out.under M3.out).cell 1 _ rfl
 have z2 := (X3.out.under M3.out).cell 2 _ rfl
 go_wp2_with fail
 refine (leftR_n HN2.out (T2.out.below L2.out) (V2.out.1.below L.out) (by omega) HB2.out).mono ?_
 rintro e w11 ⟨rfl, rr⟩
 replace L := Lib.hid (then_below L.out rr)
 replace LX := Lib.hid (then_below LX.out rr)
 replace L0 := Lib.hid (then_below L0.out rr)
 replace L1 := Lib.hid (then_below L1.out rr)
 replace L2 := Lib.hid (then_below L2.out rr)
 replace L3 := Lib.hid (then_below L3.out rr)
 replace M3 := Lib.hid (then_below M3.out rr)
 replace L4 := Lib.hid (then_below L4.out rr)
 replace L5 := Lib.hid (then_below L5.out rr)
 replace L6 := Lib.hid (then_below L6.out rr)
 replace L7 := Lib.hid (then_below L7.out rr)
 clear rr
 clear p0 p1 p2
 clear z0 z1 z2
 have p0 := (XB.out.under LX.out).cell 0 _ rfl
 have p1 := (XB.out.under LX.out).cell 1 _ rfl
 have p2 := (XB.out.under LX.out).cell 2 _ rfl
 have z0 := (X3.out.under M3.out).cell 0 _ rfl
 have z1 := (X3.out.under M3.out).cell 1 _ rfl
 have z2 := (X3.out.under M3.out).cell 2 _ rfl
 go_wp2_with fail
 refine (rleft_any (n := t.1) HBT.out.1 HBT.out.2 (T3.out.below L3.out) (T4.out.below L3.out) (G1.out.below L.out) (G2.out.below L.out)).mono ?_
 rintro e w12 ⟨rfl, rr⟩
 replace L := Lib.hid (then_below L.out rr)
 replace LX := Lib.hid (then_below LX.out rr)
 replace L0 := Lib.hid (then_below L0.out rr)
 replace L1 := Lib.hid (then_below L1.out rr)
 replace L2 := Lib.hid (then_below L2.out rr)
 replace L3 := Lib.hid (then_below L3.out rr)
 replace M3 := Lib.hid (then_below M3.out rr)
 replace L4 := Lib.hid (then_below L4.out rr)
 replace L5 := Lib.hid (then_below L5.out rr)
 replace L6 := Lib.hid (then_below L6.out rr)
 replace L7 := Lib.hid (then_below L7.out rr)
 clear rr KS KA JS JA
 clear p0 p1 p2
 clear z0 z1 z2
 have hsz := Lib.hid (show w5.heap.size ≤ w12.heap.size from L5.out.size)
 go_wp2_with fail
 obtain ⟨wb, hwb⟩ : ∃ u, u = w12.alloc (.cells #[.int .i64 0, .slice none 0 0, .slice none 0 0, .slice none 0 0, .slice none 0 0, .slice none 0 0, .slice none 0 0, .slice none 0 0, .slice none 0 0, .slice none 0 0, .slice none 0 0, .slice none 0 0, .slice none 0 0] 50) := ⟨_, rfl⟩
 have rr : Below w12.heap.size w12 wb := by rw [hwb]; exact (Below.refl _ _).alloc (Nat.le_refl _) _
 replace L := Lib.hid (then_below L.out rr)
 replace LX := Lib.hid (then_below LX.out rr)
 replace L0 := Lib.hid (then_below L0.out rr)
 replace L1 := Lib.hid (then_below L1.out rr)
 replace L2 := Lib.hid (then_below L2.out rr)
 replace L3 := Lib.hid (then_below L3.out rr)
 replace M3 := Lib.hid (then_below M3.out rr)
 replace L4 := Lib.hid (then_below L4.out rr)
 replace L5 := Lib.hid (then_below L5.out rr)
 replace L6 := Lib.hid (then_below L6.out rr)
 replace L7 := Lib.hid (then_below L7.out rr)
 obtain ⟨B, hB⟩ : ∃ B, B = w12.heap.size := ⟨_, rfl⟩
 have h0 := Lib.hid (show BT wb B 0 (.slice none 0 0) (.slice none 0 0) [] [] by rw [hwb, hB]; exact BT.new _)
 have hsB := Lib.hid (show w5.heap.size ≤ B by rw [hB]; exact hsz.out)
 have q0 := Lib.hid (Below.refl B wb)
 rw [← hB, ← hwb]
 clear hB hwb rr
 have SZ := Lib.hid (show w.heap.size ≤ w0.heap.size ∧ w0.heap.size ≤ w1.heap.size ∧ w1.heap.size ≤ w2.heap.size ∧ w2.heap.size ≤ w3.heap.size ∧ w3.heap.size < u3.heap.size ∧ u3.heap.size ≤ w4.heap.size ∧ w4.heap.size ≤ w5.heap.size ∧ w5.heap.size ≤ B from ⟨HS0.out, S01.out, S12.out, S23.out, by have := E3.out; omega, S34.out, S45.out, hsB.out⟩)
 obtain ⟨y1, y2, y3, y4, y5, y6, y7, y8⟩ := SZ.out
 refine (bt_fr h0.out (F1.out.below L1.out) q0.out (by omega) (by omega) (by simp; omega) (by simp)).mono ?_
 rintro e v1 ⟨rfl, x1, x1', b1, rr⟩
 replace q0 := Lib.hid (q0.out.trans rr)
 have h1 := Lib.hid b1
 clear b1 rr h0
 go_wp2_with fail
 refine (bt_fr h1.out (F2.out.below L2.out) q0.out (by omega) (by omega) (by simp [tolds_len]; omega) (by simp)).mono ?_
 rintro e v2 ⟨rfl, x2, x2', b2, rr⟩
 replace q0 := Lib.hid (q0.out.trans rr)
 have h2 := Lib.hid b2
 clear b2 rr h1
 have z0 := (q0.out.cell (p := ⟨w3.heap.size, 0, none⟩) (show w3.heap.size < B by omega)).trans ((X3.out.under M3.out).cell 0 _ rfl)
 have z1 := (q0.out.cell (p := ⟨w3.heap.size, 1, none⟩) (show w3.heap.size < B by omega)).trans ((X3.out.under M3.out).cell 1 _ rfl)
 have z2 := (q0.out.cell (p := ⟨w3.heap.size, 2, none⟩) (show w3.heap.size < B by omega)).trans ((X3.out.under M3.out).cell 2 _ rfl)
 go_wp2_with fail
 refine (bt_rat' h2.out (by omega) (by simp [tolds_len]; omega)).mono ?_
 rintro e v3 ⟨rfl, x3, b3, rr⟩
 replace q0 := Lib.hid (q0.out.trans rr)
 have h3 := Lib.hid b3
 clear b3 rr h2
 clear z0 z1 z2
 go_wp2_with fail
 refine (bt_fr h3.out (F4.out.below L4.out) q0.out (by omega) (by omega) (by simp [tolds_len]; omega) (by simp)).mono ?_
 rintro e v4 ⟨rfl, x4, x4', b4, rr⟩
 replace q0 := Lib.hid (q0.out.trans rr)
 have h4 := Lib.hid b4
 clear b4 rr h3
 go_wp2_with fail
 refine (bt_fr h4.out (F5.out.below L5.out) q0.out (by omega) (by omega) (by simp [tolds_len]; omega) (by simp)).mono ?_
 rintro e v5 ⟨rfl, x5, x5', b5, rr⟩
 replace q0 := Lib.hid (q0.out.trans rr)
 have h5 := Lib.hid b5
 clear b5 rr h4
 go_wp2_with fail
 have SG := Lib.hid (adds_seg (t := t) HS0.out F1.out F2.out T3.out.fresh T4.out.fresh TW.out F4.out F5.out (Nat.le_succ _) (Nat.le_refl _) BT8.out S01.out S12.out S23.out (show w3.heap.size ≤ u3.heap.size by omega) S34.out S45.out (show w5.heap.size ≤ B by omega) h30 h31 h30 h32 (L1.out) (L2.out) (L3.out) (L4.out) (L5.out) q0.out)
 have HWB := Lib.hid (L.out.trans (q0.out.mono (by omega)))
 refine (SG.out.apart (w := w) (base := w.heap.size) h5.out (Nat.le_refl _) (by simp) (by simp) (by simp [tolds_len]; omega) (by simp) HWB.out).mono ?_
 rintro e w' ⟨rfl, rb⟩
 have RB := Lib.hid rb
 clear rb
 go_wp2_with fail
 go_ret
 exact ⟨rfl, RB.out⟩
theorem row_of {n : Nat} {qs : List Qr} (hn : n = qs.length) (hb : ∀ q ∈ qs, Big q) (hg : ssz n qs ≤ 300) (hk : qs.all qok = true) : ∃ xs : List Rat, qs = xs.map qr ∧ xs.length = n ∧ wts xs ≤ 300 := by
 have hf := fit_of_small hb hg
 refine ⟨qs.map qval, fits_eq hf hk, by simp [hn], ?_⟩
 have h1 := wts_psum (qs.map qval)
 rw [← fits_eq hf hk] at h1
 have := ssz_small hg
 omega
theorem qrows_of {n : Nat} {qs : List Qr} (hn : n = qs.length) (h30 : n ≤ 30) (hb : ∀ q ∈ qs, Big q) (hg : ssz n qs ≤ 300) : qrows qs := ⟨fit_of_small hb hg, by omega⟩
theorem not_big {a : Option Addr} {n c : Nat} {q : List Qr} (h : gbig (a, n, c, q) = false) : n ≤ 30 ∧ ssz n q ≤ 300 := by
 unfold gbig at h
 simp only [Bool.or_eq_false_iff, decide_eq_false_iff_not] at h
 omega
theorem near_len {n : Nat} {qs : List Qr} (hb : ∀ q ∈ qs, Big q) (hg : ssz n qs ≤ 300) : ∀ q ∈ qs, q.2.1.length ≤ 100000 ∧ q.2.2.length ≤ 100000 := fun q hq => by
 have := ssz_small hg
 have := psum_mem hq
 omega
theorem FR.none {W : World} {base top : Nat} : FR W base top none 0 0 [] := ⟨rfl, World.ownsRow_nil _ _ _ _, fun g e => (by cases e), fun p h => (by cases h), fun x h => (by cases h), List.Pairwise.nil⟩
theorem wt_qval {q : Qr} (h : Fit q) : wt (qval q) ≤ q.2.1.length + q.2.2.length + 2 := by
 cases hk : qok q with
 | true =>
  have e := h.eq hk
  have h1 := wt_rl (qval q)
  have h2 := rl_qr (qval q)
  rw [← e] at h2
  omega
 | false =>
  have e : qval q = 0 := by
   have hk' : rchk q.1 q.2.1 q.2.2 = false := hk
   unfold qval rv
   rw [if_neg (by rw [hk']; simp)]
  rw [e]
  have h1 := wt_rl 0
  have h2 : rl 0 ≤ 1 := by decide +kernel
  omega
theorem near_scl {qs : List Qr} {t : Qr} (hq : qrows qs) (ht : Fit t) (h1 : ∀ q ∈ qs, q.2.1.length + q.2.2.length ≤ 300) (h2 : t.2.1.length + t.2.2.length ≤ 300) : ∀ x ∈ scl (qval t) (qs.map qval), wt x ≤ 9000 := by
 intro x hx
 unfold scl at hx
 simp only [List.map_map, List.mem_map, Function.comp] at hx
 obtain ⟨q, hm, rfl⟩ := hx
 have := wt_mul (qval q) (qval t)
 have := wt_qval (hq.1 q hm)
 have := wt_qval ht
 have := h1 q hm
 omega
theorem near_qr {xs : List Rat} (h : ∀ x ∈ xs, wt x ≤ 9000) : ∀ q ∈ xs.map qr, q.2.1.length ≤ 80000 ∧ q.2.2.length ≤ 80000 := by
 intro q hq
 obtain ⟨x, hx, rfl⟩ := List.mem_map.1 hq
 have := fit_qr (X := x) (by have := h x hx; omega)
 have h1 := this.2.1
 have h2 := this.2.2
 omega
theorem near_axpy {xs ys : List Rat} {T : Rat} (h1 : wts xs ≤ 300) (h2 : wts ys ≤ 300) (h3 : wt T ≤ 600) : ∀ x ∈ axpy T xs ys, wt x ≤ 9000 := by
 intro x hx
 unfold axpy at hx
 obtain ⟨i, hi, rfl⟩ := List.getElem_of_mem hx
 rw [List.getElem_zipWith]
 rw [List.length_zipWith] at hi
 have k1 := wt_mem (l := xs) (x := xs[i]'(by omega)) (List.getElem_mem _)
 have k2 := wt_mem (l := ys) (x := ys[i]'(by omega)) (List.getElem_mem _)
 have k3 := wt_add (xs[i]'(by omega)) ((ys[i]'(by omega)) * T)
 have k4 := wt_mul (ys[i]'(by omega)) T
 omega
theorem adds_great {w : World} {a1 a2 : Option Addr} {n1 n2 c1 c2 : Nat} {q1 q2 : List Qr} {t : Qr} {pa pb : Option Addr} {pc pd : Nat} (hV1 : GOK w (a1, n1, c1, q1)) (hV2 : GOK w (a2, n2, c2, q2)) (g1 : Reads w (.slice pa t.2.1.length pc) t.2.1) (g2 : Reads w (.slice pb t.2.2.length pd) t.2.2) (gt : Big t)
  (hg : ([(a1, n1, c1, q1), (a2, n2, c2, q2), (some ⟨w.heap.size + 1, 0, none⟩, 1, 1, [t])] : List GI).any gbig = true) :
  Calls Tryz.prog 4 #[.slice a1 n1 c1, .slice a2 n2 c2, .agg #[.bool t.1, .slice pa t.2.1.length pc, .slice pb t.2.2.length pd]] w fun e w' => e = .returned (.bool true) ∧ Below w.heap.size w w' := by
 have V1 := Lib.hid hV1
 have V2 := Lib.hid hV2
 have HG := Lib.hid hg
 have al : Below w.heap.size w (w.alloc (.cells #[.bool t.1, .slice pa t.2.1.length pc, .slice pb t.2.2.length pd] 30)) := (Below.refl _ _).alloc (Nat.le_refl _) _
 have al2 : Below (w.alloc (.cells #[.bool t.1, .slice pa t.2.1.length pc, .slice pb t.2.2.length pd] 30)).heap.size (w.alloc (.cells #[.bool t.1, .slice pa t.2.1.length pc, .slice pb t.2.2.length pd] 30)) ((w.alloc (.cells #[.bool t.1, .slice pa t.2.1.length pc, .slice pb t.2.2.length pd] 30)).alloc (.cells #[.bool t.1, .slice pa t.2.1.length pc, .slice pb t.2.2.length pd] 30)) := (Below.refl _ _).alloc (Nat.le_refl _) _
 have VO := Lib.hid (k_one (W := w.alloc (.cells #[.bool t.1, .slice pa t.2.1.length pc, .slice pb t.2.2.length pd] 30)) (m := w.heap.size + 1) (by simp) (g1.below al) (g2.below al) gt)
 have L := Lib.hid (then_below al al2)
 clear al al2 hV1 hV2 hg g1 g2 gt
 go_enter Tryz.func4, Tryz.ntmps4
 go_wp2_with fail
 refine (k_great (W := (w.alloc (.cells #[.bool t.1, .slice pa t.2.1.length pc, .slice pb t.2.2.length pd] 30)).alloc (.cells #[.bool t.1, .slice pa t.2.1.length pc, .slice pb t.2.2.length pd] 30)) (b := w.heap.size + 1 + 1) (by simp) [(a1, n1, c1, q1), (a2, n2, c2, q2), (some ⟨w.heap.size + 1, 0, none⟩, 1, 1, [t])] rfl rfl (by simp) (gkc ⟨V1.out.1.below L.out, V1.out.2⟩ (gkc ⟨V2.out.1.below L.out, V2.out.2⟩ (gkc VO.out (gk0 _)))) true HG.out.symm).mono ?_
 rintro e w0 ⟨rfl, rr⟩
 replace L := Lib.hid (then_below L.out rr)
 clear rr
 go_wp2_with fail
 go_ret
 exact ⟨rfl, L.out⟩
theorem adds_all {w : World} {a1 a2 : Option Addr} {n1 n2 c1 c2 : Nat} {q1 q2 : List Qr} {t : Qr} {pa pb : Option Addr} {pc pd : Nat} (h1 : GOK w (a1, n1, c1, q1)) (h2 : GOK w (a2, n2, c2, q2)) (g1 : Reads w (.slice pa t.2.1.length pc) t.2.1) (g2 : Reads w (.slice pb t.2.2.length pd) t.2.2) (gt : Big t) :
  Calls Tryz.prog 4 #[.slice a1 n1 c1, .slice a2 n2 c2, .agg #[.bool t.1, .slice pa t.2.1.length pc, .slice pb t.2.2.length pd]] w fun e w' => e = .returned (.bool true) ∧ Below w.heap.size w w' := by
 cases hg : ([(a1, n1, c1, q1), (a2, n2, c2, q2), (some ⟨w.heap.size + 1, 0, none⟩, 1, 1, [t])] : List GI).any gbig with
 | true => exact adds_great h1 h2 g1 g2 gt hg
 | false =>
  have hg2 := hg
  simp only [List.any_cons, List.any_nil, Bool.or_false, Bool.or_eq_false_iff] at hg2
  obtain ⟨s1, s2⟩ := not_big hg2.1
  obtain ⟨s3, s4⟩ := not_big hg2.2.1
  obtain ⟨-, s6⟩ := not_big hg2.2.2
  have hn1 : n1 = q1.length := h1.1.addr.1
  have hn2 : n2 = q2.length := h2.1.addr.1
  have f1 := qrows_of hn1 s1 h1.2 s2
  have f2 := qrows_of hn2 s3 h2.2 s4
  have e1 := near_len h1.2 s2
  have e2 := near_len h2.2 s4
  have hb3 : ∀ q ∈ [t], Big q := fun q hq => by obtain rfl := List.mem_singleton.1 hq; exact gt
  have ft : Fit t := fit_of_small hb3 s6 t (List.mem_singleton.2 rfl)
  have lt : t.2.1.length + t.2.2.length ≤ 300 := by
   have := ssz_small s6
   have := psum_mem (List.mem_singleton.2 (rfl : t = t))
   omega
  have l1 : ∀ q ∈ q1, q.2.1.length + q.2.2.length ≤ 300 := fun q hq => by
   have := ssz_small s2
   have := psum_mem hq
   omega
  have hS := near_qr (near_scl f1 ft l1 lt)
  have zl : ((scl (qval t) (q1.map qval)).map qr).length = n1 := by simp [scl, hn1]
  have KS := fun (W : World) (a p o : Option Addr) (c d e : Nat) (v : VReads W (.slice a n1 c) q1) (r1 : Reads W (.slice p t.2.1.length d) t.2.1) (r2 : Reads W (.slice o t.2.2.length e) t.2.2) =>
   (show Calls Tryz.prog 21 #[.slice a n1 c, .agg #[.bool t.1, .slice p t.2.1.length d, .slice o t.2.2.length e]] W fun e w' => ∃ a c ps, e = .returned (.slice a n1 c) ∧ FR w' (W.heap.size + 1) w'.heap.size a n1 c ps ∧ VReads w' (.slice a n1 c) ((scl (qval t) (q1.map qval)).map qr) ∧ Below W.heap.size W w' from by
     refine (v_scale_ow2 v f1 ft.is (by have := ft.2.1; omega) (by have := ft.2.2; omega) r1 r2).mono ?_
     rintro e w' ⟨v, zs, rfl, hv, hm, r⟩
     obtain ⟨a, c, rfl⟩ := hv.form
     have hl : zs.length = n1 := by rw [← zl, ← hm, List.length_map]
     rw [hl] at hv ⊢
     exact ⟨a, c, _, rfl, hv.fr hm zl.symm (fun q hq => by have := hS q hq; omega), by rw [← hm]; have := hv.1.fresh.reads; exact this, r⟩)
  have JS := fun (W : World) (a p o : Option Addr) (c d e : Nat) (v : VReads W (.slice a n1 c) q1) (r1 : Reads W (.slice p t.2.1.length d) t.2.1) (r2 : Reads W (.slice o t.2.2.length e) t.2.2) =>
   (show Calls Tryz.prog 25 #[.slice a n1 c, .agg #[.bool t.1, .slice p t.2.1.length d, .slice o t.2.2.length e]] W fun e w' => ∃ a c, e = .returned (.slice a n1 c) ∧ VReads w' (.slice a n1 c) ((scl (qval t) (q1.map qval)).map qr) ∧ Below W.heap.size W w' from by
     refine (rv_scale v f1 ft.is (by have := ft.2.1; omega) (by have := ft.2.2; omega) r1 r2).mono ?_
     rintro e w' ⟨v, rfl, hv, r⟩
     obtain ⟨a, c, ev⟩ := hv.form
     rw [zl] at ev
     subst ev
     exact ⟨a, c, rfl, hv.reads, r⟩)
  have bt : t.2.1.length ≤ 80000 ∧ t.2.2.length ≤ 80000 := by omega
  cases hk : (decide (n1 = n2) && (q1.all qok && q2.all qok)) with
  | false =>
   refine adds_walk (m := 0) (P1 := (scl (qval t) (q1.map qval)).map qr) (P2 := []) (E := 1) h1 h2 g1 g2 gt hg s1 s3 (by omega) e1 e2 bt hS (by simp) KS JS (fun W a b p o c c' d e v1 v2 r1 r2 => ?_) (fun W a b p o c c' d e v1 v2 r1 r2 => ?_)
   · refine (v_add_no hk v1 v2 f1 f2).mono ?_
     rintro e w' ⟨rfl, r⟩
     exact ⟨none, 0, [], rfl, FR.none, VReads.nil _, r⟩
   · refine (rv_add_no hk v1 v2 f1 f2).mono ?_
     rintro e w' ⟨rfl, r⟩
     exact ⟨none, 0, rfl, VReads.nil _, r⟩
  | true =>
   simp only [Bool.and_eq_true, decide_eq_true_eq] at hk
   obtain ⟨rfl, k1, k2⟩ := hk
   obtain ⟨xs, rfl, lx, wx⟩ := row_of hn1 h1.2 s2 k1
   obtain ⟨ys, rfl, ly, wy⟩ := row_of hn2 h2.2 s4 k2
   cases hT : qok t with
   | false =>
     have hT' : rchk t.1 t.2.1 t.2.2 = false := hT
     refine adds_walk (m := 0) (P1 := (scl (qval t) ((xs.map qr).map qval)).map qr) (P2 := []) (E := 1) h1 h2 g1 g2 gt hg s1 s3 (by omega) e1 e2 bt hS (by simp) KS JS (fun W a b p o c c' d e v1 v2 r1 r2 => ?_) (fun W a b p o c c' d e v1 v2 r1 r2 => ?_)
     · refine (v_add_bad v1 v2 r1 r2 ft hT' (by omega)).mono ?_
       rintro e w' ⟨rfl, r⟩
       exact ⟨none, 0, [], rfl, FR.none, VReads.nil _, r⟩
     · refine (rv_add_bad v1 v2 r1 r2 ft hT' (fun x hx => Nat.le_trans (wt_mem hx) (by omega)) (fun x hx => Nat.le_trans (wt_mem hx) (by omega)) (by omega)).mono ?_
       rintro e w' ⟨rfl, r⟩
       exact ⟨none, 0, rfl, VReads.nil _, r⟩
   | true =>
     have et := ft.eq hT
     have wT := wt_qval ft
     have hA := near_qr (near_axpy wx wy (T := qval t) (by omega))
     have al : ((axpy (qval t) xs ys).map qr).length = n1 := by simp [axpy, lx, ly]
     have key := fun (W : World) (p o : Option Addr) (d e : Nat) (r1 : Reads W (.slice p t.2.1.length d) t.2.1) (r2 : Reads W (.slice o t.2.2.length e) t.2.2) => (show Reads W (.slice p (qr (qval t)).2.1.length d) (qr (qval t)).2.1 ∧ Reads W (.slice o (qr (qval t)).2.2.length e) (qr (qval t)).2.2 from by rw [← et]; exact ⟨r1, r2⟩)
     refine adds_walk (m := n1) (P1 := (scl (qval t) ((xs.map qr).map qval)).map qr) (P2 := (axpy (qval t) xs ys).map qr) (E := 0) h1 h2 g1 g2 gt hg s1 s3 s1 e1 e2 bt hS hA KS JS (fun W a b p o c c' d e v1 v2 r1 r2 => ?_) (fun W a b p o c c' d e v1 v2 r1 r2 => ?_)
     · have := v_addm_own v1 v2 (key W p o d e r1 r2).1 (key W p o d e r1 r2).2 (fun x hx => Nat.le_trans (wt_mem hx) (by omega)) (fun x hx => Nat.le_trans (wt_mem hx) (by omega)) (by omega) (by omega)
       rw [← et] at this
       refine this.mono ?_
       rintro e w' ⟨v, zs, rfl, hm, hv, r⟩
       obtain ⟨a, c, rfl⟩ := hv.form
       have hl : zs.length = n1 := by rw [← al, ← hm, List.length_map]
       rw [hl] at hv ⊢
       exact ⟨a, c, _, rfl, hv.fr hm al.symm (fun q hq => by have := hA q hq; omega), by rw [← hm]; have := hv.1.fresh.reads; exact this, r⟩
     · have := rv_add v1 v2 (key W p o d e r1 r2).1 (key W p o d e r1 r2).2 (fun x hx => Nat.le_trans (wt_mem hx) (by omega)) (fun x hx => Nat.le_trans (wt_mem hx) (by omega)) (by omega) (by omega)
       rw [← et] at this
       refine this.mono ?_
       rintro e w' ⟨v, rfl, hv, r⟩
       obtain ⟨a, c, ev⟩ := hv.form
       rw [al] at ev
       subst ev
       exact ⟨a, c, rfl, hv.reads, r⟩
end Go.Proofs.YtdjfooflhpkcbaaGreatDoor
