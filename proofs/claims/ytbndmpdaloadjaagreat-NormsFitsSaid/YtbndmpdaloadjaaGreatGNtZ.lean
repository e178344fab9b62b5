/- NormsFits: whether a norm may be, a point fits it, and is whole where it must be, is as documented. -/
import Derived.Test.YtbndmpdaloadjaaGreatGNtX
import Derived.Test.YtbndmpdaloadjaaGreatGNtW
set_option linter.unusedSimpArgs false
set_option linter.unusedVariables false
set_option maxHeartbeats 32000000
namespace Go.Proofs.YtbndmpdaloadjaaGreat
open Go Go.Proofs Go.RowKit Go.Shelf Nu
set_option linter.unusedVariables false
set_option linter.unusedSimpArgs false
set_option maxRecDepth 100000

attribute [local go_sem] Oper.semAt_some

theorem a4_le (n m : Nat) : a4 n m ≤ n + m := by unfold a4; split <;> omega
theorem nv_small {x : NV} (hrl : x.rows.length ≤ 200) (h : x.size ≤ 3000) (hb : x.Big) : x.Fine ∧ x.Mod ∧ ∀ l ∈ x.rows, psum l ≤ 3000 := by
 unfold NV.size at h
 have h4 := a4_small (by omega) h
 have h3 := a4_small (by omega) (show a4 (a4 (a4 1 (gsize x.rows)) (rsize x.right)) (rsize x.goal) ≤ 3000 by omega)
 have h2 := a4_small (by omega) (show a4 (a4 1 (gsize x.rows)) (rsize x.right) ≤ 3000 by omega)
 have h1 := a4_small (by omega) (show a4 1 (gsize x.rows) ≤ 3000 by omega)
 have hg := lsz_small rsize (M := 3000) (by omega) (show lsz rsize x.rows.length x.rows ≤ 3000 from (show gsize x.rows ≤ 3000 by omega))
 have one : ∀ l : List Qr, rsize l ≤ 3000 → (∀ q ∈ l, Big q) → qrows l ∧ (l.length ≤ 65536 ∧ ∀ q ∈ l, q.2.1.length ≤ 100000 ∧ q.2.2.length ≤ 100000) ∧ psum l ≤ 3000 := by
  intro l hl hB
  have h5 := ssz_small (M := 3000) (by omega) hl
  have hf := fit_of_small (M := 3000) (by omega) hB hl
  exact ⟨⟨hf, by omega⟩, ⟨by omega, fun q hq => by have := (hf q hq).2; omega⟩, by omega⟩
 have hr : ∀ l ∈ x.rows, rsize l ≤ 3000 := fun l hl => by have := lsum_mem rsize hl; omega
 have k2 := one x.right (by omega) hb.2.1.2
 have k3 := one x.goal (by omega) hb.2.2.1.2
 exact ⟨⟨⟨by omega, fun l hl => (one l (hr l hl) (hb.1.2 l hl).2).1⟩, k2.1, k3.1, by omega⟩, ⟨⟨by omega, fun l hl => (one l (hr l hl) (hb.1.2 l hl).2).2.1⟩, k2.2.1, k3.2.1, by omega⟩, fun l hl => (one l (hr l hl) (hb.1.2 l hl).2).2.2⟩
theorem wts_of_psum {l : List Qr} (hf : ∀ q ∈ l, Fit q) (hk : l.all qok = true) : wts (l.map qval) ≤ psum l := by
 have h := wts_psum (l.map qval)
 rwa [← fits_eq hf hk] at h
theorem TwN.nok {W : World} {B : Nat} {v : Value} {x : NV} (h : TwN W B v x) : ∃ ta tc ra rc ga gc oa oc, v = .agg #[.slice ta x.rows.length tc, .slice ra x.right.length rc, .slice ga x.goal.length gc, .slice oa x.whole.length oc] ∧ GridR W (.slice ta x.rows.length tc) x.rows ∧ VReads W (.slice ra x.right.length rc) x.right ∧ VReads W (.slice ga x.goal.length gc) x.goal ∧ BoolsR W (.slice oa x.whole.length oc) x.whole := by
 obtain ⟨ta, tc, g2, c2, g3, c3, g4, c4, e, h1, h2, h3, h4⟩ := h
 exact ⟨ta, tc, _, c2, _, c3, _, c4, e, h1.reads, h2.vreads, h3.vreads, h4.reads⟩
theorem nfits_law {w : World} {la ra ga oa : Option Addr} {ln lc rn rc gn gc on oc : Nat} {x : NV} (hL : GridR w (.slice la ln lc) x.rows) (hR : VReads w (.slice ra rn rc) x.right) (hG : VReads w (.slice ga gn gc) x.goal) (hO : BoolsR w (.slice oa on oc) x.whole) (hb : x.Big) {pa : Option Addr} {pn pc : Nat} {p : List Qr} (hp : VReads w (.slice pa pn pc) p) (hpn : pn ≤ 70368744177664) (hpb : ∀ q ∈ p, Big q) :
   Calls Tryz.prog 4 #[.agg #[.slice la ln lc, .slice ra rn rc, .slice ga gn gc, .slice oa on oc], .slice pa pn pc] w fun e w' => e = .returned (.bool true) ∧ Below w.heap.size w w' := by
 have HX := Lib.hid (show BoxN (w.alloc (.cells #[.slice la ln lc, .slice ra rn rc, .slice ga gn gc, .slice oa on oc] 42)) w.heap.size 42 #[.slice la ln lc, .slice ra rn rc, .slice ga gn gc, .slice oa on oc] from BoxN.new w _ _)
 have HB := Lib.hid (show Below w.heap.size w (w.alloc (.cells #[.slice la ln lc, .slice ra rn rc, .slice ga gn gc, .slice oa on oc] 42)) from (Below.refl _ _).alloc (Nat.le_refl _) _)
 have EQ := Lib.hid (show ln = x.rows.length ∧ pn = p.length from ⟨hL.addr.1, hp.addr.1⟩)
 have hln : ln ≤ 70368744177664 := by rw [EQ.out.1]; exact hb.1.1
 obtain ⟨S, hS⟩ : ∃ S, S = x.size := ⟨_, rfl⟩
 have k1 := Lib.hid (fun (W : World) (r : Below w.heap.size w W) => normSize_any (hL.below r) (hR.below r) (hG.below r) (hO.below r) hb)
 rw [← hS] at k1
 obtain ⟨P, hP⟩ : ∃ P, P = rsize p := ⟨_, rfl⟩
 have k2 := Lib.hid (fun (W : World) (r : Below w.heap.size w W) => ratsSize_any (hp.below r) hpb hpn)
 rw [show ssz pn p = P by rw [hP, EQ.out.2]; rfl] at k2
 have hSle : S ≤ 2000000000000000 := by
   rw [hS]
   have h1 := gsize_le hb.1
   have h2 := rsize_le hb.2.1
   have h3 := rsize_le hb.2.2.1
   have h4 := hb.2.2.2
   unfold NV.size
   have q1 := a4_le (a4 (a4 (a4 1 (gsize x.rows)) (rsize x.right)) (rsize x.goal)) x.whole.length
   have q2 := a4_le (a4 (a4 1 (gsize x.rows)) (rsize x.right)) (rsize x.goal)
   have q3 := a4_le (a4 1 (gsize x.rows)) (rsize x.right)
   have q4 := a4_le 1 (gsize x.rows)
   omega
 have hPle : P ≤ 200000000000000 := by rw [hP]; exact rsize_le ⟨by rw [← EQ.out.2]; exact hpn, hpb⟩
 have HS := Lib.hid hS
 have HP := Lib.hid hP
 clear hS hP
 by_cases c1 : 200 < ln
 · have j1 : (200 : Int) < (ln : Int) := by omega
   have j1' : decide ((200 : Int) < (ln : Int)) = true := decide_eq_true j1
   clear hL hR hG hO hb hp hpb EQ HS HP k1 k2
   go_enter Tryz.func4, Tryz.ntmps4
   have z0 := HX.out.cell 0 _ rfl; have z1 := HX.out.cell 1 _ rfl; have z2 := HX.out.cell 2 _ rfl; have z3 := HX.out.cell 3 _ rfl
   go_wp2_with fail
   go_ret
   exact ⟨rfl, HB.out⟩
 · by_cases c2 : 3000 < S
   · have j1 : ¬ (200 : Int) < (ln : Int) := by omega
     have j1' : decide ((200 : Int) < (ln : Int)) = false := decide_eq_false j1
     have j2 : (3000 : Int) < (S : Int) := by omega
     have j2' : decide ((3000 : Int) < (S : Int)) = true := decide_eq_true j2
     clear hL hR hG hO hb hp hpb EQ HS HP k2
     go_enter Tryz.func4, Tryz.ntmps4
     have z0 := HX.out.cell 0 _ rfl; have z1 := HX.out.cell 1 _ rfl; have z2 := HX.out.cell 2 _ rfl; have z3 := HX.out.cell 3 _ rfl
     go_wp2_with fail
     clear z0 z1 z2 z3
     refine (k1.out _ HB.out).mono ?_
     rintro e w1 ⟨rfl, rr⟩
     have HX := Lib.hid (HX.out.under rr)
     have HB1 := Lib.hid (then_below HB.out rr)
     clear rr k1
     have z0 := HX.out.cell 0 _ rfl; have z1 := HX.out.cell 1 _ rfl; have z2 := HX.out.cell 2 _ rfl; have z3 := HX.out.cell 3 _ rfl
     go_wp2_with fail
     go_ret
     exact ⟨rfl, HB1.out⟩
   · by_cases c3 : 50 < pn
     · have j1 : ¬ (200 : Int) < (ln : Int) := by omega
       have j1' : decide ((200 : Int) < (ln : Int)) = false := decide_eq_false j1
       have j2 : ¬ (3000 : Int) < (S : Int) := by omega
       have j2' : decide ((3000 : Int) < (S : Int)) = false := decide_eq_false j2
       have j3 : (50 : Int) < (pn : Int) := by omega
       have j3' : decide ((50 : Int) < (pn : Int)) = true := decide_eq_true j3
       clear hL hR hG hO hb hp hpb EQ HS HP k2
       go_enter Tryz.func4, Tryz.ntmps4
       have z0 := HX.out.cell 0 _ rfl; have z1 := HX.out.cell 1 _ rfl; have z2 := HX.out.cell 2 _ rfl; have z3 := HX.out.cell 3 _ rfl
       go_wp2_with fail
       clear z0 z1 z2 z3
       refine (k1.out _ HB.out).mono ?_
       rintro e w1 ⟨rfl, rr⟩
       have HX := Lib.hid (HX.out.under rr)
       have HB1 := Lib.hid (then_below HB.out rr)
       clear rr k1
       have z0 := HX.out.cell 0 _ rfl; have z1 := HX.out.cell 1 _ rfl; have z2 := HX.out.cell 2 _ rfl; have z3 := HX.out.cell 3 _ rfl
       go_wp2_with fail
       go_ret
       exact ⟨rfl, HB1.out⟩
     · by_cases c4 : 500 < P
       · have j1 : ¬ (200 : Int) < (ln : Int) := by omega
         have j1' : decide ((200 : Int) < (ln : Int)) = false := decide_eq_false j1
         have j2 : ¬ (3000 : Int) < (S : Int) := by omega
         have j2' : decide ((3000 : Int) < (S : Int)) = false := decide_eq_false j2
         have j3 : ¬ (50 : Int) < (pn : Int) := by omega
         have j3' : decide ((50 : Int) < (pn : Int)) = false := decide_eq_false j3
         have j4 : (500 : Int) < (P : Int) := by omega
         have j4' : decide ((500 : Int) < (P : Int)) = true := decide_eq_true j4
         clear hL hR hG hO hb hp hpb EQ HS HP 
         go_enter Tryz.func4, Tryz.ntmps4
         have z0 := HX.out.cell 0 _ rfl; have z1 := HX.out.cell 1 _ rfl; have z2 := HX.out.cell 2 _ rfl; have z3 := HX.out.cell 3 _ rfl
         go_wp2_with fail
         clear z0 z1 z2 z3
         refine (k1.out _ HB.out).mono ?_
         rintro e w1 ⟨rfl, rr⟩
         have HX := Lib.hid (HX.out.under rr)
         have HB1 := Lib.hid (then_below HB.out rr)
         clear rr k1
         have z0 := HX.out.cell 0 _ rfl; have z1 := HX.out.cell 1 _ rfl; have z2 := HX.out.cell 2 _ rfl; have z3 := HX.out.cell 3 _ rfl
         go_wp2_with fail
         clear z0 z1 z2 z3
         refine (k2.out _ HB1.out).mono ?_
         rintro e w2 ⟨rfl, rr⟩
         have HX := Lib.hid (HX.out.under rr)
         have HB2 := Lib.hid (then_below HB1.out rr)
         clear rr k2
         have z0 := HX.out.cell 0 _ rfl; have z1 := HX.out.cell 1 _ rfl; have z2 := HX.out.cell 2 _ rfl; have z3 := HX.out.cell 3 _ rfl
         go_wp2_with fail
         go_ret
         exact ⟨rfl, HB2.out⟩
       · have j1 : ¬ (200 : Int) < (ln : Int) := by omega
         have j1' : decide ((200 : Int) < (ln : Int)) = false := decide_eq_false j1
         have j2 : ¬ (3000 : Int) < (S : Int) := by omega
         have j2' : decide ((3000 : Int) < (S : Int)) = false := decide_eq_false j2
         have j3 : ¬ (50 : Int) < (pn : Int) := by omega
         have j3' : decide ((50 : Int) < (pn : Int)) = false := decide_eq_false j3
         have j4 : ¬ (500 : Int) < (P : Int) := by omega
         have j4' : decide ((500 : Int) < (P : Int)) = false := decide_eq_false j4
         obtain ⟨hF, hM, hrows⟩ := nv_small (x := x) (by rw [← EQ.out.1]; omega) (by rw [← HS.out]; omega) hb
         have hps := ssz_small (M := 500) (by omega) (show ssz p.length p ≤ 500 from (show rsize p ≤ 500 by rw [← HP.out]; omega))
         have hpf := fit_of_small (M := 500) (by omega) hpb (show ssz p.length p ≤ 500 from (show rsize p ≤ 500 by rw [← HP.out]; omega))
         have hpq : qrows p := ⟨hpf, by omega⟩
         have hpm : p.length ≤ 65536 ∧ ∀ q ∈ p, q.2.1.length ≤ 100000 ∧ q.2.2.length ≤ 100000 := ⟨by omega, fun q hq => by have := (hpf q hq).2; omega⟩
         have hw8 : ∀ l ∈ x.rows, l.all qok = true → p.all qok = true → wts (l.map qval) + wts (p.map qval) ≤ 8000 := fun l hl h1 h2 => by
          have a := wts_of_psum (hF.1.2 l hl).1 h1
          have b := wts_of_psum hpf h2
          have := hrows l hl
          omega
         obtain ⟨R1, e1⟩ : ∃ R, R = nck x := ⟨_, rfl⟩
         obtain ⟨R2, e2⟩ : ∃ R, R = nfit x p := ⟨_, rfl⟩
         obtain ⟨R3, e3⟩ : ∃ R, R = nwh x p := ⟨_, rfl⟩
         have q1 : (R1 == R1) = true := by simp
         have q2 : (R2 == R2) = true := by simp
         have q3 : (R3 == R3) = true := by simp
         have kT := Lib.hid (fun (W : World) (r : Below w.heap.size w W) => twinN_any (hL.below r) (hR.below r) (hG.below r) (hO.below r) hM)
         have kU := Lib.hid (fun (W : World) (r : Below w.heap.size w W) => twinR_any (hp.below r) hpm.1 hpm.2)
         have kC := Lib.hid (fun (W : World) (r : Below w.heap.size w W) => rn_check (hL.below r) (hR.below r) (hG.below r) (hO.below r) hF R1 e1)
         have kF := Lib.hid (fun (W : World) (r : Below w.heap.size w W) => rn_fits (hL.below r) (hR.below r) (hG.below r) (hO.below r) hF (hp.below r) hpq hw8 R2 e2)
         have kW := Lib.hid (fun (W : World) (r : Below w.heap.size w W) => rn_whole (hL.below r) (hR.below r) (hG.below r) (hO.below r) hF (hp.below r) hpq R3 e3)
         have HL := Lib.hid (fun (W : World) (r : Below w.heap.size w W) => And.intro (hL.below r) (And.intro (hR.below r) (And.intro (hG.below r) (And.intro (hO.below r) (hp.below r)))))
         have HF := Lib.hid (And.intro hF (And.intro hM (And.intro hpq (And.intro hpm hw8))))
         have HE := Lib.hid (And.intro e1 (And.intro e2 e3))
         have HPL := Lib.hid EQ.out.2
         clear hL hR hG hO hb hp hpb HS HP EQ hF hM hrows hps hpf hpq hpm hw8 e1 e2 e3
         go_enter Tryz.func4, Tryz.ntmps4
         have z0 := HX.out.cell 0 _ rfl; have z1 := HX.out.cell 1 _ rfl; have z2 := HX.out.cell 2 _ rfl; have z3 := HX.out.cell 3 _ rfl
         go_wp2_with fail
         clear z0 z1 z2 z3
         refine (k1.out _ HB.out).mono ?_
         rintro e w1 ⟨rfl, rr⟩
         have HX := Lib.hid (HX.out.under rr)
         have HB1 := Lib.hid (then_below HB.out rr)
         clear rr k1
         have z0 := HX.out.cell 0 _ rfl; have z1 := HX.out.cell 1 _ rfl; have z2 := HX.out.cell 2 _ rfl; have z3 := HX.out.cell 3 _ rfl
         go_wp2_with fail
         clear z0 z1 z2 z3
         refine (k2.out _ HB1.out).mono ?_
         rintro e w2 ⟨rfl, rr⟩
         have HX := Lib.hid (HX.out.under rr)
         have HB2 := Lib.hid (then_below HB1.out rr)
         clear rr k2
         have z0 := HX.out.cell 0 _ rfl; have z1 := HX.out.cell 1 _ rfl; have z2 := HX.out.cell 2 _ rfl; have z3 := HX.out.cell 3 _ rfl
         go_wp2_with fail
         clear z0 z1 z2 z3
         refine (kT.out _ HB2.out).mono ?_
         rintro e w3 ⟨tv, rfl, qT, rr⟩
         have HX := Lib.hid (HX.out.under rr)
         have HB3 := Lib.hid (then_below HB2.out rr)
         have QT := Lib.hid qT
         obtain ⟨ta, tc, r2, s2, g2, t2, o2, u2, rfl, -, -, -, -⟩ := qT.nok
         clear rr kT qT
         generalize hm1 : x.rows.length = m1 at *
         generalize hm2 : x.right.length = m2 at *
         generalize hm3 : x.goal.length = m3 at *
         generalize hm4 : x.whole.length = m4 at *
         have HMM := Lib.hid (And.intro hm1 (And.intro hm2 (And.intro hm3 hm4)))
         clear hm1 hm2 hm3 hm4
         go_wp2_with fail
         have HY := Lib.hid (BoxN.new w3 42 #[.slice ta m1 tc, .slice r2 m2 s2, .slice g2 m3 t2, .slice o2 m4 u2])
         have HX := Lib.hid (HX.out.alloc (.cells #[.slice ta m1 tc, .slice r2 m2 s2, .slice g2 m3 t2, .slice o2 m4 u2] 42))
         have HB4 := Lib.hid (HB3.out.alloc HB3.out.size (.cells #[.slice ta m1 tc, .slice r2 m2 s2, .slice g2 m3 t2, .slice o2 m4 u2] 42))
         have QT := Lib.hid (QT.out.below ((Below.refl w3.heap.size w3).alloc (Nat.le_refl _) (.cells #[.slice ta m1 tc, .slice r2 m2 s2, .slice g2 m3 t2, .slice o2 m4 u2] 42)))
         refine (kU.out _ HB4.out).mono ?_
         rintro e w5 ⟨ug, uc, rfl, qU, rr⟩
         have HX := Lib.hid (HX.out.under rr)
         have HY := Lib.hid (HY.out.under rr)
         have HB5 := Lib.hid (then_below HB4.out rr)
         have QT := Lib.hid (QT.out.below rr)
         have QU := Lib.hid qU
         clear rr kU qU HB3 HB4 HB HB1 HB2
         rw [← HPL.out]
         go_wp2_with fail
         obtain ⟨n1, n2, n3, n4, n5, n6, n7, n8, en, d1, d2, d3, d4⟩ := QT.out.nok
         rw [HMM.out.1] at en d1; rw [HMM.out.2.1] at en d2; rw [HMM.out.2.2.1] at en d3; rw [HMM.out.2.2.2] at en d4
         cases en
         have kTC := Lib.hid (fun (W : World) (r : Below w5.heap.size w5 W) => ncheck_any (d1.below r) (d2.below r) (d3.below r) (d4.below r) HF.out.1 R1 HE.out.1)
         have hu : VReads w5 (.slice (some ⟨ug, 0, none⟩) pn uc) p := by rw [HPL.out]; exact QU.out.vreads
         have kTF := Lib.hid (fun (W : World) (r : Below w5.heap.size w5 W) => nfits_any (d1.below r) (d2.below r) (d3.below r) (d4.below r) HF.out.1 (hu.below r) HF.out.2.2.1 HF.out.2.2.2.2 R2 HE.out.2.1)
         have kTW := Lib.hid (fun (W : World) (r : Below w5.heap.size w5 W) => nwhole_any (d1.below r) (d2.below r) (d3.below r) (d4.below r) HF.out.1 (hu.below r) HF.out.2.2.1 R3 HE.out.2.2)
         have kLN := Lib.hid (fun (W : World) (r : Below w5.heap.size w5 W) => leftN_any (QT.out.below r) (HL.out _ (then_below HB5.out r)).1 (HL.out _ (then_below HB5.out r)).2.1 (HL.out _ (then_below HB5.out r)).2.2.1 (HL.out _ (then_below HB5.out r)).2.2.2.1 HF.out.2.1)
         have kLR := Lib.hid (fun (W : World) (r : Below w5.heap.size w5 W) => leftR_any (QU.out.below r) (HL.out _ (then_below HB5.out r)).2.2.2.2 HF.out.2.2.2.1.1 HF.out.2.2.2.1.2)
         rw [← HPL.out] at kLR
         clear d1 d2 d3 d4 hu HL HF HE HPL QT QU HMM
         refine region_bl (S := fun W => Below w5.heap.size w5 W) (by kernel_rfl) ?_
         intro V0 hS0
         refine wpAnyH_take (i := 0) (oi := ⟨_, _, _, _, _, _⟩) (v := .agg #[.slice ta m1 tc, .slice r2 m2 s2, .slice g2 m3 t2, .slice o2 m4 u2]) rfl (by kernel_rfl) (by kernel_rfl) (by kernel_rfl) (fun _ _ _ h => h) (Or.inl ⟨by rfl, fun W3 hS => by have hY := HY.out.under hS; have c0 := hY.cell 0 _ rfl; have c1 := hY.cell 1 _ rfl; have c2 := hY.cell 2 _ rfl; have c3 := hY.cell 3 _ rfl; go_simp⟩) hS0 ?_
         try simp only [Act.put, List.setIfInBounds_toArray, List.set_cons_zero, List.set_cons_succ]
         refine wpAnyH_take (i := 2) (oi := ⟨_, _, _, _, _, _⟩) (v := .agg #[.slice la ln lc, .slice ra rn rc, .slice ga gn gc, .slice oa on oc]) rfl (by kernel_rfl) (by kernel_rfl) (by kernel_rfl) (fun _ _ _ h => h) (Or.inl ⟨by rfl, fun W3 hS => by have hX := HX.out.under hS; have c0 := hX.cell 0 _ rfl; have c1 := hX.cell 1 _ rfl; have c2 := hX.cell 2 _ rfl; have c3 := hX.cell 3 _ rfl; go_simp⟩) hS0 ?_
         try simp only [Act.put, List.setIfInBounds_toArray, List.set_cons_zero, List.set_cons_succ]
         have HV := Lib.hid hS0
         clear hS0
         refine wpAnyH_all (rs := [1]) (by kernel_rfl) (by simp) ?_
         intro i hi
         obtain rfl : i = 1 := by simpa using hi
         refine wpOp_intro rfl (fun K1 hK => ?_)
         clear hi
         go_simp
         refine (kTC.out _ HV.out).mono ?_
         rintro e V1 ⟨rfl, rr⟩
         have hS1 := then_below HV.out rr
         clear rr HV
         refine hK _ _ ⟨hS1, ?_⟩
         clear hK K1
         have hS0 := hS1
         clear hS1 kTC
         have HV := Lib.hid hS0
         clear hS0
         refine wpAnyH_all (rs := [3]) (by kernel_rfl) (by simp) ?_
         intro i hi
         obtain rfl : i = 3 := by simpa using hi
         refine wpOp_intro rfl (fun K2 hK => ?_)
         clear hi
         go_simp
         refine (kC.out _ (then_below HB5.out HV.out)).mono ?_
         rintro e V2 ⟨rfl, rr⟩
         have hS1 := then_below HV.out rr
         clear rr HV
         refine hK _ _ ⟨hS1, ?_⟩
         clear hK K2
         have hS0 := hS1
         clear hS1 kC
         refine wpAnyH_take (i := 4) (oi := ⟨_, _, _, _, _, _⟩) (v := .bool true) rfl (by kernel_rfl) (by kernel_rfl) (by kernel_rfl) (fun _ _ _ h => h) (Or.inl ⟨by rfl, fun W3 hS => by go_simp⟩) hS0 ?_
         try simp only [Act.put, List.setIfInBounds_toArray, List.set_cons_zero, List.set_cons_succ]
         refine wpAnyH_take (i := 5) (oi := ⟨_, _, _, _, _, _⟩) (v := .bool true) rfl (by kernel_rfl) (by kernel_rfl) (by kernel_rfl) (fun _ _ _ h => h) (Or.inl ⟨by rfl, fun W3 hS => by go_simp⟩) hS0 ?_
         try simp only [Act.put, List.setIfInBounds_toArray, List.set_cons_zero, List.set_cons_succ]
         refine wpAnyH_take (i := 6) (oi := ⟨_, _, _, _, _, _⟩) (v := .agg #[.slice ta m1 tc, .slice r2 m2 s2, .slice g2 m3 t2, .slice o2 m4 u2]) rfl (by kernel_rfl) (by kernel_rfl) (by kernel_rfl) (fun _ _ _ h => h) (Or.inl ⟨by rfl, fun W3 hS => by have hY := HY.out.under hS; have c0 := hY.cell 0 _ rfl; have c1 := hY.cell 1 _ rfl; have c2 := hY.cell 2 _ rfl; have c3 := hY.cell 3 _ rfl; go_simp⟩) hS0 ?_
         try simp only [Act.put, List.setIfInBounds_toArray, List.set_cons_zero, List.set_cons_succ]
         refine wpAnyH_take (i := 7) (oi := ⟨_, _, _, _, _, _⟩) (v := .slice (some ⟨ug, 0, none⟩) pn uc) rfl (by kernel_rfl) (by kernel_rfl) (by kernel_rfl) (fun _ _ _ h => h) (Or.inl ⟨by rfl, fun W3 hS => by go_simp⟩) hS0 ?_
         try simp only [Act.put, List.setIfInBounds_toArray, List.set_cons_zero, List.set_cons_succ]
         refine wpAnyH_take (i := 9) (oi := ⟨_, _, _, _, _, _⟩) (v := .agg #[.slice la ln lc, .slice ra rn rc, .slice ga gn gc, .slice oa on oc]) rfl (by kernel_rfl) (by kernel_rfl) (by kernel_rfl) (fun _ _ _ h => h) (Or.inl ⟨by rfl, fun W3 hS => by have hX := HX.out.under hS; have c0 := hX.cell 0 _ rfl; have c1 := hX.cell 1 _ rfl; have c2 := hX.cell 2 _ rfl; have c3 := hX.cell 3 _ rfl; go_simp⟩) hS0 ?_
         try simp only [Act.put, List.setIfInBounds_toArray, List.set_cons_zero, List.set_cons_succ]
         refine wpAnyH_take (i := 10) (oi := ⟨_, _, _, _, _, _⟩) (v := .slice pa pn pc) rfl (by kernel_rfl) (by kernel_rfl) (by kernel_rfl) (fun _ _ _ h => h) (Or.inl ⟨by rfl, fun W3 hS => by go_simp⟩) hS0 ?_
         try simp only [Act.put, List.setIfInBounds_toArray, List.set_cons_zero, List.set_cons_succ]
         have HV := Lib.hid hS0
         clear hS0
         refine wpAnyH_all (rs := [8]) (by kernel_rfl) (by simp) ?_
         intro i hi
         obtain rfl : i = 8 := by simpa using hi
         refine wpOp_intro rfl (fun K3 hK => ?_)
         clear hi
         go_simp
         refine (kTF.out _ HV.out).mono ?_
         rintro e V3 ⟨rfl, rr⟩
         have hS1 := then_below HV.out rr
         clear rr HV
         refine hK _ _ ⟨hS1, ?_⟩
         clear hK K3
         have hS0 := hS1
         clear hS1 kTF
         have HV := Lib.hid hS0
         clear hS0
         refine wpAnyH_all (rs := [11]) (by kernel_rfl) (by simp) ?_
         intro i hi
         obtain rfl : i = 11 := by simpa using hi
         refine wpOp_intro rfl (fun K4 hK => ?_)
         clear hi
         go_simp
         refine (kF.out _ (then_below HB5.out HV.out)).mono ?_
         rintro e V4 ⟨rfl, rr⟩
         have hS1 := then_below HV.out rr
         clear rr HV
         refine hK _ _ ⟨hS1, ?_⟩
         clear hK K4
         have hS0 := hS1
         clear hS1 kF
         refine wpAnyH_take (i := 12) (oi := ⟨_, _, _, _, _, _⟩) (v := .bool true) rfl (by kernel_rfl) (by kernel_rfl) (by kernel_rfl) (fun _ _ _ h => h) (Or.inl ⟨by rfl, fun W3 hS => by go_simp⟩) hS0 ?_
         try simp only [Act.put, List.setIfInBounds_toArray, List.set_cons_zero, List.set_cons_succ]
         refine wpAnyH_take (i := 13) (oi := ⟨_, _, _, _, _, _⟩) (v := .bool true) rfl (by kernel_rfl) (by kernel_rfl) (by kernel_rfl) (fun _ _ _ h => h) (Or.inl ⟨by rfl, fun W3 hS => by go_simp⟩) hS0 ?_
         try simp only [Act.put, List.setIfInBounds_toArray, List.set_cons_zero, List.set_cons_succ]
         refine wpAnyH_take (i := 14) (oi := ⟨_, _, _, _, _, _⟩) (v := .bool true) rfl (by kernel_rfl) (by kernel_rfl) (by kernel_rfl) (fun _ _ _ h => h) (Or.inl ⟨by rfl, fun W3 hS => by go_simp⟩) hS0 ?_
         try simp only [Act.put, List.setIfInBounds_toArray, List.set_cons_zero, List.set_cons_succ]
         refine wpAnyH_take (i := 15) (oi := ⟨_, _, _, _, _, _⟩) (v := .agg #[.slice ta m1 tc, .slice r2 m2 s2, .slice g2 m3 t2, .slice o2 m4 u2]) rfl (by kernel_rfl) (by kernel_rfl) (by kernel_rfl) (fun _ _ _ h => h) (Or.inl ⟨by rfl, fun W3 hS => by have hY := HY.out.under hS; have c0 := hY.cell 0 _ rfl; have c1 := hY.cell 1 _ rfl; have c2 := hY.cell 2 _ rfl; have c3 := hY.cell 3 _ rfl; go_simp⟩) hS0 ?_
         try simp only [Act.put, List.setIfInBounds_toArray, List.set_cons_zero, List.set_cons_succ]
         refine wpAnyH_take (i := 16) (oi := ⟨_, _, _, _, _, _⟩) (v := .slice (some ⟨ug, 0, none⟩) pn uc) rfl (by kernel_rfl) (by kernel_rfl) (by kernel_rfl) (fun _ _ _ h => h) (Or.inl ⟨by rfl, fun W3 hS => by go_simp⟩) hS0 ?_
         try simp only [Act.put, List.setIfInBounds_toArray, List.set_cons_zero, List.set_cons_succ]
         refine wpAnyH_take (i := 18) (oi := ⟨_, _, _, _, _, _⟩) (v := .agg #[.slice la ln lc, .slice ra rn rc, .slice ga gn gc, .slice oa on oc]) rfl (by kernel_rfl) (by kernel_rfl) (by kernel_rfl) (fun _ _ _ h => h) (Or.inl ⟨by rfl, fun W3 hS => by have hX := HX.out.under hS; have c0 := hX.cell 0 _ rfl; have c1 := hX.cell 1 _ rfl; have c2 := hX.cell 2 _ rfl; have c3 := hX.cell 3 _ rfl; go_simp⟩) hS0 ?_
         try simp only [Act.put, List.setIfInBounds_toArray, List.set_cons_zero, List.set_cons_succ]
         refine wpAnyH_take (i := 19) (oi := ⟨_, _, _, _, _, _⟩) (v := .slice pa pn pc) rfl (by kernel_rfl) (by kernel_rfl) (by kernel_rfl) (fun _ _ _ h => h) (Or.inl ⟨by rfl, fun W3 hS => by go_simp⟩) hS0 ?_
         try simp only [Act.put, List.setIfInBounds_toArray, List.set_cons_zero, List.set_cons_succ]
         have HV := Lib.hid hS0
         clear hS0
         refine wpAnyH_all (rs := [17]) (by kernel_rfl) (by simp) ?_
         intro i hi
         obtain rfl : i = 17 := by simpa using hi
         refine wpOp_intro rfl (fun K5 hK => ?_)
         clear hi
         go_simp
         refine (kTW.out _ HV.out).mono ?_
         rintro e V5 ⟨rfl, rr⟩
         have hS1 := then_below HV.out rr
         clear rr HV
         refine hK _ _ ⟨hS1, ?_⟩
         clear hK K5
         have hS0 := hS1
         clear hS1 kTW
         have HV := Lib.hid hS0
         clear hS0
         refine wpAnyH_all (rs := [20]) (by kernel_rfl) (by simp) ?_
         intro i hi
         obtain rfl : i = 20 := by simpa using hi
         refine wpOp_intro rfl (fun K6 hK => ?_)
         clear hi
         go_simp
         refine (kW.out _ (then_below HB5.out HV.out)).mono ?_
         rintro e V6 ⟨rfl, rr⟩
         have hS1 := then_below HV.out rr
         clear rr HV
         refine hK _ _ ⟨hS1, ?_⟩
         clear hK K6
         have hS0 := hS1
         clear hS1 kW
         refine wpAnyH_take (i := 21) (oi := ⟨_, _, _, _, _, _⟩) (v := .bool true) rfl (by kernel_rfl) (by kernel_rfl) (by kernel_rfl) (fun _ _ _ h => h) (Or.inl ⟨by rfl, fun W3 hS => by go_simp⟩) hS0 ?_
         try simp only [Act.put, List.setIfInBounds_toArray, List.set_cons_zero, List.set_cons_succ]
         refine wpAnyH_take (i := 22) (oi := ⟨_, _, _, _, _, _⟩) (v := .bool true) rfl (by kernel_rfl) (by kernel_rfl) (by kernel_rfl) (fun _ _ _ h => h) (Or.inl ⟨by rfl, fun W3 hS => by go_simp⟩) hS0 ?_
         try simp only [Act.put, List.setIfInBounds_toArray, List.set_cons_zero, List.set_cons_succ]
         refine wpAnyH_take (i := 23) (oi := ⟨_, _, _, _, _, _⟩) (v := .bool true) rfl (by kernel_rfl) (by kernel_rfl) (by kernel_rfl) (fun _ _ _ h => h) (Or.inl ⟨by rfl, fun W3 hS => by go_simp⟩) hS0 ?_
         try simp only [Act.put, List.setIfInBounds_toArray, List.set_cons_zero, List.set_cons_succ]
         refine wpAnyH_take (i := 24) (oi := ⟨_, _, _, _, _, _⟩) (v := .agg #[.slice ta m1 tc, .slice r2 m2 s2, .slice g2 m3 t2, .slice o2 m4 u2]) rfl (by kernel_rfl) (by kernel_rfl) (by kernel_rfl) (fun _ _ _ h => h) (Or.inl ⟨by rfl, fun W3 hS => by have hY := HY.out.under hS; have c0 := hY.cell 0 _ rfl; have c1 := hY.cell 1 _ rfl; have c2 := hY.cell 2 _ rfl; have c3 := hY.cell 3 _ rfl; go_simp⟩) hS0 ?_
         try simp only [Act.put, List.setIfInBounds_toArray, List.set_cons_zero, List.set_cons_succ]
         refine wpAnyH_take (i := 25) (oi := ⟨_, _, _, _, _, _⟩) (v := .agg #[.slice la ln lc, .slice ra rn rc, .slice ga gn gc, .slice oa on oc]) rfl (by kernel_rfl) (by kernel_rfl) (by kernel_rfl) (fun _ _ _ h => h) (Or.inl ⟨by rfl, fun W3 hS => by have hX := HX.out.under hS; have c0 := hX.cell 0 _ rfl; have c1 := hX.cell 1 _ rfl; have c2 := hX.cell 2 _ rfl; have c3 := hX.cell 3 _ rfl; go_simp⟩) hS0 ?_
         try simp only [Act.put, List.setIfInBounds_toArray, List.set_cons_zero, List.set_cons_succ]
         have HV := Lib.hid hS0
         clear hS0
         refine wpAnyH_all (rs := [26]) (by kernel_rfl) (by simp) ?_
         intro i hi
         obtain rfl : i = 26 := by simpa using hi
         refine wpOp_intro rfl (fun K7 hK => ?_)
         clear hi
         go_simp
         refine (kLN.out _ HV.out).mono ?_
         rintro e V7 ⟨rfl, rr⟩
         have hS1 := then_below HV.out rr
         clear rr HV
         refine hK _ _ ⟨hS1, ?_⟩
         clear hK K7
         have hS0 := hS1
         clear hS1 kLN
         refine wpAnyH_take (i := 27) (oi := ⟨_, _, _, _, _, _⟩) (v := .bool true) rfl (by kernel_rfl) (by kernel_rfl) (by kernel_rfl) (fun _ _ _ h => h) (Or.inl ⟨by rfl, fun W3 hS => by go_simp⟩) hS0 ?_
         try simp only [Act.put, List.setIfInBounds_toArray, List.set_cons_zero, List.set_cons_succ]
         refine wpAnyH_take (i := 28) (oi := ⟨_, _, _, _, _, _⟩) (v := .bool true) rfl (by kernel_rfl) (by kernel_rfl) (by kernel_rfl) (fun _ _ _ h => h) (Or.inl ⟨by rfl, fun W3 hS => by go_simp⟩) hS0 ?_
         try simp only [Act.put, List.setIfInBounds_toArray, List.set_cons_zero, List.set_cons_succ]
         refine wpAnyH_take (i := 29) (oi := ⟨_, _, _, _, _, _⟩) (v := .slice (some ⟨ug, 0, none⟩) pn uc) rfl (by kernel_rfl) (by kernel_rfl) (by kernel_rfl) (fun _ _ _ h => h) (Or.inl ⟨by rfl, fun W3 hS => by go_simp⟩) hS0 ?_
         try simp only [Act.put, List.setIfInBounds_toArray, List.set_cons_zero, List.set_cons_succ]
         refine wpAnyH_take (i := 30) (oi := ⟨_, _, _, _, _, _⟩) (v := .slice pa pn pc) rfl (by kernel_rfl) (by kernel_rfl) (by kernel_rfl) (fun _ _ _ h => h) (Or.inl ⟨by rfl, fun W3 hS => by go_simp⟩) hS0 ?_
         try simp only [Act.put, List.setIfInBounds_toArray, List.set_cons_zero, List.set_cons_succ]
         have HV := Lib.hid hS0
         clear hS0
         refine wpAnyH_all (rs := [31]) (by kernel_rfl) (by simp) ?_
         intro i hi
         obtain rfl : i = 31 := by simpa using hi
         refine wpOp_intro rfl (fun K8 hK => ?_)
         clear hi
         go_simp
         refine (kLR.out _ HV.out).mono ?_
         rintro e V8 ⟨rfl, rr⟩
         have hS1 := then_below HV.out rr
         clear rr HV
         refine hK _ _ ⟨hS1, ?_⟩
         clear hK K8
         have hS0 := hS1
         clear hS1 kLR
         refine wpAnyH_take (i := 32) (oi := ⟨_, _, _, _, _, _⟩) (v := .bool true) rfl (by kernel_rfl) (by kernel_rfl) (by kernel_rfl) (fun _ _ _ h => h) (Or.inl ⟨by rfl, fun W3 hS => by go_simp⟩) hS0 ?_
         try simp only [Act.put, List.setIfInBounds_toArray, List.set_cons_zero, List.set_cons_succ]
         refine wpAnyH_take (i := 33) (oi := ⟨_, _, _, _, _, _⟩) (v := .bool true) rfl (by kernel_rfl) (by kernel_rfl) (by kernel_rfl) (fun _ _ _ h => h) (Or.inl ⟨by rfl, fun W3 hS => by go_simp⟩) hS0 ?_
         try simp only [Act.put, List.setIfInBounds_toArray, List.set_cons_zero, List.set_cons_succ]
         have HE6 := Lib.hid (then_below HB5.out hS0)
         clear hS0
         refine wpAnyH_done (by kernel_rfl) ?_ _
         go_wp2
         go_ret
         exact ⟨rfl, HE6.out⟩
end Go.Proofs.YtbndmpdaloadjaaGreat
