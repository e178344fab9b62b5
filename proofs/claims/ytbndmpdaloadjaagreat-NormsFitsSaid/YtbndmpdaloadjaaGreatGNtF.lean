/- Norms: does a point fit. -/
import Derived.Test.YtbndmpdaloadjaaGreatGNtP
import Derived.Test.YtbndmpdaloadjaaGreatGVecD
import Derived.Test.YtbndmpdaloadjaaGreatGRTv
set_option linter.unusedSimpArgs false
set_option linter.unusedVariables false
set_option maxHeartbeats 16000000
namespace Go.Proofs.YtbndmpdaloadjaaGreat
open Go Go.Proofs Go.RowKit Go.Shelf Nu
set_option linter.unusedVariables false
set_option linter.unusedSimpArgs false
set_option maxRecDepth 100000

attribute [local go_sem] Oper.semAt_some

/-- what a norm's rows say of a point; what must be whole -/
def nft (x : NV) (p : List Qr) : Bool := (x.rows.zip x.right).all fun z => !decide (0 < rsg (dot (z.1.map qval) (p.map qval)) (qval z.2))
def nwt (x : NV) (p : List Qr) : Bool := (x.whole.zip p).all fun z => !z.1 || decide ((qval z.2).den = 1)
def nfit (x : NV) (p : List Qr) : Bool := nma x p && nft x p
def nwh (x : NV) (p : List Qr) : Bool := nma x p && nwt x p
theorem zip_at {α β : Type} {a : List α} {b : List β} {k : Nat} {x : α} {y : β} (h1 : a[k]? = some x) (h2 : b[k]? = some y) : (a.zip b)[k]? = some (x, y) := by
 rw [List.getElem?_zip_eq_some]; exact ⟨h1, h2⟩
theorem nma_yes {x : NV} {p : List Qr} (h : nma x p = true) : p.length = x.goal.length ∧ x.goal.all qok = true ∧ x.right.all qok = true ∧ (∀ l ∈ x.rows, l.all qok = true ∧ l.length = x.goal.length) ∧ p.all qok = true ∧ x.right.length = x.rows.length ∧ x.whole.length = x.goal.length := by
 unfold nma nck shp at h
 simp only [Bool.and_eq_true, decide_eq_true_eq, List.all_eq_true] at h
 simp only [List.all_eq_true]
 obtain ⟨h1, ⟨⟨h2, h3, h4, h5, h6, h7⟩, h8, h9, h10⟩, h11⟩ := h
 exact ⟨h1, h8, h9, fun l hl => ⟨h10 l hl, h7 l hl⟩, h11, h6, h4⟩
theorem wt_dotN (xs ys : List Rat) : wt (dot xs ys) ≤ wts xs + wts ys + 1 := Nat.le_trans (wt_rsum _) (by have := wts_zmul xs ys; omega)
theorem nfits_any {w : World} {la ra ga oa : Option Addr} {ln lc rn rc gn gc on oc : Nat} {x : NV} (hL : GridR w (.slice la ln lc) x.rows) (hR : VReads w (.slice ra rn rc) x.right) (hG : VReads w (.slice ga gn gc) x.goal) (hO : BoolsR w (.slice oa on oc) x.whole) (hq : x.Fine) {pa : Option Addr} {pn pc : Nat} {p : List Qr} (hp : VReads w (.slice pa pn pc) p) (fp : qrows p) (hw : ∀ l ∈ x.rows, l.all qok = true → p.all qok = true → wts (l.map qval) + wts (p.map qval) ≤ 8000) (R : Bool) (eR0 : R = nfit x p) :
  Calls Tryz.prog 18 #[.agg #[.slice la ln lc, .slice ra rn rc, .slice ga gn gc, .slice oa on oc], .slice pa pn pc] w fun e w' => e = .returned (.bool R) ∧ Below w.heap.size w w' := by
 have HX := Lib.hid (show BoxN (w.alloc (.cells #[.slice la ln lc, .slice ra rn rc, .slice ga gn gc, .slice oa on oc] 42)) w.heap.size 42 #[.slice la ln lc, .slice ra rn rc, .slice ga gn gc, .slice oa on oc] from BoxN.new w _ _)
 have HB := Lib.hid (show Below w.heap.size w (w.alloc (.cells #[.slice la ln lc, .slice ra rn rc, .slice ga gn gc, .slice oa on oc] 42)) from (Below.refl _ _).alloc (Nat.le_refl _) _)
 have EQ := Lib.hid (show ln = x.rows.length ∧ rn = x.right.length ∧ gn = x.goal.length ∧ on = x.whole.length from ⟨hL.addr.1, hR.addr.1, hG.addr.1, hO.addr.1⟩)
 obtain ⟨b1, b2, b3, b4⟩ : ln ≤ 1000 ∧ rn ≤ 65536 ∧ gn ≤ 65536 ∧ on ≤ 65536 := by
  have h := hq.lens
  rw [← EQ.out.1, ← EQ.out.2.1, ← EQ.out.2.2.1, ← EQ.out.2.2.2] at h
  exact h
 obtain ⟨-, -, hA⟩ := hL.addr
 have HA := Lib.hid hA
 have HP := Lib.hid hp
 have HG := Lib.hid hR
 have hpn : pn ≤ 65536 := by rw [hp.addr.1]; exact fp.2
 obtain ⟨R1, e1⟩ : ∃ R, R = nma x p := ⟨_, rfl⟩
 have k1 := Lib.hid (fun (W : World) (r : Below w.heap.size w W) => nmatch_any (hL.below r) (hR.below r) (hG.below r) (hO.below r) hq (hp.below r) fp R1 e1)
 have HQ := Lib.hid hq
 have HF := Lib.hid fp
 have HW8 := Lib.hid hw
 have HPN := Lib.hid hp.addr.1
 have hR0 : R = (R1 && nft x p) := by rw [eR0, e1]; rfl
 have HE1 := Lib.hid e1
 clear hL hR hG hO hq eR0 hA e1 hp fp hw
 cases R1 with
 | false =>
  obtain rfl : R = false := by simpa using hR0
  clear hR0 HA HP HG
  go_enter Tryz.func18, Tryz.ntmps18
  have z0 := HX.out.cell 0 _ rfl; have z1 := HX.out.cell 1 _ rfl; have z2 := HX.out.cell 2 _ rfl; have z3 := HX.out.cell 3 _ rfl
  go_wp2_with fail
  clear z0 z1 z2 z3
  refine (k1.out _ HB.out).mono ?_
  rintro e w1 ⟨rfl, rr⟩
  have HB1 := Lib.hid (then_below HB.out rr)
  clear rr k1
  go_wp2_with fail
  go_ret
  exact ⟨rfl, HB1.out⟩
 | true =>
 have HR2 := Lib.hid (show R = nft x p by simpa using hR0)
 obtain ⟨hrl, hpl⟩ : rn = ln ∧ pn = gn := by
  have h := nma_yes HE1.out.symm
  have e := EQ.out
  have e2 := HPN.out
  omega
 have HM := Lib.hid (nma_yes HE1.out.symm)
 subst hrl
 subst hpl
 clear hR0 HE1
 go_enter Tryz.func18, Tryz.ntmps18
 have z0 := HX.out.cell 0 _ rfl; have z1 := HX.out.cell 1 _ rfl; have z2 := HX.out.cell 2 _ rfl; have z3 := HX.out.cell 3 _ rfl
 go_wp2_with fail
 clear z0 z1 z2 z3
 refine (k1.out _ HB.out).mono ?_
 rintro e w1 ⟨rfl, rr⟩
 have HX1 := Lib.hid (HX.out.under rr)
 have HB1 := Lib.hid (then_below HB.out rr)
 clear rr k1 HX
 have z0 := HX1.out.cell 0 _ rfl; have z1 := HX1.out.cell 1 _ rfl; have z2 := HX1.out.cell 2 _ rfl; have z3 := HX1.out.cell 3 _ rfl
 go_wp2_with fail
 clear z0 z1 z2 z3
 have k0 : ((0 : Nat) : Int) = 0 := rfl
 go_loopg [16] rn (fun g s wr => ∃ k : Nat, k + g = rn ∧ s = .int .i64 (k : Int) ∧ Hid (((x.rows.zip x.right).take k).all (fun z => !decide (0 < rsg (dot (z.1.map qval) (p.map qval)) (qval z.2))) = true) ∧ Hid (BoxN wr w.heap.size 42 #[.slice la rn lc, .slice ra rn rc, .slice ga pn gc, .slice oa on oc]) ∧ Hid (Below w.heap.size w wr))
 case atStart => exact ⟨0, by omega, rfl, Lib.hid (by simp), HX1, HB1⟩
 case round =>
  clear HX1 HB1 k0 HB
  obtain ⟨k, hk, rfl, HS, HX2, HW⟩ := hrel
  have hbx : w.heap.size < wr.heap.size := HX2.out.lt
  by_cases hlt : k < rn
  · have n0 : (0 : Int) ≤ (k : Int) := by omega
    have l0 : (k : Int) < (rn : Int) := by omega
    have w0 : IntKind.i64.wrap ((k : Int) + 1) = ((k + 1 : Nat) : Int) := IntWalk.i64_in _ (by omega)
    obtain ⟨bb, off, rfl, hbl, hc⟩ := HA.out (by omega)
    obtain ⟨qs, hqs⟩ : ∃ qs, x.rows[k]? = some qs := ⟨_, List.getElem?_eq_getElem (by have := EQ.out; omega)⟩
    obtain ⟨y, hy⟩ : ∃ y, x.right[k]? = some y := ⟨_, List.getElem?_eq_getElem (by have := EQ.out; omega)⟩
    obtain ⟨u, hu, hv⟩ := hc k qs hqs
    have hu2 := (HW.out.cell (p := ⟨bb, off + k * 1, none⟩) hbl).trans hu
    rw [Nat.mul_one] at hu2
    have hv2 := hv.below HW.out
    obtain ⟨a2, c2, rfl⟩ := hv.form
    have hqm := List.mem_of_getElem? hqs
    have hm := HM.out.2.2.2.1 qs hqm
    have hml : qs.length = pn := by rw [hm.2, ← EQ.out.2.2.1]
    rw [hml] at hu2 hv2
    have hfx := fits_eq (HQ.out.1.2 qs hqm).1 hm.1
    have hfp := fits_eq HF.out.1 HM.out.2.2.2.2.1
    rw [hfx] at hv2
    have hp2 := HP.out.below HW.out
    rw [hfp] at hp2
    have hw8 := HW8.out qs hqm hm.1 HM.out.2.2.2.2.1
    have kd := Lib.hid (v_dot hv2 hp2 (by omega))
    have hwd := wt_dotN (qs.map qval) (p.map qval)
    have hfd := fit_qr (X := dot (qs.map qval) (p.map qval)) (by omega)
    obtain ⟨bR, oR, hRa, hRc⟩ := HG.out.addr.2.2
    obtain ⟨rfl, hRl⟩ := hRa (by omega)
    have hyat := (hRc k y hy).below hRl HW.out
    have hfy := HQ.out.2.1.1 y (List.mem_of_getElem? hy)
    have hRr : bR < wr.heap.size := Nat.lt_of_lt_of_le hRl HW.out.size
    have HZ := Lib.hid (zip_at hqs hy)
    obtain ⟨D, hD⟩ : ∃ D, D = dot (qs.map qval) (p.map qval) := ⟨_, rfl⟩
    rw [← hD] at kd hfd
    have HD := Lib.hid hD
    have HFD := Lib.hid hfd
    have HID := Lib.hid (qr_can D).is
    have HFY := Lib.hid hfy
    obtain ⟨s2, l2, d2⟩ := y
    obtain ⟨p2, q2, o2, r2, y0, y1, y2, gy, gy'⟩ := hyat
    dsimp only at y0 y1 y2 gy gy'
    have GY := Lib.hid gy
    have GY' := Lib.hid gy'
    clear hu hv hv2 hqs hy hc HA hm hml hfx hfp hw8 hwd hfd hRa hRc hfy hD hp2 gy gy' hqm HP HG HM
    go_wp2_with fail
    refine kd.out.mono ?_
    rintro e w5 ⟨a, c, a', c', rfl, g, g', rr⟩
    generalize qr D = q at *
    obtain ⟨s1, l1, d1⟩ := q
    dsimp only at g g' ⊢
    have HW5 := Lib.hid (then_below HW.out rr)
    have al := Lib.hid ((Below.refl w5.heap.size w5).alloc (Nat.le_refl _) (.cells #[.bool s1, .slice a l1.length c, .slice a' d1.length c'] 32))
    have HX5 := Lib.hid ((HX2.out.under rr).alloc (.cells #[.bool s1, .slice a l1.length c, .slice a' d1.length c'] 32))
    have ND := Lib.hid (BoxN.new w5 32 #[.bool s1, .slice a l1.length c, .slice a' d1.length c'])
    have HYC := Lib.hid (show w5.cell? ⟨bR, oR + k * 3, none⟩ = some (.bool s2) ∧ w5.cell? ⟨bR, oR + k * 3 + 1, none⟩ = some (.slice p2 l2.length q2) ∧ w5.cell? ⟨bR, oR + k * 3 + 2, none⟩ = some (.slice o2 d2.length r2) from ⟨(rr.cell (p := ⟨bR, oR + k * 3, none⟩) hRr).trans y0, (rr.cell (p := ⟨bR, oR + k * 3 + 1, none⟩) hRr).trans y1, (rr.cell (p := ⟨bR, oR + k * 3 + 2, none⟩) hRr).trans y2⟩)
    have hR5 : bR < w5.heap.size := Nat.lt_of_lt_of_le hRr rr.size
    have hb5 : w.heap.size < w5.heap.size := Nat.lt_of_lt_of_le hbx rr.size
    obtain ⟨z, hz⟩ : ∃ z, z = rsg D (qval (s2, l2, d2)) := ⟨_, rfl⟩
    have HZZ := Lib.hid hz
    have kc := Lib.hid (fun (V : World) (r : Below w5.heap.size w5 V) => r_cmp (w := V) (p1 := a) (o1 := a') (q1 := c) (r1 := c') (p2 := p2) (o2 := o2) (q2 := q2) (r2 := r2) z hz.symm HID.out HFY.out.is HFD.out.2.1 HFD.out.2.2 HFY.out.2.1 HFY.out.2.2 (g.below r) (g'.below r) ((GY.out.below rr).below r) ((GY'.out.below rr).below r))
    have hz4 : -1 ≤ z ∧ z ≤ 1 := by
      rw [hz]; unfold rsg
      split
      · omega
      · split <;> omega
    clear g g' rr y0 y1 y2 kd hz HX2 GY GY'
    go_wp2_with fail
    refine region_bl (S := fun W => Below (w5.alloc (.cells #[.bool s1, .slice a l1.length c, .slice a' d1.length c'] 32)).heap.size (w5.alloc (.cells #[.bool s1, .slice a l1.length c, .slice a' d1.length c'] 32)) W) (by kernel_rfl) ?_
    intro V0 hS0
    refine wpAnyH_take (i := 0) (oi := ⟨_, _, _, _, _, _⟩) (v := .agg #[.bool s1, .slice a l1.length c, .slice a' d1.length c']) rfl (by kernel_rfl) (by kernel_rfl) (by kernel_rfl) (fun _ _ _ h => h) (Or.inl ⟨by rfl, fun W3 hS => by have c0 := (hS.cell (p := ⟨w5.heap.size, 0, none⟩) (by simp)).trans (ND.out.cell 0 _ rfl); have c1 := (hS.cell (p := ⟨w5.heap.size, 1, none⟩) (by simp)).trans (ND.out.cell 1 _ rfl); have c2 := (hS.cell (p := ⟨w5.heap.size, 2, none⟩) (by simp)).trans (ND.out.cell 2 _ rfl); go_simp⟩) hS0 ?_
    try simp only [Act.put, List.setIfInBounds_toArray, List.set_cons_zero, List.set_cons_succ]
    refine wpAnyH_take (i := 1) (oi := ⟨_, _, _, _, _, _⟩) (v := .pointer (some ⟨w.heap.size, 1, none⟩)) rfl (by kernel_rfl) (by kernel_rfl) (by kernel_rfl) (fun _ _ _ h => h) (Or.inl ⟨by rfl, fun W3 hS => by go_simp⟩) hS0 ?_
    try simp only [Act.put, List.setIfInBounds_toArray, List.set_cons_zero, List.set_cons_succ]
    refine wpAnyH_take (i := 2) (oi := ⟨_, _, _, _, _, _⟩) (v := .slice (some ⟨bR, oR, none⟩) rn rc) rfl (by kernel_rfl) (by kernel_rfl) (by kernel_rfl) (fun _ _ _ h => h) (Or.inl ⟨by rfl, fun W3 hS => by have c0 := (hS.cell (p := ⟨w.heap.size, 1, none⟩) (Nat.lt_of_lt_of_le hb5 (by simp))).trans (HX5.out.cell 1 _ rfl); go_simp⟩) hS0 ?_
    try simp only [Act.put, List.setIfInBounds_toArray, List.set_cons_zero, List.set_cons_succ]
    refine wpAnyH_take (i := 3) (oi := ⟨_, _, _, _, _, _⟩) (v := .int .i64 (k : Int)) rfl (by kernel_rfl) (by kernel_rfl) (by kernel_rfl) (fun _ _ _ h => h) (Or.inl ⟨by rfl, fun W3 hS => by go_simp⟩) hS0 ?_
    try simp only [Act.put, List.setIfInBounds_toArray, List.set_cons_zero, List.set_cons_succ]
    refine wpAnyH_take (i := 4) (oi := ⟨_, _, _, _, _, _⟩) (v := .pointer (some ⟨bR, oR + k * 3, none⟩)) rfl (by kernel_rfl) (by kernel_rfl) (by kernel_rfl) (fun _ _ _ h => h) (Or.inl ⟨by rfl, fun W3 hS => by go_simp⟩) hS0 ?_
    try simp only [Act.put, List.setIfInBounds_toArray, List.set_cons_zero, List.set_cons_succ]
    refine wpAnyH_take (i := 5) (oi := ⟨_, _, _, _, _, _⟩) (v := .agg #[.bool s2, .slice p2 l2.length q2, .slice o2 d2.length r2]) rfl (by kernel_rfl) (by kernel_rfl) (by kernel_rfl) (fun _ _ _ h => h) (Or.inl ⟨by rfl, fun W3 hS => by have c0 := (hS.cell (p := ⟨bR, oR + k * 3, none⟩) (Nat.lt_of_lt_of_le hR5 (by simp))).trans ((al.out.cell (p := ⟨bR, oR + k * 3, none⟩) hR5).trans HYC.out.1); have c1 := (hS.cell (p := ⟨bR, oR + k * 3 + 1, none⟩) (Nat.lt_of_lt_of_le hR5 (by simp))).trans ((al.out.cell (p := ⟨bR, oR + k * 3 + 1, none⟩) hR5).trans HYC.out.2.1); have c2 := (hS.cell (p := ⟨bR, oR + k * 3 + 2, none⟩) (Nat.lt_of_lt_of_le hR5 (by simp))).trans ((al.out.cell (p := ⟨bR, oR + k * 3 + 2, none⟩) hR5).trans HYC.out.2.2); go_simp⟩) hS0 ?_
    try simp only [Act.put, List.setIfInBounds_toArray, List.set_cons_zero, List.set_cons_succ]
    have HV0 := Lib.hid hS0
    clear hS0
    refine wpAnyH_all (rs := [6]) (by kernel_rfl) (by simp) ?_
    intro i hi
    obtain rfl : i = 6 := by simpa using hi
    refine wpOp_intro rfl (fun K1 hK => ?_)
    clear hi
    go_simp
    refine (kc.out _ (then_below al.out HV0.out)).mono ?_
    rintro e V1 ⟨rfl, rr⟩
    have hS1 := then_below HV0.out rr
    clear rr
    refine hK _ _ ⟨hS1, ?_⟩
    clear hK K1
    clear HV0 kc
    have HWV := Lib.hid (then_below HW5.out (then_below al.out hS1))
    have HXV := Lib.hid (HX5.out.under hS1)
    by_cases hz0 : (0 : Int) < z
    · have hz3 : decide ((0 : Int) < z) = true := decide_eq_true hz0
      have hS0 := hS1
      refine wpAnyH_take (i := 7) (oi := ⟨_, _, _, _, _, _⟩) (v := .bool true) rfl (by kernel_rfl) (by kernel_rfl) (by kernel_rfl) (fun _ _ _ h => h) (Or.inl ⟨by rfl, fun W3 hS => by go_simp⟩) hS0 ?_
      try simp only [Act.put, List.setIfInBounds_toArray, List.set_cons_zero, List.set_cons_succ]
      clear hS0
      refine wpAnyH_done (by kernel_rfl) ?_ _
      have h0 : R = false := by
        rw [HR2.out]; exact all_no HZ.out (by rw [← HD.out]; show (!decide (0 < rsg D (qval (s2, l2, d2)))) = false; rw [← HZZ.out, hz3]; rfl)
      subst h0
      clear hS1 hz0 hz3
      go_wp2
      go_ret
      exact ⟨rfl, HWV.out⟩
    · have hz3 : decide ((0 : Int) < z) = false := decide_eq_false hz0
      have hS0 := hS1
      refine wpAnyH_take (i := 7) (oi := ⟨_, _, _, _, _, _⟩) (v := .bool false) rfl (by kernel_rfl) (by kernel_rfl) (by kernel_rfl) (fun _ _ _ h => h) (Or.inl ⟨by rfl, fun W3 hS => by go_simp⟩) hS0 ?_
      try simp only [Act.put, List.setIfInBounds_toArray, List.set_cons_zero, List.set_cons_succ]
      clear hS0
      refine wpAnyH_done (by kernel_rfl) ?_ _
      have HS2 := Lib.hid (all_next HZ.out HS.out (by rw [← HD.out]; show (!decide (0 < rsg D (qval (s2, l2, d2)))) = true; rw [← HZZ.out, hz3]; rfl))
      clear hS1 hz0 hz3
      go_wp2
      go_roundg (rn - (k + 1))
      case measure => omega
      case rel => exact ⟨k + 1, by omega, by first | rfl | simp, HS2, HXV, HWV⟩
  · obtain rfl : k = rn := by omega
    have l0 : ¬ (k : Int) < (k : Int) := by omega
    have h0 : R = true := by rw [HR2.out]; exact all_end HS.out (by rw [List.length_zip]; have := EQ.out; omega)
    subst h0
    go_wp2
    go_ret
    exact ⟨rfl, HW.out⟩
end Go.Proofs.YtbndmpdaloadjaaGreat
