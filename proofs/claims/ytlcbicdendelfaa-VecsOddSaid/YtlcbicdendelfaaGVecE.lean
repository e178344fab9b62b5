/- Rows of fractions: so many times; noughts. -/
import Derived.Test.YtlcbicdendelfaaGVecD
namespace Go.Proofs.Ytlcbicdendelfaa
open Go Go.Proofs Go.RowKit Go.Shelf Nu

attribute [local go_sem] Oper.semAt_some

theorem scl_at {t : Rat} {qs : List Qr} {j : Nat} (h : j < qs.length) : (scl t (qs.map qval)).getD j 0 = qval (qs.getD j default) * t := by
  simp [scl, List.getD_eq_getElem?_getD, List.getElem?_eq_getElem h]
theorem zeros_at {n j : Nat} (h : j < n) : (zeros n).getD j 0 = 0 := by
  simp [zeros, List.getD_eq_getElem?_getD, h]

set_option maxRecDepth 100000 in
set_option maxHeartbeats 4000000 in
theorem v_scale_own {w : World} {a : Option Addr} {n cap : Nat} {qs : List Qr} {T : Rat} {b : Bool} {l d : List Nat} {pb ob : Option Addr} {qb rb : Nat} (h : VReads w (.slice a n cap) qs) (hq : qrows qs) (hT : RIs b l d T) (b1 : l.length ≤ 9999) (b2 : d.length ≤ 9999) (g5 : Reads w (.slice pb l.length qb) l) (g6 : Reads w (.slice ob d.length rb) d) :
    Calls Try.prog 20 #[.slice a n cap, .agg #[.bool b, .slice pb l.length qb, .slice ob d.length rb]] w fun e w' => ∃ v zs, e = .returned v ∧ VF w' (w.heap.size + 1) v zs ∧ zs.map (·.1) = (scl T (qs.map qval)).map qr ∧ Below w.heap.size w w' := by
  obtain ⟨i0, hi, hz0, hz1, hz2⟩ := info_parts info_rat
  obtain ⟨hn, hcap, bb, off, ha, hc⟩ := h.addr
  have hn1 : n ≤ 65536 := hn ▸ hq.2
  have hzl : (scl T (qs.map qval)).length = n := by simp [scl, hn]
  have hk : ∀ (j : Nat) (_ : j < n) (W : World) (p o : Option Addr) (c e : Nat) (_ : Reads W (.slice p (qs.getD j default).2.1.length c) (qs.getD j default).2.1) (_ : Reads W (.slice o (qs.getD j default).2.2.length e) (qs.getD j default).2.2) (_ : Below w.heap.size w W),
      Calls Try.prog 46 #[.agg #[.bool (qs.getD j default).1, .slice p (qs.getD j default).2.1.length c, .slice o (qs.getD j default).2.2.length e], .agg #[.bool b, .slice pb l.length qb, .slice ob d.length rb]] W (RAns W ((scl T (qs.map qval)).getD j 0)) := by
    intro j hj W p o c e g1 g2 r
    have hm := qs_mem (qs := qs) (j := j) (by omega)
    rw [scl_at (by omega)]
    have hf := hq.1 _ hm
    exact r_mul hf.is hT (qr_can _) rfl hf.2.1 hf.2.2 b1 b2 g1 g2 (g5.below r) (g6.below r)
  have HK := Lib.hid hk
  have HN := Lib.hid hn
  have HC := Lib.hid hc
  have HA := Lib.hid ha
  have HZ := Lib.hid hzl
  generalize scl T (qs.map qval) = zs at *
  clear h hq hT b1 b2 g5 g6 hn hc ha hzl hk
  go_enter Try.func20, Try.ntmps20
  go_wp2_with ((at_make; go_loud (refine wpList_make_rat hi hz0 hz1 hz2 _ rfl _ _ rfl (w.heap.size + 1) .i64 .i64 n rfl rfl (by omega) (by simp) ?_); intro w1 hV1 hgrow1))
  have hbel1 : Below w.heap.size w w1 := ((Below.refl _ _).alloc (Nat.le_refl _) _).grown hgrow1 (by simp) (fun _ e => by cases e)
  have hbx : BoxN w1 w.heap.size 43 #[.bool b, .slice pb l.length qb, .slice ob d.length rb] := (hgrow1.block _ (by simp) (by simp)).trans (BoxN.new w _ _)
  simp only [World.size_alloc] at hV1
  have HB1 := Lib.hid hbel1
  have HX1 := Lib.hid hbx
  have HV1 := Lib.hid hV1
  clear hbel1 hbx hV1 hgrow1
  go_loopw [5, 13] (fun v i wr => ∃ (k : Nat) (ys : List Zr) (av : Option Addr) (cv : Nat), k ≤ n ∧ i = .int .i64 k ∧ v = .slice av k cv ∧ Hid (ys.map (·.1) = (zs.take k).map qr) ∧ Hid (VF wr (w.heap.size + 1) (.slice av k cv) ys) ∧ Hid (BoxN wr w.heap.size 43 #[.bool b, .slice pb l.length qb, .slice ob d.length rb]) ∧ Hid (Below w.heap.size w wr)) (fun _ i _ => n - (intOf i).toNat)
  case atStart => exact ⟨0, [], _, _, Nat.zero_le _, rfl, rfl, Lib.hid rfl, HV1, HX1, HB1⟩
  case round =>
    obtain ⟨k, ys, av, cv, hk, rfl, rfl, HM, HV, HX, HB⟩ := hrel
    by_cases hlt : k < n
    · obtain ⟨rfl, hbl⟩ := HA.out (by omega)
      have hk2 : k < qs.length := by have := HN.out; omega
      have hqat := (HC.out k _ (qs_at hk2)).below hbl HB.out
      have hcall := HK.out k hlt
      obtain ⟨X, hX⟩ : ∃ X, X = zs.getD k 0 := ⟨_, rfl⟩
      rw [← hX] at hcall
      have HXX := Lib.hid hX
      unfold RAns at hcall
      generalize qs.getD k default = q at *
      obtain ⟨s, l1, d1⟩ := q
      obtain ⟨p, c, p', c', h0, h1, h2, g1, g2⟩ := hqat
      dsimp only at h0 h1 h2 g1 g2 hcall
      have hyl : ys.length = k := by
        have := congrArg List.length HM.out
        simp only [List.length_map, List.length_take] at this
        have := HZ.out; omega
      have HYL := Lib.hid hyl
      have x0 := HX.out.cell 0 _ rfl
      have x1 := HX.out.cell 1 _ rfl
      have x2 := HX.out.cell 2 _ rfl
      have hwl := HX.out.lt
      have G1 := Lib.hid g1
      have G2 := Lib.hid g2
      clear g1 g2 hk2 hX hyl HA HC HK
      go_wp2_with fail
      have al : Below wr.heap.size wr (wr.alloc (.cells #[.bool s, .slice p l1.length c, .slice p' d1.length c'] 43)) := (Below.refl _ _).alloc (Nat.le_refl _) _
      refine (hcall _ _ _ _ _ (G1.out.below al) (G2.out.below al) (then_below HB.out al)).mono ?_
      rintro e w2 ⟨a3, c3, o3, r3, rfl, g, g', rr⟩
      have rb := then_below al rr
      have HB2 := Lib.hid (then_below HB.out rb)
      have HX2 := Lib.hid (HX.out.under rb)
      have HV2 := Lib.hid (HV.out.below rb)
      clear al rr rb hcall h0 h1 h2 x0 x1 x2 HB HX HV G1 G2
      have hs2 : w.heap.size + 1 ≤ w2.heap.size := HX2.out.lt
      go_wp2_with ((at_builtin; go_loud (refine wpList_append_rat hi hz0 hz1 hz2 w2 rfl _ _ rfl (w.heap.size + 1) (.slice av k cv) ys (qr X, (a3, c3), (o3, r3)) rfl rfl HV2.out ⟨g, g'⟩ hs2 (by have := HYL.out; omega) ?_); intro v' w3 hV3 hgrow; have hap := rat_append HV2.out hs2 hgrow; have hx3 := grown_off (HX2.out.alloc _) hgrow (fun e => by have := (HV2.out.lt e).1; omega); obtain ⟨av', cv', ev'⟩ := hV3.form; rw [List.length_append, List.length_singleton, HYL.out] at ev'; subst ev'; have HV3 := Lib.hid hV3; have HX3 := Lib.hid hx3; have HB3 := Lib.hid (HB2.out.trans (hap.2.1.mono (Nat.le_succ _))); clear hV3 hx3 hap hgrow HV2 HX2 HB2))
      go_roundw
      case rel => exact ⟨k + 1, ys ++ [(qr X, (a3, c3), (o3, r3))], av', cv', by omega, by simp, rfl, Lib.hid (take_qr (by have := HZ.out; omega) HM.out (by rw [HXX.out])), HV3, HX3, HB3⟩
      case measure => simp [intOf]; omega
    · obtain rfl : k = n := by omega
      clear HA HC HK
      go_wp2
      go_ret
      have hm := HM.out
      rw [List.take_of_length_le (by have := HZ.out; omega)] at hm
      exact ⟨_, _, rfl, HV.out, hm, HB.out⟩
theorem v_scale {w : World} {a : Option Addr} {n cap : Nat} {qs : List Qr} {T : Rat} {b : Bool} {l d : List Nat} {pb ob : Option Addr} {qb rb : Nat} (h : VReads w (.slice a n cap) qs) (hq : qrows qs) (hT : RIs b l d T) (b1 : l.length ≤ 9999) (b2 : d.length ≤ 9999) (g5 : Reads w (.slice pb l.length qb) l) (g6 : Reads w (.slice ob d.length rb) d) :
    Calls Try.prog 20 #[.slice a n cap, .agg #[.bool b, .slice pb l.length qb, .slice ob d.length rb]] w fun e w' => ∃ v, e = .returned v ∧ VFresh w' w.heap.size v ((scl T (qs.map qval)).map qr) ∧ Below w.heap.size w w' :=
  (v_scale_own h hq hT b1 b2 g5 g6).mono fun e w' k => by
    obtain ⟨v, zs, e1, h1, h2, h3⟩ := k
    have h4 := h1.fresh.mono (Nat.le_succ w.heap.size)
    rw [h2] at h4
    exact ⟨v, e1, h4, h3⟩

set_option maxRecDepth 100000 in
set_option maxHeartbeats 4000000 in
theorem v_zero {w : World} (n : Nat) (hn : n ≤ 65536) :
    Calls Try.prog 24 #[.int .i64 n] w fun e w' => ∃ v, e = .returned v ∧ VFresh w' w.heap.size v ((zeros n).map qr) ∧ Below w.heap.size w w' := by
  obtain ⟨i0, hi, hz0, hz1, hz2⟩ := info_parts info_rat
  have k0 := fun (W : World) => r_of (w := W) (s := (qr 0).1) (L := (qr 0).2.1) (D := (qr 0).2.2) 0 (qr_can 0) (by omega) (by omega)
  have hzl : (zeros n).length = n := zeros_length n
  have hza : ∀ j, j < n → (zeros n).getD j 0 = 0 := fun j hj => zeros_at hj
  have HZ := Lib.hid hzl
  have HZA := Lib.hid hza
  generalize zeros n = zs at *
  clear hzl hza
  go_enter Try.func24, Try.ntmps24
  go_wp2_with ((at_make; go_loud (refine wpList_make_rat hi hz0 hz1 hz2 _ rfl _ _ rfl w.heap.size .i64 .i64 n rfl rfl (by omega) (by simp) ?_); intro w1 hV1 hgrow1))
  have hbel1 : Below w.heap.size w w1 := (Below.refl _ _).grown hgrow1 (Nat.le_refl _) (fun _ e => by cases e)
  have HB1 := Lib.hid hbel1
  have HV1 := Lib.hid hV1
  clear hbel1 hV1 hgrow1
  go_loopw [3, 13] (fun v i wr => ∃ (k : Nat) (ys : List Zr) (av : Option Addr) (cv : Nat), k ≤ n ∧ i = .int .i64 k ∧ v = .slice av k cv ∧ Hid (ys.map (·.1) = (zs.take k).map qr) ∧ Hid (VF wr w.heap.size (.slice av k cv) ys) ∧ Hid (Below w.heap.size w wr)) (fun _ i _ => n - (intOf i).toNat)
  case atStart => exact ⟨0, [], _, _, Nat.zero_le _, rfl, rfl, Lib.hid rfl, HV1, HB1⟩
  case round =>
    obtain ⟨k, ys, av, cv, hk, rfl, rfl, HM, HV, HB⟩ := hrel
    by_cases hlt : k < n
    · have hyl : ys.length = k := by
        have := congrArg List.length HM.out
        simp only [List.length_map, List.length_take] at this
        have := HZ.out; omega
      have HYL := Lib.hid hyl
      have HXX := Lib.hid (HZA.out k hlt)
      clear hyl
      go_wp2_with fail
      refine (k0 _).mono ?_
      rintro e w2 ⟨a3, c3, o3, r3, rfl, g, g', rr⟩
      have HB2 := Lib.hid (then_below HB.out rr)
      have HV2 := Lib.hid (HV.out.below rr)
      clear rr HB HV
      have hs2 : w.heap.size ≤ w2.heap.size := HB2.out.size
      go_wp2_with ((at_builtin; go_loud (refine wpList_append_rat hi hz0 hz1 hz2 w2 rfl _ _ rfl w.heap.size (.slice av k cv) ys (qr 0, (a3, c3), (o3, r3)) rfl rfl HV2.out ⟨g, g'⟩ hs2 (by have := HYL.out; omega) ?_); intro v' w3 hV3 hgrow; have hap := rat_append HV2.out hs2 hgrow; obtain ⟨av', cv', ev'⟩ := hV3.form; rw [List.length_append, List.length_singleton, HYL.out] at ev'; subst ev'; have HV3 := Lib.hid hV3; have HB3 := Lib.hid (HB2.out.trans hap.2.1); clear hV3 hap hgrow HV2 HB2))
      go_roundw
      case rel => exact ⟨k + 1, ys ++ [(qr 0, (a3, c3), (o3, r3))], av', cv', by omega, by simp, rfl, Lib.hid (take_qr (by have := HZ.out; omega) HM.out (by rw [HXX.out])), HV3, HB3⟩
      case measure => simp [intOf]; omega
    · obtain rfl : k = n := by omega
      clear HZA
      go_wp2
      go_ret
      have hm := HM.out
      rw [List.take_of_length_le (by have := HZ.out; omega)] at hm
      have hv := HV.out.fresh
      rw [hm] at hv
      exact ⟨_, rfl, hv, HB.out⟩
end Go.Proofs.Ytlcbicdendelfaa
