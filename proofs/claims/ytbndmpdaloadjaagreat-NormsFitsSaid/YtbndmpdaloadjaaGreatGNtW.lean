/- Norms: is all of a point whole that must be. -/
import Derived.Test.YtbndmpdaloadjaaGreatGNtF
set_option linter.unusedSimpArgs false
set_option linter.unusedVariables false
set_option maxHeartbeats 16000000
namespace Go.Proofs.YtbndmpdaloadjaaGreat
open Go Go.Proofs Go.RowKit Go.Shelf Nu
set_option linter.unusedVariables false
set_option linter.unusedSimpArgs false
set_option maxRecDepth 100000

attribute [local go_sem] Oper.semAt_some

theorem nwhole_any {w : World} {la ra ga oa : Option Addr} {ln lc rn rc gn gc on oc : Nat} {x : NV} (hL : GridR w (.slice la ln lc) x.rows) (hR : VReads w (.slice ra rn rc) x.right) (hG : VReads w (.slice ga gn gc) x.goal) (hO : BoolsR w (.slice oa on oc) x.whole) (hq : x.Fine) {pa : Option Addr} {pn pc : Nat} {p : List Qr} (hp : VReads w (.slice pa pn pc) p) (fp : qrows p) (R : Bool) (eR0 : R = nwh x p) :
  Calls Tryz.prog 20 #[.agg #[.slice la ln lc, .slice ra rn rc, .slice ga gn gc, .slice oa on oc], .slice pa pn pc] w fun e w' => e = .returned (.bool R) ∧ Below w.heap.size w w' := by
 have HX := Lib.hid (show BoxN (w.alloc (.cells #[.slice la ln lc, .slice ra rn rc, .slice ga gn gc, .slice oa on oc] 42)) w.heap.size 42 #[.slice la ln lc, .slice ra rn rc, .slice ga gn gc, .slice oa on oc] from BoxN.new w _ _)
 have HB := Lib.hid (show Below w.heap.size w (w.alloc (.cells #[.slice la ln lc, .slice ra rn rc, .slice ga gn gc, .slice oa on oc] 42)) from (Below.refl _ _).alloc (Nat.le_refl _) _)
 have EQ := Lib.hid (show ln = x.rows.length ∧ rn = x.right.length ∧ gn = x.goal.length ∧ on = x.whole.length from ⟨hL.addr.1, hR.addr.1, hG.addr.1, hO.addr.1⟩)
 obtain ⟨b1, b2, b3, b4⟩ : ln ≤ 1000 ∧ rn ≤ 65536 ∧ gn ≤ 65536 ∧ on ≤ 65536 := by
  have h := hq.lens
  rw [← EQ.out.1, ← EQ.out.2.1, ← EQ.out.2.2.1, ← EQ.out.2.2.2] at h
  exact h
 obtain ⟨-, -, hA⟩ := hO.addr
 have HA := Lib.hid hA
 have HP := Lib.hid hp
 have hpn : pn ≤ 65536 := by rw [hp.addr.1]; exact fp.2
 obtain ⟨R1, e1⟩ : ∃ R, R = nma x p := ⟨_, rfl⟩
 have k1 := Lib.hid (fun (W : World) (r : Below w.heap.size w W) => nmatch_any (hL.below r) (hR.below r) (hG.below r) (hO.below r) hq (hp.below r) fp R1 e1)
 have HF := Lib.hid fp
 have HPN := Lib.hid hp.addr.1
 have hR0 : R = (R1 && nwt x p) := by rw [eR0, e1]; rfl
 have HE1 := Lib.hid e1
 clear hL hR hG hO hq eR0 hA e1 hp fp
 cases R1 with
 | false =>
  obtain rfl : R = false := by simpa using hR0
  clear hR0 HA HP
  go_enter Tryz.func20, Tryz.ntmps20
  have z0 := HX.out.cell 0 _ rfl; have z1 := HX.out.cell 1 _ rfl; have z2 := HX.out.cell 2 _ rfl; have z3 := HX.out.cell 3 _ rfl
  go_wp2_with fail
  clear z0 z1 z2 z3
  refine (k1.out _ HB.out).mono ?_
  rintro e w1 ⟨rfl, rr⟩
  have HB1 := Lib.hid (then_below HB.out rr)
  clear rr k1
  go_wp2_with fail
  go_ret
  exact ⟨rfl, HB1.out⟩
 | true =>
 have HR2 := Lib.hid (show R = nwt x p by simpa using hR0)
 obtain ⟨hrl, hpl⟩ : on = gn ∧ pn = gn := by
  have h := nma_yes HE1.out.symm
  have e := EQ.out
  have e2 := HPN.out
  omega
 subst hrl
 subst hpl
 clear hR0 HE1
 go_enter Tryz.func20, Tryz.ntmps20
 have z0 := HX.out.cell 0 _ rfl; have z1 := HX.out.cell 1 _ rfl; have z2 := HX.out.cell 2 _ rfl; have z3 := HX.out.cell 3 _ rfl
 go_wp2_with fail
 clear z0 z1 z2 z3
 refine (k1.out _ HB.out).mono ?_
 rintro e w1 ⟨rfl, rr⟩
 have HX1 := Lib.hid (HX.out.under rr)
 have HB1 := Lib.hid (then_below HB.out rr)
 clear rr k1 HX
 have z0 := HX1.out.cell 0 _ rfl; have z1 := HX1.out.cell 1 _ rfl; have z2 := HX1.out.cell 2 _ rfl; have z3 := HX1.out.cell 3 _ rfl
 go_wp2_with fail
 clear z0 z1 z2 z3
 have k0 : ((0 : Nat) : Int) = 0 := rfl
 go_loopg [14] pn (fun g s wr => ∃ k : Nat, k + g = pn ∧ s = .int .i64 (k : Int) ∧ Hid (((x.whole.zip p).take k).all (fun z => !z.1 || decide ((qval z.2).den = 1)) = true) ∧ Hid (BoxN wr w.heap.size 42 #[.slice la ln lc, .slice ra rn rc, .slice ga pn gc, .slice oa pn oc]) ∧ Hid (Below w.heap.size w wr))
 case atStart => exact ⟨0, by omega, rfl, Lib.hid (by simp), HX1, HB1⟩
 case round =>
  clear HX1 HB1 k0 HB
  obtain ⟨k, hk, rfl, HS, HX2, HW⟩ := hrel
  by_cases hlt : k < pn
  · have n0 : (0 : Int) ≤ (k : Int) := by omega
    have l0 : (k : Int) < (pn : Int) := by omega
    have w0 : IntKind.i64.wrap ((k : Int) + 1) = ((k + 1 : Nat) : Int) := IntWalk.i64_in _ (by omega)
    obtain ⟨bb, off, rfl, hbl, hc⟩ := HA.out (by omega)
    obtain ⟨o, ho⟩ : ∃ o, x.whole[k]? = some o := ⟨_, List.getElem?_eq_getElem (by have := EQ.out; omega)⟩
    obtain ⟨y, hy⟩ : ∃ y, p[k]? = some y := ⟨_, List.getElem?_eq_getElem (by have := HPN.out; omega)⟩
    have hu2 := (HW.out.cell (p := ⟨bb, off + k * 1, none⟩) hbl).trans (hc k o ho)
    rw [Nat.mul_one] at hu2
    obtain ⟨bR, oR, hRa, hRc⟩ := HP.out.addr.2.2
    obtain ⟨rfl, hRl⟩ := hRa (by omega)
    have hyat := (hRc k y hy).below hRl HW.out
    have hfy := HF.out.1 y (List.mem_of_getElem? hy)
    have HZ := Lib.hid (zip_at ho hy)
    have HFY := Lib.hid hfy
    obtain ⟨s2, l2, d2⟩ := y
    obtain ⟨p2, q2, o2, r2, y0, y1, y2, gy, gy'⟩ := hyat
    dsimp only at y0 y1 y2 gy gy'
    obtain ⟨T, hT⟩ : ∃ T, T = decide ((qval (s2, l2, d2)).den = 1) := ⟨_, rfl⟩
    have kc := Lib.hid (r_whole (w := wr) T HFY.out.is hT.symm (by have := HFY.out.2.1; omega) (by have := HFY.out.2.2; omega) gy gy')
    have HT := Lib.hid hT
    clear hc ho hy hRa hRc hfy gy gy' HA hT HP
    cases o with
    | false =>
     have HS2 := Lib.hid (all_next HZ.out HS.out rfl)
     clear kc
     go_wp2_with fail
     go_roundg (pn - (k + 1))
     case measure => omega
     case rel => exact ⟨k + 1, by omega, by first | rfl | simp, HS2, HX2, HW⟩
    | true =>
     go_wp2_with fail
     refine kc.out.mono ?_
     rintro e w5 ⟨rfl, rr⟩
     have HX5 := Lib.hid (HX2.out.under rr)
     have HW5 := Lib.hid (then_below HW.out rr)
     clear rr kc HX2
     cases T with
     | false =>
      have h0 : R = false := by
       rw [HR2.out]; exact all_no HZ.out (by show (!true || decide ((qval (s2, l2, d2)).den = 1)) = false; rw [← HT.out]; rfl)
      subst h0
      go_wp2_with fail
      go_ret
      exact ⟨rfl, HW5.out⟩
     | true =>
      have HS2 := Lib.hid (all_next HZ.out HS.out (by show (!true || decide ((qval (s2, l2, d2)).den = 1)) = true; rw [← HT.out]; rfl))
      go_wp2_with fail
      go_roundg (pn - (k + 1))
      case measure => omega
      case rel => exact ⟨k + 1, by omega, by first | rfl | simp, HS2, HX5, HW5⟩
  · obtain rfl : k = pn := by omega
    have l0 : ¬ (k : Int) < (k : Int) := by omega
    have h0 : R = true := by rw [HR2.out]; exact all_end HS.out (by rw [List.length_zip]; have := EQ.out; omega)
    subst h0
    clear HA
    go_wp2
    go_ret
    exact ⟨rfl, HW.out⟩
end Go.Proofs.YtbndmpdaloadjaaGreat
