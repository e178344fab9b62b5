/- The document's answer for norms: may one be, does a point match. -/
import Derived.Test.YtbndmpdaloadjaaGreatGNtQ
set_option linter.unusedSimpArgs false
set_option linter.unusedVariables false
set_option maxHeartbeats 16000000
namespace Go.Proofs.YtbndmpdaloadjaaGreat
open Go Go.Proofs Go.RowKit Go.Shelf Nu
set_option linter.unusedVariables false
set_option linter.unusedSimpArgs false
set_option maxRecDepth 100000

attribute [local go_sem] Oper.semAt_some

theorem all_both {α : Type} {f g : α → Bool} (l : List α) : (l.all fun x => f x && g x) = (l.all f && l.all g) := by
 induction l with
 | nil => rfl
 | cons x t ih =>
  simp only [List.all_cons, ih]
  cases f x <;> cases g x <;> cases t.all f <;> cases t.all g <;> rfl
theorem rn_check {w : World} {la ra ga oa : Option Addr} {ln lc rn rc gn gc on oc : Nat} {x : NV} (hL : GridR w (.slice la ln lc) x.rows) (hR : VReads w (.slice ra rn rc) x.right) (hG : VReads w (.slice ga gn gc) x.goal) (hO : BoolsR w (.slice oa on oc) x.whole) (hq : x.Fine) (R : Bool) (eR0 : R = nck x) :
   Calls Tryz.prog 17 #[.agg #[.slice la ln lc, .slice ra rn rc, .slice ga gn gc, .slice oa on oc]] w fun e w' => e = .returned (.bool R) ∧ Below w.heap.size w w' := by
 have HX := Lib.hid (show BoxN (w.alloc (.cells #[.slice la ln lc, .slice ra rn rc, .slice ga gn gc, .slice oa on oc] 42)) w.heap.size 42 #[.slice la ln lc, .slice ra rn rc, .slice ga gn gc, .slice oa on oc] from BoxN.new w _ _)
 have HB := Lib.hid (show Below w.heap.size w (w.alloc (.cells #[.slice la ln lc, .slice ra rn rc, .slice ga gn gc, .slice oa on oc] 42)) from (Below.refl _ _).alloc (Nat.le_refl _) _)
 have EQ := Lib.hid (show ln = x.rows.length ∧ rn = x.right.length ∧ gn = x.goal.length ∧ on = x.whole.length from ⟨hL.addr.1, hR.addr.1, hG.addr.1, hO.addr.1⟩)
 obtain ⟨b1, b2, b3, b4⟩ : ln ≤ 1000 ∧ rn ≤ 65536 ∧ gn ≤ 65536 ∧ on ≤ 65536 := by
   have h := hq.lens
   rw [← EQ.out.1, ← EQ.out.2.1, ← EQ.out.2.2.1, ← EQ.out.2.2.2] at h
   exact h
 obtain ⟨-, -, hA⟩ := hL.addr
 have HA := Lib.hid hA
 have HR := Lib.hid eR0
 have HL := Lib.hid (show ln = x.rows.length ∧ gn = x.goal.length from ⟨EQ.out.1, EQ.out.2.2.1⟩)
 have HRO := Lib.hid hq.1.2
 obtain ⟨R2, e2⟩ : ∃ R, R = x.goal.all qok := ⟨_, rfl⟩
 obtain ⟨R3, e3⟩ : ∃ R, R = x.right.all qok := ⟨_, rfl⟩
 have k2 := Lib.hid (fun (W : World) (r : Below w.heap.size w W) => rv_check R2 e2 (hG.below r) hq.2.2.1)
 have k3 := Lib.hid (fun (W : World) (r : Below w.heap.size w W) => rv_check R3 e3 (hR.below r) hq.2.1)
 have HE2 := Lib.hid e2
 have HE3 := Lib.hid e3
 clear hL hR hG hO hq eR0 hA e2 e3
 have g0 : (0 : Int) ≤ (gn : Int) := by omega
 by_cases c1 : gn = 0
 · have j1 : (gn : Int) < 1 := by omega
   have j1' : decide ((gn : Int) < 1) = true := decide_eq_true j1
   have hR0 : R = false := by obtain ⟨eL, eR, eG, eO⟩ := EQ.out; rw [HR.out]; unfold nck shp; simp [← eG, c1]
   subst hR0
   clear HR HL HA EQ k2 k3 HRO c1
   go_enter Tryz.func17, Tryz.ntmps17
   have z0 := HX.out.cell 0 _ rfl; have z1 := HX.out.cell 1 _ rfl; have z2 := HX.out.cell 2 _ rfl; have z3 := HX.out.cell 3 _ rfl
   go_wp2
   go_ret
   exact ⟨rfl, HB.out⟩
 · by_cases c2 : 32 < gn
   · have j1 : ¬ (gn : Int) < 1 := by omega
     have j1' : decide ((gn : Int) < 1) = false := decide_eq_false j1
     have j2 : (32 : Int) < (gn : Int) := by omega
     have j2' : decide ((32 : Int) < (gn : Int)) = true := decide_eq_true j2
     have hR0 : R = false := by obtain ⟨eL, eR, eG, eO⟩ := EQ.out; rw [HR.out]; unfold nck shp; simp [← eG, c2]
     subst hR0
     clear HR HL HA EQ k2 k3 HRO c1 c2
     go_enter Tryz.func17, Tryz.ntmps17
     have z0 := HX.out.cell 0 _ rfl; have z1 := HX.out.cell 1 _ rfl; have z2 := HX.out.cell 2 _ rfl; have z3 := HX.out.cell 3 _ rfl
     go_wp2
     go_ret
     exact ⟨rfl, HB.out⟩
   · by_cases c3 : on = gn
     · by_cases c4 : 192 < ln
       · have j1 : ¬ (gn : Int) < 1 := by omega
         have j1' : decide ((gn : Int) < 1) = false := decide_eq_false j1
         have j2 : ¬ (32 : Int) < (gn : Int) := by omega
         have j2' : decide ((32 : Int) < (gn : Int)) = false := decide_eq_false j2
         have j3 : ((on : Int) != (gn : Int)) = false := by rw [c3]; simp
         have j4 : (192 : Int) < (ln : Int) := by omega
         have j4' : decide ((192 : Int) < (ln : Int)) = true := decide_eq_true j4
         have hR0 : R = false := by obtain ⟨eL, eR, eG, eO⟩ := EQ.out; rw [HR.out]; unfold nck shp; simp [← eL, c4]
         subst hR0
         clear HR HL HA EQ k2 k3 HRO c1 c2 c3 c4
         go_enter Tryz.func17, Tryz.ntmps17
         have z0 := HX.out.cell 0 _ rfl; have z1 := HX.out.cell 1 _ rfl; have z2 := HX.out.cell 2 _ rfl; have z3 := HX.out.cell 3 _ rfl
         go_wp2
         go_ret
         exact ⟨rfl, HB.out⟩
       · by_cases c5 : rn = ln
         · have j1 : ¬ (gn : Int) < 1 := by omega
           have j1' : decide ((gn : Int) < 1) = false := decide_eq_false j1
           have j2 : ¬ (32 : Int) < (gn : Int) := by omega
           have j2' : decide ((32 : Int) < (gn : Int)) = false := decide_eq_false j2
           have j3 : ((on : Int) != (gn : Int)) = false := by rw [c3]; simp
           have j4 : ¬ (192 : Int) < (ln : Int) := by omega
           have j4' : decide ((192 : Int) < (ln : Int)) = false := decide_eq_false j4
           have j5 : ((rn : Int) != (ln : Int)) = false := by rw [c5]; simp
           have hR0 : R = (R2 && (R3 && x.rows.all fun l => decide (l.length = x.goal.length) && l.all qok)) := by
            obtain ⟨eL, eR, eG, eO⟩ := EQ.out
            rw [HR.out, HE2.out, HE3.out]; unfold nck shp
            rw [decide_eq_false (show ¬ x.goal.length = 0 by omega), decide_eq_false (show ¬ 32 < x.goal.length by omega), decide_eq_true (show x.whole.length = x.goal.length by omega), decide_eq_false (show ¬ 192 < x.rows.length by omega), decide_eq_true (show x.right.length = x.rows.length by omega), all_both]
            simp only [Bool.not_false, Bool.true_and]
            generalize x.goal.all qok = A
            generalize x.right.all qok = B
            generalize (x.rows.all fun l => decide (l.length = x.goal.length)) = C
            generalize (x.rows.all fun l => l.all qok) = D
            cases A <;> cases B <;> cases C <;> cases D <;> rfl
           have hln : ln ≤ 1000 := by omega
           have HEQ := EQ
           clear HR EQ c1 c2 c3 c4 c5 HE2 HE3
           cases R2 with
           | false =>
            obtain rfl : R = false := by simpa using hR0
            clear hR0 HA HRO HL k3
            go_enter Tryz.func17, Tryz.ntmps17
            have z0 := HX.out.cell 0 _ rfl; have z1 := HX.out.cell 1 _ rfl; have z2 := HX.out.cell 2 _ rfl; have z3 := HX.out.cell 3 _ rfl
            go_wp2_with fail
            clear z0 z1 z2 z3
            refine (k2.out _ HB.out).mono ?_
            rintro e w1 ⟨rfl, rr⟩
            have HX := Lib.hid (HX.out.under rr)
            have HB1 := Lib.hid (then_below HB.out rr)
            clear rr k2
            have z0 := HX.out.cell 0 _ rfl; have z1 := HX.out.cell 1 _ rfl; have z2 := HX.out.cell 2 _ rfl; have z3 := HX.out.cell 3 _ rfl
            go_wp2_with fail
            go_ret
            exact ⟨rfl, HB1.out⟩
           | true =>
           go_enter Tryz.func17, Tryz.ntmps17
           have z0 := HX.out.cell 0 _ rfl; have z1 := HX.out.cell 1 _ rfl; have z2 := HX.out.cell 2 _ rfl; have z3 := HX.out.cell 3 _ rfl
           go_wp2_with fail
           clear z0 z1 z2 z3
           refine (k2.out _ HB.out).mono ?_
           rintro e w1 ⟨rfl, rr⟩
           have HX := Lib.hid (HX.out.under rr)
           have HB1 := Lib.hid (then_below HB.out rr)
           clear rr k2
           cases R3 with
           | false =>
            obtain rfl : R = false := by simpa using hR0
            clear hR0 HA HRO HL
            have z0 := HX.out.cell 0 _ rfl; have z1 := HX.out.cell 1 _ rfl; have z2 := HX.out.cell 2 _ rfl; have z3 := HX.out.cell 3 _ rfl
            go_wp2_with fail
            clear z0 z1 z2 z3
            refine (k3.out _ HB1.out).mono ?_
            rintro e w1 ⟨rfl, rr⟩
            have HX := Lib.hid (HX.out.under rr)
            have HB2 := Lib.hid (then_below HB1.out rr)
            clear rr k3
            have z0 := HX.out.cell 0 _ rfl; have z1 := HX.out.cell 1 _ rfl; have z2 := HX.out.cell 2 _ rfl; have z3 := HX.out.cell 3 _ rfl
            go_wp2_with fail
            go_ret
            exact ⟨rfl, HB2.out⟩
           | true =>
           have HR2 := Lib.hid (show R = x.rows.all fun l => decide (l.length = x.goal.length) && l.all qok by simpa using hR0)
           clear hR0
           have z0 := HX.out.cell 0 _ rfl; have z1 := HX.out.cell 1 _ rfl; have z2 := HX.out.cell 2 _ rfl; have z3 := HX.out.cell 3 _ rfl
           go_wp2_with fail
           clear z0 z1 z2 z3
           refine (k3.out _ HB1.out).mono ?_
           rintro e w1 ⟨rfl, rr⟩
           have HX := Lib.hid (HX.out.under rr)
           have HB2 := Lib.hid (then_below HB1.out rr)
           clear rr k3
           have HX2 := HX
           have k0 : ((0 : Nat) : Int) = 0 := rfl
           go_wp2_with fail
           go_loopg [4] ln (fun g s wr => ∃ k : Nat, k + g = ln ∧ s = .int .i64 (k : Int) ∧ Hid ((x.rows.take k).all (fun l => decide (l.length = x.goal.length) && l.all qok) = true) ∧ Hid (BoxN wr w.heap.size 42 #[.slice la ln lc, .slice ra rn rc, .slice ga gn gc, .slice oa on oc]) ∧ Hid (Below w.heap.size w wr))
           case atStart => exact ⟨0, by omega, rfl, Lib.hid (by simp), HX2, HB2⟩
           case round =>
            clear HB HB1 HB2 HX HX2 k0
            obtain ⟨k, hk, rfl, HS, HX, HW⟩ := hrel
            by_cases hlt : k < ln
            · have n0 : (0 : Int) ≤ (k : Int) := by omega
              have l0 : (k : Int) < (ln : Int) := by omega
              have w0 : IntKind.i64.wrap ((k : Int) + 1) = ((k + 1 : Nat) : Int) := IntWalk.i64_in _ (by omega)
              obtain ⟨bb, off, rfl, hbl, hc⟩ := HA.out (by omega)
              obtain ⟨qs, hqs⟩ : ∃ qs, x.rows[k]? = some qs := ⟨_, List.getElem?_eq_getElem (by have := HL.out; omega)⟩
              obtain ⟨u, hu, hv⟩ := hc k qs hqs
              have hu2 := (HW.out.cell (p := ⟨bb, off + k * 1, none⟩) hbl).trans hu
              rw [Nat.mul_one] at hu2
              have hv2 := hv.below HW.out
              obtain ⟨a2, c2, rfl⟩ := hv.form
              have HQ := Lib.hid hqs
              obtain ⟨T, hT⟩ : ∃ T, T = qs.all qok := ⟨_, rfl⟩
              have kc := Lib.hid (rv_check T hT hv2 (HRO.out qs (List.mem_of_getElem? hqs)))
              obtain ⟨m, hm⟩ : ∃ m, m = qs.length := ⟨_, rfl⟩
              rw [← hm] at hu2 kc
              have HM := Lib.hid hm
              have HT := Lib.hid hT
              clear hu hv hv2 hqs hc HA hm hT HRO
              by_cases hmg : m = gn
              · have j6 : ((m : Int) != (gn : Int)) = false := by rw [hmg]; simp
                have HG := Lib.hid (show decide (qs.length = x.goal.length) = true from decide_eq_true (by rw [← HM.out, hmg, HL.out.2]))
                clear hmg
                cases T with
                | false =>
                 have h0 : R = false := by rw [HR2.out]; exact all_no HQ.out (by rw [HG.out, ← HT.out]; rfl)
                 subst h0
                 have z0 := HX.out.cell 0 _ rfl; have z1 := HX.out.cell 1 _ rfl; have z2 := HX.out.cell 2 _ rfl; have z3 := HX.out.cell 3 _ rfl
                 go_wp2_with fail
                 clear z0 z1 z2 z3
                 refine kc.out.mono ?_
                 rintro e w5 ⟨rfl, rr⟩
                 have HX5 := Lib.hid (HX.out.under rr)
                 have HW5 := Lib.hid (then_below HW.out rr)
                 clear rr kc HX
                 go_wp2_with fail
                 go_ret
                 exact ⟨rfl, HW5.out⟩
                | true =>
                 have HS2 := Lib.hid (all_next HQ.out HS.out (by rw [HG.out, ← HT.out]; rfl))
                 have z0 := HX.out.cell 0 _ rfl; have z1 := HX.out.cell 1 _ rfl; have z2 := HX.out.cell 2 _ rfl; have z3 := HX.out.cell 3 _ rfl
                 go_wp2_with fail
                 clear z0 z1 z2 z3
                 refine kc.out.mono ?_
                 rintro e w5 ⟨rfl, rr⟩
                 have HX5 := Lib.hid (HX.out.under rr)
                 have HW5 := Lib.hid (then_below HW.out rr)
                 clear rr kc HX
                 go_wp2_with fail
                 go_roundg (ln - (k + 1))
                 case measure => omega
                 case rel => exact ⟨k + 1, by omega, by first | rfl | simp, HS2, HX5, HW5⟩
              · have j6 : ((m : Int) != (gn : Int)) = true := bne_iff_ne.2 (by omega)
                have h0 : R = false := by rw [HR2.out]; exact all_no HQ.out (by rw [decide_eq_false (by have := HM.out; have := HL.out; omega)]; rfl)
                clear hmg kc
                subst h0
                have z0 := HX.out.cell 0 _ rfl; have z1 := HX.out.cell 1 _ rfl; have z2 := HX.out.cell 2 _ rfl; have z3 := HX.out.cell 3 _ rfl
                go_wp2
                go_ret
                exact ⟨rfl, HW.out⟩
            · obtain rfl : k = ln := by omega
              have l0 : ¬ (k : Int) < (k : Int) := by omega
              have h0 : R = true := by rw [HR2.out]; exact all_end HS.out (by have := HL.out; omega)
              subst h0
              clear HA HRO
              have z0 := HX.out.cell 0 _ rfl; have z1 := HX.out.cell 1 _ rfl; have z2 := HX.out.cell 2 _ rfl; have z3 := HX.out.cell 3 _ rfl
              go_wp2
              go_ret
              exact ⟨rfl, HW.out⟩
         · have j1 : ¬ (gn : Int) < 1 := by omega
           have j1' : decide ((gn : Int) < 1) = false := decide_eq_false j1
           have j2 : ¬ (32 : Int) < (gn : Int) := by omega
           have j2' : decide ((32 : Int) < (gn : Int)) = false := decide_eq_false j2
           have j3 : ((on : Int) != (gn : Int)) = false := by rw [c3]; simp
           have j4 : ¬ (192 : Int) < (ln : Int) := by omega
           have j4' : decide ((192 : Int) < (ln : Int)) = false := decide_eq_false j4
           have j5 : ((rn : Int) != (ln : Int)) = true := bne_iff_ne.2 (by omega)
           have hR0 : R = false := by obtain ⟨eL, eR, eG, eO⟩ := EQ.out; rw [HR.out]; unfold nck shp; have h : decide (x.right.length = x.rows.length) = false := decide_eq_false (by omega); simp [h]
           subst hR0
           clear HR HL HA EQ k2 k3 HRO c1 c2 c3 c4 c5
           go_enter Tryz.func17, Tryz.ntmps17
           have z0 := HX.out.cell 0 _ rfl; have z1 := HX.out.cell 1 _ rfl; have z2 := HX.out.cell 2 _ rfl; have z3 := HX.out.cell 3 _ rfl
           go_wp2
           go_ret
           exact ⟨rfl, HB.out⟩
     · have j1 : ¬ (gn : Int) < 1 := by omega
       have j1' : decide ((gn : Int) < 1) = false := decide_eq_false j1
       have j2 : ¬ (32 : Int) < (gn : Int) := by omega
       have j2' : decide ((32 : Int) < (gn : Int)) = false := decide_eq_false j2
       have j3 : ((on : Int) != (gn : Int)) = true := bne_iff_ne.2 (by omega)
       have hR0 : R = false := by obtain ⟨eL, eR, eG, eO⟩ := EQ.out; rw [HR.out]; unfold nck shp; have h : decide (x.whole.length = x.goal.length) = false := decide_eq_false (by omega); simp [h]
       subst hR0
       clear HR HL HA EQ k2 k3 HRO c1 c2 c3
       go_enter Tryz.func17, Tryz.ntmps17
       have z0 := HX.out.cell 0 _ rfl; have z1 := HX.out.cell 1 _ rfl; have z2 := HX.out.cell 2 _ rfl; have z3 := HX.out.cell 3 _ rfl
       go_wp2
       go_ret
       exact ⟨rfl, HB.out⟩
theorem rn_may {w : World} {la ra ga oa : Option Addr} {ln lc rn rc gn gc on oc : Nat} {x : NV} (hL : GridR w (.slice la ln lc) x.rows) (hR : VReads w (.slice ra rn rc) x.right) (hG : VReads w (.slice ga gn gc) x.goal) (hO : BoolsR w (.slice oa on oc) x.whole) (hq : x.Fine) {pa : Option Addr} {pn pc : Nat} {p : List Qr} (hp : VReads w (.slice pa pn pc) p) (fp : qrows p) (R : Bool) (eR0 : R = nma x p) :
  Calls Tryz.prog 45 #[.agg #[.slice la ln lc, .slice ra rn rc, .slice ga gn gc, .slice oa on oc], .slice pa pn pc] w fun e w' => e = .returned (.bool R) ∧ Below w.heap.size w w' := by
 have HX := Lib.hid (show BoxN (w.alloc (.cells #[.slice la ln lc, .slice ra rn rc, .slice ga gn gc, .slice oa on oc] 42)) w.heap.size 42 #[.slice la ln lc, .slice ra rn rc, .slice ga gn gc, .slice oa on oc] from BoxN.new w _ _)
 have HB := Lib.hid (show Below w.heap.size w (w.alloc (.cells #[.slice la ln lc, .slice ra rn rc, .slice ga gn gc, .slice oa on oc] 42)) from (Below.refl _ _).alloc (Nat.le_refl _) _)
 have EQ := Lib.hid (show ln = x.rows.length ∧ rn = x.right.length ∧ gn = x.goal.length ∧ on = x.whole.length from ⟨hL.addr.1, hR.addr.1, hG.addr.1, hO.addr.1⟩)
 obtain ⟨b1, b2, b3, b4⟩ : ln ≤ 1000 ∧ rn ≤ 65536 ∧ gn ≤ 65536 ∧ on ≤ 65536 := by
  have h := hq.lens
  rw [← EQ.out.1, ← EQ.out.2.1, ← EQ.out.2.2.1, ← EQ.out.2.2.2] at h
  exact h
 have hpn : pn ≤ 65536 := by rw [hp.addr.1]; exact fp.2
 obtain ⟨R1, e1⟩ : ∃ R, R = nck x := ⟨_, rfl⟩
 obtain ⟨R2, e2⟩ : ∃ R, R = p.all qok := ⟨_, rfl⟩
 have k1 := Lib.hid (fun (W : World) (r : Below w.heap.size w W) => rn_check (hL.below r) (hR.below r) (hG.below r) (hO.below r) hq R1 e1)
 have k2 := Lib.hid (fun (W : World) (r : Below w.heap.size w W) => rv_check R2 e2 (hp.below r) fp)
 have hR0 : R = (decide (pn = gn) && (R1 && R2)) := by rw [eR0, e1, e2, hp.addr.1, EQ.out.2.2.1]; rfl
 clear hL hR hG hO hq eR0 EQ e1 e2 hp fp
 cases R1 with
 | false =>
  obtain rfl : R = false := by simpa using hR0
  clear hR0 k2
  go_enter Tryz.func45, Tryz.ntmps45
  have z0 := HX.out.cell 0 _ rfl; have z1 := HX.out.cell 1 _ rfl; have z2 := HX.out.cell 2 _ rfl; have z3 := HX.out.cell 3 _ rfl
  go_wp2_with fail
  clear z0 z1 z2 z3
  refine (k1.out _ HB.out).mono ?_
  rintro e w0 ⟨rfl, rr⟩
  have HX := Lib.hid (HX.out.under rr)
  have HB0 := Lib.hid (then_below HB.out rr)
  clear rr k1
  have z0 := HX.out.cell 0 _ rfl; have z1 := HX.out.cell 1 _ rfl; have z2 := HX.out.cell 2 _ rfl; have z3 := HX.out.cell 3 _ rfl
  go_wp2_with fail
  go_ret
  exact ⟨rfl, HB0.out⟩
 | true =>
  by_cases c : pn = gn
  · have j1 : ((pn : Int) == (gn : Int)) = true := by rw [c]; simp
    obtain rfl : R = R2 := by rw [hR0, decide_eq_true c]; rfl
    clear hR0 c
    go_enter Tryz.func45, Tryz.ntmps45
    have z0 := HX.out.cell 0 _ rfl; have z1 := HX.out.cell 1 _ rfl; have z2 := HX.out.cell 2 _ rfl; have z3 := HX.out.cell 3 _ rfl
    go_wp2_with fail
    clear z0 z1 z2 z3
    refine (k1.out _ HB.out).mono ?_
    rintro e w0 ⟨rfl, rr⟩
    have HX := Lib.hid (HX.out.under rr)
    have HB0 := Lib.hid (then_below HB.out rr)
    clear rr k1
    have z0 := HX.out.cell 0 _ rfl; have z1 := HX.out.cell 1 _ rfl; have z2 := HX.out.cell 2 _ rfl; have z3 := HX.out.cell 3 _ rfl
    go_wp2_with fail
    clear z0 z1 z2 z3
    refine (k2.out _ HB0.out).mono ?_
    rintro e w1 ⟨rfl, rr⟩
    have HX := Lib.hid (HX.out.under rr)
    have HB1 := Lib.hid (then_below HB0.out rr)
    clear rr k2
    have z0 := HX.out.cell 0 _ rfl; have z1 := HX.out.cell 1 _ rfl; have z2 := HX.out.cell 2 _ rfl; have z3 := HX.out.cell 3 _ rfl
    go_wp2_with fail
    go_ret
    exact ⟨rfl, HB1.out⟩
  · have j1 : ((pn : Int) == (gn : Int)) = false := beq_eq_false_iff_ne.2 (by omega)
    obtain rfl : R = false := by rw [hR0, decide_eq_false c]; rfl
    clear hR0 c k2
    go_enter Tryz.func45, Tryz.ntmps45
    have z0 := HX.out.cell 0 _ rfl; have z1 := HX.out.cell 1 _ rfl; have z2 := HX.out.cell 2 _ rfl; have z3 := HX.out.cell 3 _ rfl
    go_wp2_with fail
    clear z0 z1 z2 z3
    refine (k1.out _ HB.out).mono ?_
    rintro e w0 ⟨rfl, rr⟩
    have HX := Lib.hid (HX.out.under rr)
    have HB0 := Lib.hid (then_below HB.out rr)
    clear rr k1
    have z0 := HX.out.cell 0 _ rfl; have z1 := HX.out.cell 1 _ rfl; have z2 := HX.out.cell 2 _ rfl; have z3 := HX.out.cell 3 _ rfl
    go_wp2_with fail
    go_ret
    exact ⟨rfl, HB0.out⟩
end Go.Proofs.YtbndmpdaloadjaaGreat
