/- The law package's look at a copy of a norm. -/
import Derived.Test.YtbndmpdaloadjaaGreatGNtU
set_option linter.unusedSimpArgs false
set_option linter.unusedVariables false
set_option maxHeartbeats 16000000
namespace Go.Proofs.YtbndmpdaloadjaaGreat
open Go Go.Proofs Go.RowKit Go.Shelf Nu
set_option linter.unusedVariables false
set_option linter.unusedSimpArgs false
set_option maxRecDepth 100000

attribute [local go_sem] Oper.semAt_some

theorem leftN_any {w : World} {B : Nat} {tv : Value} {la ra ga oa : Option Addr} {ln lc rn rc gn gc on oc : Nat} {x : NV} (T : TwN w B tv x) (hL : GridR w (.slice la ln lc) x.rows) (hR : VReads w (.slice ra rn rc) x.right) (hG : VReads w (.slice ga gn gc) x.goal) (hO : BoolsR w (.slice oa on oc) x.whole) (hm : x.Mod) :
  Calls Tryz.prog 22 #[tv, .agg #[.slice la ln lc, .slice ra rn rc, .slice ga gn gc, .slice oa on oc]] w fun e w' => e = .returned (.bool true) ∧ Below w.heap.size w w' := by
 obtain ⟨ta, tc, g2, c2, g3, c3, g4, c4, rfl, t1, t2, t3, t4⟩ := T
 have kL := Lib.hid (fun (W : World) (r : Below w.heap.size w W) => leftG_any (t1.below r) (hL.below r) hm.1.1 hm.1.2)
 have kR := Lib.hid (fun (W : World) (r : Below w.heap.size w W) => leftR_any (t2.below r) (hR.below r) hm.2.1.1 hm.2.1.2)
 have kG := Lib.hid (fun (W : World) (r : Below w.heap.size w W) => leftR_any (t3.below r) (hG.below r) hm.2.2.1.1 hm.2.2.1.2)
 have kO := Lib.hid (fun (W : World) (r : Below w.heap.size w W) => leftO_any (t4.below r) (hO.below r) hm.2.2.2)
 clear t1 t2 t3 t4 hL hR hG hO hm
 generalize x.rows.length = m1 at *
 generalize x.right.length = m2 at *
 generalize x.goal.length = m3 at *
 generalize x.whole.length = m4 at *
 obtain ⟨CT, hCT⟩ : ∃ C : Array Value, C = #[.slice ta m1 tc, .slice (some ⟨g2, 0, none⟩) m2 c2, .slice (some ⟨g3, 0, none⟩) m3 c3, .slice (some ⟨g4, 0, none⟩) m4 c4] := ⟨_, rfl⟩
 obtain ⟨CX, hCX⟩ : ∃ C : Array Value, C = #[.slice la ln lc, .slice ra rn rc, .slice ga gn gc, .slice oa on oc] := ⟨_, rfl⟩
 have al := (Below.refl w.heap.size w).alloc (Nat.le_refl _) (.cells CT 42)
 have HT := Lib.hid ((BoxN.new w 42 CT).alloc (.cells CX 42))
 have HX := Lib.hid (BoxN.new1 w (.cells CT 42) 42 CX)
 have HB := Lib.hid (al.alloc al.size (.cells CX 42))
 clear al
 subst hCT; subst hCX
 go_enter Tryz.func22, Tryz.ntmps22
 have y0 := HT.out.cell 0 _ rfl; have z0 := HX.out.cell 0 _ rfl; have y1 := HT.out.cell 1 _ rfl; have z1 := HX.out.cell 1 _ rfl; have y2 := HT.out.cell 2 _ rfl; have z2 := HX.out.cell 2 _ rfl; have y3 := HT.out.cell 3 _ rfl; have z3 := HX.out.cell 3 _ rfl
 go_wp2_with fail
 clear y0 z0 y1 z1 y2 z2 y3 z3
 refine (kL.out _ HB.out).mono ?_
 rintro e w1 ⟨rfl, rr⟩
 have HT := Lib.hid (HT.out.under rr); have HX := Lib.hid (HX.out.under rr); have HB := Lib.hid (then_below HB.out rr)
 clear rr kL
 have y0 := HT.out.cell 0 _ rfl; have z0 := HX.out.cell 0 _ rfl; have y1 := HT.out.cell 1 _ rfl; have z1 := HX.out.cell 1 _ rfl; have y2 := HT.out.cell 2 _ rfl; have z2 := HX.out.cell 2 _ rfl; have y3 := HT.out.cell 3 _ rfl; have z3 := HX.out.cell 3 _ rfl
 go_wp2_with fail
 clear y0 z0 y1 z1 y2 z2 y3 z3
 refine (kR.out _ HB.out).mono ?_
 rintro e w2 ⟨rfl, rr⟩
 have HT := Lib.hid (HT.out.under rr); have HX := Lib.hid (HX.out.under rr); have HB := Lib.hid (then_below HB.out rr)
 clear rr kR
 have y0 := HT.out.cell 0 _ rfl; have z0 := HX.out.cell 0 _ rfl; have y1 := HT.out.cell 1 _ rfl; have z1 := HX.out.cell 1 _ rfl; have y2 := HT.out.cell 2 _ rfl; have z2 := HX.out.cell 2 _ rfl; have y3 := HT.out.cell 3 _ rfl; have z3 := HX.out.cell 3 _ rfl
 go_wp2_with fail
 clear y0 z0 y1 z1 y2 z2 y3 z3
 refine (kG.out _ HB.out).mono ?_
 rintro e w3 ⟨rfl, rr⟩
 have HT := Lib.hid (HT.out.under rr); have HX := Lib.hid (HX.out.under rr); have HB := Lib.hid (then_below HB.out rr)
 clear rr kG
 have y0 := HT.out.cell 0 _ rfl; have z0 := HX.out.cell 0 _ rfl; have y1 := HT.out.cell 1 _ rfl; have z1 := HX.out.cell 1 _ rfl; have y2 := HT.out.cell 2 _ rfl; have z2 := HX.out.cell 2 _ rfl; have y3 := HT.out.cell 3 _ rfl; have z3 := HX.out.cell 3 _ rfl
 go_wp2_with fail
 clear y0 z0 y1 z1 y2 z2 y3 z3
 refine (kO.out _ HB.out).mono ?_
 rintro e w4 ⟨rfl, rr⟩
 have HT := Lib.hid (HT.out.under rr); have HX := Lib.hid (HX.out.under rr); have HB := Lib.hid (then_below HB.out rr)
 clear rr kO
 go_wp2_with fail
 go_ret
 exact ⟨rfl, HB.out⟩
end Go.Proofs.YtbndmpdaloadjaaGreat
