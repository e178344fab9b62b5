/- Models: copied, looked at again, how much is in one; which value is better. -/
import Derived.Test.YtbndmpdaloadjaaGreatGNmD
set_option linter.unusedSimpArgs false
set_option linter.unusedVariables false
namespace Go.Proofs.YtbndmpdaloadjaaGreat
open Go Go.Proofs Go.RowKit Go.Shelf Nu
set_option linter.unusedVariables false
set_option linter.unusedSimpArgs false
set_option maxRecDepth 100000

attribute [local go_sem] Oper.semAt_some

/-- its lists may be copied -/
def MV.Mod (x : MV) : Prop := (x.vars.length ≤ 1000 ∧ ∀ y ∈ x.vars, Vr.Mod y) ∧ (x.goal.length ≤ 65536 ∧ ∀ q ∈ x.goal, q.2.1.length ≤ 100000 ∧ q.2.2.length ≤ 100000) ∧ x.rows.length ≤ 1000 ∧ ∀ y ∈ x.rows, Rw.Mod y
def MV.Big (x : MV) : Prop := (x.vars.length ≤ 70368744177664 ∧ ∀ y ∈ x.vars, Vr.Big y) ∧ (x.goal.length ≤ 70368744177664 ∧ ∀ q ∈ x.goal, Go.Proofs.YtbndmpdaloadjaaGreat.Big q) ∧ x.rows.length ≤ 70368744177664 ∧ ∀ y ∈ x.rows, Rw.Big y
def MV.size (x : MV) : Nat := a4 (a4 (a4 1 (lsz Vr.size x.vars.length x.vars)) (rsize x.goal)) (lsz Rw.size x.rows.length x.rows)
theorem size_model : (Tryz.prog.info? 26).map (·.size) = some 4 := by kernel_rfl
/-- a copy of a model -/
def TwM (W : World) (B : Nat) (v : Value) (x : MV) : Prop := ∃ g1 c1 g2 c2 g3 c3, v = .agg #[.bool x.most, .slice (some ⟨g1, 0, none⟩) x.vars.length c1, .slice (some ⟨g2, 0, none⟩) x.goal.length c2, .slice (some ⟨g3, 0, none⟩) x.rows.length c3] ∧ TwVars W B g1 c1 x.vars ∧ TwR W B g2 c2 x.goal ∧ TwRows W B g3 c3 x.rows
section
variable {W W' : World} {B B' g c : Nat}
theorem TwVars.below {l : List Vr} (h : TwVars W B g c l) (hb : Below W.heap.size W W') : TwVars W' B g c l := TwL.below h hb (fun _ _ k => k.below hb)
theorem TwRows.below {l : List Rw} (h : TwRows W B g c l) (hb : Below W.heap.size W W') : TwRows W' B g c l := TwL.below h hb (fun _ _ k => k.below hb)
theorem TwVars.mono {l : List Vr} (h : TwVars W B g c l) (hb : B' ≤ B) : TwVars W B' g c l := TwL.mono h hb (fun _ _ k => k.mono hb)
theorem TwRows.mono {l : List Rw} (h : TwRows W B g c l) (hb : B' ≤ B) : TwRows W B' g c l := TwL.mono h hb (fun _ _ k => k.mono hb)
theorem TwVars.off {l : List Vr} {t : TypeId} (h : TwVars W B g c l) (ho : Off t W W') (ht : 66 ≠ t ∧ 77 ≠ t) : TwVars W' B g c l := TwL.off h ho ht.2 (fun _ _ k => k.off ho ht.1)
theorem TwRows.off {l : List Rw} {t : TypeId} (h : TwRows W B g c l) (ho : Off t W W') (ht : 66 ≠ t ∧ 32 ≠ t ∧ 81 ≠ t) : TwRows W' B g c l := TwL.off h ho ht.2.2 (fun _ _ k => k.off ho ⟨ht.1, ht.2.1⟩)
theorem TwM.below {v : Value} {x : MV} (h : TwM W B v x) (hb : Below W.heap.size W W') : TwM W' B v x := by
  obtain ⟨g1, c1, g2, c2, g3, c3, e, h1, h2, h3⟩ := h
  exact ⟨g1, c1, g2, c2, g3, c3, e, TwVars.below h1 hb, h2.below hb, TwRows.below h3 hb⟩
end
set_option maxHeartbeats 16000000 in
theorem twinM_any {w : World} {x : MV} {va ga ra : Option Addr} {vn vc gn gc rn rc : Nat} (hV : VarsR w (.slice va vn vc) x.vars) (hG : VReads w (.slice ga gn gc) x.goal) (hR : RowsR w (.slice ra rn rc) x.rows) (hm : x.Mod) :
    Calls Tryz.prog 6 #[.agg #[.bool x.most, .slice va vn vc, .slice ga gn gc, .slice ra rn rc]] w fun e w' => ∃ v, e = .returned v ∧ TwM w' w.heap.size v x ∧ Below w.heap.size w w' := by
  have kV := Lib.hid (fun (W : World) (r : Below w.heap.size w W) => twinVars_any (hV.below r) hm.1.1 hm.1.2)
  have kG := Lib.hid (fun (W : World) (r : Below w.heap.size w W) => twinR_any (hG.below r) hm.2.1.1 hm.2.1.2)
  have kR := Lib.hid (fun (W : World) (r : Below w.heap.size w W) => twinRows_any (hR.below r) hm.2.2.1 hm.2.2.2)
  have al := (Below.refl w.heap.size w).alloc (Nat.le_refl _) (.cells #[.bool x.most, .slice va vn vc, .slice ga gn gc, .slice ra rn rc] 26)
  have HX0 := Lib.hid ((BoxN.new w 26 #[.bool x.most, .slice va vn vc, .slice ga gn gc, .slice ra rn rc]).alloc (.cells #[.bool false, .slice none 0 0, .slice none 0 0, .slice none 0 0] 26))
  have HY0 := Lib.hid (BoxN.new1 w (.cells #[.bool x.most, .slice va vn vc, .slice ga gn gc, .slice ra rn rc] 26) 26 #[.bool false, .slice none 0 0, .slice none 0 0, .slice none 0 0])
  have HB0 := Lib.hid (al.alloc al.size (.cells #[.bool false, .slice none 0 0, .slice none 0 0, .slice none 0 0] 26))
  clear hV hG hR hm al
  go_enter Tryz.func6, Tryz.ntmps6
  go_wp2
  refine region_bl (S := fun W => BoxN W w.heap.size 26 #[.bool x.most, .slice va vn vc, .slice ga gn gc, .slice ra rn rc]) (by kernel_rfl) ?_
  intro V0 r0
  have HB := Lib.hid (then_below HB0.out r0)
  have HX := Lib.hid (HX0.out.under r0)
  have HY := Lib.hid (HY0.out.under r0)
  clear HB0 HX0 HY0 r0
  have hS0 := HX.out
  refine wpAnyH_take (i := 0) (oi := ⟨_, _, _, _, _, _⟩) (v := .pointer (some ⟨w.heap.size, 0, none⟩)) rfl (by kernel_rfl) (by kernel_rfl) (by kernel_rfl) (fun _ _ _ h => h) (Or.inl ⟨by rfl, fun W3 hS => by go_simp⟩) hS0 ?_
  try simp only [Act.put, List.setIfInBounds_toArray, List.set_cons_zero, List.set_cons_succ]
  refine wpAnyH_take (i := 1) (oi := ⟨_, _, _, _, _, _⟩) (v := .bool x.most) rfl (by kernel_rfl) (by kernel_rfl) (by kernel_rfl) (fun _ _ _ h => h) (Or.inl ⟨by rfl, fun W3 hS => by have c0 := hS.cell 0 _ rfl; go_simp⟩) hS0 ?_
  try simp only [Act.put, List.setIfInBounds_toArray, List.set_cons_zero, List.set_cons_succ]
  refine wpAnyH_take (i := 2) (oi := ⟨_, _, _, _, _, _⟩) (v := .pointer (some ⟨w.heap.size, 1, none⟩)) rfl (by kernel_rfl) (by kernel_rfl) (by kernel_rfl) (fun _ _ _ h => h) (Or.inl ⟨by rfl, fun W3 hS => by go_simp⟩) hS0 ?_
  try simp only [Act.put, List.setIfInBounds_toArray, List.set_cons_zero, List.set_cons_succ]
  refine wpAnyH_take (i := 3) (oi := ⟨_, _, _, _, _, _⟩) (v := .slice va vn vc) rfl (by kernel_rfl) (by kernel_rfl) (by kernel_rfl) (fun _ _ _ h => h) (Or.inl ⟨by rfl, fun W3 hS => by have c1 := hS.cell 1 _ rfl; go_simp⟩) hS0 ?_
  try simp only [Act.put, List.setIfInBounds_toArray, List.set_cons_zero, List.set_cons_succ]
  refine wpAnyH_take (i := 5) (oi := ⟨_, _, _, _, _, _⟩) (v := .pointer (some ⟨w.heap.size, 2, none⟩)) rfl (by kernel_rfl) (by kernel_rfl) (by kernel_rfl) (fun _ _ _ h => h) (Or.inl ⟨by rfl, fun W3 hS => by go_simp⟩) hS0 ?_
  try simp only [Act.put, List.setIfInBounds_toArray, List.set_cons_zero, List.set_cons_succ]
  refine wpAnyH_take (i := 6) (oi := ⟨_, _, _, _, _, _⟩) (v := .slice ga gn gc) rfl (by kernel_rfl) (by kernel_rfl) (by kernel_rfl) (fun _ _ _ h => h) (Or.inl ⟨by rfl, fun W3 hS => by have c2 := hS.cell 2 _ rfl; go_simp⟩) hS0 ?_
  try simp only [Act.put, List.setIfInBounds_toArray, List.set_cons_zero, List.set_cons_succ]
  refine wpAnyH_take (i := 8) (oi := ⟨_, _, _, _, _, _⟩) (v := .pointer (some ⟨w.heap.size, 3, none⟩)) rfl (by kernel_rfl) (by kernel_rfl) (by kernel_rfl) (fun _ _ _ h => h) (Or.inl ⟨by rfl, fun W3 hS => by go_simp⟩) hS0 ?_
  try simp only [Act.put, List.setIfInBounds_toArray, List.set_cons_zero, List.set_cons_succ]
  refine wpAnyH_take (i := 9) (oi := ⟨_, _, _, _, _, _⟩) (v := .slice ra rn rc) rfl (by kernel_rfl) (by kernel_rfl) (by kernel_rfl) (fun _ _ _ h => h) (Or.inl ⟨by rfl, fun W3 hS => by have c3 := hS.cell 3 _ rfl; go_simp⟩) hS0 ?_
  try simp only [Act.put, List.setIfInBounds_toArray, List.set_cons_zero, List.set_cons_succ]
  clear hS0
  refine wpAnyH_all (rs := [4]) (by kernel_rfl) (by simp) ?_
  intro i hi
  obtain rfl : i = 4 := by simpa using hi
  refine wpOp_intro rfl (fun K1 hK => ?_)
  clear hi
  go_simp
  refine (kV.out _ HB.out).mono ?_
  rintro e V1 ⟨g1, c1, rfl, Q10, rr⟩
  have HB' := Lib.hid (then_below HB.out rr)
  have HX' := Lib.hid (HX.out.under rr)
  have HY' := Lib.hid (HY.out.under rr)
  have Q1 := Lib.hid (TwVars.mono Q10 HB.out.size)
  clear rr HB HX HY  Q10
  have HB := HB'
  have HX := HX'
  have HY := HY'
  clear HB' HX' HY' 
  refine hK _ _ ⟨HX.out, ?_⟩
  clear hK K1
  have hS0 := HX.out
  clear hS0
  refine wpAnyH_all (rs := [7]) (by kernel_rfl) (by simp) ?_
  intro i hi
  obtain rfl : i = 7 := by simpa using hi
  refine wpOp_intro rfl (fun K2 hK => ?_)
  clear hi
  go_simp
  refine (kG.out _ HB.out).mono ?_
  rintro e V2 ⟨g2, c2, rfl, Q20, rr⟩
  have HB' := Lib.hid (then_below HB.out rr)
  have HX' := Lib.hid (HX.out.under rr)
  have HY' := Lib.hid (HY.out.under rr)
  have Q1' := Lib.hid (TwVars.below Q1.out rr)
  have Q2 := Lib.hid (Q20.mono HB.out.size)
  clear rr HB HX HY Q1 Q20
  have HB := HB'
  have HX := HX'
  have HY := HY'
  have Q1 := Q1'
  clear HB' HX' HY' Q1'
  refine hK _ _ ⟨HX.out, ?_⟩
  clear hK K2
  have hS0 := HX.out
  clear hS0
  refine wpAnyH_all (rs := [10]) (by kernel_rfl) (by simp) ?_
  intro i hi
  obtain rfl : i = 10 := by simpa using hi
  refine wpOp_intro rfl (fun K3 hK => ?_)
  clear hi
  go_simp
  refine (kR.out _ HB.out).mono ?_
  rintro e V3 ⟨g3, c3, rfl, Q30, rr⟩
  have HB' := Lib.hid (then_below HB.out rr)
  have HX' := Lib.hid (HX.out.under rr)
  have HY' := Lib.hid (HY.out.under rr)
  have Q1' := Lib.hid (TwVars.below Q1.out rr)
  have Q2' := Lib.hid (Q2.out.below rr)
  have Q3 := Lib.hid (TwRows.mono Q30 HB.out.size)
  clear rr HB HX HY Q1 Q2 Q30
  have HB := HB'
  have HX := HX'
  have HY := HY'
  have Q1 := Q1'
  have Q2 := Q2'
  clear HB' HX' HY' Q1' Q2'
  refine hK _ _ ⟨HX.out, ?_⟩
  clear hK K3
  have hS0 := HX.out
  refine wpAnyH_take (i := 11) (oi := ⟨_, _, _, _, _, _⟩) (v := .agg #[.bool x.most, .slice (some ⟨g1, 0, none⟩) x.vars.length c1, .slice (some ⟨g2, 0, none⟩) x.goal.length c2, .slice (some ⟨g3, 0, none⟩) x.rows.length c3]) rfl (by kernel_rfl) (by kernel_rfl) (by kernel_rfl) (fun _ _ _ h => h) (Or.inl ⟨by rfl, fun W3 hS => by go_simp⟩) hS0 ?_
  try simp only [Act.put, List.setIfInBounds_toArray, List.set_cons_zero, List.set_cons_succ]
  clear hS0
  have f0 := HY.out.fr 0; have f1 := HY.out.fr 1; have f2 := HY.out.fr 2; have f3 := HY.out.fr 3
  have z0 := HY.out.cell 0 _ rfl; have z1 := HY.out.cell 1 _ rfl; have z2 := HY.out.cell 2 _ rfl; have z3 := HY.out.cell 3 _ rfl
  refine wpAnyH_all (rs := [12]) (by kernel_rfl) (by simp) ?_
  intro i hi
  obtain rfl : i = 12 := by simpa using hi
  refine wpOp_intro rfl (fun KS hK => ?_)
  clear hi
  go_simp
  clear f0 z0 f1 z1 f2 z2 f3 z3
  have Y0 := HY.out
  have Y1 := Y0.set 0 (.bool x.most)
  have Y2 := Y1.set 1 (.slice (some ⟨g1, 0, none⟩) x.vars.length c1)
  have Y3 := Y2.set 2 (.slice (some ⟨g2, 0, none⟩) x.goal.length c2)
  have Y4 := Y3.set 3 (.slice (some ⟨g3, 0, none⟩) x.rows.length c3)
  have OF := Lib.hid ((((Off.put Y0 0 (.bool x.most)).trans (Off.put Y1 1 (.slice (some ⟨g1, 0, none⟩) x.vars.length c1))).trans (Off.put Y2 2 (.slice (some ⟨g2, 0, none⟩) x.goal.length c2))).trans (Off.put Y3 3 (.slice (some ⟨g3, 0, none⟩) x.rows.length c3)))
  have HB5 := Lib.hid (((((HB.out).setCell (p := ⟨w.heap.size + 1, 0, none⟩) (Nat.le_succ _) (.bool x.most)).setCell (p := ⟨w.heap.size + 1, 1, none⟩) (Nat.le_succ _) (.slice (some ⟨g1, 0, none⟩) x.vars.length c1)).setCell (p := ⟨w.heap.size + 1, 2, none⟩) (Nat.le_succ _) (.slice (some ⟨g2, 0, none⟩) x.goal.length c2)).setCell (p := ⟨w.heap.size + 1, 3, none⟩) (Nat.le_succ _) (.slice (some ⟨g3, 0, none⟩) x.rows.length c3))
  have HX5 := Lib.hid (((((HX.out).oth (b := w.heap.size + 1) (by omega) 0 (.bool x.most)).oth (b := w.heap.size + 1) (by omega) 1 (.slice (some ⟨g1, 0, none⟩) x.vars.length c1)).oth (b := w.heap.size + 1) (by omega) 2 (.slice (some ⟨g2, 0, none⟩) x.goal.length c2)).oth (b := w.heap.size + 1) (by omega) 3 (.slice (some ⟨g3, 0, none⟩) x.rows.length c3))
  have HY5 := Lib.hid Y4
  clear Y0 Y1 Y2 Y3 Y4 HX HY HB
  refine hK _ _ ⟨HX5.out, ?_⟩
  clear hK KS
  refine wpAnyH_done (by kernel_rfl) ?_ _
  go_wp2
  have HY6 := HY5.out
  clear HY5
  simp only [List.setIfInBounds_toArray, List.set_cons_zero, List.set_cons_succ] at HY6
  refine ret_boxN rfl rfl HY6 Tryz.underlying26 size_model rfl ?_
  exact ⟨_, rfl, ⟨g1, c1, g2, c2, g3, c3, rfl, TwVars.off Q1.out OF.out (by decide), Q2.out.off OF.out (by decide), TwRows.off Q3.out OF.out (by decide)⟩, HB5.out⟩
set_option maxHeartbeats 16000000 in
theorem leftM_any {w : World} {x : MV} {B g1 c1 g2 c2 g3 c3 : Nat} (t1 : TwVars w B g1 c1 x.vars) (t2 : TwR w B g2 c2 x.goal) (t3 : TwRows w B g3 c3 x.rows) {va ga ra : Option Addr} {vn vc gn gc rn rc : Nat} (hV : VarsR w (.slice va vn vc) x.vars) (hG : VReads w (.slice ga gn gc) x.goal) (hR : RowsR w (.slice ra rn rc) x.rows) (hm : x.Mod) :
    Calls Tryz.prog 10 #[.agg #[.bool x.most, .slice (some ⟨g1, 0, none⟩) x.vars.length c1, .slice (some ⟨g2, 0, none⟩) x.goal.length c2, .slice (some ⟨g3, 0, none⟩) x.rows.length c3], .agg #[.bool x.most, .slice va vn vc, .slice ga gn gc, .slice ra rn rc]] w fun e w' => e = .returned (.bool true) ∧ Below w.heap.size w w' := by
  have kV := Lib.hid (fun (W : World) (r : Below w.heap.size w W) => leftVars_any (TwVars.below t1 r) (hV.below r) hm.1.1 hm.1.2)
  have kG := Lib.hid (fun (W : World) (r : Below w.heap.size w W) => leftR_any (t2.below r) (hG.below r) hm.2.1.1 hm.2.1.2)
  have kR := Lib.hid (fun (W : World) (r : Below w.heap.size w W) => leftRows_any (TwRows.below t3 r) (hR.below r) hm.2.2.1 hm.2.2.2)
  have HT := Lib.hid ((BoxN.new w 26 #[.bool x.most, .slice (some ⟨g1, 0, none⟩) x.vars.length c1, .slice (some ⟨g2, 0, none⟩) x.goal.length c2, .slice (some ⟨g3, 0, none⟩) x.rows.length c3]).alloc (.cells #[.bool x.most, .slice va vn vc, .slice ga gn gc, .slice ra rn rc] 26))
  have HX := Lib.hid (BoxN.new1 w (.cells #[.bool x.most, .slice (some ⟨g1, 0, none⟩) x.vars.length c1, .slice (some ⟨g2, 0, none⟩) x.goal.length c2, .slice (some ⟨g3, 0, none⟩) x.rows.length c3] 26) 26 #[.bool x.most, .slice va vn vc, .slice ga gn gc, .slice ra rn rc])
  have al := (Below.refl w.heap.size w).alloc (Nat.le_refl _) (.cells #[.bool x.most, .slice (some ⟨g1, 0, none⟩) x.vars.length c1, .slice (some ⟨g2, 0, none⟩) x.goal.length c2, .slice (some ⟨g3, 0, none⟩) x.rows.length c3] 26)
  have HB := Lib.hid (al.alloc al.size (.cells #[.bool x.most, .slice va vn vc, .slice ga gn gc, .slice ra rn rc] 26))
  clear al
  clear t1 t2 t3 hV hG hR hm
  generalize x.vars.length = m1 at *
  generalize x.goal.length = m2 at *
  generalize x.rows.length = m3 at *
  generalize x.most = b1 at *
  have s0 : (b1 == b1) = true := by simp
  go_enter Tryz.func10, Tryz.ntmps10
  have y0 := HT.out.cell 0 _ rfl; have z0 := HX.out.cell 0 _ rfl; have y1 := HT.out.cell 1 _ rfl; have z1 := HX.out.cell 1 _ rfl; have y2 := HT.out.cell 2 _ rfl; have z2 := HX.out.cell 2 _ rfl; have y3 := HT.out.cell 3 _ rfl; have z3 := HX.out.cell 3 _ rfl
  go_wp2_with fail
  clear y0 z0 y1 z1 y2 z2 y3 z3
  refine (kV.out _ HB.out).mono ?_
  rintro e w1 ⟨rfl, rr⟩
  have HT := Lib.hid (HT.out.under rr); have HX := Lib.hid (HX.out.under rr); have HB := Lib.hid (then_below HB.out rr)
  clear rr kV
  have y0 := HT.out.cell 0 _ rfl; have z0 := HX.out.cell 0 _ rfl; have y1 := HT.out.cell 1 _ rfl; have z1 := HX.out.cell 1 _ rfl; have y2 := HT.out.cell 2 _ rfl; have z2 := HX.out.cell 2 _ rfl; have y3 := HT.out.cell 3 _ rfl; have z3 := HX.out.cell 3 _ rfl
  go_wp2_with fail
  clear y0 z0 y1 z1 y2 z2 y3 z3
  refine (kG.out _ HB.out).mono ?_
  rintro e w2 ⟨rfl, rr⟩
  have HT := Lib.hid (HT.out.under rr); have HX := Lib.hid (HX.out.under rr); have HB := Lib.hid (then_below HB.out rr)
  clear rr kG
  have y0 := HT.out.cell 0 _ rfl; have z0 := HX.out.cell 0 _ rfl; have y1 := HT.out.cell 1 _ rfl; have z1 := HX.out.cell 1 _ rfl; have y2 := HT.out.cell 2 _ rfl; have z2 := HX.out.cell 2 _ rfl; have y3 := HT.out.cell 3 _ rfl; have z3 := HX.out.cell 3 _ rfl
  go_wp2_with fail
  clear y0 z0 y1 z1 y2 z2 y3 z3
  refine (kR.out _ HB.out).mono ?_
  rintro e w3 ⟨rfl, rr⟩
  have HT := Lib.hid (HT.out.under rr); have HX := Lib.hid (HX.out.under rr); have HB := Lib.hid (then_below HB.out rr)
  clear rr kR
  have y0 := HT.out.cell 0 _ rfl; have z0 := HX.out.cell 0 _ rfl; have y1 := HT.out.cell 1 _ rfl; have z1 := HX.out.cell 1 _ rfl; have y2 := HT.out.cell 2 _ rfl; have z2 := HX.out.cell 2 _ rfl; have y3 := HT.out.cell 3 _ rfl; have z3 := HX.out.cell 3 _ rfl
  go_wp2_with fail
  go_ret
  exact ⟨rfl, HB.out⟩
theorem lsz_leB {α : Type} (f : α → Nat) (n : Nat) (l : List α) (hf : ∀ x ∈ l, f x ≤ 600000000000000) (hn : n ≤ 1000000000000000) : lsz f n l ≤ 1000000000000000 := by
  induction l generalizing n with
  | nil => exact hn
  | cons x t ih =>
    simp only [lsz]
    split
    · exact ih _ (fun y hy => hf y (by simp [hy])) (by have := hf x (by simp); omega)
    · exact hn
theorem vsz_le {l : List Vr} (h : l.length ≤ 70368744177664 ∧ ∀ y ∈ l, Vr.Big y) : lsz Vr.size l.length l ≤ 1000000000000000 := lsz_leB _ _ _ (fun x hx => var_le (h.2 x hx)) (by have := h.1; omega)
theorem wsz_le {l : List Rw} (h : l.length ≤ 70368744177664 ∧ ∀ y ∈ l, Rw.Big y) : lsz Rw.size l.length l ≤ 1000000000000000 := lsz_leB _ _ _ (fun x hx => row_le (h.2 x hx)) (by have := h.1; omega)
set_option maxHeartbeats 8000000 in
theorem modelSize_any {w : World} {x : MV} {va ga ra : Option Addr} {vn vc gn gc rn rc : Nat} (hV : VarsR w (.slice va vn vc) x.vars) (hG : VReads w (.slice ga gn gc) x.goal) (hR : RowsR w (.slice ra rn rc) x.rows) (hb : x.Big) :
    Calls Tryz.prog 24 #[.agg #[.bool x.most, .slice va vn vc, .slice ga gn gc, .slice ra rn rc]] w fun e w' => e = .returned (.int .i64 (x.size : Nat)) ∧ Below w.heap.size w w' := by
  have HX := Lib.hid (show BoxN (w.alloc (.cells #[.bool x.most, .slice va vn vc, .slice ga gn gc, .slice ra rn rc] 26)) w.heap.size 26 #[.bool x.most, .slice va vn vc, .slice ga gn gc, .slice ra rn rc] from BoxN.new w _ _)
  have HB := Lib.hid (show Below w.heap.size w (w.alloc (.cells #[.bool x.most, .slice va vn vc, .slice ga gn gc, .slice ra rn rc] 26)) from (Below.refl _ _).alloc (Nat.le_refl _) _)
  have k0 := Lib.hid (fun (W : World) (r : Below w.heap.size w W) => vars_size (hV.below r) (by rw [hV.addr.1]; exact hb.1.1) hb.1.2)
  obtain ⟨x0, hx0⟩ : ∃ X : Nat, X = lsz Vr.size x.vars.length x.vars := ⟨_, rfl⟩
  have b0 : x0 ≤ 1000000000000000 := by rw [hx0]; exact (vsz_le hb.1)
  rw [← hx0] at k0
  have k1 := Lib.hid (fun (W : World) (r : Below w.heap.size w W) => (show Calls Tryz.prog 13 #[.slice ga gn gc] W fun e w' => e = .returned (.int .i64 (rsize x.goal : Nat)) ∧ Below W.heap.size W w' from by unfold rsize; rw [← hG.addr.1]; exact ratsSize_any (hG.below r) hb.2.1.2 (by rw [hG.addr.1]; exact hb.2.1.1)))
  obtain ⟨x1, hx1⟩ : ∃ X : Nat, X = rsize x.goal := ⟨_, rfl⟩
  have b1 : x1 ≤ 1000000000000000 := by rw [hx1]; exact Nat.le_trans (rsize_le hb.2.1) (by omega)
  rw [← hx1] at k1
  have k2 := Lib.hid (fun (W : World) (r : Below w.heap.size w W) => rows_size (hR.below r) (by rw [hR.addr.1]; exact hb.2.2.1) hb.2.2.2)
  obtain ⟨x2, hx2⟩ : ∃ X : Nat, X = lsz Rw.size x.rows.length x.rows := ⟨_, rfl⟩
  have b2 : x2 ≤ 1000000000000000 := by rw [hx2]; exact (wsz_le hb.2.2)
  rw [← hx2] at k2
  unfold MV.size
  rw [← hx0, ← hx1, ← hx2]
  clear hx0 hx1 hx2 hV hG hR hb
  obtain ⟨m0, hm0⟩ : ∃ M : Nat, M = 1 := ⟨_, rfl⟩
  have hb0 : m0 ≤ 140737488355400 := by omega
  obtain ⟨m1, hm1⟩ : ∃ M : Nat, M = m0 + x0 := ⟨_, rfl⟩
  have hi1 : (1 : Int) + (x0 : Int) = (m1 : Int) := by omega
  obtain ⟨m2, hm2⟩ : ∃ M : Nat, M = m1 + x1 := ⟨_, rfl⟩
  have hi2 : (m1 : Int) + (x1 : Int) = (m2 : Int) := by omega
  obtain ⟨m3, hm3⟩ : ∃ M : Nat, M = m2 + x2 := ⟨_, rfl⟩
  have hi3 : (m2 : Int) + (x2 : Int) = (m3 : Int) := by omega
  by_cases c1 : m1 ≤ 1048576
  · by_cases c2 : m2 ≤ 1048576
    · have hR : a4 (a4 (a4 (1) x0) x1) x2 = m3 := by
        rw [a4_yes (show 1 ≤ 1048576 by omega) (show 1 + x0 = m1 by omega)]
        rw [a4_yes (show m1 ≤ 1048576 by omega) (show m1 + x1 = m2 by omega)]
        rw [a4_yes (show m2 ≤ 1048576 by omega) (show m2 + x2 = m3 by omega)]
      rw [hR]
      have p1 : (m1 : Int) ≤ 1048576 := by omega
      have p2 : (m2 : Int) ≤ 1048576 := by omega
      have hb0' : m0 ≤ 4000000000000000 := by omega
      have hb1' : m1 ≤ 4000000000000000 := by omega
      have hb2' : m2 ≤ 4000000000000000 := by omega
      have hb3' : m3 ≤ 4000000000000000 := by omega
      clear hR hm0 hm1 hm2 hm3 
      go_enter Tryz.func24, Tryz.ntmps24
      have z0 := HX.out.cell 0 _ rfl
      have z1 := HX.out.cell 1 _ rfl
      have z2 := HX.out.cell 2 _ rfl
      have z3 := HX.out.cell 3 _ rfl
      go_wp2_with fail
      clear z0 z1 z2 z3
      refine (k0.out _ HB.out).mono ?_
      rintro e w1 ⟨rfl, rr⟩
      have HX := Lib.hid (HX.out.under rr)
      have HB := Lib.hid (then_below HB.out rr)
      clear rr k0
      have z0 := HX.out.cell 0 _ rfl
      have z1 := HX.out.cell 1 _ rfl
      have z2 := HX.out.cell 2 _ rfl
      have z3 := HX.out.cell 3 _ rfl
      go_wp2_with fail
      clear z0 z1 z2 z3
      refine (k1.out _ HB.out).mono ?_
      rintro e w2 ⟨rfl, rr⟩
      have HX := Lib.hid (HX.out.under rr)
      have HB := Lib.hid (then_below HB.out rr)
      clear rr k1
      have z0 := HX.out.cell 0 _ rfl
      have z1 := HX.out.cell 1 _ rfl
      have z2 := HX.out.cell 2 _ rfl
      have z3 := HX.out.cell 3 _ rfl
      go_wp2_with fail
      clear z0 z1 z2 z3
      refine (k2.out _ HB.out).mono ?_
      rintro e w3 ⟨rfl, rr⟩
      have HX := Lib.hid (HX.out.under rr)
      have HB := Lib.hid (then_below HB.out rr)
      clear rr k2
      go_wp2_with fail
      go_ret
      exact ⟨rfl, HB.out⟩
    · have hR : a4 (a4 (a4 (1) x0) x1) x2 = m2 := by
        rw [a4_yes (show 1 ≤ 1048576 by omega) (show 1 + x0 = m1 by omega)]
        rw [a4_yes (show m1 ≤ 1048576 by omega) (show m1 + x1 = m2 by omega)]
        rw [a4_no (show ¬ m2 ≤ 1048576 by omega)]
      rw [hR]
      have p1 : (m1 : Int) ≤ 1048576 := by omega
      have p2 : ¬ (m2 : Int) ≤ 1048576 := by omega
      have hb0' : m0 ≤ 4000000000000000 := by omega
      have hb1' : m1 ≤ 4000000000000000 := by omega
      have hb2' : m2 ≤ 4000000000000000 := by omega
      clear hR hm0 hm1 hm2 hm3 k2
      go_enter Tryz.func24, Tryz.ntmps24
      have z0 := HX.out.cell 0 _ rfl
      have z1 := HX.out.cell 1 _ rfl
      have z2 := HX.out.cell 2 _ rfl
      have z3 := HX.out.cell 3 _ rfl
      go_wp2_with fail
      clear z0 z1 z2 z3
      refine (k0.out _ HB.out).mono ?_
      rintro e w1 ⟨rfl, rr⟩
      have HX := Lib.hid (HX.out.under rr)
      have HB := Lib.hid (then_below HB.out rr)
      clear rr k0
      have z0 := HX.out.cell 0 _ rfl
      have z1 := HX.out.cell 1 _ rfl
      have z2 := HX.out.cell 2 _ rfl
      have z3 := HX.out.cell 3 _ rfl
      go_wp2_with fail
      clear z0 z1 z2 z3
      refine (k1.out _ HB.out).mono ?_
      rintro e w2 ⟨rfl, rr⟩
      have HX := Lib.hid (HX.out.under rr)
      have HB := Lib.hid (then_below HB.out rr)
      clear rr k1
      go_wp2_with fail
      go_ret
      exact ⟨rfl, HB.out⟩
  · have hR : a4 (a4 (a4 (1) x0) x1) x2 = m1 := by
      rw [a4_yes (show 1 ≤ 1048576 by omega) (show 1 + x0 = m1 by omega)]
      rw [a4_no (show ¬ m1 ≤ 1048576 by omega)]
      rw [a4_no (show ¬ m1 ≤ 1048576 by omega)]
    rw [hR]
    have p1 : ¬ (m1 : Int) ≤ 1048576 := by omega
    have hb0' : m0 ≤ 4000000000000000 := by omega
    have hb1' : m1 ≤ 4000000000000000 := by omega
    clear hR hm0 hm1 hm2 hm3 k1 k2
    go_enter Tryz.func24, Tryz.ntmps24
    have z0 := HX.out.cell 0 _ rfl
    have z1 := HX.out.cell 1 _ rfl
    have z2 := HX.out.cell 2 _ rfl
    have z3 := HX.out.cell 3 _ rfl
    go_wp2_with fail
    clear z0 z1 z2 z3
    refine (k0.out _ HB.out).mono ?_
    rintro e w1 ⟨rfl, rr⟩
    have HX := Lib.hid (HX.out.under rr)
    have HB := Lib.hid (then_below HB.out rr)
    clear rr k0
    go_wp2_with fail
    go_ret
    exact ⟨rfl, HB.out⟩
end Go.Proofs.YtbndmpdaloadjaaGreat
