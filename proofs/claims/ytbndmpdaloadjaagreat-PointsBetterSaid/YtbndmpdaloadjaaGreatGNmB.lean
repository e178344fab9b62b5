/- Models: a var, a row: copied, looked at again, how much is in one. -/
import Derived.Test.YtbndmpdaloadjaaGreatGNmA
set_option linter.unusedSimpArgs false
set_option linter.unusedVariables false
namespace Go.Proofs.YtbndmpdaloadjaaGreat
open Go Go.Proofs Go.RowKit Go.Shelf Nu
set_option linter.unusedVariables false
set_option linter.unusedSimpArgs false
set_option maxRecDepth 100000

attribute [local go_sem] Oper.semAt_some

/-- its fractions may be copied -/
def Vr.Mod (x : Vr) : Prop := (x.low.2.1.length ≤ 100000 ∧ x.low.2.2.length ≤ 100000) ∧ x.high.2.1.length ≤ 100000 ∧ x.high.2.2.length ≤ 100000
def Rw.Mod (x : Rw) : Prop := (x.coef.length ≤ 65536 ∧ ∀ q ∈ x.coef, q.2.1.length ≤ 100000 ∧ q.2.2.length ≤ 100000) ∧ x.right.2.1.length ≤ 100000 ∧ x.right.2.2.length ≤ 100000
theorem size_var : (Tryz.prog.info? 77).map (·.size) = some 10 := by kernel_rfl
theorem size_row : (Tryz.prog.info? 81).map (·.size) = some 5 := by kernel_rfl
set_option maxHeartbeats 16000000 in
theorem twinVar_any {w : World} {x : Vr} {p1 p2 p3 p4 : Option Addr} {e1 e2 e3 e4 : Nat} (r1 : Reads w (.slice p1 x.low.2.1.length e1) x.low.2.1) (r2 : Reads w (.slice p2 x.low.2.2.length e2) x.low.2.2) (r3 : Reads w (.slice p3 x.high.2.1.length e3) x.high.2.1) (r4 : Reads w (.slice p4 x.high.2.2.length e4) x.high.2.2) (hm : x.Mod) :
    Calls Tryz.prog 53 #[.agg #[.string x.name, .bool x.whole, .bool x.hasLow, .bool x.low.1, .slice p1 x.low.2.1.length e1, .slice p2 x.low.2.2.length e2, .bool x.hasHigh, .bool x.high.1, .slice p3 x.high.2.1.length e3, .slice p4 x.high.2.2.length e4]] w fun e w' => ∃ cs : List Value, e = .returned (.agg cs.toArray) ∧ TVar w' w.heap.size cs x ∧ Below w.heap.size w w' := by
  have kL := Lib.hid (fun (W : World) (r : Below w.heap.size w W) => rtwin_own (n := x.low.1) hm.1.1 hm.1.2 (r1.below r) (r2.below r))
  have kH := Lib.hid (fun (W : World) (r : Below w.heap.size w W) => rtwin_own (n := x.high.1) hm.2.1 hm.2.2 (r3.below r) (r4.below r))
  have al := (Below.refl w.heap.size w).alloc (Nat.le_refl _) (.cells #[.string x.name, .bool x.whole, .bool x.hasLow, .bool x.low.1, .slice p1 x.low.2.1.length e1, .slice p2 x.low.2.2.length e2, .bool x.hasHigh, .bool x.high.1, .slice p3 x.high.2.1.length e3, .slice p4 x.high.2.2.length e4] 77)
  have HX0 := Lib.hid ((BoxN.new w 77 #[.string x.name, .bool x.whole, .bool x.hasLow, .bool x.low.1, .slice p1 x.low.2.1.length e1, .slice p2 x.low.2.2.length e2, .bool x.hasHigh, .bool x.high.1, .slice p3 x.high.2.1.length e3, .slice p4 x.high.2.2.length e4]).alloc (.cells #[.string ⟨#[]⟩, .bool false, .bool false, .bool false, .slice none 0 0, .slice none 0 0, .bool false, .bool false, .slice none 0 0, .slice none 0 0] 77))
  have HY0 := Lib.hid (BoxN.new1 w (.cells #[.string x.name, .bool x.whole, .bool x.hasLow, .bool x.low.1, .slice p1 x.low.2.1.length e1, .slice p2 x.low.2.2.length e2, .bool x.hasHigh, .bool x.high.1, .slice p3 x.high.2.1.length e3, .slice p4 x.high.2.2.length e4] 77) 77 #[.string ⟨#[]⟩, .bool false, .bool false, .bool false, .slice none 0 0, .slice none 0 0, .bool false, .bool false, .slice none 0 0, .slice none 0 0])
  have HB0 := Lib.hid (al.alloc al.size (.cells #[.string ⟨#[]⟩, .bool false, .bool false, .bool false, .slice none 0 0, .slice none 0 0, .bool false, .bool false, .slice none 0 0, .slice none 0 0] 77))
  clear r1 r2 r3 r4 hm al
  go_enter Tryz.func53, Tryz.ntmps53
  go_wp2
  refine region_bl (S := fun W => BoxN W w.heap.size 77 #[.string x.name, .bool x.whole, .bool x.hasLow, .bool x.low.1, .slice p1 x.low.2.1.length e1, .slice p2 x.low.2.2.length e2, .bool x.hasHigh, .bool x.high.1, .slice p3 x.high.2.1.length e3, .slice p4 x.high.2.2.length e4]) (by kernel_rfl) ?_
  intro V0 r0
  have HB := Lib.hid (then_below HB0.out r0)
  have HX := Lib.hid (HX0.out.under r0)
  have HY := Lib.hid (HY0.out.under r0)
  clear HB0 HX0 HY0 r0
  have hS0 := HX.out
  refine wpAnyH_take (i := 0) (oi := ⟨_, _, _, _, _, _⟩) (v := .pointer (some ⟨w.heap.size, 0, none⟩)) rfl (by kernel_rfl) (by kernel_rfl) (by kernel_rfl) (fun _ _ _ h => h) (Or.inl ⟨by rfl, fun W3 hS => by go_simp⟩) hS0 ?_
  try simp only [Act.put, List.setIfInBounds_toArray, List.set_cons_zero, List.set_cons_succ]
  refine wpAnyH_take (i := 1) (oi := ⟨_, _, _, _, _, _⟩) (v := .string x.name) rfl (by kernel_rfl) (by kernel_rfl) (by kernel_rfl) (fun _ _ _ h => h) (Or.inl ⟨by rfl, fun W3 hS => by have c0 := hS.cell 0 _ rfl; go_simp⟩) hS0 ?_
  try simp only [Act.put, List.setIfInBounds_toArray, List.set_cons_zero, List.set_cons_succ]
  refine wpAnyH_take (i := 2) (oi := ⟨_, _, _, _, _, _⟩) (v := .pointer (some ⟨w.heap.size, 1, none⟩)) rfl (by kernel_rfl) (by kernel_rfl) (by kernel_rfl) (fun _ _ _ h => h) (Or.inl ⟨by rfl, fun W3 hS => by go_simp⟩) hS0 ?_
  try simp only [Act.put, List.setIfInBounds_toArray, List.set_cons_zero, List.set_cons_succ]
  refine wpAnyH_take (i := 3) (oi := ⟨_, _, _, _, _, _⟩) (v := .bool x.whole) rfl (by kernel_rfl) (by kernel_rfl) (by kernel_rfl) (fun _ _ _ h => h) (Or.inl ⟨by rfl, fun W3 hS => by have c1 := hS.cell 1 _ rfl; go_simp⟩) hS0 ?_
  try simp only [Act.put, List.setIfInBounds_toArray, List.set_cons_zero, List.set_cons_succ]
  refine wpAnyH_take (i := 4) (oi := ⟨_, _, _, _, _, _⟩) (v := .pointer (some ⟨w.heap.size, 2, none⟩)) rfl (by kernel_rfl) (by kernel_rfl) (by kernel_rfl) (fun _ _ _ h => h) (Or.inl ⟨by rfl, fun W3 hS => by go_simp⟩) hS0 ?_
  try simp only [Act.put, List.setIfInBounds_toArray, List.set_cons_zero, List.set_cons_succ]
  refine wpAnyH_take (i := 5) (oi := ⟨_, _, _, _, _, _⟩) (v := .bool x.hasLow) rfl (by kernel_rfl) (by kernel_rfl) (by kernel_rfl) (fun _ _ _ h => h) (Or.inl ⟨by rfl, fun W3 hS => by have c2 := hS.cell 2 _ rfl; go_simp⟩) hS0 ?_
  try simp only [Act.put, List.setIfInBounds_toArray, List.set_cons_zero, List.set_cons_succ]
  refine wpAnyH_take (i := 6) (oi := ⟨_, _, _, _, _, _⟩) (v := .pointer (some ⟨w.heap.size, 3, none⟩)) rfl (by kernel_rfl) (by kernel_rfl) (by kernel_rfl) (fun _ _ _ h => h) (Or.inl ⟨by rfl, fun W3 hS => by go_simp⟩) hS0 ?_
  try simp only [Act.put, List.setIfInBounds_toArray, List.set_cons_zero, List.set_cons_succ]
  refine wpAnyH_take (i := 7) (oi := ⟨_, _, _, _, _, _⟩) (v := .agg #[.bool x.low.1, .slice p1 x.low.2.1.length e1, .slice p2 x.low.2.2.length e2]) rfl (by kernel_rfl) (by kernel_rfl) (by kernel_rfl) (fun _ _ _ h => h) (Or.inl ⟨by rfl, fun W3 hS => by have c3 := hS.cell 3 _ rfl; have c4 := hS.cell 4 _ rfl; have c5 := hS.cell 5 _ rfl; go_simp⟩) hS0 ?_
  try simp only [Act.put, List.setIfInBounds_toArray, List.set_cons_zero, List.set_cons_succ]
  refine wpAnyH_take (i := 9) (oi := ⟨_, _, _, _, _, _⟩) (v := .pointer (some ⟨w.heap.size, 6, none⟩)) rfl (by kernel_rfl) (by kernel_rfl) (by kernel_rfl) (fun _ _ _ h => h) (Or.inl ⟨by rfl, fun W3 hS => by go_simp⟩) hS0 ?_
  try simp only [Act.put, List.setIfInBounds_toArray, List.set_cons_zero, List.set_cons_succ]
  refine wpAnyH_take (i := 10) (oi := ⟨_, _, _, _, _, _⟩) (v := .bool x.hasHigh) rfl (by kernel_rfl) (by kernel_rfl) (by kernel_rfl) (fun _ _ _ h => h) (Or.inl ⟨by rfl, fun W3 hS => by have c6 := hS.cell 6 _ rfl; go_simp⟩) hS0 ?_
  try simp only [Act.put, List.setIfInBounds_toArray, List.set_cons_zero, List.set_cons_succ]
  refine wpAnyH_take (i := 11) (oi := ⟨_, _, _, _, _, _⟩) (v := .pointer (some ⟨w.heap.size, 7, none⟩)) rfl (by kernel_rfl) (by kernel_rfl) (by kernel_rfl) (fun _ _ _ h => h) (Or.inl ⟨by rfl, fun W3 hS => by go_simp⟩) hS0 ?_
  try simp only [Act.put, List.setIfInBounds_toArray, List.set_cons_zero, List.set_cons_succ]
  refine wpAnyH_take (i := 12) (oi := ⟨_, _, _, _, _, _⟩) (v := .agg #[.bool x.high.1, .slice p3 x.high.2.1.length e3, .slice p4 x.high.2.2.length e4]) rfl (by kernel_rfl) (by kernel_rfl) (by kernel_rfl) (fun _ _ _ h => h) (Or.inl ⟨by rfl, fun W3 hS => by have c7 := hS.cell 7 _ rfl; have c8 := hS.cell 8 _ rfl; have c9 := hS.cell 9 _ rfl; go_simp⟩) hS0 ?_
  try simp only [Act.put, List.setIfInBounds_toArray, List.set_cons_zero, List.set_cons_succ]
  clear hS0
  refine wpAnyH_all (rs := [8]) (by kernel_rfl) (by simp) ?_
  intro i hi
  obtain rfl : i = 8 := by simpa using hi
  refine wpOp_intro rfl (fun K1 hK => ?_)
  clear hi
  go_simp
  refine (kL.out _ HB.out).mono ?_
  rintro e V1 ⟨g1, c1, g2, c2, rfl, Q10, Q20, rr, -⟩
  have HB' := Lib.hid (then_below HB.out rr)
  have HX' := Lib.hid (HX.out.under rr)
  have HY' := Lib.hid (HY.out.under rr)
  have Q1 := Lib.hid (Q10.mono HB.out.size)
  have Q2 := Lib.hid (Q20.mono HB.out.size)
  clear rr HB HX HY  Q10 Q20
  have HB := HB'
  have HX := HX'
  have HY := HY'
  clear HB' HX' HY' 
  refine hK _ _ ⟨HX.out, ?_⟩
  clear hK K1
  have hS0 := HX.out
  clear hS0
  refine wpAnyH_all (rs := [13]) (by kernel_rfl) (by simp) ?_
  intro i hi
  obtain rfl : i = 13 := by simpa using hi
  refine wpOp_intro rfl (fun K2 hK => ?_)
  clear hi
  go_simp
  refine (kH.out _ HB.out).mono ?_
  rintro e V2 ⟨g3, c3, g4, c4, rfl, Q30, Q40, rr, -⟩
  have HB' := Lib.hid (then_below HB.out rr)
  have HX' := Lib.hid (HX.out.under rr)
  have HY' := Lib.hid (HY.out.under rr)
  have Q1' := Lib.hid (Q1.out.below rr)
  have Q2' := Lib.hid (Q2.out.below rr)
  have Q3 := Lib.hid (Q30.mono HB.out.size)
  have Q4 := Lib.hid (Q40.mono HB.out.size)
  clear rr HB HX HY Q1 Q2 Q30 Q40
  have HB := HB'
  have HX := HX'
  have HY := HY'
  have Q1 := Q1'
  have Q2 := Q2'
  clear HB' HX' HY' Q1' Q2'
  refine hK _ _ ⟨HX.out, ?_⟩
  clear hK K2
  have hS0 := HX.out
  refine wpAnyH_take (i := 14) (oi := ⟨_, _, _, _, _, _⟩) (v := .agg #[.string x.name, .bool x.whole, .bool x.hasLow, .bool x.low.1, .slice (some ⟨g1, 0, none⟩) x.low.2.1.length c1, .slice (some ⟨g2, 0, none⟩) x.low.2.2.length c2, .bool x.hasHigh, .bool x.high.1, .slice (some ⟨g3, 0, none⟩) x.high.2.1.length c3, .slice (some ⟨g4, 0, none⟩) x.high.2.2.length c4]) rfl (by kernel_rfl) (by kernel_rfl) (by kernel_rfl) (fun _ _ _ h => h) (Or.inl ⟨by rfl, fun W3 hS => by go_simp⟩) hS0 ?_
  try simp only [Act.put, List.setIfInBounds_toArray, List.set_cons_zero, List.set_cons_succ]
  clear hS0
  have f0 := HY.out.fr 0; have f1 := HY.out.fr 1; have f2 := HY.out.fr 2; have f3 := HY.out.fr 3; have f4 := HY.out.fr 4; have f5 := HY.out.fr 5; have f6 := HY.out.fr 6; have f7 := HY.out.fr 7; have f8 := HY.out.fr 8; have f9 := HY.out.fr 9
  have z0 := HY.out.cell 0 _ rfl; have z1 := HY.out.cell 1 _ rfl; have z2 := HY.out.cell 2 _ rfl; have z3 := HY.out.cell 3 _ rfl; have z4 := HY.out.cell 4 _ rfl; have z5 := HY.out.cell 5 _ rfl; have z6 := HY.out.cell 6 _ rfl; have z7 := HY.out.cell 7 _ rfl; have z8 := HY.out.cell 8 _ rfl; have z9 := HY.out.cell 9 _ rfl
  refine wpAnyH_all (rs := [15]) (by kernel_rfl) (by simp) ?_
  intro i hi
  obtain rfl : i = 15 := by simpa using hi
  refine wpOp_intro rfl (fun KS hK => ?_)
  clear hi
  go_simp
  clear f0 z0 f1 z1 f2 z2 f3 z3 f4 z4 f5 z5 f6 z6 f7 z7 f8 z8 f9 z9
  have Y0 := HY.out
  have Y1 := Y0.set 0 (.string x.name)
  have Y2 := Y1.set 1 (.bool x.whole)
  have Y3 := Y2.set 2 (.bool x.hasLow)
  have Y4 := Y3.set 3 (.bool x.low.1)
  have Y5 := Y4.set 4 (.slice (some ⟨g1, 0, none⟩) x.low.2.1.length c1)
  have Y6 := Y5.set 5 (.slice (some ⟨g2, 0, none⟩) x.low.2.2.length c2)
  have Y7 := Y6.set 6 (.bool x.hasHigh)
  have Y8 := Y7.set 7 (.bool x.high.1)
  have Y9 := Y8.set 8 (.slice (some ⟨g3, 0, none⟩) x.high.2.1.length c3)
  have Y10 := Y9.set 9 (.slice (some ⟨g4, 0, none⟩) x.high.2.2.length c4)
  have OF := Lib.hid ((((((((((Off.put Y0 0 (.string x.name)).trans (Off.put Y1 1 (.bool x.whole))).trans (Off.put Y2 2 (.bool x.hasLow))).trans (Off.put Y3 3 (.bool x.low.1))).trans (Off.put Y4 4 (.slice (some ⟨g1, 0, none⟩) x.low.2.1.length c1))).trans (Off.put Y5 5 (.slice (some ⟨g2, 0, none⟩) x.low.2.2.length c2))).trans (Off.put Y6 6 (.bool x.hasHigh))).trans (Off.put Y7 7 (.bool x.high.1))).trans (Off.put Y8 8 (.slice (some ⟨g3, 0, none⟩) x.high.2.1.length c3))).trans (Off.put Y9 9 (.slice (some ⟨g4, 0, none⟩) x.high.2.2.length c4)))
  have HB5 := Lib.hid (((((((((((HB.out).setCell (p := ⟨w.heap.size + 1, 0, none⟩) (Nat.le_succ _) (.string x.name)).setCell (p := ⟨w.heap.size + 1, 1, none⟩) (Nat.le_succ _) (.bool x.whole)).setCell (p := ⟨w.heap.size + 1, 2, none⟩) (Nat.le_succ _) (.bool x.hasLow)).setCell (p := ⟨w.heap.size + 1, 3, none⟩) (Nat.le_succ _) (.bool x.low.1)).setCell (p := ⟨w.heap.size + 1, 4, none⟩) (Nat.le_succ _) (.slice (some ⟨g1, 0, none⟩) x.low.2.1.length c1)).setCell (p := ⟨w.heap.size + 1, 5, none⟩) (Nat.le_succ _) (.slice (some ⟨g2, 0, none⟩) x.low.2.2.length c2)).setCell (p := ⟨w.heap.size + 1, 6, none⟩) (Nat.le_succ _) (.bool x.hasHigh)).setCell (p := ⟨w.heap.size + 1, 7, none⟩) (Nat.le_succ _) (.bool x.high.1)).setCell (p := ⟨w.heap.size + 1, 8, none⟩) (Nat.le_succ _) (.slice (some ⟨g3, 0, none⟩) x.high.2.1.length c3)).setCell (p := ⟨w.heap.size + 1, 9, none⟩) (Nat.le_succ _) (.slice (some ⟨g4, 0, none⟩) x.high.2.2.length c4))
  have HX5 := Lib.hid (((((((((((HX.out).oth (b := w.heap.size + 1) (by omega) 0 (.string x.name)).oth (b := w.heap.size + 1) (by omega) 1 (.bool x.whole)).oth (b := w.heap.size + 1) (by omega) 2 (.bool x.hasLow)).oth (b := w.heap.size + 1) (by omega) 3 (.bool x.low.1)).oth (b := w.heap.size + 1) (by omega) 4 (.slice (some ⟨g1, 0, none⟩) x.low.2.1.length c1)).oth (b := w.heap.size + 1) (by omega) 5 (.slice (some ⟨g2, 0, none⟩) x.low.2.2.length c2)).oth (b := w.heap.size + 1) (by omega) 6 (.bool x.hasHigh)).oth (b := w.heap.size + 1) (by omega) 7 (.bool x.high.1)).oth (b := w.heap.size + 1) (by omega) 8 (.slice (some ⟨g3, 0, none⟩) x.high.2.1.length c3)).oth (b := w.heap.size + 1) (by omega) 9 (.slice (some ⟨g4, 0, none⟩) x.high.2.2.length c4))
  have HY5 := Lib.hid Y10
  clear Y0 Y1 Y2 Y3 Y4 Y5 Y6 Y7 Y8 Y9 Y10 HX HY HB
  refine hK _ _ ⟨HX5.out, ?_⟩
  clear hK KS
  refine wpAnyH_done (by kernel_rfl) ?_ _
  go_wp2
  have HY6 := HY5.out
  clear HY5
  simp only [List.setIfInBounds_toArray, List.set_cons_zero, List.set_cons_succ] at HY6
  refine ret_boxN rfl rfl HY6 Tryz.underlying77 size_var rfl ?_
  exact ⟨[.string x.name, .bool x.whole, .bool x.hasLow, .bool x.low.1, .slice (some ⟨g1, 0, none⟩) x.low.2.1.length c1, .slice (some ⟨g2, 0, none⟩) x.low.2.2.length c2, .bool x.hasHigh, .bool x.high.1, .slice (some ⟨g3, 0, none⟩) x.high.2.1.length c3, .slice (some ⟨g4, 0, none⟩) x.high.2.2.length c4], rfl, ⟨g1, c1, g2, c2, g3, c3, g4, c4, rfl, Q1.out.off OF.out (by decide), Q2.out.off OF.out (by decide), Q3.out.off OF.out (by decide), Q4.out.off OF.out (by decide)⟩, HB5.out⟩
set_option maxHeartbeats 16000000 in
theorem twinRow_any {w : World} {x : Rw} {p0 p1 p2 : Option Addr} {n0 e0 e1 e2 : Nat} (r0 : VReads w (.slice p0 n0 e0) x.coef) (r1 : Reads w (.slice p1 x.right.2.1.length e1) x.right.2.1) (r2 : Reads w (.slice p2 x.right.2.2.length e2) x.right.2.2) (hm : x.Mod) :
    Calls Tryz.prog 54 #[.agg #[.slice p0 n0 e0, .int .u8 x.kind, .bool x.right.1, .slice p1 x.right.2.1.length e1, .slice p2 x.right.2.2.length e2]] w fun e w' => ∃ cs : List Value, e = .returned (.agg cs.toArray) ∧ TRow w' w.heap.size cs x ∧ Below w.heap.size w w' := by
  have kC := Lib.hid (fun (W : World) (r : Below w.heap.size w W) => twinR_any (r0.below r) hm.1.1 hm.1.2)
  have kR := Lib.hid (fun (W : World) (r : Below w.heap.size w W) => rtwin_own (n := x.right.1) hm.2.1 hm.2.2 (r1.below r) (r2.below r))
  have al := (Below.refl w.heap.size w).alloc (Nat.le_refl _) (.cells #[.slice p0 n0 e0, .int .u8 x.kind, .bool x.right.1, .slice p1 x.right.2.1.length e1, .slice p2 x.right.2.2.length e2] 81)
  have HX0 := Lib.hid ((BoxN.new w 81 #[.slice p0 n0 e0, .int .u8 x.kind, .bool x.right.1, .slice p1 x.right.2.1.length e1, .slice p2 x.right.2.2.length e2]).alloc (.cells #[.slice none 0 0, .int .u8 0, .bool false, .slice none 0 0, .slice none 0 0] 81))
  have HY0 := Lib.hid (BoxN.new1 w (.cells #[.slice p0 n0 e0, .int .u8 x.kind, .bool x.right.1, .slice p1 x.right.2.1.length e1, .slice p2 x.right.2.2.length e2] 81) 81 #[.slice none 0 0, .int .u8 0, .bool false, .slice none 0 0, .slice none 0 0])
  have HB0 := Lib.hid (al.alloc al.size (.cells #[.slice none 0 0, .int .u8 0, .bool false, .slice none 0 0, .slice none 0 0] 81))
  clear r0 r1 r2 hm al
  go_enter Tryz.func54, Tryz.ntmps54
  go_wp2
  refine region_bl (S := fun W => BoxN W w.heap.size 81 #[.slice p0 n0 e0, .int .u8 x.kind, .bool x.right.1, .slice p1 x.right.2.1.length e1, .slice p2 x.right.2.2.length e2]) (by kernel_rfl) ?_
  intro V0 r0
  have HB := Lib.hid (then_below HB0.out r0)
  have HX := Lib.hid (HX0.out.under r0)
  have HY := Lib.hid (HY0.out.under r0)
  clear HB0 HX0 HY0 r0
  have hS0 := HX.out
  refine wpAnyH_take (i := 0) (oi := ⟨_, _, _, _, _, _⟩) (v := .pointer (some ⟨w.heap.size, 0, none⟩)) rfl (by kernel_rfl) (by kernel_rfl) (by kernel_rfl) (fun _ _ _ h => h) (Or.inl ⟨by rfl, fun W3 hS => by go_simp⟩) hS0 ?_
  try simp only [Act.put, List.setIfInBounds_toArray, List.set_cons_zero, List.set_cons_succ]
  refine wpAnyH_take (i := 1) (oi := ⟨_, _, _, _, _, _⟩) (v := .slice p0 n0 e0) rfl (by kernel_rfl) (by kernel_rfl) (by kernel_rfl) (fun _ _ _ h => h) (Or.inl ⟨by rfl, fun W3 hS => by have c0 := hS.cell 0 _ rfl; go_simp⟩) hS0 ?_
  try simp only [Act.put, List.setIfInBounds_toArray, List.set_cons_zero, List.set_cons_succ]
  refine wpAnyH_take (i := 3) (oi := ⟨_, _, _, _, _, _⟩) (v := .pointer (some ⟨w.heap.size, 1, none⟩)) rfl (by kernel_rfl) (by kernel_rfl) (by kernel_rfl) (fun _ _ _ h => h) (Or.inl ⟨by rfl, fun W3 hS => by go_simp⟩) hS0 ?_
  try simp only [Act.put, List.setIfInBounds_toArray, List.set_cons_zero, List.set_cons_succ]
  refine wpAnyH_take (i := 4) (oi := ⟨_, _, _, _, _, _⟩) (v := .int .u8 x.kind) rfl (by kernel_rfl) (by kernel_rfl) (by kernel_rfl) (fun _ _ _ h => h) (Or.inl ⟨by rfl, fun W3 hS => by have c1 := hS.cell 1 _ rfl; go_simp⟩) hS0 ?_
  try simp only [Act.put, List.setIfInBounds_toArray, List.set_cons_zero, List.set_cons_succ]
  refine wpAnyH_take (i := 5) (oi := ⟨_, _, _, _, _, _⟩) (v := .pointer (some ⟨w.heap.size, 2, none⟩)) rfl (by kernel_rfl) (by kernel_rfl) (by kernel_rfl) (fun _ _ _ h => h) (Or.inl ⟨by rfl, fun W3 hS => by go_simp⟩) hS0 ?_
  try simp only [Act.put, List.setIfInBounds_toArray, List.set_cons_zero, List.set_cons_succ]
  refine wpAnyH_take (i := 6) (oi := ⟨_, _, _, _, _, _⟩) (v := .agg #[.bool x.right.1, .slice p1 x.right.2.1.length e1, .slice p2 x.right.2.2.length e2]) rfl (by kernel_rfl) (by kernel_rfl) (by kernel_rfl) (fun _ _ _ h => h) (Or.inl ⟨by rfl, fun W3 hS => by have c2 := hS.cell 2 _ rfl; have c3 := hS.cell 3 _ rfl; have c4 := hS.cell 4 _ rfl; go_simp⟩) hS0 ?_
  try simp only [Act.put, List.setIfInBounds_toArray, List.set_cons_zero, List.set_cons_succ]
  clear hS0
  refine wpAnyH_all (rs := [2]) (by kernel_rfl) (by simp) ?_
  intro i hi
  obtain rfl : i = 2 := by simpa using hi
  refine wpOp_intro rfl (fun K1 hK => ?_)
  clear hi
  go_simp
  refine (kC.out _ HB.out).mono ?_
  rintro e V1 ⟨g0, c0, rfl, Q00, rr⟩
  have HB' := Lib.hid (then_below HB.out rr)
  have HX' := Lib.hid (HX.out.under rr)
  have HY' := Lib.hid (HY.out.under rr)
  have Q0 := Lib.hid (Q00.mono HB.out.size)
  clear rr HB HX HY  Q00
  have HB := HB'
  have HX := HX'
  have HY := HY'
  clear HB' HX' HY' 
  refine hK _ _ ⟨HX.out, ?_⟩
  clear hK K1
  have hS0 := HX.out
  clear hS0
  refine wpAnyH_all (rs := [7]) (by kernel_rfl) (by simp) ?_
  intro i hi
  obtain rfl : i = 7 := by simpa using hi
  refine wpOp_intro rfl (fun K2 hK => ?_)
  clear hi
  go_simp
  refine (kR.out _ HB.out).mono ?_
  rintro e V2 ⟨g1, c1, g2, c2, rfl, Q10, Q20, rr, -⟩
  have HB' := Lib.hid (then_below HB.out rr)
  have HX' := Lib.hid (HX.out.under rr)
  have HY' := Lib.hid (HY.out.under rr)
  have Q0' := Lib.hid (Q0.out.below rr)
  have Q1 := Lib.hid (Q10.mono HB.out.size)
  have Q2 := Lib.hid (Q20.mono HB.out.size)
  clear rr HB HX HY Q0 Q10 Q20
  have HB := HB'
  have HX := HX'
  have HY := HY'
  have Q0 := Q0'
  clear HB' HX' HY' Q0'
  refine hK _ _ ⟨HX.out, ?_⟩
  clear hK K2
  have hS0 := HX.out
  refine wpAnyH_take (i := 8) (oi := ⟨_, _, _, _, _, _⟩) (v := .agg #[.slice (some ⟨g0, 0, none⟩) x.coef.length c0, .int .u8 x.kind, .bool x.right.1, .slice (some ⟨g1, 0, none⟩) x.right.2.1.length c1, .slice (some ⟨g2, 0, none⟩) x.right.2.2.length c2]) rfl (by kernel_rfl) (by kernel_rfl) (by kernel_rfl) (fun _ _ _ h => h) (Or.inl ⟨by rfl, fun W3 hS => by go_simp⟩) hS0 ?_
  try simp only [Act.put, List.setIfInBounds_toArray, List.set_cons_zero, List.set_cons_succ]
  clear hS0
  have f0 := HY.out.fr 0; have f1 := HY.out.fr 1; have f2 := HY.out.fr 2; have f3 := HY.out.fr 3; have f4 := HY.out.fr 4
  have z0 := HY.out.cell 0 _ rfl; have z1 := HY.out.cell 1 _ rfl; have z2 := HY.out.cell 2 _ rfl; have z3 := HY.out.cell 3 _ rfl; have z4 := HY.out.cell 4 _ rfl
  refine wpAnyH_all (rs := [9]) (by kernel_rfl) (by simp) ?_
  intro i hi
  obtain rfl : i = 9 := by simpa using hi
  refine wpOp_intro rfl (fun KS hK => ?_)
  clear hi
  go_simp
  clear f0 z0 f1 z1 f2 z2 f3 z3 f4 z4
  have Y0 := HY.out
  have Y1 := Y0.set 0 (.slice (some ⟨g0, 0, none⟩) x.coef.length c0)
  have Y2 := Y1.set 1 (.int .u8 x.kind)
  have Y3 := Y2.set 2 (.bool x.right.1)
  have Y4 := Y3.set 3 (.slice (some ⟨g1, 0, none⟩) x.right.2.1.length c1)
  have Y5 := Y4.set 4 (.slice (some ⟨g2, 0, none⟩) x.right.2.2.length c2)
  have OF := Lib.hid (((((Off.put Y0 0 (.slice (some ⟨g0, 0, none⟩) x.coef.length c0)).trans (Off.put Y1 1 (.int .u8 x.kind))).trans (Off.put Y2 2 (.bool x.right.1))).trans (Off.put Y3 3 (.slice (some ⟨g1, 0, none⟩) x.right.2.1.length c1))).trans (Off.put Y4 4 (.slice (some ⟨g2, 0, none⟩) x.right.2.2.length c2)))
  have HB5 := Lib.hid ((((((HB.out).setCell (p := ⟨w.heap.size + 1, 0, none⟩) (Nat.le_succ _) (.slice (some ⟨g0, 0, none⟩) x.coef.length c0)).setCell (p := ⟨w.heap.size + 1, 1, none⟩) (Nat.le_succ _) (.int .u8 x.kind)).setCell (p := ⟨w.heap.size + 1, 2, none⟩) (Nat.le_succ _) (.bool x.right.1)).setCell (p := ⟨w.heap.size + 1, 3, none⟩) (Nat.le_succ _) (.slice (some ⟨g1, 0, none⟩) x.right.2.1.length c1)).setCell (p := ⟨w.heap.size + 1, 4, none⟩) (Nat.le_succ _) (.slice (some ⟨g2, 0, none⟩) x.right.2.2.length c2))
  have HX5 := Lib.hid ((((((HX.out).oth (b := w.heap.size + 1) (by omega) 0 (.slice (some ⟨g0, 0, none⟩) x.coef.length c0)).oth (b := w.heap.size + 1) (by omega) 1 (.int .u8 x.kind)).oth (b := w.heap.size + 1) (by omega) 2 (.bool x.right.1)).oth (b := w.heap.size + 1) (by omega) 3 (.slice (some ⟨g1, 0, none⟩) x.right.2.1.length c1)).oth (b := w.heap.size + 1) (by omega) 4 (.slice (some ⟨g2, 0, none⟩) x.right.2.2.length c2))
  have HY5 := Lib.hid Y5
  clear Y0 Y1 Y2 Y3 Y4 Y5 HX HY HB
  refine hK _ _ ⟨HX5.out, ?_⟩
  clear hK KS
  refine wpAnyH_done (by kernel_rfl) ?_ _
  go_wp2
  have HY6 := HY5.out
  clear HY5
  simp only [List.setIfInBounds_toArray, List.set_cons_zero, List.set_cons_succ] at HY6
  refine ret_boxN rfl rfl HY6 Tryz.underlying81 size_row rfl ?_
  exact ⟨_, rfl, ⟨g0, c0, g1, c1, g2, c2, rfl, Q0.out.off OF.out (by decide), Q1.out.off OF.out (by decide), Q2.out.off OF.out (by decide)⟩, HB5.out⟩
end Go.Proofs.YtbndmpdaloadjaaGreat
