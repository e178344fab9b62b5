/- Models: a var, a row: looked at again, how much is in one. -/
import Derived.Test.YtbndmpdaloadjaaGreatGNmB
set_option linter.unusedSimpArgs false
set_option linter.unusedVariables false
namespace Go.Proofs.YtbndmpdaloadjaaGreat
open Go Go.Proofs Go.RowKit Go.Shelf Nu
set_option linter.unusedVariables false
set_option linter.unusedSimpArgs false
set_option maxRecDepth 100000

attribute [local go_sem] Oper.semAt_some

theorem str_same (a : ByteArray) : (a.toList == a.toList) = true := by simp
set_option maxHeartbeats 16000000 in
theorem leftVar_any {w : World} {x : Vr} {B g1 c1 g2 c2 g3 c3 g4 c4 : Nat} (t1 : Tw w B g1 c1 x.low.2.1) (t2 : Tw w B g2 c2 x.low.2.2) (t3 : Tw w B g3 c3 x.high.2.1) (t4 : Tw w B g4 c4 x.high.2.2) {p1 p2 p3 p4 : Option Addr} {e1 e2 e3 e4 : Nat} (r1 : Reads w (.slice p1 x.low.2.1.length e1) x.low.2.1) (r2 : Reads w (.slice p2 x.low.2.2.length e2) x.low.2.2) (r3 : Reads w (.slice p3 x.high.2.1.length e3) x.high.2.1) (r4 : Reads w (.slice p4 x.high.2.2.length e4) x.high.2.2) (hm : x.Mod) :
    Calls Tryz.prog 62 #[.agg #[.string x.name, .bool x.whole, .bool x.hasLow, .bool x.low.1, .slice (some ⟨g1, 0, none⟩) x.low.2.1.length c1, .slice (some ⟨g2, 0, none⟩) x.low.2.2.length c2, .bool x.hasHigh, .bool x.high.1, .slice (some ⟨g3, 0, none⟩) x.high.2.1.length c3, .slice (some ⟨g4, 0, none⟩) x.high.2.2.length c4], .agg #[.string x.name, .bool x.whole, .bool x.hasLow, .bool x.low.1, .slice p1 x.low.2.1.length e1, .slice p2 x.low.2.2.length e2, .bool x.hasHigh, .bool x.high.1, .slice p3 x.high.2.1.length e3, .slice p4 x.high.2.2.length e4]] w fun e w' => e = .returned (.bool true) ∧ Below w.heap.size w w' := by
  have kL := Lib.hid (fun (W : World) (r : Below w.heap.size w W) => rleft_any (n := x.low.1) hm.1.1 hm.1.2 (t1.below r) (t2.below r) (r1.below r) (r2.below r))
  have kH := Lib.hid (fun (W : World) (r : Below w.heap.size w W) => rleft_any (n := x.high.1) hm.2.1 hm.2.2 (t3.below r) (t4.below r) (r3.below r) (r4.below r))
  have HT := Lib.hid ((BoxN.new w 77 #[.string x.name, .bool x.whole, .bool x.hasLow, .bool x.low.1, .slice (some ⟨g1, 0, none⟩) x.low.2.1.length c1, .slice (some ⟨g2, 0, none⟩) x.low.2.2.length c2, .bool x.hasHigh, .bool x.high.1, .slice (some ⟨g3, 0, none⟩) x.high.2.1.length c3, .slice (some ⟨g4, 0, none⟩) x.high.2.2.length c4]).alloc (.cells #[.string x.name, .bool x.whole, .bool x.hasLow, .bool x.low.1, .slice p1 x.low.2.1.length e1, .slice p2 x.low.2.2.length e2, .bool x.hasHigh, .bool x.high.1, .slice p3 x.high.2.1.length e3, .slice p4 x.high.2.2.length e4] 77))
  have HX := Lib.hid (BoxN.new1 w (.cells #[.string x.name, .bool x.whole, .bool x.hasLow, .bool x.low.1, .slice (some ⟨g1, 0, none⟩) x.low.2.1.length c1, .slice (some ⟨g2, 0, none⟩) x.low.2.2.length c2, .bool x.hasHigh, .bool x.high.1, .slice (some ⟨g3, 0, none⟩) x.high.2.1.length c3, .slice (some ⟨g4, 0, none⟩) x.high.2.2.length c4] 77) 77 #[.string x.name, .bool x.whole, .bool x.hasLow, .bool x.low.1, .slice p1 x.low.2.1.length e1, .slice p2 x.low.2.2.length e2, .bool x.hasHigh, .bool x.high.1, .slice p3 x.high.2.1.length e3, .slice p4 x.high.2.2.length e4])
  have al := (Below.refl w.heap.size w).alloc (Nat.le_refl _) (.cells #[.string x.name, .bool x.whole, .bool x.hasLow, .bool x.low.1, .slice (some ⟨g1, 0, none⟩) x.low.2.1.length c1, .slice (some ⟨g2, 0, none⟩) x.low.2.2.length c2, .bool x.hasHigh, .bool x.high.1, .slice (some ⟨g3, 0, none⟩) x.high.2.1.length c3, .slice (some ⟨g4, 0, none⟩) x.high.2.2.length c4] 77)
  have HB := Lib.hid (al.alloc al.size (.cells #[.string x.name, .bool x.whole, .bool x.hasLow, .bool x.low.1, .slice p1 x.low.2.1.length e1, .slice p2 x.low.2.2.length e2, .bool x.hasHigh, .bool x.high.1, .slice p3 x.high.2.1.length e3, .slice p4 x.high.2.2.length e4] 77))
  clear al
  clear t1 t2 t3 t4 r1 r2 r3 r4 hm
  generalize x.low.2.1.length = m1 at *
  generalize x.low.2.2.length = m2 at *
  generalize x.high.2.1.length = m3 at *
  generalize x.high.2.2.length = m4 at *
  generalize x.low.1 = b1 at *
  generalize x.high.1 = b2 at *
  obtain ⟨nm, o1, o2, q1, o3, q2⟩ := x
  dsimp only at *
  have s0 := str_same nm
  have s1 : (o1 == o1) = true := by simp
  have s2 : (o2 == o2) = true := by simp
  have s3 : (o3 == o3) = true := by simp
  go_enter Tryz.func62, Tryz.ntmps62
  have y0 := HT.out.cell 0 _ rfl; have z0 := HX.out.cell 0 _ rfl; have y1 := HT.out.cell 1 _ rfl; have z1 := HX.out.cell 1 _ rfl; have y2 := HT.out.cell 2 _ rfl; have z2 := HX.out.cell 2 _ rfl; have y3 := HT.out.cell 3 _ rfl; have z3 := HX.out.cell 3 _ rfl; have y4 := HT.out.cell 4 _ rfl; have z4 := HX.out.cell 4 _ rfl; have y5 := HT.out.cell 5 _ rfl; have z5 := HX.out.cell 5 _ rfl; have y6 := HT.out.cell 6 _ rfl; have z6 := HX.out.cell 6 _ rfl; have y7 := HT.out.cell 7 _ rfl; have z7 := HX.out.cell 7 _ rfl; have y8 := HT.out.cell 8 _ rfl; have z8 := HX.out.cell 8 _ rfl; have y9 := HT.out.cell 9 _ rfl; have z9 := HX.out.cell 9 _ rfl
  go_wp2_with fail
  clear y0 z0 y1 z1 y2 z2 y3 z3 y4 z4 y5 z5 y6 z6 y7 z7 y8 z8 y9 z9
  refine (kL.out _ HB.out).mono ?_
  rintro e w1 ⟨rfl, rr⟩
  have HT := Lib.hid (HT.out.under rr); have HX := Lib.hid (HX.out.under rr); have HB := Lib.hid (then_below HB.out rr)
  clear rr kL
  have y0 := HT.out.cell 0 _ rfl; have z0 := HX.out.cell 0 _ rfl; have y1 := HT.out.cell 1 _ rfl; have z1 := HX.out.cell 1 _ rfl; have y2 := HT.out.cell 2 _ rfl; have z2 := HX.out.cell 2 _ rfl; have y3 := HT.out.cell 3 _ rfl; have z3 := HX.out.cell 3 _ rfl; have y4 := HT.out.cell 4 _ rfl; have z4 := HX.out.cell 4 _ rfl; have y5 := HT.out.cell 5 _ rfl; have z5 := HX.out.cell 5 _ rfl; have y6 := HT.out.cell 6 _ rfl; have z6 := HX.out.cell 6 _ rfl; have y7 := HT.out.cell 7 _ rfl; have z7 := HX.out.cell 7 _ rfl; have y8 := HT.out.cell 8 _ rfl; have z8 := HX.out.cell 8 _ rfl; have y9 := HT.out.cell 9 _ rfl; have z9 := HX.out.cell 9 _ rfl
  go_wp2_with fail
  clear y0 z0 y1 z1 y2 z2 y3 z3 y4 z4 y5 z5 y6 z6 y7 z7 y8 z8 y9 z9
  refine (kH.out _ HB.out).mono ?_
  rintro e w2 ⟨rfl, rr⟩
  have HT := Lib.hid (HT.out.under rr); have HX := Lib.hid (HX.out.under rr); have HB := Lib.hid (then_below HB.out rr)
  clear rr kH
  have y0 := HT.out.cell 0 _ rfl; have z0 := HX.out.cell 0 _ rfl; have y1 := HT.out.cell 1 _ rfl; have z1 := HX.out.cell 1 _ rfl; have y2 := HT.out.cell 2 _ rfl; have z2 := HX.out.cell 2 _ rfl; have y3 := HT.out.cell 3 _ rfl; have z3 := HX.out.cell 3 _ rfl; have y4 := HT.out.cell 4 _ rfl; have z4 := HX.out.cell 4 _ rfl; have y5 := HT.out.cell 5 _ rfl; have z5 := HX.out.cell 5 _ rfl; have y6 := HT.out.cell 6 _ rfl; have z6 := HX.out.cell 6 _ rfl; have y7 := HT.out.cell 7 _ rfl; have z7 := HX.out.cell 7 _ rfl; have y8 := HT.out.cell 8 _ rfl; have z8 := HX.out.cell 8 _ rfl; have y9 := HT.out.cell 9 _ rfl; have z9 := HX.out.cell 9 _ rfl
  go_wp2_with fail
  go_ret
  exact ⟨rfl, HB.out⟩
set_option maxHeartbeats 16000000 in
theorem leftRow_any {w : World} {x : Rw} {B g0 c0 g1 c1 g2 c2 : Nat} (t0 : TwR w B g0 c0 x.coef) (t1 : Tw w B g1 c1 x.right.2.1) (t2 : Tw w B g2 c2 x.right.2.2) {p0 p1 p2 : Option Addr} {n0 e0 e1 e2 : Nat} (r0 : VReads w (.slice p0 n0 e0) x.coef) (r1 : Reads w (.slice p1 x.right.2.1.length e1) x.right.2.1) (r2 : Reads w (.slice p2 x.right.2.2.length e2) x.right.2.2) (hm : x.Mod) :
    Calls Tryz.prog 63 #[.agg #[.slice (some ⟨g0, 0, none⟩) x.coef.length c0, .int .u8 x.kind, .bool x.right.1, .slice (some ⟨g1, 0, none⟩) x.right.2.1.length c1, .slice (some ⟨g2, 0, none⟩) x.right.2.2.length c2], .agg #[.slice p0 n0 e0, .int .u8 x.kind, .bool x.right.1, .slice p1 x.right.2.1.length e1, .slice p2 x.right.2.2.length e2]] w fun e w' => e = .returned (.bool true) ∧ Below w.heap.size w w' := by
  have kC := Lib.hid (fun (W : World) (r : Below w.heap.size w W) => leftR_any (t0.below r) (r0.below r) hm.1.1 hm.1.2)
  have kR := Lib.hid (fun (W : World) (r : Below w.heap.size w W) => rleft_any (n := x.right.1) hm.2.1 hm.2.2 (t1.below r) (t2.below r) (r1.below r) (r2.below r))
  have HT := Lib.hid ((BoxN.new w 81 #[.slice (some ⟨g0, 0, none⟩) x.coef.length c0, .int .u8 x.kind, .bool x.right.1, .slice (some ⟨g1, 0, none⟩) x.right.2.1.length c1, .slice (some ⟨g2, 0, none⟩) x.right.2.2.length c2]).alloc (.cells #[.slice p0 n0 e0, .int .u8 x.kind, .bool x.right.1, .slice p1 x.right.2.1.length e1, .slice p2 x.right.2.2.length e2] 81))
  have HX := Lib.hid (BoxN.new1 w (.cells #[.slice (some ⟨g0, 0, none⟩) x.coef.length c0, .int .u8 x.kind, .bool x.right.1, .slice (some ⟨g1, 0, none⟩) x.right.2.1.length c1, .slice (some ⟨g2, 0, none⟩) x.right.2.2.length c2] 81) 81 #[.slice p0 n0 e0, .int .u8 x.kind, .bool x.right.1, .slice p1 x.right.2.1.length e1, .slice p2 x.right.2.2.length e2])
  have al := (Below.refl w.heap.size w).alloc (Nat.le_refl _) (.cells #[.slice (some ⟨g0, 0, none⟩) x.coef.length c0, .int .u8 x.kind, .bool x.right.1, .slice (some ⟨g1, 0, none⟩) x.right.2.1.length c1, .slice (some ⟨g2, 0, none⟩) x.right.2.2.length c2] 81)
  have HB := Lib.hid (al.alloc al.size (.cells #[.slice p0 n0 e0, .int .u8 x.kind, .bool x.right.1, .slice p1 x.right.2.1.length e1, .slice p2 x.right.2.2.length e2] 81))
  clear al
  clear t0 t1 t2 r0 r1 r2 hm
  generalize x.coef.length = m0 at *
  generalize x.right.2.1.length = m1 at *
  generalize x.right.2.2.length = m2 at *
  generalize x.right.1 = b1 at *
  generalize x.kind = kd at *
  have s0 : (kd == kd) = true := by simp
  go_enter Tryz.func63, Tryz.ntmps63
  have y0 := HT.out.cell 0 _ rfl; have z0 := HX.out.cell 0 _ rfl; have y1 := HT.out.cell 1 _ rfl; have z1 := HX.out.cell 1 _ rfl; have y2 := HT.out.cell 2 _ rfl; have z2 := HX.out.cell 2 _ rfl; have y3 := HT.out.cell 3 _ rfl; have z3 := HX.out.cell 3 _ rfl; have y4 := HT.out.cell 4 _ rfl; have z4 := HX.out.cell 4 _ rfl
  go_wp2_with fail
  clear y0 z0 y1 z1 y2 z2 y3 z3 y4 z4
  refine (kC.out _ HB.out).mono ?_
  rintro e w1 ⟨rfl, rr⟩
  have HT := Lib.hid (HT.out.under rr); have HX := Lib.hid (HX.out.under rr); have HB := Lib.hid (then_below HB.out rr)
  clear rr kC
  have y0 := HT.out.cell 0 _ rfl; have z0 := HX.out.cell 0 _ rfl; have y1 := HT.out.cell 1 _ rfl; have z1 := HX.out.cell 1 _ rfl; have y2 := HT.out.cell 2 _ rfl; have z2 := HX.out.cell 2 _ rfl; have y3 := HT.out.cell 3 _ rfl; have z3 := HX.out.cell 3 _ rfl; have y4 := HT.out.cell 4 _ rfl; have z4 := HX.out.cell 4 _ rfl
  go_wp2_with fail
  clear y0 z0 y1 z1 y2 z2 y3 z3 y4 z4
  refine (kR.out _ HB.out).mono ?_
  rintro e w2 ⟨rfl, rr⟩
  have HT := Lib.hid (HT.out.under rr); have HX := Lib.hid (HX.out.under rr); have HB := Lib.hid (then_below HB.out rr)
  clear rr kR
  have y0 := HT.out.cell 0 _ rfl; have z0 := HX.out.cell 0 _ rfl; have y1 := HT.out.cell 1 _ rfl; have z1 := HX.out.cell 1 _ rfl; have y2 := HT.out.cell 2 _ rfl; have z2 := HX.out.cell 2 _ rfl; have y3 := HT.out.cell 3 _ rfl; have z3 := HX.out.cell 3 _ rfl; have y4 := HT.out.cell 4 _ rfl; have z4 := HX.out.cell 4 _ rfl
  go_wp2_with fail
  go_ret
  exact ⟨rfl, HB.out⟩
/-- how much is in a var, in a row -/
def Vr.size (x : Vr) : Nat := a4 (a4 (1 + x.name.size) (rsz x.low.2.1.length x.low.2.2.length)) (rsz x.high.2.1.length x.high.2.2.length)
def Rw.size (x : Rw) : Nat := a4 (a4 1 (rsize x.coef)) (rsz x.right.2.1.length x.right.2.2.length)
def Vr.Big (x : Vr) : Prop := x.name.size ≤ 281474976710656 ∧ Go.Proofs.YtbndmpdaloadjaaGreat.Big x.low ∧ Go.Proofs.YtbndmpdaloadjaaGreat.Big x.high
def Rw.Big (x : Rw) : Prop := (x.coef.length ≤ 70368744177664 ∧ ∀ q ∈ x.coef, Go.Proofs.YtbndmpdaloadjaaGreat.Big q) ∧ Go.Proofs.YtbndmpdaloadjaaGreat.Big x.right ∧ 0 ≤ x.kind ∧ x.kind ≤ 255
theorem rsz_le {q : Qr} (h : Big q) : rsz q.2.1.length q.2.2.length ≤ 150000000000000 := by
  have h1 := h.2.1; have h2 := h.2.2
  unfold rsz; split <;> omega
set_option maxHeartbeats 8000000 in
theorem rowSize_any {w : World} {x : Rw} {p0 p1 p2 : Option Addr} {n0 e0 e1 e2 : Nat} (r0 : VReads w (.slice p0 n0 e0) x.coef) (hb : x.Big) :
    Calls Tryz.prog 78 #[.agg #[.slice p0 n0 e0, .int .u8 x.kind, .bool x.right.1, .slice p1 x.right.2.1.length e1, .slice p2 x.right.2.2.length e2]] w fun e w' => e = .returned (.int .i64 (x.size : Nat)) ∧ Below w.heap.size w w' := by
  have HX := Lib.hid (show BoxN (w.alloc (.cells #[.slice p0 n0 e0, .int .u8 x.kind, .bool x.right.1, .slice p1 x.right.2.1.length e1, .slice p2 x.right.2.2.length e2] 81)) w.heap.size 81 #[.slice p0 n0 e0, .int .u8 x.kind, .bool x.right.1, .slice p1 x.right.2.1.length e1, .slice p2 x.right.2.2.length e2] from BoxN.new w _ _)
  have HB := Lib.hid (show Below w.heap.size w (w.alloc (.cells #[.slice p0 n0 e0, .int .u8 x.kind, .bool x.right.1, .slice p1 x.right.2.1.length e1, .slice p2 x.right.2.2.length e2] 81)) from (Below.refl _ _).alloc (Nat.le_refl _) _)
  have k0 := Lib.hid (fun (W : World) (r : Below w.heap.size w W) => (show Calls Tryz.prog 13 #[.slice p0 n0 e0] W fun e w' => e = .returned (.int .i64 (rsize x.coef : Nat)) ∧ Below W.heap.size W w' from by unfold rsize; rw [← r0.addr.1]; exact ratsSize_any (r0.below r) hb.1.2 (by rw [r0.addr.1]; exact hb.1.1)))
  obtain ⟨x0, hx0⟩ : ∃ X : Nat, X = rsize x.coef := ⟨_, rfl⟩
  have b0 : x0 ≤ 400000000000000 := by rw [hx0]; exact Nat.le_trans (rsize_le hb.1) (by omega)
  rw [← hx0] at k0
  have k1 := Lib.hid (fun (W : World) (r : Below w.heap.size w W) => ratSize_any x.right.1 p1 p2 x.right.2.1.length e1 x.right.2.2.length e2 W hb.2.1.2.1 hb.2.1.2.2)
  obtain ⟨x1, hx1⟩ : ∃ X : Nat, X = rsz x.right.2.1.length x.right.2.2.length := ⟨_, rfl⟩
  have b1 : x1 ≤ 400000000000000 := by rw [hx1]; exact Nat.le_trans (rsz_le hb.2.1) (by omega)
  rw [← hx1] at k1
  unfold Rw.size
  rw [← hx0, ← hx1]
  clear hx0 hx1 r0 hb
  obtain ⟨m0, hm0⟩ : ∃ M : Nat, M = 1 := ⟨_, rfl⟩
  have hb0 : m0 ≤ 140737488355400 := by omega
  obtain ⟨m1, hm1⟩ : ∃ M : Nat, M = m0 + x0 := ⟨_, rfl⟩
  have hi1 : (1 : Int) + (x0 : Int) = (m1 : Int) := by omega
  obtain ⟨m2, hm2⟩ : ∃ M : Nat, M = m1 + x1 := ⟨_, rfl⟩
  have hi2 : (m1 : Int) + (x1 : Int) = (m2 : Int) := by omega
  by_cases c1 : m1 ≤ 1048576
  · have hR : a4 (a4 (1) x0) x1 = m2 := by
      rw [a4_yes (show 1 ≤ 1048576 by omega) (show 1 + x0 = m1 by omega)]
      rw [a4_yes (show m1 ≤ 1048576 by omega) (show m1 + x1 = m2 by omega)]
    rw [hR]
    have p1 : (m1 : Int) ≤ 1048576 := by omega
    have hb0' : m0 ≤ 600000000000000 := by omega
    have hb1' : m1 ≤ 600000000000000 := by omega
    have hb2' : m2 ≤ 600000000000000 := by omega
    clear hR hm0 hm1 hm2 
    go_enter Tryz.func78, Tryz.ntmps78
    have z0 := HX.out.cell 0 _ rfl
    have z1 := HX.out.cell 1 _ rfl
    have z2 := HX.out.cell 2 _ rfl
    have z3 := HX.out.cell 3 _ rfl
    have z4 := HX.out.cell 4 _ rfl
    go_wp2_with fail
    clear z0 z1 z2 z3 z4
    refine (k0.out _ HB.out).mono ?_
    rintro e w1 ⟨rfl, rr⟩
    have HX := Lib.hid (HX.out.under rr)
    have HB := Lib.hid (then_below HB.out rr)
    clear rr k0
    have z0 := HX.out.cell 0 _ rfl
    have z1 := HX.out.cell 1 _ rfl
    have z2 := HX.out.cell 2 _ rfl
    have z3 := HX.out.cell 3 _ rfl
    have z4 := HX.out.cell 4 _ rfl
    go_wp2_with fail
    clear z0 z1 z2 z3 z4
    refine (k1.out _ HB.out).mono ?_
    rintro e w2 ⟨rfl, rr⟩
    have HX := Lib.hid (HX.out.under rr)
    have HB := Lib.hid (then_below HB.out rr)
    clear rr k1
    go_wp2_with fail
    go_ret
    exact ⟨rfl, HB.out⟩
  · have hR : a4 (a4 (1) x0) x1 = m1 := by
      rw [a4_yes (show 1 ≤ 1048576 by omega) (show 1 + x0 = m1 by omega)]
      rw [a4_no (show ¬ m1 ≤ 1048576 by omega)]
    rw [hR]
    have p1 : ¬ (m1 : Int) ≤ 1048576 := by omega
    have hb0' : m0 ≤ 600000000000000 := by omega
    have hb1' : m1 ≤ 600000000000000 := by omega
    clear hR hm0 hm1 hm2 k1
    go_enter Tryz.func78, Tryz.ntmps78
    have z0 := HX.out.cell 0 _ rfl
    have z1 := HX.out.cell 1 _ rfl
    have z2 := HX.out.cell 2 _ rfl
    have z3 := HX.out.cell 3 _ rfl
    have z4 := HX.out.cell 4 _ rfl
    go_wp2_with fail
    clear z0 z1 z2 z3 z4
    refine (k0.out _ HB.out).mono ?_
    rintro e w1 ⟨rfl, rr⟩
    have HX := Lib.hid (HX.out.under rr)
    have HB := Lib.hid (then_below HB.out rr)
    clear rr k0
    go_wp2_with fail
    go_ret
    exact ⟨rfl, HB.out⟩
set_option maxHeartbeats 16000000 in
theorem varSize_any {w : World} {x : Vr} {p1 p2 p3 p4 : Option Addr} {e1 e2 e3 e4 : Nat} (hb : x.Big) :
    Calls Tryz.prog 77 #[.agg #[.string x.name, .bool x.whole, .bool x.hasLow, .bool x.low.1, .slice p1 x.low.2.1.length e1, .slice p2 x.low.2.2.length e2, .bool x.hasHigh, .bool x.high.1, .slice p3 x.high.2.1.length e3, .slice p4 x.high.2.2.length e4]] w fun e w' => e = .returned (.int .i64 (x.size : Nat)) ∧ Below w.heap.size w w' := by
  have HX := Lib.hid (show BoxN (w.alloc (.cells #[.string x.name, .bool x.whole, .bool x.hasLow, .bool x.low.1, .slice p1 x.low.2.1.length e1, .slice p2 x.low.2.2.length e2, .bool x.hasHigh, .bool x.high.1, .slice p3 x.high.2.1.length e3, .slice p4 x.high.2.2.length e4] 77)) w.heap.size 77 #[.string x.name, .bool x.whole, .bool x.hasLow, .bool x.low.1, .slice p1 x.low.2.1.length e1, .slice p2 x.low.2.2.length e2, .bool x.hasHigh, .bool x.high.1, .slice p3 x.high.2.1.length e3, .slice p4 x.high.2.2.length e4] from BoxN.new w _ _)
  have HB := Lib.hid (show Below w.heap.size w (w.alloc (.cells #[.string x.name, .bool x.whole, .bool x.hasLow, .bool x.low.1, .slice p1 x.low.2.1.length e1, .slice p2 x.low.2.2.length e2, .bool x.hasHigh, .bool x.high.1, .slice p3 x.high.2.1.length e3, .slice p4 x.high.2.2.length e4] 77)) from (Below.refl _ _).alloc (Nat.le_refl _) _)
  have k0 := Lib.hid (fun (W : World) => ratSize_any x.low.1 p1 p2 x.low.2.1.length e1 x.low.2.2.length e2 W hb.2.1.2.1 hb.2.1.2.2)
  have k1 := Lib.hid (fun (W : World) => ratSize_any x.high.1 p3 p4 x.high.2.1.length e3 x.high.2.2.length e4 W hb.2.2.2.1 hb.2.2.2.2)
  obtain ⟨x0, hx0⟩ : ∃ X : Nat, X = rsz x.low.2.1.length x.low.2.2.length := ⟨_, rfl⟩
  obtain ⟨x1, hx1⟩ : ∃ X : Nat, X = rsz x.high.2.1.length x.high.2.2.length := ⟨_, rfl⟩
  have b0 : x0 ≤ 150000000000000 := by rw [hx0]; exact rsz_le hb.2.1
  have b1 : x1 ≤ 150000000000000 := by rw [hx1]; exact rsz_le hb.2.2
  have hn := hb.1
  rw [← hx0] at k0
  rw [← hx1] at k1
  obtain ⟨m0, hm0⟩ : ∃ M : Nat, M = 1 + x.name.size := ⟨_, rfl⟩
  obtain ⟨m1, hm1⟩ : ∃ M : Nat, M = m0 + x0 := ⟨_, rfl⟩
  obtain ⟨m2, hm2⟩ : ∃ M : Nat, M = m1 + x1 := ⟨_, rfl⟩
  have hS : x.size = a4 (a4 m0 x0) x1 := by unfold Vr.size; rw [← hx0, ← hx1, ← hm0]
  rw [hS]
  have i0 : (1 : Int) + (x.name.size : Int) = (m0 : Int) := by omega
  have i1 : (m0 : Int) + (x0 : Int) = (m1 : Int) := by omega
  have i2 : (m1 : Int) + (x1 : Int) = (m2 : Int) := by omega
  have n0 : x.name.size ≤ 281474976710656 := by omega
  have n1 : m0 ≤ 281474976710657 := by omega
  have n2 : m1 ≤ 600000000000000 := by omega
  have n3 : m2 ≤ 800000000000000 := by omega
  clear hx0 hx1 hb hn hS hm0
  by_cases c0 : m0 ≤ 1048576
  · by_cases c1 : m1 ≤ 1048576
    · have hR : a4 (a4 m0 x0) x1 = m2 := by
        rw [a4_yes (show m0 ≤ 1048576 by omega) hm1.symm]
        rw [a4_yes (show m1 ≤ 1048576 by omega) hm2.symm]
      rw [hR]
      have p0' : (m0 : Int) ≤ 1048576 := by omega
      have p1' : (m1 : Int) ≤ 1048576 := by omega
      clear hR hm1 hm2 
      go_enter Tryz.func77, Tryz.ntmps77
      have z0 := HX.out.cell 0 _ rfl; have z1 := HX.out.cell 1 _ rfl; have z2 := HX.out.cell 2 _ rfl; have z3 := HX.out.cell 3 _ rfl; have z4 := HX.out.cell 4 _ rfl; have z5 := HX.out.cell 5 _ rfl; have z6 := HX.out.cell 6 _ rfl; have z7 := HX.out.cell 7 _ rfl; have z8 := HX.out.cell 8 _ rfl; have z9 := HX.out.cell 9 _ rfl
      go_wp2_with fail
      clear z0 z1 z2 z3 z4 z5 z6 z7 z8 z9
      refine (k0.out _).mono ?_
      rintro e w1 ⟨rfl, rr⟩
      have HX := Lib.hid (HX.out.under rr)
      have HB := Lib.hid (then_below HB.out rr)
      clear rr k0
      have z0 := HX.out.cell 0 _ rfl; have z1 := HX.out.cell 1 _ rfl; have z2 := HX.out.cell 2 _ rfl; have z3 := HX.out.cell 3 _ rfl; have z4 := HX.out.cell 4 _ rfl; have z5 := HX.out.cell 5 _ rfl; have z6 := HX.out.cell 6 _ rfl; have z7 := HX.out.cell 7 _ rfl; have z8 := HX.out.cell 8 _ rfl; have z9 := HX.out.cell 9 _ rfl
      go_wp2_with fail
      clear z0 z1 z2 z3 z4 z5 z6 z7 z8 z9
      refine (k1.out _).mono ?_
      rintro e w2 ⟨rfl, rr⟩
      have HX := Lib.hid (HX.out.under rr)
      have HB := Lib.hid (then_below HB.out rr)
      clear rr k1
      have z0 := HX.out.cell 0 _ rfl; have z1 := HX.out.cell 1 _ rfl; have z2 := HX.out.cell 2 _ rfl; have z3 := HX.out.cell 3 _ rfl; have z4 := HX.out.cell 4 _ rfl; have z5 := HX.out.cell 5 _ rfl; have z6 := HX.out.cell 6 _ rfl; have z7 := HX.out.cell 7 _ rfl; have z8 := HX.out.cell 8 _ rfl; have z9 := HX.out.cell 9 _ rfl
      go_wp2_with fail
      go_ret
      exact ⟨rfl, HB.out⟩
    · have hR : a4 (a4 m0 x0) x1 = m1 := by
        rw [a4_yes (show m0 ≤ 1048576 by omega) hm1.symm]
        rw [a4_no (show ¬ m1 ≤ 1048576 by omega)]
      rw [hR]
      have p0' : (m0 : Int) ≤ 1048576 := by omega
      have p1' : ¬ (m1 : Int) ≤ 1048576 := by omega
      clear hR hm1 hm2 k1
      go_enter Tryz.func77, Tryz.ntmps77
      have z0 := HX.out.cell 0 _ rfl; have z1 := HX.out.cell 1 _ rfl; have z2 := HX.out.cell 2 _ rfl; have z3 := HX.out.cell 3 _ rfl; have z4 := HX.out.cell 4 _ rfl; have z5 := HX.out.cell 5 _ rfl; have z6 := HX.out.cell 6 _ rfl; have z7 := HX.out.cell 7 _ rfl; have z8 := HX.out.cell 8 _ rfl; have z9 := HX.out.cell 9 _ rfl
      go_wp2_with fail
      clear z0 z1 z2 z3 z4 z5 z6 z7 z8 z9
      refine (k0.out _).mono ?_
      rintro e w1 ⟨rfl, rr⟩
      have HX := Lib.hid (HX.out.under rr)
      have HB := Lib.hid (then_below HB.out rr)
      clear rr k0
      have z0 := HX.out.cell 0 _ rfl; have z1 := HX.out.cell 1 _ rfl; have z2 := HX.out.cell 2 _ rfl; have z3 := HX.out.cell 3 _ rfl; have z4 := HX.out.cell 4 _ rfl; have z5 := HX.out.cell 5 _ rfl; have z6 := HX.out.cell 6 _ rfl; have z7 := HX.out.cell 7 _ rfl; have z8 := HX.out.cell 8 _ rfl; have z9 := HX.out.cell 9 _ rfl
      go_wp2_with fail
      go_ret
      exact ⟨rfl, HB.out⟩
  · have hR : a4 (a4 m0 x0) x1 = m0 := by
      rw [a4_no (show ¬ m0 ≤ 1048576 by omega)]
      rw [a4_no (show ¬ m0 ≤ 1048576 by omega)]
    rw [hR]
    have p0' : ¬ (m0 : Int) ≤ 1048576 := by omega
    clear hR hm1 hm2 k0 k1
    go_enter Tryz.func77, Tryz.ntmps77
    have z0 := HX.out.cell 0 _ rfl; have z1 := HX.out.cell 1 _ rfl; have z2 := HX.out.cell 2 _ rfl; have z3 := HX.out.cell 3 _ rfl; have z4 := HX.out.cell 4 _ rfl; have z5 := HX.out.cell 5 _ rfl; have z6 := HX.out.cell 6 _ rfl; have z7 := HX.out.cell 7 _ rfl; have z8 := HX.out.cell 8 _ rfl; have z9 := HX.out.cell 9 _ rfl
    go_wp2_with fail
    go_ret
    exact ⟨rfl, HB.out⟩
end Go.Proofs.YtbndmpdaloadjaaGreat
