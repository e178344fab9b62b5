/- How much is in a norm. -/
import Derived.Test.YtbndmpdaloadjaaGreatGNtG
set_option linter.unusedSimpArgs false
set_option linter.unusedVariables false
set_option maxHeartbeats 8000000
namespace Go.Proofs.YtbndmpdaloadjaaGreat
open Go Go.Proofs Go.RowKit Go.Shelf Nu
set_option linter.unusedVariables false
set_option linter.unusedSimpArgs false
set_option maxRecDepth 100000

attribute [local go_sem] Oper.semAt_some

/-- one step of a struct's size -/
def a4 (n m : Nat) : Nat := if n ≤ 1048576 then n + m else n
theorem a4_yes {n m s : Nat} (h : n ≤ 1048576) (e : n + m = s) : a4 n m = s := (if_pos h).trans e
theorem a4_no {n m : Nat} (h : ¬ n ≤ 1048576) : a4 n m = n := if_neg h
theorem a4_small {n m M : Nat} (hM : M ≤ 100000) (h : a4 n m ≤ M) : n + m ≤ M := by
 unfold a4 at h
 split at h <;> omega
/-- a norm: what its lists read as -/
structure NV where
 rows : List (List Qr)
 right : List Qr
 goal : List Qr
 whole : List Bool
def NV.size (x : NV) : Nat := a4 (a4 (a4 (a4 1 (gsize x.rows)) (rsize x.right)) (rsize x.goal)) x.whole.length
def NV.Big (x : NV) : Prop := GBig x.rows ∧ (x.right.length ≤ 70368744177664 ∧ ∀ q ∈ x.right, Go.Proofs.YtbndmpdaloadjaaGreat.Big q) ∧ (x.goal.length ≤ 70368744177664 ∧ ∀ q ∈ x.goal, Go.Proofs.YtbndmpdaloadjaaGreat.Big q) ∧ x.whole.length ≤ 281474976710656
theorem gsize_le {rows : List (List Qr)} (h : GBig rows) : gsize rows ≤ 400000000000000 := lsz_le _ _ _ (fun x hx => Nat.le_trans (rsize_le (h.2 x hx)) (by omega)) (by have := h.1; omega)
theorem normSize_any {w : World} {la ra ga oa : Option Addr} {ln lc rn rc gn gc on oc : Nat} {x : NV} (hL : GridR w (.slice la ln lc) x.rows) (hR : VReads w (.slice ra rn rc) x.right) (hG : VReads w (.slice ga gn gc) x.goal) (hO : BoolsR w (.slice oa on oc) x.whole) (hb : x.Big) :
   Calls Tryz.prog 12 #[.agg #[.slice la ln lc, .slice ra rn rc, .slice ga gn gc, .slice oa on oc]] w fun e w' => e = .returned (.int .i64 (x.size : Nat)) ∧ Below w.heap.size w w' := by
 have HX := Lib.hid (show BoxN (w.alloc (.cells #[.slice la ln lc, .slice ra rn rc, .slice ga gn gc, .slice oa on oc] 42)) w.heap.size 42 #[.slice la ln lc, .slice ra rn rc, .slice ga gn gc, .slice oa on oc] from BoxN.new w _ _)
 have HB := Lib.hid (show Below w.heap.size w (w.alloc (.cells #[.slice la ln lc, .slice ra rn rc, .slice ga gn gc, .slice oa on oc] 42)) from (Below.refl _ _).alloc (Nat.le_refl _) _)
 have k0 := Lib.hid (fun (W : World) (r : Below w.heap.size w W) => gridSize_any (hL.below r) hb.1)
 obtain ⟨x0, hx0⟩ : ∃ X : Nat, X = gsize x.rows := ⟨_, rfl⟩
 have b0 : x0 ≤ 400000000000000 := by rw [hx0]; exact gsize_le hb.1
 rw [← hx0] at k0
 have k1 := Lib.hid (fun (W : World) (r : Below w.heap.size w W) => (show Calls Tryz.prog 13 #[.slice ra rn rc] W fun e w' => e = .returned (.int .i64 (rsize x.right : Nat)) ∧ Below W.heap.size W w' from by unfold rsize; rw [← hR.addr.1]; exact ratsSize_any (hR.below r) hb.2.1.2 (by rw [hR.addr.1]; exact hb.2.1.1)))
 obtain ⟨x1, hx1⟩ : ∃ X : Nat, X = rsize x.right := ⟨_, rfl⟩
 have b1 : x1 ≤ 400000000000000 := by rw [hx1]; exact Nat.le_trans (rsize_le hb.2.1) (by omega)
 rw [← hx1] at k1
 have k2 := Lib.hid (fun (W : World) (r : Below w.heap.size w W) => (show Calls Tryz.prog 13 #[.slice ga gn gc] W fun e w' => e = .returned (.int .i64 (rsize x.goal : Nat)) ∧ Below W.heap.size W w' from by unfold rsize; rw [← hG.addr.1]; exact ratsSize_any (hG.below r) hb.2.2.1.2 (by rw [hG.addr.1]; exact hb.2.2.1.1)))
 obtain ⟨x2, hx2⟩ : ∃ X : Nat, X = rsize x.goal := ⟨_, rfl⟩
 have b2 : x2 ≤ 400000000000000 := by rw [hx2]; exact Nat.le_trans (rsize_le hb.2.2.1) (by omega)
 rw [← hx2] at k2
 have k3 := Lib.hid (fun (W : World) (r : Below w.heap.size w W) => (show Calls Tryz.prog 36 #[.slice oa on oc] W fun e w' => e = .returned (.int .i64 (x.whole.length : Nat)) ∧ Below W.heap.size W w' from by rw [← hO.addr.1]; exact boolsSize_any oa on oc W))
 obtain ⟨x3, hx3⟩ : ∃ X : Nat, X = x.whole.length := ⟨_, rfl⟩
 have b3 : x3 ≤ 400000000000000 := by rw [hx3]; exact Nat.le_trans hb.2.2.2 (by omega)
 rw [← hx3] at k3
 unfold NV.size
 rw [← hx0, ← hx1, ← hx2, ← hx3]
 clear hx0 hx1 hx2 hx3 hL hR hG hO hb
 obtain ⟨m0, hm0⟩ : ∃ M : Nat, M = 1 := ⟨_, rfl⟩
 have hb0 : m0 ≤ 140737488355400 := by omega
 obtain ⟨m1, hm1⟩ : ∃ M : Nat, M = m0 + x0 := ⟨_, rfl⟩
 have hi1 : (1 : Int) + (x0 : Int) = (m1 : Int) := by omega
 obtain ⟨m2, hm2⟩ : ∃ M : Nat, M = m1 + x1 := ⟨_, rfl⟩
 have hi2 : (m1 : Int) + (x1 : Int) = (m2 : Int) := by omega
 obtain ⟨m3, hm3⟩ : ∃ M : Nat, M = m2 + x2 := ⟨_, rfl⟩
 have hi3 : (m2 : Int) + (x2 : Int) = (m3 : Int) := by omega
 obtain ⟨m4, hm4⟩ : ∃ M : Nat, M = m3 + x3 := ⟨_, rfl⟩
 have hi4 : (m3 : Int) + (x3 : Int) = (m4 : Int) := by omega
 by_cases c1 : m1 ≤ 1048576
 · by_cases c2 : m2 ≤ 1048576
   · by_cases c3 : m3 ≤ 1048576
     · have hR : a4 (a4 (a4 (a4 (1) x0) x1) x2) x3 = m4 := by
        rw [a4_yes (show 1 ≤ 1048576 by omega) (show 1 + x0 = m1 by omega)]
        rw [a4_yes (show m1 ≤ 1048576 by omega) (show m1 + x1 = m2 by omega)]
        rw [a4_yes (show m2 ≤ 1048576 by omega) (show m2 + x2 = m3 by omega)]
        rw [a4_yes (show m3 ≤ 1048576 by omega) (show m3 + x3 = m4 by omega)]
       rw [hR]
       have p1 : (m1 : Int) ≤ 1048576 := by omega
       have p2 : (m2 : Int) ≤ 1048576 := by omega
       have p3 : (m3 : Int) ≤ 1048576 := by omega
       have hb0' : m0 ≤ 600000000000000 := by omega
       have hb1' : m1 ≤ 600000000000000 := by omega
       have hb2' : m2 ≤ 600000000000000 := by omega
       have hb3' : m3 ≤ 600000000000000 := by omega
       have hb4' : m4 ≤ 600000000000000 := by omega
       clear hR hm0 hm1 hm2 hm3 hm4 
       go_enter Tryz.func12, Tryz.ntmps12
       have z0 := HX.out.cell 0 _ rfl
       have z1 := HX.out.cell 1 _ rfl
       have z2 := HX.out.cell 2 _ rfl
       have z3 := HX.out.cell 3 _ rfl
       go_wp2_with fail
       clear z0 z1 z2 z3
       refine (k0.out _ HB.out).mono ?_
       rintro e w1 ⟨rfl, rr⟩
       have HX := Lib.hid (HX.out.under rr)
       have HB := Lib.hid (then_below HB.out rr)
       clear rr k0
       have z0 := HX.out.cell 0 _ rfl
       have z1 := HX.out.cell 1 _ rfl
       have z2 := HX.out.cell 2 _ rfl
       have z3 := HX.out.cell 3 _ rfl
       go_wp2_with fail
       clear z0 z1 z2 z3
       refine (k1.out _ HB.out).mono ?_
       rintro e w2 ⟨rfl, rr⟩
       have HX := Lib.hid (HX.out.under rr)
       have HB := Lib.hid (then_below HB.out rr)
       clear rr k1
       have z0 := HX.out.cell 0 _ rfl
       have z1 := HX.out.cell 1 _ rfl
       have z2 := HX.out.cell 2 _ rfl
       have z3 := HX.out.cell 3 _ rfl
       go_wp2_with fail
       clear z0 z1 z2 z3
       refine (k2.out _ HB.out).mono ?_
       rintro e w3 ⟨rfl, rr⟩
       have HX := Lib.hid (HX.out.under rr)
       have HB := Lib.hid (then_below HB.out rr)
       clear rr k2
       have z0 := HX.out.cell 0 _ rfl
       have z1 := HX.out.cell 1 _ rfl
       have z2 := HX.out.cell 2 _ rfl
       have z3 := HX.out.cell 3 _ rfl
       go_wp2_with fail
       clear z0 z1 z2 z3
       refine (k3.out _ HB.out).mono ?_
       rintro e w4 ⟨rfl, rr⟩
       have HX := Lib.hid (HX.out.under rr)
       have HB := Lib.hid (then_below HB.out rr)
       clear rr k3
       go_wp2_with fail
       go_ret
       exact ⟨rfl, HB.out⟩
     · have hR : a4 (a4 (a4 (a4 (1) x0) x1) x2) x3 = m3 := by
        rw [a4_yes (show 1 ≤ 1048576 by omega) (show 1 + x0 = m1 by omega)]
        rw [a4_yes (show m1 ≤ 1048576 by omega) (show m1 + x1 = m2 by omega)]
        rw [a4_yes (show m2 ≤ 1048576 by omega) (show m2 + x2 = m3 by omega)]
        rw [a4_no (show ¬ m3 ≤ 1048576 by omega)]
       rw [hR]
       have p1 : (m1 : Int) ≤ 1048576 := by omega
       have p2 : (m2 : Int) ≤ 1048576 := by omega
       have p3 : ¬ (m3 : Int) ≤ 1048576 := by omega
       have hb0' : m0 ≤ 600000000000000 := by omega
       have hb1' : m1 ≤ 600000000000000 := by omega
       have hb2' : m2 ≤ 600000000000000 := by omega
       have hb3' : m3 ≤ 600000000000000 := by omega
       clear hR hm0 hm1 hm2 hm3 hm4 k3
       go_enter Tryz.func12, Tryz.ntmps12
       have z0 := HX.out.cell 0 _ rfl
       have z1 := HX.out.cell 1 _ rfl
       have z2 := HX.out.cell 2 _ rfl
       have z3 := HX.out.cell 3 _ rfl
       go_wp2_with fail
       clear z0 z1 z2 z3
       refine (k0.out _ HB.out).mono ?_
       rintro e w1 ⟨rfl, rr⟩
       have HX := Lib.hid (HX.out.under rr)
       have HB := Lib.hid (then_below HB.out rr)
       clear rr k0
       have z0 := HX.out.cell 0 _ rfl
       have z1 := HX.out.cell 1 _ rfl
       have z2 := HX.out.cell 2 _ rfl
       have z3 := HX.out.cell 3 _ rfl
       go_wp2_with fail
       clear z0 z1 z2 z3
       refine (k1.out _ HB.out).mono ?_
       rintro e w2 ⟨rfl, rr⟩
       have HX := Lib.hid (HX.out.under rr)
       have HB := Lib.hid (then_below HB.out rr)
       clear rr k1
       have z0 := HX.out.cell 0 _ rfl
       have z1 := HX.out.cell 1 _ rfl
       have z2 := HX.out.cell 2 _ rfl
       have z3 := HX.out.cell 3 _ rfl
       go_wp2_with fail
       clear z0 z1 z2 z3
       refine (k2.out _ HB.out).mono ?_
       rintro e w3 ⟨rfl, rr⟩
       have HX := Lib.hid (HX.out.under rr)
       have HB := Lib.hid (then_below HB.out rr)
       clear rr k2
       go_wp2_with fail
       go_ret
       exact ⟨rfl, HB.out⟩
   · have hR : a4 (a4 (a4 (a4 (1) x0) x1) x2) x3 = m2 := by
       rw [a4_yes (show 1 ≤ 1048576 by omega) (show 1 + x0 = m1 by omega)]
       rw [a4_yes (show m1 ≤ 1048576 by omega) (show m1 + x1 = m2 by omega)]
       rw [a4_no (show ¬ m2 ≤ 1048576 by omega)]
       rw [a4_no (show ¬ m2 ≤ 1048576 by omega)]
     rw [hR]
     have p1 : (m1 : Int) ≤ 1048576 := by omega
     have p2 : ¬ (m2 : Int) ≤ 1048576 := by omega
     have hb0' : m0 ≤ 600000000000000 := by omega
     have hb1' : m1 ≤ 600000000000000 := by omega
     have hb2' : m2 ≤ 600000000000000 := by omega
     clear hR hm0 hm1 hm2 hm3 hm4 k2 k3
     go_enter Tryz.func12, Tryz.ntmps12
     have z0 := HX.out.cell 0 _ rfl
     have z1 := HX.out.cell 1 _ rfl
     have z2 := HX.out.cell 2 _ rfl
     have z3 := HX.out.cell 3 _ rfl
     go_wp2_with fail
     clear z0 z1 z2 z3
     refine (k0.out _ HB.out).mono ?_
     rintro e w1 ⟨rfl, rr⟩
     have HX := Lib.hid (HX.out.under rr)
     have HB := Lib.hid (then_below HB.out rr)
     clear rr k0
     have z0 := HX.out.cell 0 _ rfl
     have z1 := HX.out.cell 1 _ rfl
     have z2 := HX.out.cell 2 _ rfl
     have z3 := HX.out.cell 3 _ rfl
     go_wp2_with fail
     clear z0 z1 z2 z3
     refine (k1.out _ HB.out).mono ?_
     rintro e w2 ⟨rfl, rr⟩
     have HX := Lib.hid (HX.out.under rr)
     have HB := Lib.hid (then_below HB.out rr)
     clear rr k1
     go_wp2_with fail
     go_ret
     exact ⟨rfl, HB.out⟩
 · have hR : a4 (a4 (a4 (a4 (1) x0) x1) x2) x3 = m1 := by
     rw [a4_yes (show 1 ≤ 1048576 by omega) (show 1 + x0 = m1 by omega)]
     rw [a4_no (show ¬ m1 ≤ 1048576 by omega)]
     rw [a4_no (show ¬ m1 ≤ 1048576 by omega)]
     rw [a4_no (show ¬ m1 ≤ 1048576 by omega)]
   rw [hR]
   have p1 : ¬ (m1 : Int) ≤ 1048576 := by omega
   have hb0' : m0 ≤ 600000000000000 := by omega
   have hb1' : m1 ≤ 600000000000000 := by omega
   clear hR hm0 hm1 hm2 hm3 hm4 k1 k2 k3
   go_enter Tryz.func12, Tryz.ntmps12
   have z0 := HX.out.cell 0 _ rfl
   have z1 := HX.out.cell 1 _ rfl
   have z2 := HX.out.cell 2 _ rfl
   have z3 := HX.out.cell 3 _ rfl
   go_wp2_with fail
   clear z0 z1 z2 z3
   refine (k0.out _ HB.out).mono ?_
   rintro e w1 ⟨rfl, rr⟩
   have HX := Lib.hid (HX.out.under rr)
   have HB := Lib.hid (then_below HB.out rr)
   clear rr k0
   go_wp2_with fail
   go_ret
   exact ⟨rfl, HB.out⟩
end Go.Proofs.YtbndmpdaloadjaaGreat
