/- Fractions: Make of numbers that may not be; the document's lowest, Make and Of; what is no fraction, twice; a book of fractions. -/
import Derived.Test.YthnlmjnfdokdbaaGreatDoorGRrP
import Derived.Test.YthnlmjnfdokdbaaGreatDoorGRatLit
import Derived.Test.YthnlmjnfdokdbaaGreatDoorGRatLaw
import Derived.Test.YthnlmjnfdokdbaaGreatDoorGIPairsA
import Derived.Test.YthnlmjnfdokdbaaGreatDoorGGreatP
set_option linter.unusedSimpArgs false
set_option linter.unusedVariables false
namespace Go.Proofs.YthnlmjnfdokdbaaGreatDoor
open Go Go.Proofs Go.RowKit Go.Shelf Nu

attribute [local go_sem] Oper.semAt_some

set_option maxRecDepth 100000 in
set_option maxHeartbeats 8000000 in
theorem mk_bad1 {w : World} {p1 p2 : Option Addr} {q1 q2 : Nat} {n1 n2 : Bool} {l1 l2 : List Nat} (c1 : ichk n1 l1 = false) (b1 : l1.length ≤ 19999) (b2 : l2.length ≤ 19999) (g1 : Reads w (.slice p1 l1.length q1) l1) (g2 : Reads w (.slice p2 l2.length q2) l2) :
    Calls Tryz.prog 27 #[.agg #[.bool n1, .slice p1 l1.length q1], .agg #[.bool n2, .slice p2 l2.length q2]] w fun e w' => e = .returned (.tuple #[.agg #[.bool false, .slice none 0 0, .slice none 0 0], .int .i64 1]) ∧ Below w.heap.size w w' := by
  have kc1 := fun (W : World) (h : Reads W (.slice p1 l1.length q1) l1) => icheck_any (n := n1) h (by omega)
  rw [c1] at kc1
  have KC1 := Lib.hid kc1
  have M : Mem w [(w.heap.size + 1 + 1, 27, [.bool false, .slice none 0 0, .slice none 0 0]), (w.heap.size + 1, 25, [.bool n2, .slice p2 l2.length q2]), (w.heap.size, 25, [.bool n1, .slice p1 l1.length q1])] [(.slice p2 l2.length q2, l2), (.slice p1 l1.length q1, l1)] (((w.alloc (.cells #[.bool n1, .slice p1 l1.length q1] 25)).alloc (.cells #[.bool n2, .slice p2 l2.length q2] 25)).alloc (.cells #[.bool false, .slice none 0 0, .slice none 0 0] 27)) := by
    have M := ((((((Mem.start w).add g1).add g2).new 25 [.bool n1, .slice p1 l1.length q1]).new 25 [.bool n2, .slice p2 l2.length q2]).new 27 [.bool false, .slice none 0 0, .slice none 0 0])
    simpa only [World.size_alloc] using M
  clear g1 g2 b1 b2 c1 kc1
  go_enter Tryz.func27, Tryz.ntmps27
  have z2_0 := M.cell 2 rfl 0 rfl; have z2_1 := M.cell 2 rfl 1 rfl; have z1_0 := M.cell 1 rfl 0 rfl; have z1_1 := M.cell 1 rfl 1 rfl
  go_wp2_with fail
  clear z2_0 z2_1 z1_0 z1_1
  refine (KC1.out _ (M.get 1 rfl)).mono ?_
  rintro e w1 ⟨rfl, rr⟩
  have M' := M.up rr; clear M rr; have M := M'; clear M'
  have f0 := M.fr 0 rfl 0; have f1 := M.fr 0 rfl 1; have f2 := M.fr 0 rfl 2; have y0 := M.cell 0 rfl 0 rfl; have y1 := M.cell 0 rfl 1 rfl; have y2 := M.cell 0 rfl 2 rfl
  go_wp2_with fail
  have M' := ((M.put 0 rfl rfl 0 (.bool false)).put 0 rfl rfl 1 (.slice none 0 0)).put 0 rfl rfl 2 (.slice none 0 0)
  refine ret_boxN_tmp rfl rfl rfl (M'.box 0 rfl) Tryz.underlying27 size_rat rfl ?_
  exact ⟨rfl, M'.below⟩
set_option maxRecDepth 100000 in
set_option maxHeartbeats 8000000 in
theorem mk_bad2 {w : World} {p1 p2 : Option Addr} {q1 q2 : Nat} {n1 n2 : Bool} {l1 l2 : List Nat} (c1 : ichk n1 l1 = true) (c2 : ichk n2 l2 = false) (b1 : l1.length ≤ 19999) (b2 : l2.length ≤ 19999) (g1 : Reads w (.slice p1 l1.length q1) l1) (g2 : Reads w (.slice p2 l2.length q2) l2) :
    Calls Tryz.prog 27 #[.agg #[.bool n1, .slice p1 l1.length q1], .agg #[.bool n2, .slice p2 l2.length q2]] w fun e w' => e = .returned (.tuple #[.agg #[.bool false, .slice none 0 0, .slice none 0 0], .int .i64 1]) ∧ Below w.heap.size w w' := by
  have kc1 := fun (W : World) (h : Reads W (.slice p1 l1.length q1) l1) => icheck_any (n := n1) h (by omega)
  rw [c1] at kc1
  have KC1 := Lib.hid kc1
  have kc2 := fun (W : World) (h : Reads W (.slice p2 l2.length q2) l2) => icheck_any (n := n2) h (by omega)
  rw [c2] at kc2
  have KC2 := Lib.hid kc2
  have M : Mem w [(w.heap.size + 1 + 1, 27, [.bool false, .slice none 0 0, .slice none 0 0]), (w.heap.size + 1, 25, [.bool n2, .slice p2 l2.length q2]), (w.heap.size, 25, [.bool n1, .slice p1 l1.length q1])] [(.slice p2 l2.length q2, l2), (.slice p1 l1.length q1, l1)] (((w.alloc (.cells #[.bool n1, .slice p1 l1.length q1] 25)).alloc (.cells #[.bool n2, .slice p2 l2.length q2] 25)).alloc (.cells #[.bool false, .slice none 0 0, .slice none 0 0] 27)) := by
    have M := ((((((Mem.start w).add g1).add g2).new 25 [.bool n1, .slice p1 l1.length q1]).new 25 [.bool n2, .slice p2 l2.length q2]).new 27 [.bool false, .slice none 0 0, .slice none 0 0])
    simpa only [World.size_alloc] using M
  clear g1 g2 b1 b2 c1 kc1 c2 kc2
  go_enter Tryz.func27, Tryz.ntmps27
  have z2_0 := M.cell 2 rfl 0 rfl; have z2_1 := M.cell 2 rfl 1 rfl; have z1_0 := M.cell 1 rfl 0 rfl; have z1_1 := M.cell 1 rfl 1 rfl
  go_wp2_with fail
  clear z2_0 z2_1 z1_0 z1_1
  refine (KC1.out _ (M.get 1 rfl)).mono ?_
  rintro e w1 ⟨rfl, rr⟩
  have M' := M.up rr; clear M rr; have M := M'; clear M'
  have z2_0 := M.cell 2 rfl 0 rfl; have z2_1 := M.cell 2 rfl 1 rfl; have z1_0 := M.cell 1 rfl 0 rfl; have z1_1 := M.cell 1 rfl 1 rfl
  go_wp2_with fail
  clear z2_0 z2_1 z1_0 z1_1
  refine (KC2.out _ (M.get 0 rfl)).mono ?_
  rintro e w2 ⟨rfl, rr⟩
  have M' := M.up rr; clear M rr; have M := M'; clear M'
  have f0 := M.fr 0 rfl 0; have f1 := M.fr 0 rfl 1; have f2 := M.fr 0 rfl 2; have y0 := M.cell 0 rfl 0 rfl; have y1 := M.cell 0 rfl 1 rfl; have y2 := M.cell 0 rfl 2 rfl
  go_wp2_with fail
  have M' := ((M.put 0 rfl rfl 0 (.bool false)).put 0 rfl rfl 1 (.slice none 0 0)).put 0 rfl rfl 2 (.slice none 0 0)
  refine ret_boxN_tmp rfl rfl rfl (M'.box 0 rfl) Tryz.underlying27 size_rat rfl ?_
  exact ⟨rfl, M'.below⟩
set_option maxRecDepth 100000 in
set_option maxHeartbeats 8000000 in
theorem rmk_bad1 {w : World} {p1 p2 : Option Addr} {q1 q2 : Nat} {n1 n2 : Bool} {l1 l2 : List Nat} (c1 : ichk n1 l1 = false) (b1 : l1.length ≤ 19999) (b2 : l2.length ≤ 19999) (g1 : Reads w (.slice p1 l1.length q1) l1) (g2 : Reads w (.slice p2 l2.length q2) l2) :
    Calls Tryz.prog 28 #[.agg #[.bool n1, .slice p1 l1.length q1], .agg #[.bool n2, .slice p2 l2.length q2]] w fun e w' => e = .returned (.tuple #[.agg #[.bool false, .slice none 0 0, .slice none 0 0], .int .i64 1]) ∧ Below w.heap.size w w' := by
  have kc1 := fun (W : World) (h : Reads W (.slice p1 l1.length q1) l1) => richeck_any (n := n1) h (by omega)
  rw [c1] at kc1
  have KC1 := Lib.hid kc1
  have M : Mem w [(w.heap.size + 1 + 1, 27, [.bool false, .slice none 0 0, .slice none 0 0]), (w.heap.size + 1, 25, [.bool n2, .slice p2 l2.length q2]), (w.heap.size, 25, [.bool n1, .slice p1 l1.length q1])] [(.slice p2 l2.length q2, l2), (.slice p1 l1.length q1, l1)] (((w.alloc (.cells #[.bool n1, .slice p1 l1.length q1] 25)).alloc (.cells #[.bool n2, .slice p2 l2.length q2] 25)).alloc (.cells #[.bool false, .slice none 0 0, .slice none 0 0] 27)) := by
    have M := ((((((Mem.start w).add g1).add g2).new 25 [.bool n1, .slice p1 l1.length q1]).new 25 [.bool n2, .slice p2 l2.length q2]).new 27 [.bool false, .slice none 0 0, .slice none 0 0])
    simpa only [World.size_alloc] using M
  clear g1 g2 b1 b2 c1 kc1
  go_enter Tryz.func28, Tryz.ntmps28
  have z2_0 := M.cell 2 rfl 0 rfl; have z2_1 := M.cell 2 rfl 1 rfl; have z1_0 := M.cell 1 rfl 0 rfl; have z1_1 := M.cell 1 rfl 1 rfl
  go_wp2_with fail
  clear z2_0 z2_1 z1_0 z1_1
  refine (KC1.out _ (M.get 1 rfl)).mono ?_
  rintro e w1 ⟨rfl, rr⟩
  have M' := M.up rr; clear M rr; have M := M'; clear M'
  have f0 := M.fr 0 rfl 0; have f1 := M.fr 0 rfl 1; have f2 := M.fr 0 rfl 2; have y0 := M.cell 0 rfl 0 rfl; have y1 := M.cell 0 rfl 1 rfl; have y2 := M.cell 0 rfl 2 rfl
  go_wp2_with fail
  have M' := ((M.put 0 rfl rfl 0 (.bool false)).put 0 rfl rfl 1 (.slice none 0 0)).put 0 rfl rfl 2 (.slice none 0 0)
  refine ret_boxN_tmp rfl rfl rfl (M'.box 0 rfl) Tryz.underlying27 size_rat rfl ?_
  exact ⟨rfl, M'.below⟩
set_option maxRecDepth 100000 in
set_option maxHeartbeats 8000000 in
theorem rmk_bad2 {w : World} {p1 p2 : Option Addr} {q1 q2 : Nat} {n1 n2 : Bool} {l1 l2 : List Nat} (c1 : ichk n1 l1 = true) (c2 : ichk n2 l2 = false) (b1 : l1.length ≤ 19999) (b2 : l2.length ≤ 19999) (g1 : Reads w (.slice p1 l1.length q1) l1) (g2 : Reads w (.slice p2 l2.length q2) l2) :
    Calls Tryz.prog 28 #[.agg #[.bool n1, .slice p1 l1.length q1], .agg #[.bool n2, .slice p2 l2.length q2]] w fun e w' => e = .returned (.tuple #[.agg #[.bool false, .slice none 0 0, .slice none 0 0], .int .i64 1]) ∧ Below w.heap.size w w' := by
  have kc1 := fun (W : World) (h : Reads W (.slice p1 l1.length q1) l1) => richeck_any (n := n1) h (by omega)
  rw [c1] at kc1
  have KC1 := Lib.hid kc1
  have kc2 := fun (W : World) (h : Reads W (.slice p2 l2.length q2) l2) => richeck_any (n := n2) h (by omega)
  rw [c2] at kc2
  have KC2 := Lib.hid kc2
  have M : Mem w [(w.heap.size + 1 + 1, 27, [.bool false, .slice none 0 0, .slice none 0 0]), (w.heap.size + 1, 25, [.bool n2, .slice p2 l2.length q2]), (w.heap.size, 25, [.bool n1, .slice p1 l1.length q1])] [(.slice p2 l2.length q2, l2), (.slice p1 l1.length q1, l1)] (((w.alloc (.cells #[.bool n1, .slice p1 l1.length q1] 25)).alloc (.cells #[.bool n2, .slice p2 l2.length q2] 25)).alloc (.cells #[.bool false, .slice none 0 0, .slice none 0 0] 27)) := by
    have M := ((((((Mem.start w).add g1).add g2).new 25 [.bool n1, .slice p1 l1.length q1]).new 25 [.bool n2, .slice p2 l2.length q2]).new 27 [.bool false, .slice none 0 0, .slice none 0 0])
    simpa only [World.size_alloc] using M
  clear g1 g2 b1 b2 c1 kc1 c2 kc2
  go_enter Tryz.func28, Tryz.ntmps28
  have z2_0 := M.cell 2 rfl 0 rfl; have z2_1 := M.cell 2 rfl 1 rfl; have z1_0 := M.cell 1 rfl 0 rfl; have z1_1 := M.cell 1 rfl 1 rfl
  go_wp2_with fail
  clear z2_0 z2_1 z1_0 z1_1
  refine (KC1.out _ (M.get 1 rfl)).mono ?_
  rintro e w1 ⟨rfl, rr⟩
  have M' := M.up rr; clear M rr; have M := M'; clear M'
  have z2_0 := M.cell 2 rfl 0 rfl; have z2_1 := M.cell 2 rfl 1 rfl; have z1_0 := M.cell 1 rfl 0 rfl; have z1_1 := M.cell 1 rfl 1 rfl
  go_wp2_with fail
  clear z2_0 z2_1 z1_0 z1_1
  refine (KC2.out _ (M.get 0 rfl)).mono ?_
  rintro e w2 ⟨rfl, rr⟩
  have M' := M.up rr; clear M rr; have M := M'; clear M'
  have f0 := M.fr 0 rfl 0; have f1 := M.fr 0 rfl 1; have f2 := M.fr 0 rfl 2; have y0 := M.cell 0 rfl 0 rfl; have y1 := M.cell 0 rfl 1 rfl; have y2 := M.cell 0 rfl 2 rfl
  go_wp2_with fail
  have M' := ((M.put 0 rfl rfl 0 (.bool false)).put 0 rfl rfl 1 (.slice none 0 0)).put 0 rfl rfl 2 (.slice none 0 0)
  refine ret_boxN_tmp rfl rfl rfl (M'.box 0 rfl) Tryz.underlying27 size_rat rfl ?_
  exact ⟨rfl, M'.below⟩
set_option maxRecDepth 100000 in
set_option maxHeartbeats 8000000 in
theorem rmk_zero {w : World} {p1 p2 : Option Addr} {q1 q2 : Nat} {n1 n2 : Bool} {l1 l2 : List Nat} (c1 : ichk n1 l1 = true) (c2 : ichk n2 l2 = true) (h0 : l2.length = 0) (b1 : l1.length ≤ 19999) (b2 : l2.length ≤ 19999) (g1 : Reads w (.slice p1 l1.length q1) l1) (g2 : Reads w (.slice p2 l2.length q2) l2) :
    Calls Tryz.prog 28 #[.agg #[.bool n1, .slice p1 l1.length q1], .agg #[.bool n2, .slice p2 l2.length q2]] w fun e w' => e = .returned (.tuple #[.agg #[.bool false, .slice none 0 0, .slice none 0 0], .int .i64 10]) ∧ Below w.heap.size w w' := by
  have kc1 := fun (W : World) (h : Reads W (.slice p1 l1.length q1) l1) => richeck_any (n := n1) h (by omega)
  rw [c1] at kc1
  have KC1 := Lib.hid kc1
  have kc2 := fun (W : World) (h : Reads W (.slice p2 l2.length q2) l2) => richeck_any (n := n2) h (by omega)
  rw [c2] at kc2
  have KC2 := Lib.hid kc2
  have hl : ((l2.length : Int) == 0) = true := by rw [h0]; rfl
  have M : Mem w [(w.heap.size + 1 + 1, 27, [.bool false, .slice none 0 0, .slice none 0 0]), (w.heap.size + 1, 25, [.bool n2, .slice p2 l2.length q2]), (w.heap.size, 25, [.bool n1, .slice p1 l1.length q1])] [(.slice p2 l2.length q2, l2), (.slice p1 l1.length q1, l1)] (((w.alloc (.cells #[.bool n1, .slice p1 l1.length q1] 25)).alloc (.cells #[.bool n2, .slice p2 l2.length q2] 25)).alloc (.cells #[.bool false, .slice none 0 0, .slice none 0 0] 27)) := by
    have M := ((((((Mem.start w).add g1).add g2).new 25 [.bool n1, .slice p1 l1.length q1]).new 25 [.bool n2, .slice p2 l2.length q2]).new 27 [.bool false, .slice none 0 0, .slice none 0 0])
    simpa only [World.size_alloc] using M
  clear g1 g2 b1 b2 c1 kc1 c2 kc2 h0
  go_enter Tryz.func28, Tryz.ntmps28
  have z2_0 := M.cell 2 rfl 0 rfl; have z2_1 := M.cell 2 rfl 1 rfl; have z1_0 := M.cell 1 rfl 0 rfl; have z1_1 := M.cell 1 rfl 1 rfl
  go_wp2_with fail
  clear z2_0 z2_1 z1_0 z1_1
  refine (KC1.out _ (M.get 1 rfl)).mono ?_
  rintro e w1 ⟨rfl, rr⟩
  have M' := M.up rr; clear M rr; have M := M'; clear M'
  have z2_0 := M.cell 2 rfl 0 rfl; have z2_1 := M.cell 2 rfl 1 rfl; have z1_0 := M.cell 1 rfl 0 rfl; have z1_1 := M.cell 1 rfl 1 rfl
  go_wp2_with fail
  clear z2_0 z2_1 z1_0 z1_1
  refine (KC2.out _ (M.get 0 rfl)).mono ?_
  rintro e w2 ⟨rfl, rr⟩
  have M' := M.up rr; clear M rr; have M := M'; clear M'
  have z2_0 := M.cell 2 rfl 0 rfl; have z2_1 := M.cell 2 rfl 1 rfl; have z1_0 := M.cell 1 rfl 0 rfl; have z1_1 := M.cell 1 rfl 1 rfl
  have f0 := M.fr 0 rfl 0; have f1 := M.fr 0 rfl 1; have f2 := M.fr 0 rfl 2; have y0 := M.cell 0 rfl 0 rfl; have y1 := M.cell 0 rfl 1 rfl; have y2 := M.cell 0 rfl 2 rfl
  go_wp2_with fail
  have M' := ((M.put 0 rfl rfl 0 (.bool false)).put 0 rfl rfl 1 (.slice none 0 0)).put 0 rfl rfl 2 (.slice none 0 0)
  refine ret_boxN_tmp rfl rfl rfl (M'.box 0 rfl) Tryz.underlying27 size_rat rfl ?_
  exact ⟨rfl, M'.below⟩
set_option maxRecDepth 100000 in
set_option maxHeartbeats 8000000 in
theorem rr_lowest {w : World} {p1 p2 : Option Addr} {q1 q2 B : Nat} {s1 sZ : Bool} {L1 L2 LZ DZ : List Nat} {N : Int} {Z : Rat} (cN : Can s1 L1 N) (hB : L2 = digs B) (h0 : B ≠ 0) (kZ : RCan sZ LZ DZ Z) (eZ : Z = (N : Rat) / (((B : Nat) : Int) : Rat)) (l1 : L1.length ≤ 40000) (l2 : L2.length ≤ 40000) (h1 : Reads w (.slice p1 L1.length q1) L1) (h2 : Reads w (.slice p2 L2.length q2) L2) :
    Calls Tryz.prog 58 #[.agg #[.bool s1, .slice p1 L1.length q1], .slice p2 L2.length q2] w fun e w' => ∃ a c a' c', e = .returned (.agg #[.bool sZ, .slice a LZ.length c, .slice a' DZ.length c']) ∧ Reads w' (.slice a LZ.length c) LZ ∧ Reads w' (.slice a' DZ.length c') DZ ∧ Below w.heap.size w w' := by
  obtain ⟨g, d, k, hg, g0, e1, e2, e3, e4⟩ := rmake_parts N (B : Int) (by omega)
  rw [← eZ] at e3 e4
  rw [Int.natAbs_natCast] at hg
  have e2' : B = g * d := by omega
  have eN : N.natAbs = g * k.natAbs := by rw [e1, Int.natAbs_mul, Int.natAbs_natCast]
  obtain ⟨Lg, hLg⟩ : ∃ L, L = digs g := ⟨_, rfl⟩
  have lg : Lg.length ≤ 40000 := by
    rw [hLg]
    have h3 := digs_mono (show g ≤ B by rw [e2']; exact Nat.le_mul_of_pos_right _ (Nat.pos_of_ne_zero (fun e => h0 (by rw [e2', e, Nat.mul_zero]))))
    rw [← hB] at h3; omega
  have hLZ : LZ = digs k.natAbs := by rw [kZ.1.2, e3]
  have hDZ : DZ = digs d := by rw [kZ.2, e4]
  have hs : (s1 && decide (0 < LZ.length)) = sZ := by
    rw [cN.1, kZ.1.1, e3, hLZ, dec_digs]
    have hgp : (0 : Int) < (g : Int) := by omega
    by_cases hk : k = 0
    · subst hk; simp
    · have h5 : 0 < k.natAbs := Int.natAbs_pos.2 hk
      rw [decide_eq_true h5, Bool.and_true, e1]
      by_cases hn : k < 0
      · rw [decide_eq_true hn, decide_eq_true (Int.mul_neg_of_pos_of_neg hgp hn)]
      · rw [decide_eq_false hn, decide_eq_false]
        have := Int.mul_nonneg (Int.le_of_lt hgp) (Int.not_lt.1 hn)
        omega
  have KG := Lib.hid (fun (W : World) (y1 : Reads W (.slice p1 L1.length q1) L1) (y2 : Reads W (.slice p2 L2.length q2) L2) => p_gcd (G := Lg) cN.2 hB (by rw [hLg, hg]) (by omega) (by omega) y1 y2)
  have KA := Lib.hid (fun (W : World) {a : Option Addr} {c : Nat} (y1 : Reads W (.slice p1 L1.length q1) L1) (y2 : Reads W (.slice a Lg.length c) Lg) => p_quo cN.2 hLg hLZ eN g0 (by omega) (by omega) y1 y2)
  have KB := Lib.hid (fun (W : World) {a : Option Addr} {c : Nat} (y1 : Reads W (.slice p2 L2.length q2) L2) (y2 : Reads W (.slice a Lg.length c) Lg) => p_quo hB hLg hDZ e2' g0 (by omega) (by omega) y1 y2)
  have KS := Lib.hid (fun (W : World) (a : Option Addr) (c : Nat) => hs ▸ rsigned_any s1 a LZ.length c W)
  have M : Mem w [(w.heap.size + 1, 27, [.bool false, .slice none 0 0, .slice none 0 0]), (w.heap.size, 25, [.bool s1, .slice p1 L1.length q1])] [(.slice p2 L2.length q2, L2), (.slice p1 L1.length q1, L1)] ((w.alloc (.cells #[.bool s1, .slice p1 L1.length q1] 25)).alloc (.cells #[.bool false, .slice none 0 0, .slice none 0 0] 27)) := by
    have M := (((((Mem.start w).add h1).add h2).new 25 [.bool s1, .slice p1 L1.length q1]).new 27 [.bool false, .slice none 0 0, .slice none 0 0])
    simpa only [World.size_alloc] using M
  clear h1 h2 l1 l2 cN hB h0 kZ eZ hg g0 e1 e2 e3 e4 e2' eN hLg lg hLZ hDZ hs
  go_enter Tryz.func58, Tryz.ntmps58
  have z0 := M.cell 1 rfl 0 rfl; have z1 := M.cell 1 rfl 1 rfl
  go_wp2_with fail
  clear z0 z1
  refine (KG.out _ (M.get 1 rfl) (M.get 0 rfl)).mono ?_
  rintro e w1 ⟨ag, cg, rfl, y, rr⟩
  have M' := (M.up rr).add y; clear M rr y; have M := M'; clear M'
  have z0 := M.cell 1 rfl 0 rfl; have z1 := M.cell 1 rfl 1 rfl
  go_wp2_with fail
  clear z0 z1
  refine (KA.out _ (M.get 2 rfl) (M.get 0 rfl)).mono ?_
  rintro e w2 ⟨aa, ca, b2, d2, rfl, y, rr⟩
  have M' := (M.up rr).add y; clear M rr y; have M := M'; clear M'
  have z0 := M.cell 1 rfl 0 rfl; have z1 := M.cell 1 rfl 1 rfl
  go_wp2_with fail
  clear z0 z1
  refine (KB.out _ (M.get 2 rfl) (M.get 1 rfl)).mono ?_
  rintro e w3 ⟨ab, cb, b3, d3, rfl, y, rr⟩
  have M' := (M.up rr).add y; clear M rr y; have M := M'; clear M'
  have z0 := M.cell 1 rfl 0 rfl; have z1 := M.cell 1 rfl 1 rfl
  go_wp2_with fail
  clear z0 z1
  refine (KS.out _ _ _).mono ?_
  rintro e w4 ⟨rfl, rr⟩
  have M' := M.up rr; clear M rr; have M := M'; clear M'
  have f0 := M.fr 0 rfl 0; have f1 := M.fr 0 rfl 1; have f2 := M.fr 0 rfl 2; have y0 := M.cell 0 rfl 0 rfl; have y1 := M.cell 0 rfl 1 rfl; have y2 := M.cell 0 rfl 2 rfl
  go_wp2_with fail
  have M' := ((M.put 0 rfl rfl 0 (.bool sZ)).put 0 rfl rfl 1 (.slice aa LZ.length ca)).put 0 rfl rfl 2 (.slice ab DZ.length cb)
  refine ret_boxN rfl rfl (M'.box 0 rfl) Tryz.underlying27 size_rat rfl ?_
  exact ⟨aa, ca, ab, cb, rfl, M'.get 1 rfl, M'.get 0 rfl, M'.below⟩
set_option maxRecDepth 100000 in
set_option maxHeartbeats 8000000 in
theorem rmk_ok {w : World} {p1 p2 : Option Addr} {q1 q2 : Nat} {n1 n2 : Bool} {l1 l2 : List Nat} {sZ : Bool} {LZ DZ : List Nat} {N M : Int} {Z : Rat} (cN : Can n1 l1 N) (cM : Can n2 l2 M) (hM : M ≠ 0) (kZ : RCan sZ LZ DZ Z) (eZ : Z = (N : Rat) / (M : Rat)) (b1 : l1.length ≤ 19999) (b2 : l2.length ≤ 19999) (g1 : Reads w (.slice p1 l1.length q1) l1) (g2 : Reads w (.slice p2 l2.length q2) l2) :
    Calls Tryz.prog 28 #[.agg #[.bool n1, .slice p1 l1.length q1], .agg #[.bool n2, .slice p2 l2.length q2]] w fun e w' => ∃ a c a' c', e = .returned (.tuple #[(.agg #[.bool sZ, .slice a LZ.length c, .slice a' DZ.length c']), .int .i64 0]) ∧ Reads w' (.slice a LZ.length c) LZ ∧ Reads w' (.slice a' DZ.length c') DZ ∧ Below w.heap.size w w' := by
  have c1 := cN.chk
  have c2 := cM.chk
  have h5 : 0 < M.natAbs := Int.natAbs_pos.2 hM
  have hl2 : 0 < l2.length := by rw [cM.2]; exact digs_len_pos (by omega)
  have hl : ((l2.length : Int) == 0) = false := beq_eq_false_iff_ne.2 (by omega)
  obtain ⟨S, hS⟩ : ∃ S, S = (n1 != n2 && decide (0 < l1.length)) := ⟨_, rfl⟩
  obtain ⟨K, hK⟩ : ∃ K : Int, K = if (n1 != n2) = true then -((N.natAbs : Nat) : Int) else ((N.natAbs : Nat) : Int) := ⟨_, rfl⟩
  have cK : Can S l1 K := by
    have hKa : K.natAbs = N.natAbs := by rw [hK]; split <;> simp
    refine ⟨?_, by rw [hKa]; exact cN.2⟩
    rw [hS, cN.2, dec_digs, hK]
    cases hx : (n1 != n2) with
    | false => simp
    | true =>
      rw [if_pos rfl, Bool.true_and]
      by_cases h6 : 0 < N.natAbs
      · rw [decide_eq_true h6, decide_eq_true]; omega
      · rw [decide_eq_false h6, decide_eq_false]; omega
  have eK : Z = (K : Rat) / (((M.natAbs : Nat) : Int) : Rat) := by
    rw [eZ, hK, cN.1, cM.1]
    have hM2 : (M : Rat) ≠ 0 := by exact_mod_cast hM
    by_cases i1 : N < 0
    · have j1 : ((N.natAbs : Nat) : Int) = -N := by omega
      rw [decide_eq_true i1, j1]
      by_cases i2 : M < 0
      · have j2 : ((M.natAbs : Nat) : Int) = -M := by omega
        rw [decide_eq_true i2, j2]
        simp
        grind
      · have j2 : ((M.natAbs : Nat) : Int) = M := by omega
        rw [decide_eq_false i2, j2]
        simp
    · have j1 : ((N.natAbs : Nat) : Int) = N := by omega
      rw [decide_eq_false i1, j1]
      by_cases i2 : M < 0
      · have j2 : ((M.natAbs : Nat) : Int) = -M := by omega
        rw [decide_eq_true i2, j2]
        simp
        grind
      · have j2 : ((M.natAbs : Nat) : Int) = M := by omega
        rw [decide_eq_false i2, j2]
        simp
  have kc1 := fun (W : World) (h : Reads W (.slice p1 l1.length q1) l1) => richeck_any (n := n1) h (by omega)
  rw [c1] at kc1
  have KC1 := Lib.hid kc1
  have kc2 := fun (W : World) (h : Reads W (.slice p2 l2.length q2) l2) => richeck_any (n := n2) h (by omega)
  rw [c2] at kc2
  have KC2 := Lib.hid kc2
  have KS := Lib.hid (fun (W : World) => hS ▸ rsigned_any (n1 != n2) p1 l1.length q1 W)
  have KL := Lib.hid (fun (W : World) (y1 : Reads W (.slice p1 l1.length q1) l1) (y2 : Reads W (.slice p2 l2.length q2) l2) => rr_lowest cK cM.2 (by omega) kZ eK (by omega) (by omega) y1 y2)
  have M : Mem w [(w.heap.size + 1 + 1, 27, [.bool false, .slice none 0 0, .slice none 0 0]), (w.heap.size + 1, 25, [.bool n2, .slice p2 l2.length q2]), (w.heap.size, 25, [.bool n1, .slice p1 l1.length q1])] [(.slice p2 l2.length q2, l2), (.slice p1 l1.length q1, l1)] (((w.alloc (.cells #[.bool n1, .slice p1 l1.length q1] 25)).alloc (.cells #[.bool n2, .slice p2 l2.length q2] 25)).alloc (.cells #[.bool false, .slice none 0 0, .slice none 0 0] 27)) := by
    have M := ((((((Mem.start w).add g1).add g2).new 25 [.bool n1, .slice p1 l1.length q1]).new 25 [.bool n2, .slice p2 l2.length q2]).new 27 [.bool false, .slice none 0 0, .slice none 0 0])
    simpa only [World.size_alloc] using M
  clear g1 g2 b1 b2 c1 kc1 c2 kc2 cN cM hM kZ eZ h5 hl2 hS hK cK eK
  go_enter Tryz.func28, Tryz.ntmps28
  have z2_0 := M.cell 2 rfl 0 rfl; have z2_1 := M.cell 2 rfl 1 rfl; have z1_0 := M.cell 1 rfl 0 rfl; have z1_1 := M.cell 1 rfl 1 rfl
  go_wp2_with fail
  clear z2_0 z2_1 z1_0 z1_1
  refine (KC1.out _ (M.get 1 rfl)).mono ?_
  rintro e w1 ⟨rfl, rr⟩
  have M' := M.up rr; clear M rr; have M := M'; clear M'
  have z2_0 := M.cell 2 rfl 0 rfl; have z2_1 := M.cell 2 rfl 1 rfl; have z1_0 := M.cell 1 rfl 0 rfl; have z1_1 := M.cell 1 rfl 1 rfl
  go_wp2_with fail
  clear z2_0 z2_1 z1_0 z1_1
  refine (KC2.out _ (M.get 0 rfl)).mono ?_
  rintro e w2 ⟨rfl, rr⟩
  have M' := M.up rr; clear M rr; have M := M'; clear M'
  have z2_0 := M.cell 2 rfl 0 rfl; have z2_1 := M.cell 2 rfl 1 rfl; have z1_0 := M.cell 1 rfl 0 rfl; have z1_1 := M.cell 1 rfl 1 rfl
  go_wp2_with fail
  clear z2_0 z2_1 z1_0 z1_1
  refine region_mem (S := (fun W : World => BoxN W (w.heap.size) 25 #[.bool n1, .slice p1 l1.length q1] ∧ BoxN W (w.heap.size + 1) 25 #[.bool n2, .slice p2 l2.length q2])) M (by kernel_rfl) ?_
  intro V0 M
  have hS0 : (fun W : World => BoxN W (w.heap.size) 25 #[.bool n1, .slice p1 l1.length q1] ∧ BoxN W (w.heap.size + 1) 25 #[.bool n2, .slice p2 l2.length q2]) V0 := ⟨M.box 2 rfl, M.box 1 rfl⟩
  refine wpAnyH_take (i := 0) (oi := ⟨_, _, _, _, _, _⟩) (v := (.pointer (some ⟨w.heap.size, 0, none⟩))) rfl (by kernel_rfl) (by kernel_rfl) (by kernel_rfl) (fun _ _ _ h => h) (Or.inl ⟨by rfl, fun W3 hS => by go_simp⟩) hS0 ?_
  try simp only [Act.put, List.setIfInBounds_toArray, List.set_cons_zero, List.set_cons_succ]
  refine wpAnyH_take (i := 1) (oi := ⟨_, _, _, _, _, _⟩) (v := (.bool n1)) rfl (by kernel_rfl) (by kernel_rfl) (by kernel_rfl) (fun _ _ _ h => h) (Or.inl ⟨by rfl, fun W3 hS => by obtain ⟨hS1, hS2⟩ := hS; have c1_0 := hS1.cell 0 _ rfl; have c1_1 := hS1.cell 1 _ rfl; go_simp⟩) hS0 ?_
  try simp only [Act.put, List.setIfInBounds_toArray, List.set_cons_zero, List.set_cons_succ]
  refine wpAnyH_take (i := 2) (oi := ⟨_, _, _, _, _, _⟩) (v := (.pointer (some ⟨w.heap.size + 1, 0, none⟩))) rfl (by kernel_rfl) (by kernel_rfl) (by kernel_rfl) (fun _ _ _ h => h) (Or.inl ⟨by rfl, fun W3 hS => by go_simp⟩) hS0 ?_
  try simp only [Act.put, List.setIfInBounds_toArray, List.set_cons_zero, List.set_cons_succ]
  refine wpAnyH_take (i := 3) (oi := ⟨_, _, _, _, _, _⟩) (v := (.bool n2)) rfl (by kernel_rfl) (by kernel_rfl) (by kernel_rfl) (fun _ _ _ h => h) (Or.inl ⟨by rfl, fun W3 hS => by obtain ⟨hS1, hS2⟩ := hS; have c2_0 := hS2.cell 0 _ rfl; have c2_1 := hS2.cell 1 _ rfl; go_simp⟩) hS0 ?_
  try simp only [Act.put, List.setIfInBounds_toArray, List.set_cons_zero, List.set_cons_succ]
  refine wpAnyH_take (i := 4) (oi := ⟨_, _, _, _, _, _⟩) (v := (.bool (n1 != n2))) rfl (by kernel_rfl) (by kernel_rfl) (by kernel_rfl) (fun _ _ _ h => h) (Or.inl ⟨by rfl, fun W3 hS => by go_simp; cases n1 <;> cases n2 <;> rfl⟩) hS0 ?_
  try simp only [Act.put, List.setIfInBounds_toArray, List.set_cons_zero, List.set_cons_succ]
  refine wpAnyH_take (i := 5) (oi := ⟨_, _, _, _, _, _⟩) (v := (.pointer (some ⟨w.heap.size, 1, none⟩))) rfl (by kernel_rfl) (by kernel_rfl) (by kernel_rfl) (fun _ _ _ h => h) (Or.inl ⟨by rfl, fun W3 hS => by go_simp⟩) hS0 ?_
  try simp only [Act.put, List.setIfInBounds_toArray, List.set_cons_zero, List.set_cons_succ]
  refine wpAnyH_take (i := 6) (oi := ⟨_, _, _, _, _, _⟩) (v := (.slice p1 l1.length q1)) rfl (by kernel_rfl) (by kernel_rfl) (by kernel_rfl) (fun _ _ _ h => h) (Or.inl ⟨by rfl, fun W3 hS => by obtain ⟨hS1, hS2⟩ := hS; have c1_0 := hS1.cell 0 _ rfl; have c1_1 := hS1.cell 1 _ rfl; go_simp⟩) hS0 ?_
  try simp only [Act.put, List.setIfInBounds_toArray, List.set_cons_zero, List.set_cons_succ]
  refine wpAnyH_take (i := 8) (oi := ⟨_, _, _, _, _, _⟩) (v := (.pointer (some ⟨w.heap.size + 1, 1, none⟩))) rfl (by kernel_rfl) (by kernel_rfl) (by kernel_rfl) (fun _ _ _ h => h) (Or.inl ⟨by rfl, fun W3 hS => by go_simp⟩) hS0 ?_
  try simp only [Act.put, List.setIfInBounds_toArray, List.set_cons_zero, List.set_cons_succ]
  refine wpAnyH_take (i := 9) (oi := ⟨_, _, _, _, _, _⟩) (v := (.slice p2 l2.length q2)) rfl (by kernel_rfl) (by kernel_rfl) (by kernel_rfl) (fun _ _ _ h => h) (Or.inl ⟨by rfl, fun W3 hS => by obtain ⟨hS1, hS2⟩ := hS; have c2_0 := hS2.cell 0 _ rfl; have c2_1 := hS2.cell 1 _ rfl; go_simp⟩) hS0 ?_
  try simp only [Act.put, List.setIfInBounds_toArray, List.set_cons_zero, List.set_cons_succ]
  clear hS0
  refine wpAnyH_all (rs := [7]) (by kernel_rfl) (by simp) ?_
  intro i hi
  obtain rfl : i = 7 := by simpa using hi
  refine wpOp_intro rfl (fun K1 hK => ?_)
  clear hi
  go_simp
  refine (KS.out _).mono ?_
  rintro e V1_7 ⟨rfl, rr⟩
  have M' := M.up rr
  clear M rr 
  have M := M'; clear M'
  refine hK _ _ ⟨⟨M.box 2 rfl, M.box 1 rfl⟩, ?_⟩
  clear hK K1
  refine wpAnyH_all (rs := [10]) (by kernel_rfl) (by simp) ?_
  intro i hi
  obtain rfl : i = 10 := by simpa using hi
  refine wpOp_intro rfl (fun K2 hK => ?_)
  clear hi
  go_simp
  refine (KL.out _ (M.get 1 rfl) (M.get 0 rfl)).mono ?_
  rintro e V2_10 ⟨a, c, a', c', rfl, g, g', rr⟩
  have M' := ((M.up rr).add g).add g'
  clear M rr g g'
  have M := M'; clear M'
  refine hK _ _ ⟨⟨M.box 2 rfl, M.box 1 rfl⟩, ?_⟩
  clear hK K2
  have f0_0 := M.fr 0 rfl 0; have f0_1 := M.fr 0 rfl 1; have f0_2 := M.fr 0 rfl 2
  have z0_0 := M.cell 0 rfl 0 rfl; have z0_1 := M.cell 0 rfl 1 rfl; have z0_2 := M.cell 0 rfl 2 rfl
  refine wpAnyH_all (rs := [11]) (by kernel_rfl) (by simp) ?_
  intro i hi
  obtain rfl : i = 11 := by simpa using hi
  refine wpOp_intro rfl (fun Ks3 hK => ?_)
  clear hi
  go_simp
  have M' := (((M.put 0 rfl rfl 0 (.bool sZ)).put 0 rfl rfl 1 (.slice a LZ.length c)).put 0 rfl rfl 2 (.slice a' DZ.length c'))
  clear M f0_0 z0_0 f0_1 z0_1 f0_2 z0_2
  have M : Mem w [(w.heap.size + 1 + 1, 27, [.bool sZ, .slice a LZ.length c, .slice a' DZ.length c']), (w.heap.size + 1, 25, [.bool n2, .slice p2 l2.length q2]), (w.heap.size, 25, [.bool n1, .slice p1 l1.length q1])] [(.slice a' DZ.length c', DZ), (.slice a LZ.length c, LZ), (.slice p2 l2.length q2, l2), (.slice p1 l1.length q1, l1)] _ := M'
  clear M'
  refine hK _ _ ⟨⟨M.box 2 rfl, M.box 1 rfl⟩, ?_⟩
  clear hK Ks3
  have hS0 : (fun W : World => BoxN W (w.heap.size) 25 #[.bool n1, .slice p1 l1.length q1] ∧ BoxN W (w.heap.size + 1) 25 #[.bool n2, .slice p2 l2.length q2]) _ := ⟨M.box 2 rfl, M.box 1 rfl⟩
  refine wpAnyH_take (i := 12) (oi := ⟨_, _, _, _, _, _⟩) (v := (.int .i64 0)) rfl (by kernel_rfl) (by kernel_rfl) (by kernel_rfl) (fun _ _ _ h => h) (Or.inl ⟨by rfl, fun W3 hS => by go_simp⟩) hS0 ?_
  try simp only [Act.put, List.setIfInBounds_toArray, List.set_cons_zero, List.set_cons_succ]
  clear hS0
  refine wpAnyH_done (by kernel_rfl) ?_ _
  go_wp2
  refine ret_boxN_tmp rfl rfl rfl (M.box 0 rfl) Tryz.underlying27 size_rat rfl ?_
  exact ⟨a, c, a', c', rfl, M.get 1 rfl, M.get 0 rfl, M.below⟩
set_option maxRecDepth 100000 in
set_option maxHeartbeats 8000000 in
theorem lit_one (W : World) : Reads (W.alloc (.cells #[.int .u32 1] 64)) (.slice (some ⟨W.heap.size, 0, none⟩) 1 1) [1] :=
  (show Fresh (W.alloc (.cells #[.int .u32 1] 64)) W.heap.size (.slice (some ⟨W.heap.size, 0, none⟩) 1 1) [1] from ⟨rfl, .inr ⟨W.heap.size, 1, _, rfl, Nat.le_refl _, World.alloc_heap_new W _, Nat.le_refl _, small_max (by decide), rfl, rfl⟩⟩).reads
theorem digs_one1 : digs 1 = [1] := by rw [digs_pos (by decide)]; simp [digs_zero]
set_option maxRecDepth 100000 in
set_option maxHeartbeats 8000000 in
theorem rr_of {w : World} {s : Bool} {L D : List Nat} (X : Int) (cX : RCan s L D (X : Rat)) (h1 : -9223372036854775808 ≤ X) (h2 : X ≤ 9223372036854775807) :
    Calls Tryz.prog 30 #[.int .i64 X] w fun e w' => ∃ a c a' c', e = .returned (.agg #[.bool s, .slice a L.length c, .slice a' D.length c']) ∧ Reads w' (.slice a L.length c) L ∧ Reads w' (.slice a' D.length c') D ∧ Below w.heap.size w w' := by
  obtain ⟨cL, rfl⟩ := rcan_int cX
  have KO := Lib.hid (fun (W : World) => p_of (W := W) X cL h1 h2)
  have M : Mem w [(w.heap.size, 27, [.bool false, .slice none 0 0, .slice none 0 0])] [] (w.alloc (.cells #[.bool false, .slice none 0 0, .slice none 0 0] 27)) := by
    have M := ((Mem.start w).new 27 [.bool false, .slice none 0 0, .slice none 0 0])
    simpa only [World.size_alloc] using M
  clear cX cL h1 h2
  rw [digs_one1]
  go_enter Tryz.func30, Tryz.ntmps30
  go_wp2_with fail
  refine (KO.out _).mono ?_
  rintro e w1 ⟨a, c, rfl, y, rr⟩
  have M' := (M.up rr).add y; clear M rr y; have M := M'; clear M'
  have q0 := M.lt (k := 0) rfl
  have M1 := ((M.put 0 rfl rfl 0 (.bool s)).put 0 rfl rfl 1 (.slice a L.length c)).put 0 rfl rfl 2 (.slice (some ⟨w1.heap.size, 0, none⟩) 1 1)
  have hf := lit_one (((w1.setCell ⟨w.heap.size, 0, none⟩ (.bool s)).setCell ⟨w.heap.size, 1, none⟩ (.slice a L.length c)).setCell ⟨w.heap.size, 2, none⟩ (.slice (some ⟨w1.heap.size, 0, none⟩) 1 1))
  have hs3 : (((w1.setCell ⟨w.heap.size, 0, none⟩ (.bool s)).setCell ⟨w.heap.size, 1, none⟩ (.slice a L.length c)).setCell ⟨w.heap.size, 2, none⟩ (.slice (some ⟨w1.heap.size, 0, none⟩) 1 1)).heap.size = w1.heap.size := by simp
  rw [hs3] at hf
  have M' := (M1.up ((Below.refl _ _).alloc (Nat.le_refl _) (.cells #[.int .u32 1] 64))).add hf
  have z0 := M.cell 0 rfl 0 rfl; have z1 := M.cell 0 rfl 1 rfl; have z2 := M.cell 0 rfl 2 rfl
  have f0 := M.fr 0 rfl 0; have f1 := M.fr 0 rfl 1; have f2 := M.fr 0 rfl 2
  clear M M1 hf hs3
  go_wp2_with fail
  refine ret_boxN rfl rfl (M'.box 0 rfl) Tryz.underlying27 size_rat rfl ?_
  exact ⟨a, c, some ⟨w1.heap.size, 0, none⟩, 1, rfl, M'.get 1 rfl, M'.get 0 rfl, M'.below⟩

end Go.Proofs.YthnlmjnfdokdbaaGreatDoor
