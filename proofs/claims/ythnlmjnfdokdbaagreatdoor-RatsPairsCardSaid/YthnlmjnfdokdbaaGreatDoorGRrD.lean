/- The document's answer for fractions: by another one. -/
import Derived.Test.YthnlmjnfdokdbaaGreatDoorGRrN
set_option linter.unusedSimpArgs false
set_option linter.unusedVariables false
set_option maxRecDepth 100000
set_option maxHeartbeats 8000000
namespace Go.Proofs.YthnlmjnfdokdbaaGreatDoor
open Go Go.Proofs Go.RowKit Go.Shelf Nu

attribute [local go_sem] Oper.semAt_some

theorem signed_frac {n1 n2 : Bool} {l1 l2 : List Nat} {N M : Int} (cN : Can n1 l1 N) (cM : Can n2 l2 M) (hM : M ≠ 0) : ∃ K : Int, Can (n1 != n2 && decide (0 < l1.length)) l1 K ∧ (N : Rat) / (M : Rat) = (K : Rat) / (((M.natAbs : Nat) : Int) : Rat) := by
 obtain ⟨K, hK⟩ : ∃ K : Int, K = if (n1 != n2) = true then -((N.natAbs : Nat) : Int) else ((N.natAbs : Nat) : Int) := ⟨_, rfl⟩
 have cK : Can (n1 != n2 && decide (0 < l1.length)) l1 K := by
  have hKa : K.natAbs = N.natAbs := by rw [hK]; split <;> simp
  refine ⟨?_, by rw [hKa]; exact cN.2⟩
  rw [cN.2, dec_digs, hK]
  cases hx : (n1 != n2) with
  | false => simp
  | true =>
    rw [if_pos rfl, Bool.true_and]
    by_cases h6 : 0 < N.natAbs
    · rw [decide_eq_true h6, decide_eq_true]; omega
    · rw [decide_eq_false h6, decide_eq_false]; omega
 have eK : (N : Rat) / (M : Rat) = (K : Rat) / (((M.natAbs : Nat) : Int) : Rat) := by
  rw [hK, cN.1, cM.1]
  have hM2 : (M : Rat) ≠ 0 := by exact_mod_cast hM
  by_cases i1 : N < 0
  · have j1 : ((N.natAbs : Nat) : Int) = -N := by omega
    rw [decide_eq_true i1, j1]
    by_cases i2 : M < 0
    · have j2 : ((M.natAbs : Nat) : Int) = -M := by omega
      rw [decide_eq_true i2, j2]
      simp
      grind
    · have j2 : ((M.natAbs : Nat) : Int) = M := by omega
      rw [decide_eq_false i2, j2]
      simp
  · have j1 : ((N.natAbs : Nat) : Int) = N := by omega
    rw [decide_eq_false i1, j1]
    by_cases i2 : M < 0
    · have j2 : ((M.natAbs : Nat) : Int) = -M := by omega
      rw [decide_eq_true i2, j2]
      simp
      grind
    · have j2 : ((M.natAbs : Nat) : Int) = M := by omega
      rw [decide_eq_false i2, j2]
      simp
 exact ⟨K, cK, eK⟩
theorem rr_div_eq {X Y : Rat} (hY : Y.num ≠ 0) : X / Y = ((X.num * ((Y.den : Nat) : Int) : Int) : Rat) / ((Y.num * ((X.den : Nat) : Int) : Int) : Rat) := by
 have h1 := rat_den X
 have h2 := rat_den Y
 have n1 := rnz X.den_nz
 have n2 := rnz Y.den_nz
 have n3 : ((Y.num : Int) : Rat) ≠ 0 := by exact_mod_cast hY
 rw [Rat.intCast_mul, Rat.intCast_mul, Rat.intCast_natCast, Rat.intCast_natCast]
 generalize ((X.num : Int) : Rat) = a at *
 generalize ((X.den : Nat) : Rat) = b at *
 generalize ((Y.num : Int) : Rat) = c at *
 generalize ((Y.den : Nat) : Rat) = d at *
 have h3 : X = a / b := by grind
 have h4 : Y = c / d := by grind
 rw [h3, h4]
 grind
theorem rr_div_bad1 {w : World} {p1 o1 p2 o2 : Option Addr} {q1 r1 q2 r2 : Nat} {n1 n2 : Bool} {l1 d1 l2 d2 : List Nat} (i1 : Sm l1) (j1 : Sm d1) (i2 : Sm l2) (j2 : Sm d2) (c1 : rchk n1 l1 d1 = false) (b1 : l1.length ≤ 9999) (b2 : d1.length ≤ 9999) (b3 : l2.length ≤ 9999) (b4 : d2.length ≤ 9999) (g1 : Reads w (.slice p1 l1.length q1) l1) (g2 : Reads w (.slice o1 d1.length r1) d1) (g3 : Reads w (.slice p2 l2.length q2) l2) (g4 : Reads w (.slice o2 d2.length r2) d2) :
  Calls Tryz.prog 14 #[.agg #[.bool n1, .slice p1 l1.length q1, .slice o1 d1.length r1], .agg #[.bool n2, .slice p2 l2.length q2, .slice o2 d2.length r2]] w fun e w' => e = .returned (.tuple #[.agg #[.bool false, .slice none 0 0, .slice none 0 0], .int .i64 1]) ∧ Below w.heap.size w w' := by
 have kc1 := fun (W : World) (y1 : Reads W (.slice p1 l1.length q1) l1) (y2 : Reads W (.slice o1 d1.length r1) d1) => rr_check (n := n1) y1 y2 i1 j1 (by omega) (by omega)
 rw [c1] at kc1
 have KC1 := Lib.hid kc1
 have M : Mem w [(w.heap.size + 1 + 1, 27, [.bool false, .slice none 0 0, .slice none 0 0]), (w.heap.size + 1, 27, [.bool n2, .slice p2 l2.length q2, .slice o2 d2.length r2]), (w.heap.size, 27, [.bool n1, .slice p1 l1.length q1, .slice o1 d1.length r1])] [(.slice o2 d2.length r2, d2), (.slice p2 l2.length q2, l2), (.slice o1 d1.length r1, d1), (.slice p1 l1.length q1, l1)] (((w.alloc (.cells #[.bool n1, .slice p1 l1.length q1, .slice o1 d1.length r1] 27)).alloc (.cells #[.bool n2, .slice p2 l2.length q2, .slice o2 d2.length r2] 27)).alloc (.cells #[.bool false, .slice none 0 0, .slice none 0 0] 27)) := by
  have M := ((((((((Mem.start w).add g1).add g2).add g3).add g4).new 27 [.bool n1, .slice p1 l1.length q1, .slice o1 d1.length r1]).new 27 [.bool n2, .slice p2 l2.length q2, .slice o2 d2.length r2]).new 27 [.bool false, .slice none 0 0, .slice none 0 0])
  simpa only [World.size_alloc] using M
 clear g1 g2 g3 g4 b1 b2 b3 b4 i1 j1 i2 j2 c1 kc1
 go_enter Tryz.func14, Tryz.ntmps14
 have z1_0 := M.cell 1 rfl 0 rfl; have z1_1 := M.cell 1 rfl 1 rfl; have z1_2 := M.cell 1 rfl 2 rfl; have z2_0 := M.cell 2 rfl 0 rfl; have z2_1 := M.cell 2 rfl 1 rfl; have z2_2 := M.cell 2 rfl 2 rfl
 go_wp2_with fail
 clear z2_0 z2_1 z2_2 z1_0 z1_1 z1_2
 refine (KC1.out _ (M.get 3 rfl) (M.get 2 rfl)).mono ?_
 rintro e w1 ⟨rfl, rr⟩
 have M' := M.up rr; clear M rr; have M := M'; clear M'
 have z0_0 := M.cell 0 rfl 0 rfl; have z0_1 := M.cell 0 rfl 1 rfl; have z0_2 := M.cell 0 rfl 2 rfl; have z1_0 := M.cell 1 rfl 0 rfl; have z1_1 := M.cell 1 rfl 1 rfl; have z1_2 := M.cell 1 rfl 2 rfl; have f0_0 := M.fr 0 rfl 0; have f0_1 := M.fr 0 rfl 1; have f0_2 := M.fr 0 rfl 2
 go_wp2_with fail
 have M' := ((M.put 0 rfl rfl 0 (.bool false)).put 0 rfl rfl 1 (.slice none 0 0)).put 0 rfl rfl 2 (.slice none 0 0)
 refine ret_boxN_tmp rfl rfl rfl (M'.box 0 rfl) Tryz.underlying27 size_rat rfl ?_
 exact ⟨rfl, M'.below⟩
theorem rr_div_bad2 {w : World} {p1 o1 p2 o2 : Option Addr} {q1 r1 q2 r2 : Nat} {n1 n2 : Bool} {l1 d1 l2 d2 : List Nat} (i1 : Sm l1) (j1 : Sm d1) (i2 : Sm l2) (j2 : Sm d2) (c1 : rchk n1 l1 d1 = true) (c2 : rchk n2 l2 d2 = false) (b1 : l1.length ≤ 9999) (b2 : d1.length ≤ 9999) (b3 : l2.length ≤ 9999) (b4 : d2.length ≤ 9999) (g1 : Reads w (.slice p1 l1.length q1) l1) (g2 : Reads w (.slice o1 d1.length r1) d1) (g3 : Reads w (.slice p2 l2.length q2) l2) (g4 : Reads w (.slice o2 d2.length r2) d2) :
  Calls Tryz.prog 14 #[.agg #[.bool n1, .slice p1 l1.length q1, .slice o1 d1.length r1], .agg #[.bool n2, .slice p2 l2.length q2, .slice o2 d2.length r2]] w fun e w' => e = .returned (.tuple #[.agg #[.bool false, .slice none 0 0, .slice none 0 0], .int .i64 1]) ∧ Below w.heap.size w w' := by
 have kc1 := fun (W : World) (y1 : Reads W (.slice p1 l1.length q1) l1) (y2 : Reads W (.slice o1 d1.length r1) d1) => rr_check (n := n1) y1 y2 i1 j1 (by omega) (by omega)
 rw [c1] at kc1
 have KC1 := Lib.hid kc1
 have kc2 := fun (W : World) (y1 : Reads W (.slice p2 l2.length q2) l2) (y2 : Reads W (.slice o2 d2.length r2) d2) => rr_check (n := n2) y1 y2 i2 j2 (by omega) (by omega)
 rw [c2] at kc2
 have KC2 := Lib.hid kc2
 have M : Mem w [(w.heap.size + 1 + 1, 27, [.bool false, .slice none 0 0, .slice none 0 0]), (w.heap.size + 1, 27, [.bool n2, .slice p2 l2.length q2, .slice o2 d2.length r2]), (w.heap.size, 27, [.bool n1, .slice p1 l1.length q1, .slice o1 d1.length r1])] [(.slice o2 d2.length r2, d2), (.slice p2 l2.length q2, l2), (.slice o1 d1.length r1, d1), (.slice p1 l1.length q1, l1)] (((w.alloc (.cells #[.bool n1, .slice p1 l1.length q1, .slice o1 d1.length r1] 27)).alloc (.cells #[.bool n2, .slice p2 l2.length q2, .slice o2 d2.length r2] 27)).alloc (.cells #[.bool false, .slice none 0 0, .slice none 0 0] 27)) := by
  have M := ((((((((Mem.start w).add g1).add g2).add g3).add g4).new 27 [.bool n1, .slice p1 l1.length q1, .slice o1 d1.length r1]).new 27 [.bool n2, .slice p2 l2.length q2, .slice o2 d2.length r2]).new 27 [.bool false, .slice none 0 0, .slice none 0 0])
  simpa only [World.size_alloc] using M
 clear g1 g2 g3 g4 b1 b2 b3 b4 i1 j1 i2 j2 c1 kc1 c2 kc2
 go_enter Tryz.func14, Tryz.ntmps14
 have z1_0 := M.cell 1 rfl 0 rfl; have z1_1 := M.cell 1 rfl 1 rfl; have z1_2 := M.cell 1 rfl 2 rfl; have z2_0 := M.cell 2 rfl 0 rfl; have z2_1 := M.cell 2 rfl 1 rfl; have z2_2 := M.cell 2 rfl 2 rfl
 go_wp2_with fail
 clear z2_0 z2_1 z2_2 z1_0 z1_1 z1_2
 refine (KC1.out _ (M.get 3 rfl) (M.get 2 rfl)).mono ?_
 rintro e w1 ⟨rfl, rr⟩
 have M' := M.up rr; clear M rr; have M := M'; clear M'
 have z1_0 := M.cell 1 rfl 0 rfl; have z1_1 := M.cell 1 rfl 1 rfl; have z1_2 := M.cell 1 rfl 2 rfl; have z2_0 := M.cell 2 rfl 0 rfl; have z2_1 := M.cell 2 rfl 1 rfl; have z2_2 := M.cell 2 rfl 2 rfl
 go_wp2_with fail
 clear z2_0 z2_1 z2_2 z1_0 z1_1 z1_2
 refine (KC2.out _ (M.get 1 rfl) (M.get 0 rfl)).mono ?_
 rintro e w2 ⟨rfl, rr⟩
 have M' := M.up rr; clear M rr; have M := M'; clear M'
 have z0_0 := M.cell 0 rfl 0 rfl; have z0_1 := M.cell 0 rfl 1 rfl; have z0_2 := M.cell 0 rfl 2 rfl; have z1_0 := M.cell 1 rfl 0 rfl; have z1_1 := M.cell 1 rfl 1 rfl; have z1_2 := M.cell 1 rfl 2 rfl; have f0_0 := M.fr 0 rfl 0; have f0_1 := M.fr 0 rfl 1; have f0_2 := M.fr 0 rfl 2
 go_wp2_with fail
 have M' := ((M.put 0 rfl rfl 0 (.bool false)).put 0 rfl rfl 1 (.slice none 0 0)).put 0 rfl rfl 2 (.slice none 0 0)
 refine ret_boxN_tmp rfl rfl rfl (M'.box 0 rfl) Tryz.underlying27 size_rat rfl ?_
 exact ⟨rfl, M'.below⟩
theorem rr_div_zero {w : World} {p1 o1 p2 o2 : Option Addr} {q1 r1 q2 r2 : Nat} {n1 n2 : Bool} {l1 d1 l2 d2 : List Nat} (i1 : Sm l1) (j1 : Sm d1) (i2 : Sm l2) (j2 : Sm d2) (c1 : rchk n1 l1 d1 = true) (c2 : rchk n2 l2 d2 = true) (h0 : l2.length = 0) (b1 : l1.length ≤ 9999) (b2 : d1.length ≤ 9999) (b3 : l2.length ≤ 9999) (b4 : d2.length ≤ 9999) (g1 : Reads w (.slice p1 l1.length q1) l1) (g2 : Reads w (.slice o1 d1.length r1) d1) (g3 : Reads w (.slice p2 l2.length q2) l2) (g4 : Reads w (.slice o2 d2.length r2) d2) :
  Calls Tryz.prog 14 #[.agg #[.bool n1, .slice p1 l1.length q1, .slice o1 d1.length r1], .agg #[.bool n2, .slice p2 l2.length q2, .slice o2 d2.length r2]] w fun e w' => e = .returned (.tuple #[.agg #[.bool false, .slice none 0 0, .slice none 0 0], .int .i64 10]) ∧ Below w.heap.size w w' := by
 have kc1 := fun (W : World) (y1 : Reads W (.slice p1 l1.length q1) l1) (y2 : Reads W (.slice o1 d1.length r1) d1) => rr_check (n := n1) y1 y2 i1 j1 (by omega) (by omega)
 rw [c1] at kc1
 have KC1 := Lib.hid kc1
 have kc2 := fun (W : World) (y1 : Reads W (.slice p2 l2.length q2) l2) (y2 : Reads W (.slice o2 d2.length r2) d2) => rr_check (n := n2) y1 y2 i2 j2 (by omega) (by omega)
 rw [c2] at kc2
 have KC2 := Lib.hid kc2
 have hl : ((l2.length : Int) == 0) = true := by rw [h0]; rfl
 have M : Mem w [(w.heap.size + 1 + 1, 27, [.bool false, .slice none 0 0, .slice none 0 0]), (w.heap.size + 1, 27, [.bool n2, .slice p2 l2.length q2, .slice o2 d2.length r2]), (w.heap.size, 27, [.bool n1, .slice p1 l1.length q1, .slice o1 d1.length r1])] [(.slice o2 d2.length r2, d2), (.slice p2 l2.length q2, l2), (.slice o1 d1.length r1, d1), (.slice p1 l1.length q1, l1)] (((w.alloc (.cells #[.bool n1, .slice p1 l1.length q1, .slice o1 d1.length r1] 27)).alloc (.cells #[.bool n2, .slice p2 l2.length q2, .slice o2 d2.length r2] 27)).alloc (.cells #[.bool false, .slice none 0 0, .slice none 0 0] 27)) := by
  have M := ((((((((Mem.start w).add g1).add g2).add g3).add g4).new 27 [.bool n1, .slice p1 l1.length q1, .slice o1 d1.length r1]).new 27 [.bool n2, .slice p2 l2.length q2, .slice o2 d2.length r2]).new 27 [.bool false, .slice none 0 0, .slice none 0 0])
  simpa only [World.size_alloc] using M
 clear g1 g2 g3 g4 b1 b2 b3 b4 i1 j1 i2 j2 c1 kc1 c2 kc2 h0
 go_enter Tryz.func14, Tryz.ntmps14
 have z1_0 := M.cell 1 rfl 0 rfl; have z1_1 := M.cell 1 rfl 1 rfl; have z1_2 := M.cell 1 rfl 2 rfl; have z2_0 := M.cell 2 rfl 0 rfl; have z2_1 := M.cell 2 rfl 1 rfl; have z2_2 := M.cell 2 rfl 2 rfl
 go_wp2_with fail
 clear z2_0 z2_1 z2_2 z1_0 z1_1 z1_2
 refine (KC1.out _ (M.get 3 rfl) (M.get 2 rfl)).mono ?_
 rintro e w1 ⟨rfl, rr⟩
 have M' := M.up rr; clear M rr; have M := M'; clear M'
 have z1_0 := M.cell 1 rfl 0 rfl; have z1_1 := M.cell 1 rfl 1 rfl; have z1_2 := M.cell 1 rfl 2 rfl; have z2_0 := M.cell 2 rfl 0 rfl; have z2_1 := M.cell 2 rfl 1 rfl; have z2_2 := M.cell 2 rfl 2 rfl
 go_wp2_with fail
 clear z2_0 z2_1 z2_2 z1_0 z1_1 z1_2
 refine (KC2.out _ (M.get 1 rfl) (M.get 0 rfl)).mono ?_
 rintro e w2 ⟨rfl, rr⟩
 have M' := M.up rr; clear M rr; have M := M'; clear M'
 have z0_0 := M.cell 0 rfl 0 rfl; have z0_1 := M.cell 0 rfl 1 rfl; have z0_2 := M.cell 0 rfl 2 rfl; have z1_0 := M.cell 1 rfl 0 rfl; have z1_1 := M.cell 1 rfl 1 rfl; have z1_2 := M.cell 1 rfl 2 rfl; have f0_0 := M.fr 0 rfl 0; have f0_1 := M.fr 0 rfl 1; have f0_2 := M.fr 0 rfl 2
 go_wp2_with fail
 have M' := ((M.put 0 rfl rfl 0 (.bool false)).put 0 rfl rfl 1 (.slice none 0 0)).put 0 rfl rfl 2 (.slice none 0 0)
 refine ret_boxN_tmp rfl rfl rfl (M'.box 0 rfl) Tryz.underlying27 size_rat rfl ?_
 exact ⟨rfl, M'.below⟩
theorem rr_div_ok {w : World} {p1 o1 p2 o2 : Option Addr} {q1 r1 q2 r2 : Nat} {n1 n2 : Bool} {l1 d1 l2 d2 : List Nat} {X Y : Rat} {sZ : Bool} {LZ DZ : List Nat} {Z : Rat} (kX : RCan n1 l1 d1 X) (kY : RCan n2 l2 d2 Y) (hY : Y.num ≠ 0) (kZ : RCan sZ LZ DZ Z) (eZ : Z = X / Y) (b1 : l1.length ≤ 9999) (b2 : d1.length ≤ 9999) (b3 : l2.length ≤ 9999) (b4 : d2.length ≤ 9999) (g1 : Reads w (.slice p1 l1.length q1) l1) (g2 : Reads w (.slice o1 d1.length r1) d1) (g3 : Reads w (.slice p2 l2.length q2) l2) (g4 : Reads w (.slice o2 d2.length r2) d2) :
  Calls Tryz.prog 14 #[.agg #[.bool n1, .slice p1 l1.length q1, .slice o1 d1.length r1], .agg #[.bool n2, .slice p2 l2.length q2, .slice o2 d2.length r2]] w fun e w' => ∃ a c a' c', e = .returned (.tuple #[.agg #[.bool sZ, .slice a LZ.length c, .slice a' DZ.length c'], .int .i64 0]) ∧ Reads w' (.slice a LZ.length c) LZ ∧ Reads w' (.slice a' DZ.length c') DZ ∧ Below w.heap.size w w' := by
 have c1 := kX.chk
 have c2 := kY.chk
 have i1 := kX.sm.1
 have j1 := kX.sm.2
 have i2 := kY.sm.1
 have j2 := kY.sm.2
 have hl2 : 0 < l2.length := by rw [kY.1.2]; exact digs_len_pos (fun e => hY (Int.natAbs_eq_zero.1 e))
 have hl : ((l2.length : Int) == 0) = false := beq_eq_false_iff_ne.2 (by omega)
 obtain ⟨sP, LP, cP⟩ := Can.ex (X.num * ((Y.den : Nat) : Int))
 obtain ⟨sQ, LQ, cQ⟩ := Can.ex (Y.num * ((X.den : Nat) : Int))
 have lP : LP.length ≤ 20000 := by
  have h6 := digs_mul_le X.num.natAbs Y.den
  rw [← kX.1.2, ← kY.2] at h6
  rw [cP.2, Int.natAbs_mul, Int.natAbs_natCast]
  omega
 have lQ : LQ.length ≤ 20000 := by
  have h6 := digs_mul_le Y.num.natAbs X.den
  rw [← kY.1.2, ← kX.2] at h6
  rw [cQ.2, Int.natAbs_mul, Int.natAbs_natCast]
  omega
 have hQ : Y.num * ((X.den : Nat) : Int) ≠ 0 := Int.mul_ne_zero hY (by have := X.den_nz; omega)
 obtain ⟨K, cK, eK⟩ := signed_frac cP cQ hQ
 obtain ⟨S, hS⟩ : ∃ S, S = (sP != sQ && decide (0 < LP.length)) := ⟨_, rfl⟩
 rw [← hS] at cK
 have KP := Lib.hid (fun (W : World) (y1 : Reads W (.slice p1 l1.length q1) l1) (y2 : Reads W (.slice o2 d2.length r2) d2) => rr_times kX.1 kY.2 cP rfl (by omega) (by omega) y1 y2)
 have KQ := Lib.hid (fun (W : World) (y1 : Reads W (.slice p2 l2.length q2) l2) (y2 : Reads W (.slice o1 d1.length r1) d1) => rr_times kY.1 kX.2 cQ rfl (by omega) (by omega) y1 y2)
 have KS := Lib.hid (fun (W : World) (a : Option Addr) (c : Nat) => hS ▸ rsigned_any (sP != sQ) a LP.length c W)
 have KL := Lib.hid (fun (W : World) {a b : Option Addr} {c d : Nat} (y1 : Reads W (.slice a LP.length c) LP) (y2 : Reads W (.slice b LQ.length d) LQ) => rr_lowest cK cQ.2 (fun e => hQ (Int.natAbs_eq_zero.1 e)) kZ (by rw [eZ, rr_div_eq hY, eK]) (by omega) (by omega) y1 y2)
 have kc1 := fun (W : World) (y1 : Reads W (.slice p1 l1.length q1) l1) (y2 : Reads W (.slice o1 d1.length r1) d1) => rr_check (n := n1) y1 y2 i1 j1 (by omega) (by omega)
 rw [c1] at kc1
 have KC1 := Lib.hid kc1
 have kc2 := fun (W : World) (y1 : Reads W (.slice p2 l2.length q2) l2) (y2 : Reads W (.slice o2 d2.length r2) d2) => rr_check (n := n2) y1 y2 i2 j2 (by omega) (by omega)
 rw [c2] at kc2
 have KC2 := Lib.hid kc2
 have M : Mem w [(w.heap.size + 1 + 1, 27, [.bool false, .slice none 0 0, .slice none 0 0]), (w.heap.size + 1, 27, [.bool n2, .slice p2 l2.length q2, .slice o2 d2.length r2]), (w.heap.size, 27, [.bool n1, .slice p1 l1.length q1, .slice o1 d1.length r1])] [(.slice o2 d2.length r2, d2), (.slice p2 l2.length q2, l2), (.slice o1 d1.length r1, d1), (.slice p1 l1.length q1, l1)] (((w.alloc (.cells #[.bool n1, .slice p1 l1.length q1, .slice o1 d1.length r1] 27)).alloc (.cells #[.bool n2, .slice p2 l2.length q2, .slice o2 d2.length r2] 27)).alloc (.cells #[.bool false, .slice none 0 0, .slice none 0 0] 27)) := by
  have M := ((((((((Mem.start w).add g1).add g2).add g3).add g4).new 27 [.bool n1, .slice p1 l1.length q1, .slice o1 d1.length r1]).new 27 [.bool n2, .slice p2 l2.length q2, .slice o2 d2.length r2]).new 27 [.bool false, .slice none 0 0, .slice none 0 0])
  simpa only [World.size_alloc] using M
 clear g1 g2 g3 g4 b1 b2 b3 b4 i1 j1 i2 j2 c1 kc1 c2 kc2 kX kY hY kZ eZ hl2 cP cQ lP lQ hQ cK eK hS
 go_enter Tryz.func14, Tryz.ntmps14
 have z1_0 := M.cell 1 rfl 0 rfl; have z1_1 := M.cell 1 rfl 1 rfl; have z1_2 := M.cell 1 rfl 2 rfl; have z2_0 := M.cell 2 rfl 0 rfl; have z2_1 := M.cell 2 rfl 1 rfl; have z2_2 := M.cell 2 rfl 2 rfl
 go_wp2_with fail
 clear z2_0 z2_1 z2_2 z1_0 z1_1 z1_2
 refine (KC1.out _ (M.get 3 rfl) (M.get 2 rfl)).mono ?_
 rintro e w1 ⟨rfl, rr⟩
 have M' := M.up rr; clear M rr; have M := M'; clear M'
 have z1_0 := M.cell 1 rfl 0 rfl; have z1_1 := M.cell 1 rfl 1 rfl; have z1_2 := M.cell 1 rfl 2 rfl; have z2_0 := M.cell 2 rfl 0 rfl; have z2_1 := M.cell 2 rfl 1 rfl; have z2_2 := M.cell 2 rfl 2 rfl
 go_wp2_with fail
 clear z2_0 z2_1 z2_2 z1_0 z1_1 z1_2
 refine (KC2.out _ (M.get 1 rfl) (M.get 0 rfl)).mono ?_
 rintro e w2 ⟨rfl, rr⟩
 have M' := M.up rr; clear M rr; have M := M'; clear M'
 have z1_0 := M.cell 1 rfl 0 rfl; have z1_1 := M.cell 1 rfl 1 rfl; have z1_2 := M.cell 1 rfl 2 rfl; have z2_0 := M.cell 2 rfl 0 rfl; have z2_1 := M.cell 2 rfl 1 rfl; have z2_2 := M.cell 2 rfl 2 rfl
 go_wp2_with fail
 clear z2_0 z2_1 z2_2 z1_0 z1_1 z1_2
 refine (KP.out _ (M.get 3 rfl) (M.get 0 rfl)).mono ?_
 rintro e w3 ⟨a1, c1, rfl, g, rr⟩
 have M' := ((M.up rr).add g).new 25 [.bool sP, .slice a1 LP.length c1]; clear M rr g; have M := M'; clear M'
 have z2_0 := M.cell 2 rfl 0 rfl; have z2_1 := M.cell 2 rfl 1 rfl; have z2_2 := M.cell 2 rfl 2 rfl; have z3_0 := M.cell 3 rfl 0 rfl; have z3_1 := M.cell 3 rfl 1 rfl; have z3_2 := M.cell 3 rfl 2 rfl
 go_wp2_with fail
 clear z3_0 z3_1 z3_2 z2_0 z2_1 z2_2
 refine (KQ.out _ (M.get 2 rfl) (M.get 3 rfl)).mono ?_
 rintro e w4 ⟨a2, c2, rfl, g, rr⟩
 have M' := ((M.up rr).add g).new 25 [.bool sQ, .slice a2 LQ.length c2]; clear M rr g; have M := M'; clear M'
 go_wp2_with fail
 refine region_mem (S := (fun W : World => BoxN W (w3.heap.size) 25 #[.bool sP, .slice a1 LP.length c1] ∧ BoxN W (w4.heap.size) 25 #[.bool sQ, .slice a2 LQ.length c2])) M (by kernel_rfl) ?_
 intro V0 M
 have hS0 : (fun W : World => BoxN W (w3.heap.size) 25 #[.bool sP, .slice a1 LP.length c1] ∧ BoxN W (w4.heap.size) 25 #[.bool sQ, .slice a2 LQ.length c2]) V0 := ⟨M.box 1 rfl, M.box 0 rfl⟩
 refine wpAnyH_take (i := 0) (oi := ⟨_, _, _, _, _, _⟩) (v := (.pointer (some ⟨w3.heap.size, 0, none⟩))) rfl (by kernel_rfl) (by kernel_rfl) (by kernel_rfl) (fun _ _ _ h => h) (Or.inl ⟨by rfl, fun W3 hS => by go_simp⟩) hS0 ?_
 try simp only [Act.put, List.setIfInBounds_toArray, List.set_cons_zero, List.set_cons_succ]
 refine wpAnyH_take (i := 1) (oi := ⟨_, _, _, _, _, _⟩) (v := (.bool sP)) rfl (by kernel_rfl) (by kernel_rfl) (by kernel_rfl) (fun _ _ _ h => h) (Or.inl ⟨by rfl, fun W3 hS => by obtain ⟨hS1, hS2⟩ := hS; have c1_0 := hS1.cell 0 _ rfl; have c1_1 := hS1.cell 1 _ rfl; go_simp⟩) hS0 ?_
 try simp only [Act.put, List.setIfInBounds_toArray, List.set_cons_zero, List.set_cons_succ]
 refine wpAnyH_take (i := 2) (oi := ⟨_, _, _, _, _, _⟩) (v := (.pointer (some ⟨w4.heap.size, 0, none⟩))) rfl (by kernel_rfl) (by kernel_rfl) (by kernel_rfl) (fun _ _ _ h => h) (Or.inl ⟨by rfl, fun W3 hS => by go_simp⟩) hS0 ?_
 try simp only [Act.put, List.setIfInBounds_toArray, List.set_cons_zero, List.set_cons_succ]
 refine wpAnyH_take (i := 3) (oi := ⟨_, _, _, _, _, _⟩) (v := (.bool sQ)) rfl (by kernel_rfl) (by kernel_rfl) (by kernel_rfl) (fun _ _ _ h => h) (Or.inl ⟨by rfl, fun W3 hS => by obtain ⟨hS1, hS2⟩ := hS; have c2_0 := hS2.cell 0 _ rfl; have c2_1 := hS2.cell 1 _ rfl; go_simp⟩) hS0 ?_
 try simp only [Act.put, List.setIfInBounds_toArray, List.set_cons_zero, List.set_cons_succ]
 refine wpAnyH_take (i := 4) (oi := ⟨_, _, _, _, _, _⟩) (v := (.bool (sP != sQ))) rfl (by kernel_rfl) (by kernel_rfl) (by kernel_rfl) (fun _ _ _ h => h) (Or.inl ⟨by rfl, fun W3 hS => by go_simp; cases sP <;> cases sQ <;> rfl⟩) hS0 ?_
 try simp only [Act.put, List.setIfInBounds_toArray, List.set_cons_zero, List.set_cons_succ]
 refine wpAnyH_take (i := 5) (oi := ⟨_, _, _, _, _, _⟩) (v := (.pointer (some ⟨w3.heap.size, 1, none⟩))) rfl (by kernel_rfl) (by kernel_rfl) (by kernel_rfl) (fun _ _ _ h => h) (Or.inl ⟨by rfl, fun W3 hS => by go_simp⟩) hS0 ?_
 try simp only [Act.put, List.setIfInBounds_toArray, List.set_cons_zero, List.set_cons_succ]
 refine wpAnyH_take (i := 6) (oi := ⟨_, _, _, _, _, _⟩) (v := (.slice a1 LP.length c1)) rfl (by kernel_rfl) (by kernel_rfl) (by kernel_rfl) (fun _ _ _ h => h) (Or.inl ⟨by rfl, fun W3 hS => by obtain ⟨hS1, hS2⟩ := hS; have c1_0 := hS1.cell 0 _ rfl; have c1_1 := hS1.cell 1 _ rfl; go_simp⟩) hS0 ?_
 try simp only [Act.put, List.setIfInBounds_toArray, List.set_cons_zero, List.set_cons_succ]
 refine wpAnyH_take (i := 8) (oi := ⟨_, _, _, _, _, _⟩) (v := (.pointer (some ⟨w4.heap.size, 1, none⟩))) rfl (by kernel_rfl) (by kernel_rfl) (by kernel_rfl) (fun _ _ _ h => h) (Or.inl ⟨by rfl, fun W3 hS => by go_simp⟩) hS0 ?_
 try simp only [Act.put, List.setIfInBounds_toArray, List.set_cons_zero, List.set_cons_succ]
 refine wpAnyH_take (i := 9) (oi := ⟨_, _, _, _, _, _⟩) (v := (.slice a2 LQ.length c2)) rfl (by kernel_rfl) (by kernel_rfl) (by kernel_rfl) (fun _ _ _ h => h) (Or.inl ⟨by rfl, fun W3 hS => by obtain ⟨hS1, hS2⟩ := hS; have c2_0 := hS2.cell 0 _ rfl; have c2_1 := hS2.cell 1 _ rfl; go_simp⟩) hS0 ?_
 try simp only [Act.put, List.setIfInBounds_toArray, List.set_cons_zero, List.set_cons_succ]
 clear hS0
 refine wpAnyH_all (rs := [7]) (by kernel_rfl) (by simp) ?_
 intro i hi
 obtain rfl : i = 7 := by simpa using hi
 refine wpOp_intro rfl (fun K1 hK => ?_)
 clear hi
 go_simp
 refine (KS.out _ _ _).mono ?_
 rintro e V1_7 ⟨rfl, rr⟩
 have M' := M.up rr
 clear M rr 
 have M := M'; clear M'
 refine hK _ _ ⟨⟨M.box 1 rfl, M.box 0 rfl⟩, ?_⟩
 clear hK K1
 refine wpAnyH_all (rs := [10]) (by kernel_rfl) (by simp) ?_
 intro i hi
 obtain rfl : i = 10 := by simpa using hi
 refine wpOp_intro rfl (fun K2 hK => ?_)
 clear hi
 go_simp
 refine (KL.out _ (M.get 1 rfl) (M.get 0 rfl)).mono ?_
 rintro e V2_10 ⟨a, c, a', c', rfl, g, g', rr⟩
 have M' := ((M.up rr).add g).add g'
 clear M rr g g'
 have M := M'; clear M'
 refine hK _ _ ⟨⟨M.box 1 rfl, M.box 0 rfl⟩, ?_⟩
 clear hK K2
 have f2_0 := M.fr 2 rfl 0; have f2_1 := M.fr 2 rfl 1; have f2_2 := M.fr 2 rfl 2
 have z2_0 := M.cell 2 rfl 0 rfl; have z2_1 := M.cell 2 rfl 1 rfl; have z2_2 := M.cell 2 rfl 2 rfl
 refine wpAnyH_all (rs := [11]) (by kernel_rfl) (by simp) ?_
 intro i hi
 obtain rfl : i = 11 := by simpa using hi
 refine wpOp_intro rfl (fun Ks3 hK => ?_)
 clear hi
 go_simp
 have M' := (((M.put 2 rfl rfl 0 (.bool sZ)).put 2 rfl rfl 1 (.slice a LZ.length c)).put 2 rfl rfl 2 (.slice a' DZ.length c'))
 clear M f2_0 z2_0 f2_1 z2_1 f2_2 z2_2
 have M : Mem w [(w4.heap.size, 25, [.bool sQ, .slice a2 LQ.length c2]), (w3.heap.size, 25, [.bool sP, .slice a1 LP.length c1]), (w.heap.size + 1 + 1, 27, [.bool sZ, .slice a LZ.length c, .slice a' DZ.length c']), (w.heap.size + 1, 27, [.bool n2, .slice p2 l2.length q2, .slice o2 d2.length r2]), (w.heap.size, 27, [.bool n1, .slice p1 l1.length q1, .slice o1 d1.length r1])] [(.slice a' DZ.length c', DZ), (.slice a LZ.length c, LZ), (.slice a2 LQ.length c2, LQ), (.slice a1 LP.length c1, LP), (.slice o2 d2.length r2, d2), (.slice p2 l2.length q2, l2), (.slice o1 d1.length r1, d1), (.slice p1 l1.length q1, l1)] _ := M'
 clear M'
 refine hK _ _ ⟨⟨M.box 1 rfl, M.box 0 rfl⟩, ?_⟩
 clear hK Ks3
 have hS0 : (fun W : World => BoxN W (w3.heap.size) 25 #[.bool sP, .slice a1 LP.length c1] ∧ BoxN W (w4.heap.size) 25 #[.bool sQ, .slice a2 LQ.length c2]) _ := ⟨M.box 1 rfl, M.box 0 rfl⟩
 refine wpAnyH_take (i := 12) (oi := ⟨_, _, _, _, _, _⟩) (v := (.int .i64 0)) rfl (by kernel_rfl) (by kernel_rfl) (by kernel_rfl) (fun _ _ _ h => h) (Or.inl ⟨by rfl, fun W3 hS => by go_simp⟩) hS0 ?_
 try simp only [Act.put, List.setIfInBounds_toArray, List.set_cons_zero, List.set_cons_succ]
 clear hS0
 refine wpAnyH_done (by kernel_rfl) ?_ _
 go_wp2
 refine ret_boxN_tmp rfl rfl rfl (M.box 2 rfl) Tryz.underlying27 size_rat rfl ?_
 exact ⟨a, c, a', c', rfl, M.get 1 rfl, M.get 0 rfl, M.below⟩

end Go.Proofs.YthnlmjnfdokdbaaGreatDoor
