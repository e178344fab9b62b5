/- RatsMakes, of any whole numbers. -/
import Derived.Test.YthnlmjnfdokdbaaGreatDoorGRMakes
set_option linter.unusedSimpArgs false
set_option linter.unusedVariables false
namespace Go.Proofs.YthnlmjnfdokdbaaGreatDoor
open Go Go.Proofs Go.RowKit Go.Shelf Nu

attribute [local go_sem] Oper.semAt_some

set_option maxRecDepth 100000 in
set_option maxHeartbeats 8000000 in
theorem rmakes_far1 {w : World} {n1 n2 : Bool} {a1 b1 : Option Addr} {ca cb : Nat} {la lb : List Nat} {X : Int} (h : 60 < la.length) :
    Calls Tryz.prog 4 #[.agg #[.bool n1, .slice a1 la.length ca], .agg #[.bool n2, .slice b1 lb.length cb], .int .i64 X] w fun e w' => e = .returned (.bool true) ∧ Below w.heap.size w w' := by
  have h1 : (60 : Int) < (la.length : Int) := by omega
  have h2 : decide ((60 : Int) < (la.length : Int)) = true := decide_eq_true h1
  have M : Mem w [(w.heap.size + 1, 25, [.bool n2, .slice b1 lb.length cb]), (w.heap.size, 25, [.bool n1, .slice a1 la.length ca])] [] ((w.alloc (.cells #[.bool n1, .slice a1 la.length ca] 25)).alloc (.cells #[.bool n2, .slice b1 lb.length cb] 25)) := by
    have M := ((Mem.start w).new 25 [.bool n1, .slice a1 la.length ca]).new 25 [.bool n2, .slice b1 lb.length cb]
    simpa only [World.size_alloc] using M
  clear h
  go_enter Tryz.func4, Tryz.ntmps4
  have z0 := M.cell 0 rfl 0 rfl; have z1 := M.cell 0 rfl 1 rfl; have y0 := M.cell 1 rfl 0 rfl; have y1 := M.cell 1 rfl 1 rfl
  go_wp2_with fail
  go_ret
  exact ⟨rfl, M.below⟩
set_option maxRecDepth 100000 in
set_option maxHeartbeats 8000000 in
theorem rmakes_far2 {w : World} {n1 n2 : Bool} {a1 b1 : Option Addr} {ca cb : Nat} {la lb : List Nat} {X : Int} (h0 : la.length ≤ 60) (h : 60 < lb.length) :
    Calls Tryz.prog 4 #[.agg #[.bool n1, .slice a1 la.length ca], .agg #[.bool n2, .slice b1 lb.length cb], .int .i64 X] w fun e w' => e = .returned (.bool true) ∧ Below w.heap.size w w' := by
  have h1 : ¬ (60 : Int) < (la.length : Int) := by omega
  have h2 : decide ((60 : Int) < (la.length : Int)) = false := decide_eq_false h1
  have h3 : (60 : Int) < (lb.length : Int) := by omega
  have h4 : decide ((60 : Int) < (lb.length : Int)) = true := decide_eq_true h3
  have M : Mem w [(w.heap.size + 1, 25, [.bool n2, .slice b1 lb.length cb]), (w.heap.size, 25, [.bool n1, .slice a1 la.length ca])] [] ((w.alloc (.cells #[.bool n1, .slice a1 la.length ca] 25)).alloc (.cells #[.bool n2, .slice b1 lb.length cb] 25)) := by
    have M := ((Mem.start w).new 25 [.bool n1, .slice a1 la.length ca]).new 25 [.bool n2, .slice b1 lb.length cb]
    simpa only [World.size_alloc] using M
  clear h h0
  go_enter Tryz.func4, Tryz.ntmps4
  have z0 := M.cell 0 rfl 0 rfl; have z1 := M.cell 0 rfl 1 rfl; have y0 := M.cell 1 rfl 0 rfl; have y1 := M.cell 1 rfl 1 rfl
  go_wp2_with fail
  go_ret
  exact ⟨rfl, M.below⟩
theorem make_lens {sZ : Bool} {LZ DZ : List Nat} {N M : Int} (hM : M ≠ 0) (kZ : RCan sZ LZ DZ ((N : Rat) / (M : Rat))) : LZ.length ≤ (digs N.natAbs).length ∧ DZ.length ≤ (digs M.natAbs).length := by
  have hM2 : (M : Rat) ≠ 0 := by exact_mod_cast hM
  have h5 : M.natAbs ≠ 0 := fun e => hM (Int.natAbs_eq_zero.1 e)
  have hk : ∃ K : Int, K.natAbs = N.natAbs ∧ ((N : Rat) / (M : Rat)) * ((M.natAbs : Nat) : Rat) = (K : Rat) := by
    by_cases h : M < 0
    · refine ⟨-N, by simp, ?_⟩
      have : ((M.natAbs : Nat) : Rat) = -(M : Rat) := by
        have j : ((M.natAbs : Nat) : Int) = -M := by omega
        rw [← Rat.intCast_natCast, j]; simp
      rw [this]; simp; grind
    · refine ⟨N, rfl, ?_⟩
      have : ((M.natAbs : Nat) : Rat) = (M : Rat) := by
        have j : ((M.natAbs : Nat) : Int) = M := by omega
        rw [← Rat.intCast_natCast, j]
      rw [this]; grind
  obtain ⟨K, hK, e⟩ := hk
  obtain ⟨r1, r2⟩ := rat_small h5 e
  rw [hK] at r1
  rw [kZ.1.2, kZ.2]
  exact ⟨digs_mono r1, digs_mono r2⟩
theorem rmakes_all {w : World} {n1 n2 : Bool} {a1 b1 : Option Addr} {ca cb : Nat} {la lb : List Nat} {X : Int} (hSA : Sm la) (hSB : Sm lb) (hA : Reads w (.slice a1 la.length ca) la) (hB : Reads w (.slice b1 lb.length cb) lb) (hX : (Lit.int .i64 X).wf = true) :
    Calls Tryz.prog 4 #[.agg #[.bool n1, .slice a1 la.length ca], .agg #[.bool n2, .slice b1 lb.length cb], .int .i64 X] w fun e w' => e = .returned (.bool true) ∧ Below w.heap.size w w' := by
  simp [Lit.wf, IntKind.min, IntKind.max, IntKind.signed, IntKind.bits] at hX
  obtain ⟨x1, x2⟩ := hX
  by_cases k1 : 60 < la.length
  · exact rmakes_far1 k1
  by_cases k2 : 60 < lb.length
  · exact rmakes_far2 (by omega) k2
  have LA : la.length ≤ 60 := by omega
  have LB : lb.length ≤ 60 := by omega
  cases c1 : ichk n1 la with
  | false => exact rmakes_err (E := 1) hA hB LA LB x1 (by omega) (fun W p q c d g1 g2 => mk_bad1 c1 (by omega) (by omega) g1 g2) (fun W p q c d g1 g2 => rmk_bad1 c1 (by omega) (by omega) g1 g2)
  | true =>
    cases c2 : ichk n2 lb with
    | false => exact rmakes_err (E := 1) hA hB LA LB x1 (by omega) (fun W p q c d g1 g2 => mk_bad2 c1 c2 (by omega) (by omega) g1 g2) (fun W p q c d g1 g2 => rmk_bad2 c1 c2 (by omega) (by omega) g1 g2)
    | true =>
      have cN := Can.of hSA c1
      have cM := Can.of hSB c2
      by_cases hM : zv n2 lb = 0
      · have h0 : lb.length = 0 := by rw [cM.2, hM]; simp [digs_zero]
        exact rmakes_err (E := 10) hA hB LA LB x1 (by omega) (fun W p q c d g1 g2 => r_make_zero cN cM hM (by omega) (by omega) g1 g2) (fun W p q c d g1 g2 => rmk_zero c1 c2 h0 (by omega) (by omega) g1 g2)
      · obtain ⟨sZ, LZ, DZ, kZ⟩ := RCan.ex (((zv n1 la : Int) : Rat) / ((zv n2 lb : Int) : Rat))
        obtain ⟨l1, l2⟩ := make_lens hM kZ
        rw [← cN.2] at l1
        rw [← cM.2] at l2
        exact rmakes_val (E := 0) hA hB LA LB x1 (by omega) (by omega) (by omega) (fun W p q c d g1 g2 => mk_own cN cM hM kZ rfl (by omega) (by omega) g1 g2) (fun W p q c d g1 g2 => rmk_ok cN cM hM kZ rfl (by omega) (by omega) g1 g2)

end Go.Proofs.YthnlmjnfdokdbaaGreatDoor
