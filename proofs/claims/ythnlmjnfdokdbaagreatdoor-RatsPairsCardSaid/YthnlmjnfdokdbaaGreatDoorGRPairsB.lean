/- RatsPairs, of any two fractions. -/
import Derived.Test.YthnlmjnfdokdbaaGreatDoorGRPairs
import Derived.Test.YthnlmjnfdokdbaaGreatDoorGRPairsV
import Derived.Test.YthnlmjnfdokdbaaGreatDoorGRrD
import Derived.Test.YthnlmjnfdokdbaaGreatDoorGRatDivO
import Derived.Test.YthnlmjnfdokdbaaGreatDoorGRatCmp
set_option linter.unusedSimpArgs false
set_option linter.unusedVariables false
set_option maxRecDepth 100000
set_option maxHeartbeats 8000000
namespace Go.Proofs.YthnlmjnfdokdbaaGreatDoor
open Go Go.Proofs Go.RowKit Go.Shelf Nu

attribute [local go_sem] Oper.semAt_some

theorem r_div_bad1 {w : World} {p1 o1 p2 o2 : Option Addr} {q1 r1 q2 r2 : Nat} {n1 n2 : Bool} {l1 d1 l2 d2 : List Nat} (i1 : Sm l1) (j1 : Sm d1) (i2 : Sm l2) (j2 : Sm d2) (c1 : rchk n1 l1 d1 = false) (b1 : l1.length ≤ 9999) (b2 : d1.length ≤ 9999) (b3 : l2.length ≤ 9999) (b4 : d2.length ≤ 9999) (g1 : Reads w (.slice p1 l1.length q1) l1) (g2 : Reads w (.slice o1 d1.length r1) d1) (g3 : Reads w (.slice p2 l2.length q2) l2) (g4 : Reads w (.slice o2 d2.length r2) d2) :
  Calls Tryz.prog 13 #[.agg #[.bool n1, .slice p1 l1.length q1, .slice o1 d1.length r1], .agg #[.bool n2, .slice p2 l2.length q2, .slice o2 d2.length r2]] w fun e w' => e = .returned (.tuple #[.agg #[.bool false, .slice none 0 0, .slice none 0 0], .int .i64 1]) ∧ Below w.heap.size w w' := by
 have kc1 := fun (W : World) (y1 : Reads W (.slice p1 l1.length q1) l1) (y2 : Reads W (.slice o1 d1.length r1) d1) => rcheck_any (n := n1) y1 y2 i1 j1 (by omega) (by omega)
 rw [c1] at kc1
 have KC1 := Lib.hid kc1
 have M : Mem w [(w.heap.size + 1 + 1, 27, [.bool false, .slice none 0 0, .slice none 0 0]), (w.heap.size + 1, 27, [.bool n2, .slice p2 l2.length q2, .slice o2 d2.length r2]), (w.heap.size, 27, [.bool n1, .slice p1 l1.length q1, .slice o1 d1.length r1])] [(.slice o2 d2.length r2, d2), (.slice p2 l2.length q2, l2), (.slice o1 d1.length r1, d1), (.slice p1 l1.length q1, l1)] (((w.alloc (.cells #[.bool n1, .slice p1 l1.length q1, .slice o1 d1.length r1] 27)).alloc (.cells #[.bool n2, .slice p2 l2.length q2, .slice o2 d2.length r2] 27)).alloc (.cells #[.bool false, .slice none 0 0, .slice none 0 0] 27)) := by
  have M := ((((((((Mem.start w).add g1).add g2).add g3).add g4).new 27 [.bool n1, .slice p1 l1.length q1, .slice o1 d1.length r1]).new 27 [.bool n2, .slice p2 l2.length q2, .slice o2 d2.length r2]).new 27 [.bool false, .slice none 0 0, .slice none 0 0])
  simpa only [World.size_alloc] using M
 clear g1 g2 g3 g4 b1 b2 b3 b4 i1 j1 i2 j2 c1 kc1
 go_enter Tryz.func13, Tryz.ntmps13
 have z1_0 := M.cell 1 rfl 0 rfl; have z1_1 := M.cell 1 rfl 1 rfl; have z1_2 := M.cell 1 rfl 2 rfl; have z2_0 := M.cell 2 rfl 0 rfl; have z2_1 := M.cell 2 rfl 1 rfl; have z2_2 := M.cell 2 rfl 2 rfl
 go_wp2_with fail
 clear z2_0 z2_1 z2_2 z1_0 z1_1 z1_2
 refine (KC1.out _ (M.get 3 rfl) (M.get 2 rfl)).mono ?_
 rintro e w1 ⟨rfl, rr⟩
 have M' := M.up rr; clear M rr; have M := M'; clear M'
 have z0_0 := M.cell 0 rfl 0 rfl; have z0_1 := M.cell 0 rfl 1 rfl; have z0_2 := M.cell 0 rfl 2 rfl; have z1_0 := M.cell 1 rfl 0 rfl; have z1_1 := M.cell 1 rfl 1 rfl; have z1_2 := M.cell 1 rfl 2 rfl; have f0_0 := M.fr 0 rfl 0; have f0_1 := M.fr 0 rfl 1; have f0_2 := M.fr 0 rfl 2
 go_wp2_with fail
 have M' := ((M.put 0 rfl rfl 0 (.bool false)).put 0 rfl rfl 1 (.slice none 0 0)).put 0 rfl rfl 2 (.slice none 0 0)
 refine ret_boxN_tmp rfl rfl rfl (M'.box 0 rfl) Tryz.underlying27 size_rat rfl ?_
 exact ⟨rfl, M'.below⟩
theorem r_div_bad2 {w : World} {p1 o1 p2 o2 : Option Addr} {q1 r1 q2 r2 : Nat} {n1 n2 : Bool} {l1 d1 l2 d2 : List Nat} (i1 : Sm l1) (j1 : Sm d1) (i2 : Sm l2) (j2 : Sm d2) (c1 : rchk n1 l1 d1 = true) (c2 : rchk n2 l2 d2 = false) (b1 : l1.length ≤ 9999) (b2 : d1.length ≤ 9999) (b3 : l2.length ≤ 9999) (b4 : d2.length ≤ 9999) (g1 : Reads w (.slice p1 l1.length q1) l1) (g2 : Reads w (.slice o1 d1.length r1) d1) (g3 : Reads w (.slice p2 l2.length q2) l2) (g4 : Reads w (.slice o2 d2.length r2) d2) :
  Calls Tryz.prog 13 #[.agg #[.bool n1, .slice p1 l1.length q1, .slice o1 d1.length r1], .agg #[.bool n2, .slice p2 l2.length q2, .slice o2 d2.length r2]] w fun e w' => e = .returned (.tuple #[.agg #[.bool false, .slice none 0 0, .slice none 0 0], .int .i64 1]) ∧ Below w.heap.size w w' := by
 have kc1 := fun (W : World) (y1 : Reads W (.slice p1 l1.length q1) l1) (y2 : Reads W (.slice o1 d1.length r1) d1) => rcheck_any (n := n1) y1 y2 i1 j1 (by omega) (by omega)
 rw [c1] at kc1
 have KC1 := Lib.hid kc1
 have kc2 := fun (W : World) (y1 : Reads W (.slice p2 l2.length q2) l2) (y2 : Reads W (.slice o2 d2.length r2) d2) => rcheck_any (n := n2) y1 y2 i2 j2 (by omega) (by omega)
 rw [c2] at kc2
 have KC2 := Lib.hid kc2
 have M : Mem w [(w.heap.size + 1 + 1, 27, [.bool false, .slice none 0 0, .slice none 0 0]), (w.heap.size + 1, 27, [.bool n2, .slice p2 l2.length q2, .slice o2 d2.length r2]), (w.heap.size, 27, [.bool n1, .slice p1 l1.length q1, .slice o1 d1.length r1])] [(.slice o2 d2.length r2, d2), (.slice p2 l2.length q2, l2), (.slice o1 d1.length r1, d1), (.slice p1 l1.length q1, l1)] (((w.alloc (.cells #[.bool n1, .slice p1 l1.length q1, .slice o1 d1.length r1] 27)).alloc (.cells #[.bool n2, .slice p2 l2.length q2, .slice o2 d2.length r2] 27)).alloc (.cells #[.bool false, .slice none 0 0, .slice none 0 0] 27)) := by
  have M := ((((((((Mem.start w).add g1).add g2).add g3).add g4).new 27 [.bool n1, .slice p1 l1.length q1, .slice o1 d1.length r1]).new 27 [.bool n2, .slice p2 l2.length q2, .slice o2 d2.length r2]).new 27 [.bool false, .slice none 0 0, .slice none 0 0])
  simpa only [World.size_alloc] using M
 clear g1 g2 g3 g4 b1 b2 b3 b4 i1 j1 i2 j2 c1 kc1 c2 kc2
 go_enter Tryz.func13, Tryz.ntmps13
 have z1_0 := M.cell 1 rfl 0 rfl; have z1_1 := M.cell 1 rfl 1 rfl; have z1_2 := M.cell 1 rfl 2 rfl; have z2_0 := M.cell 2 rfl 0 rfl; have z2_1 := M.cell 2 rfl 1 rfl; have z2_2 := M.cell 2 rfl 2 rfl
 go_wp2_with fail
 clear z2_0 z2_1 z2_2 z1_0 z1_1 z1_2
 refine (KC1.out _ (M.get 3 rfl) (M.get 2 rfl)).mono ?_
 rintro e w1 ⟨rfl, rr⟩
 have M' := M.up rr; clear M rr; have M := M'; clear M'
 have z1_0 := M.cell 1 rfl 0 rfl; have z1_1 := M.cell 1 rfl 1 rfl; have z1_2 := M.cell 1 rfl 2 rfl; have z2_0 := M.cell 2 rfl 0 rfl; have z2_1 := M.cell 2 rfl 1 rfl; have z2_2 := M.cell 2 rfl 2 rfl
 go_wp2_with fail
 clear z2_0 z2_1 z2_2 z1_0 z1_1 z1_2
 refine (KC2.out _ (M.get 1 rfl) (M.get 0 rfl)).mono ?_
 rintro e w2 ⟨rfl, rr⟩
 have M' := M.up rr; clear M rr; have M := M'; clear M'
 have z0_0 := M.cell 0 rfl 0 rfl; have z0_1 := M.cell 0 rfl 1 rfl; have z0_2 := M.cell 0 rfl 2 rfl; have z1_0 := M.cell 1 rfl 0 rfl; have z1_1 := M.cell 1 rfl 1 rfl; have z1_2 := M.cell 1 rfl 2 rfl; have f0_0 := M.fr 0 rfl 0; have f0_1 := M.fr 0 rfl 1; have f0_2 := M.fr 0 rfl 2
 go_wp2_with fail
 have M' := ((M.put 0 rfl rfl 0 (.bool false)).put 0 rfl rfl 1 (.slice none 0 0)).put 0 rfl rfl 2 (.slice none 0 0)
 refine ret_boxN_tmp rfl rfl rfl (M'.box 0 rfl) Tryz.underlying27 size_rat rfl ?_
 exact ⟨rfl, M'.below⟩

end Go.Proofs.YthnlmjnfdokdbaaGreatDoor

namespace Go.Proofs.YthnlmjnfdokdbaaGreatDoor
open Go Go.Proofs Go.RowKit Go.Shelf Nu

attribute [local go_sem] Oper.semAt_some

theorem rpairs_far {w : World} {n1 n2 : Bool} {p1 o1 p2 o2 : Option Addr} {q1 r1 q2 r2 : Nat} {l1 d1 l2 d2 : List Nat} (h : 60 < l1.length + d1.length ∨ 60 < l2.length + d2.length) (t1 : l1.length ≤ 70368744177664) (t2 : d1.length ≤ 70368744177664) (t3 : l2.length ≤ 70368744177664) (t4 : d2.length ≤ 70368744177664) :
  Calls Tryz.prog 3 #[.agg #[.bool n1, .slice p1 l1.length q1, .slice o1 d1.length r1], .agg #[.bool n2, .slice p2 l2.length q2, .slice o2 d2.length r2]] w fun e w' => e = .returned (.bool true) ∧ Below w.heap.size w w' := by
 have hG : Hid (true = List.any [(n1, (p1, l1.length, q1), (o1, d1.length, r1)), (n2, (p2, l2.length, q2), (o2, d2.length, r2))] fun t : Q7 => decide (60 < t.2.1.2.1 + t.2.2.2.1)) := Lib.hid (by simp; omega)
 have hZ : Hid (∀ t ∈ ([(n1, (p1, l1.length, q1), (o1, d1.length, r1)), (n2, (p2, l2.length, q2), (o2, d2.length, r2))] : List Q7), t.2.1.2.1 ≤ 70368744177664 ∧ t.2.2.2.1 ≤ 70368744177664) := Lib.hid (by simp; omega)
 have M : Mem w [(w.heap.size + 1, 27, [.bool n2, .slice p2 l2.length q2, .slice o2 d2.length r2]), (w.heap.size, 27, [.bool n1, .slice p1 l1.length q1, .slice o1 d1.length r1])] [] ((w.alloc (.cells #[.bool n1, .slice p1 l1.length q1, .slice o1 d1.length r1] 27)).alloc (.cells #[.bool n2, .slice p2 l2.length q2, .slice o2 d2.length r2] 27)) := by
  have M := ((Mem.start w).new 27 [.bool n1, .slice p1 l1.length q1, .slice o1 d1.length r1]).new 27 [.bool n2, .slice p2 l2.length q2, .slice o2 d2.length r2]
  simpa only [World.size_alloc] using M
 clear h t1 t2 t3 t4
 go_enter Tryz.func3, Tryz.ntmps3
 have z_b_0 := M.cell 0 rfl 0 rfl; have z_b_1 := M.cell 0 rfl 1 rfl; have z_b_2 := M.cell 0 rfl 2 rfl
 have z_a_0 := M.cell 1 rfl 0 rfl; have z_a_1 := M.cell 1 rfl 1 rfl; have z_a_2 := M.cell 1 rfl 2 rfl
 go_wp2_with fail
 clear z_a_0 z_a_1 z_a_2 z_b_0 z_b_1 z_b_2
 have kg := rgreat_lit ((w.alloc (.cells #[.bool n1, .slice p1 l1.length q1, .slice o1 d1.length r1] 27)).alloc (.cells #[.bool n2, .slice p2 l2.length q2, .slice o2 d2.length r2] 27)) 60 [(n1, (p1, l1.length, q1), (o1, d1.length, r1)), (n2, (p2, l2.length, q2), (o2, d2.length, r2))] (vs := #[.bool n1, .slice p1 l1.length q1, .slice o1 d1.length r1, .bool n2, .slice p2 l2.length q2, .slice o2 d2.length r2]) (by simp [q7v]) (m := 2) rfl (by simp) (by decide) hZ.out true hG.out; rw [show ((60 : Nat) : Int) = 60 from rfl] at kg; simp only [World.size_alloc] at kg
 refine (kg).mono ?_
 rintro e w1 ⟨rfl, rr0⟩
 have rr : Below ((w.alloc (.cells #[.bool n1, .slice p1 l1.length q1, .slice o1 d1.length r1] 27)).alloc (.cells #[.bool n2, .slice p2 l2.length q2, .slice o2 d2.length r2] 27)).heap.size ((w.alloc (.cells #[.bool n1, .slice p1 l1.length q1, .slice o1 d1.length r1] 27)).alloc (.cells #[.bool n2, .slice p2 l2.length q2, .slice o2 d2.length r2] 27)) w1 := by simp only [World.size_alloc]; exact rr0
 have M' := M.up rr; clear M rr rr0 kg; have M := M'; clear M'
 go_wp2_with fail
 go_ret
 exact ⟨rfl, M.below⟩
theorem rpairs_all {w : World} {n1 n2 : Bool} {p1 o1 p2 o2 : Option Addr} {q1 r1 q2 r2 : Nat} {l1 d1 l2 d2 : List Nat} {X Y : Rat} (hX : RIs n1 l1 d1 X) (hY : RIs n2 l2 d2 Y) (t1 : l1.length ≤ 70368744177664) (t2 : d1.length ≤ 70368744177664) (t3 : l2.length ≤ 70368744177664) (t4 : d2.length ≤ 70368744177664) (hA1 : Reads w (.slice p1 l1.length q1) l1) (hA2 : Reads w (.slice o1 d1.length r1) d1) (hB1 : Reads w (.slice p2 l2.length q2) l2) (hB2 : Reads w (.slice o2 d2.length r2) d2) :
    Calls Tryz.prog 3 #[.agg #[.bool n1, .slice p1 l1.length q1, .slice o1 d1.length r1], .agg #[.bool n2, .slice p2 l2.length q2, .slice o2 d2.length r2]] w fun e w' => e = .returned (.bool true) ∧ Below w.heap.size w w' := by
  by_cases far : 60 < l1.length + d1.length ∨ 60 < l2.length + d2.length
  · exact rpairs_far far t1 t2 t3 t4
  have LA : l1.length + d1.length ≤ 60 := by omega
  have LB : l2.length + d2.length ≤ 60 := by omega
  clear far t1 t2 t3 t4
  obtain ⟨sS, LS, DS, kS⟩ := RCan.ex (X + Y)
  obtain ⟨sD, LD, DD, kD⟩ := RCan.ex (X - Y)
  obtain ⟨sP, LP, DP, kP⟩ := RCan.ex (X * Y)
  have mX := hX.len
  have mY := hY.len
  have bS : LS.length ≤ 80000 ∧ DS.length ≤ 80000 := by have := kS.len; have := rl_sum (X := X) (Y := Y) (.inl rfl); omega
  have bD : LD.length ≤ 80000 ∧ DD.length ≤ 80000 := by have := kD.len; have := rl_sum (X := X) (Y := Y) (.inr rfl); omega
  have bP : LP.length ≤ 80000 ∧ DP.length ≤ 80000 := by have := kP.len; have := rl_mul (X := X) (Y := Y) rfl; omega
  cases c1 : rchk n1 l1 d1 with
  | false =>
    exact rpairs_err (z1 := rsg X Y) (z2 := rsg X 0) (E := 1) hA1 hA2 hB1 hB2 LA LB bS bD bP
          (fun W p q p' q' c d c' d' g1 g2 g3 g4 => r_add_own hX hY kS rfl (by omega) (by omega) (by omega) (by omega) g1 g2 g3 g4)
          (fun W p q p' q' c d c' d' g1 g2 g3 g4 => r_sub_own hX hY kD rfl (by omega) (by omega) (by omega) (by omega) g1 g2 g3 g4)
          (fun W p q p' q' c d c' d' g1 g2 g3 g4 => r_mul_own hX hY kP rfl (by omega) (by omega) (by omega) (by omega) g1 g2 g3 g4)
          (fun W p q p' q' c d c' d' g1 g2 g3 g4 => rr_add kS rfl hX hY (by omega) (by omega) (by omega) (by omega) g1 g2 g3 g4)
          (fun W p q p' q' c d c' d' g1 g2 g3 g4 => rr_sub hX hY kD rfl (by omega) (by omega) (by omega) (by omega) g1 g2 g3 g4)
          (fun W p q p' q' c d c' d' g1 g2 g3 g4 => rr_mul kP rfl hX hY (by omega) (by omega) (by omega) (by omega) g1 g2 g3 g4)
          (fun W p q p' q' c d c' d' g1 g2 g3 g4 => r_cmp _ rfl hX hY (by omega) (by omega) (by omega) (by omega) g1 g2 g3 g4)
          (fun W p q p' q' c d c' d' g1 g2 g3 g4 => rr_cmp _ rfl hX hY (by omega) (by omega) (by omega) (by omega) g1 g2 g3 g4)
          (fun W p q c d g1 g2 => r_sign _ hX rfl (by omega) (by omega) g1 g2)
          (fun W p q c d g1 g2 => rr_sign _ rfl hX (by omega) (by omega) g1 g2)
          (fun W p q p' q' c d c' d' g1 g2 g3 g4 => r_div_bad1 hX.1 hX.2.1 hY.1 hY.2.1 c1 (by omega) (by omega) (by omega) (by omega) g1 g2 g3 g4)
          (fun W p q p' q' c d c' d' g1 g2 g3 g4 => rr_div_bad1 hX.1 hX.2.1 hY.1 hY.2.1 c1 (by omega) (by omega) (by omega) (by omega) g1 g2 g3 g4)
  | true =>
    cases c2 : rchk n2 l2 d2 with
    | false =>
      exact rpairs_err (z1 := rsg X Y) (z2 := rsg X 0) (E := 1) hA1 hA2 hB1 hB2 LA LB bS bD bP
          (fun W p q p' q' c d c' d' g1 g2 g3 g4 => r_add_own hX hY kS rfl (by omega) (by omega) (by omega) (by omega) g1 g2 g3 g4)
          (fun W p q p' q' c d c' d' g1 g2 g3 g4 => r_sub_own hX hY kD rfl (by omega) (by omega) (by omega) (by omega) g1 g2 g3 g4)
          (fun W p q p' q' c d c' d' g1 g2 g3 g4 => r_mul_own hX hY kP rfl (by omega) (by omega) (by omega) (by omega) g1 g2 g3 g4)
          (fun W p q p' q' c d c' d' g1 g2 g3 g4 => rr_add kS rfl hX hY (by omega) (by omega) (by omega) (by omega) g1 g2 g3 g4)
          (fun W p q p' q' c d c' d' g1 g2 g3 g4 => rr_sub hX hY kD rfl (by omega) (by omega) (by omega) (by omega) g1 g2 g3 g4)
          (fun W p q p' q' c d c' d' g1 g2 g3 g4 => rr_mul kP rfl hX hY (by omega) (by omega) (by omega) (by omega) g1 g2 g3 g4)
          (fun W p q p' q' c d c' d' g1 g2 g3 g4 => r_cmp _ rfl hX hY (by omega) (by omega) (by omega) (by omega) g1 g2 g3 g4)
          (fun W p q p' q' c d c' d' g1 g2 g3 g4 => rr_cmp _ rfl hX hY (by omega) (by omega) (by omega) (by omega) g1 g2 g3 g4)
          (fun W p q c d g1 g2 => r_sign _ hX rfl (by omega) (by omega) g1 g2)
          (fun W p q c d g1 g2 => rr_sign _ rfl hX (by omega) (by omega) g1 g2)
          (fun W p q p' q' c d c' d' g1 g2 g3 g4 => r_div_bad2 hX.1 hX.2.1 hY.1 hY.2.1 c1 c2 (by omega) (by omega) (by omega) (by omega) g1 g2 g3 g4)
          (fun W p q p' q' c d c' d' g1 g2 g3 g4 => rr_div_bad2 hX.1 hX.2.1 hY.1 hY.2.1 c1 c2 (by omega) (by omega) (by omega) (by omega) g1 g2 g3 g4)
    | true =>
      have kX := hX.can c1
      have kY := hY.can c2
      by_cases h0 : Y = 0
      · have hl : l2.length = 0 := by subst h0; rw [(rcan_zero kY).2.1]; rfl
        exact rpairs_err (z1 := rsg X Y) (z2 := rsg X 0) (E := 10) hA1 hA2 hB1 hB2 LA LB bS bD bP
          (fun W p q p' q' c d c' d' g1 g2 g3 g4 => r_add_own hX hY kS rfl (by omega) (by omega) (by omega) (by omega) g1 g2 g3 g4)
          (fun W p q p' q' c d c' d' g1 g2 g3 g4 => r_sub_own hX hY kD rfl (by omega) (by omega) (by omega) (by omega) g1 g2 g3 g4)
          (fun W p q p' q' c d c' d' g1 g2 g3 g4 => r_mul_own hX hY kP rfl (by omega) (by omega) (by omega) (by omega) g1 g2 g3 g4)
          (fun W p q p' q' c d c' d' g1 g2 g3 g4 => rr_add kS rfl hX hY (by omega) (by omega) (by omega) (by omega) g1 g2 g3 g4)
          (fun W p q p' q' c d c' d' g1 g2 g3 g4 => rr_sub hX hY kD rfl (by omega) (by omega) (by omega) (by omega) g1 g2 g3 g4)
          (fun W p q p' q' c d c' d' g1 g2 g3 g4 => rr_mul kP rfl hX hY (by omega) (by omega) (by omega) (by omega) g1 g2 g3 g4)
          (fun W p q p' q' c d c' d' g1 g2 g3 g4 => r_cmp _ rfl hX hY (by omega) (by omega) (by omega) (by omega) g1 g2 g3 g4)
          (fun W p q p' q' c d c' d' g1 g2 g3 g4 => rr_cmp _ rfl hX hY (by omega) (by omega) (by omega) (by omega) g1 g2 g3 g4)
          (fun W p q c d g1 g2 => r_sign _ hX rfl (by omega) (by omega) g1 g2)
          (fun W p q c d g1 g2 => rr_sign _ rfl hX (by omega) (by omega) g1 g2)
          (fun W p q p' q' c d c' d' g1 g2 g3 g4 => r_div_zero kX kY h0 (by omega) (by omega) (by omega) (by omega) g1 g2 g3 g4)
          (fun W p q p' q' c d c' d' g1 g2 g3 g4 => rr_div_zero hX.1 hX.2.1 hY.1 hY.2.1 c1 c2 hl (by omega) (by omega) (by omega) (by omega) g1 g2 g3 g4)
      · have hn : Y.num ≠ 0 := fun e => h0 (Rat.num_eq_zero.1 e)
        obtain ⟨sQ, LQ, DQ, kQ⟩ := RCan.ex (X / Y)
        have bQ : LQ.length ≤ 80000 ∧ DQ.length ≤ 80000 := by have := kQ.len; have := rl_mul (X := X) (Y := Y⁻¹) (Z := X / Y) (Rat.div_def X Y); have := rl_inv h0; omega
        exact rpairs_val (z1 := rsg X Y) (z2 := rsg X 0) (E := 0) hA1 hA2 hB1 hB2 LA LB bS bD bP bQ
          (fun W p q p' q' c d c' d' g1 g2 g3 g4 => r_add_own hX hY kS rfl (by omega) (by omega) (by omega) (by omega) g1 g2 g3 g4)
          (fun W p q p' q' c d c' d' g1 g2 g3 g4 => r_sub_own hX hY kD rfl (by omega) (by omega) (by omega) (by omega) g1 g2 g3 g4)
          (fun W p q p' q' c d c' d' g1 g2 g3 g4 => r_mul_own hX hY kP rfl (by omega) (by omega) (by omega) (by omega) g1 g2 g3 g4)
          (fun W p q p' q' c d c' d' g1 g2 g3 g4 => rr_add kS rfl hX hY (by omega) (by omega) (by omega) (by omega) g1 g2 g3 g4)
          (fun W p q p' q' c d c' d' g1 g2 g3 g4 => rr_sub hX hY kD rfl (by omega) (by omega) (by omega) (by omega) g1 g2 g3 g4)
          (fun W p q p' q' c d c' d' g1 g2 g3 g4 => rr_mul kP rfl hX hY (by omega) (by omega) (by omega) (by omega) g1 g2 g3 g4)
          (fun W p q p' q' c d c' d' g1 g2 g3 g4 => r_cmp _ rfl hX hY (by omega) (by omega) (by omega) (by omega) g1 g2 g3 g4)
          (fun W p q p' q' c d c' d' g1 g2 g3 g4 => rr_cmp _ rfl hX hY (by omega) (by omega) (by omega) (by omega) g1 g2 g3 g4)
          (fun W p q c d g1 g2 => r_sign _ hX rfl (by omega) (by omega) g1 g2)
          (fun W p q c d g1 g2 => rr_sign _ rfl hX (by omega) (by omega) g1 g2)
          (fun W p q p' q' c d c' d' g1 g2 g3 g4 => r_div_own kX kY h0 kQ rfl (by omega) (by omega) (by omega) (by omega) g1 g2 g3 g4)
          (fun W p q p' q' c d c' d' g1 g2 g3 g4 => rr_div_ok kX kY hn kQ rfl (by omega) (by omega) (by omega) (by omega) g1 g2 g3 g4)

end Go.Proofs.YthnlmjnfdokdbaaGreatDoor
