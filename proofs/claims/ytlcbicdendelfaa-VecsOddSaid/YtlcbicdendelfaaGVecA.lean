/- Rows of fractions: what Add makes of two places. -/
import Derived.Test.YtlcbicdendelfaaGVecS
namespace Go.Proofs.Ytlcbicdendelfaa
open Go Go.Proofs Go.RowKit Go.Shelf Nu

attribute [local go_sem] Oper.semAt_some

set_option maxRecDepth 100000 in
set_option maxHeartbeats 8000000 in
theorem v_addfn {w : World} {B : Nat} {X Y T : Rat} {p1 o1 p2 o2 pb ob : Option Addr} {q1 r1 q2 r2 qb rb : Nat} (hB : BoxN w B 43 #[.bool (qr T).1, .slice pb (qr T).2.1.length qb, .slice ob (qr T).2.2.length rb]) (hw : wt X + wt Y + wt T ≤ 9000)
    (g1 : Reads w (.slice p1 (qr X).2.1.length q1) (qr X).2.1) (g2 : Reads w (.slice o1 (qr X).2.2.length r1) (qr X).2.2) (g3 : Reads w (.slice p2 (qr Y).2.1.length q2) (qr Y).2.1) (g4 : Reads w (.slice o2 (qr Y).2.2.length r2) (qr Y).2.2) (g5 : Reads w (.slice pb (qr T).2.1.length qb) (qr T).2.1) (g6 : Reads w (.slice ob (qr T).2.2.length rb) (qr T).2.2) :
    Calls Try.prog 47 #[.agg #[.bool (qr X).1, .slice p1 (qr X).2.1.length q1, .slice o1 (qr X).2.2.length r1], .agg #[.bool (qr Y).1, .slice p2 (qr Y).2.1.length q2, .slice o2 (qr Y).2.2.length r2], .pointer (some ⟨B, 0, none⟩)] w (RAns w (X + Y * T)) := by
  have wp := wt_mul Y T
  have fX := fit_qr (X := X) (by omega)
  have fY := fit_qr (X := Y) (by omega)
  have fT := fit_qr (X := T) (by omega)
  have fP := fit_qr (X := Y * T) (by omega)
  have km := fun (W : World) {p1 o1 p2 o2 : Option Addr} {q1 r1 q2 r2 : Nat} (g1 : Reads W (.slice p1 (qr Y).2.1.length q1) (qr Y).2.1) (g2 : Reads W (.slice o1 (qr Y).2.2.length r1) (qr Y).2.2) (g3 : Reads W (.slice p2 (qr T).2.1.length q2) (qr T).2.1) (g4 : Reads W (.slice o2 (qr T).2.2.length r2) (qr T).2.2) =>
    r_mul (qr_can Y).is (qr_can T).is (qr_can (Y * T)) rfl fY.2.1 fY.2.2 fT.2.1 fT.2.2 g1 g2 g3 g4
  have ka := fun (W : World) {p1 o1 p2 o2 : Option Addr} {q1 r1 q2 r2 : Nat} (g1 : Reads W (.slice p1 (qr X).2.1.length q1) (qr X).2.1) (g2 : Reads W (.slice o1 (qr X).2.2.length r1) (qr X).2.2) (g3 : Reads W (.slice p2 (qr (Y * T)).2.1.length q2) (qr (Y * T)).2.1) (g4 : Reads W (.slice o2 (qr (Y * T)).2.2.length r2) (qr (Y * T)).2.2) =>
    r_add (qr_can X).is (qr_can (Y * T)).is (qr_can (X + Y * T)) rfl fX.2.1 fX.2.2 fP.2.1 fP.2.2 g1 g2 g3 g4
  have M : Mem w [(w.heap.size + 1 + 1, 43, [.bool false, .slice none 0 0, .slice none 0 0]), (w.heap.size + 1, 43, [.bool (qr Y).1, .slice p2 (qr Y).2.1.length q2, .slice o2 (qr Y).2.2.length r2]), (w.heap.size, 43, [.bool (qr X).1, .slice p1 (qr X).2.1.length q1, .slice o1 (qr X).2.2.length r1])]
      [(.slice ob (qr T).2.2.length rb, (qr T).2.2), (.slice pb (qr T).2.1.length qb, (qr T).2.1), (.slice o2 (qr Y).2.2.length r2, (qr Y).2.2), (.slice p2 (qr Y).2.1.length q2, (qr Y).2.1), (.slice o1 (qr X).2.2.length r1, (qr X).2.2), (.slice p1 (qr X).2.1.length q1, (qr X).2.1)]
      (((w.alloc (.cells #[.bool (qr X).1, .slice p1 (qr X).2.1.length q1, .slice o1 (qr X).2.2.length r1] 43)).alloc (.cells #[.bool (qr Y).1, .slice p2 (qr Y).2.1.length q2, .slice o2 (qr Y).2.2.length r2] 43)).alloc (.cells #[.bool false, .slice none 0 0, .slice none 0 0] 43)) := by
    have M := ((((((((((Mem.start w).add g1).add g2).add g3).add g4).add g5).add g6).new 43 [.bool (qr X).1, .slice p1 (qr X).2.1.length q1, .slice o1 (qr X).2.2.length r1]).new 43 [.bool (qr Y).1, .slice p2 (qr Y).2.1.length q2, .slice o2 (qr Y).2.2.length r2]).new 43 [.bool false, .slice none 0 0, .slice none 0 0])
    simpa only [World.size_alloc] using M
  clear g1 g2 g3 g4 g5 g6 fX fY fT fP wp hw
  unfold RAns
  obtain ⟨qZ, hqZ⟩ : ∃ q, q = qr (X + Y * T) := ⟨_, rfl⟩
  rw [← hqZ] at ka ⊢
  obtain ⟨qP, hqP⟩ : ∃ q, q = qr (Y * T) := ⟨_, rfl⟩
  rw [← hqP] at km ka
  clear hqZ hqP
  generalize qr X = qX at *
  generalize qr Y = qY at *
  generalize qr T = qT at *
  go_enter Try.func47, Try.ntmps47
  go_wp2
  refine region_mem (S := (fun W => BoxN W (w.heap.size) 43 #[.bool qX.1, .slice p1 qX.2.1.length q1, .slice o1 qX.2.2.length r1] ∧ BoxN W (w.heap.size + 1) 43 #[.bool qY.1, .slice p2 qY.2.1.length q2, .slice o2 qY.2.2.length r2] ∧ BoxN W B 43 #[.bool qT.1, .slice pb qT.2.1.length qb, .slice ob qT.2.2.length rb])) M (by kernel_rfl) ?_
  intro V0 M
  have hS0 : (fun W => BoxN W (w.heap.size) 43 #[.bool qX.1, .slice p1 qX.2.1.length q1, .slice o1 qX.2.2.length r1] ∧ BoxN W (w.heap.size + 1) 43 #[.bool qY.1, .slice p2 qY.2.1.length q2, .slice o2 qY.2.2.length r2] ∧ BoxN W B 43 #[.bool qT.1, .slice pb qT.2.1.length qb, .slice ob qT.2.2.length rb]) V0 := ⟨M.box 2 rfl, M.box 1 rfl, M.old hB⟩
  refine wpAnyH_take (i := 0) (oi := ⟨_, _, _, _, _, _⟩) (v := .agg #[.bool qX.1, .slice p1 qX.2.1.length q1, .slice o1 qX.2.2.length r1]) rfl (by kernel_rfl) (by kernel_rfl) (by kernel_rfl) (fun _ _ _ h => h) (Or.inl ⟨by rfl, fun W3 hS => by obtain ⟨hS1, _, _⟩ := hS; have c0 := hS1.cell 0 _ rfl; have c1 := hS1.cell 1 _ rfl; have c2 := hS1.cell 2 _ rfl; go_simp⟩) hS0 ?_
  refine wpAnyH_take (i := 1) (oi := ⟨_, _, _, _, _, _⟩) (v := .agg #[.bool qY.1, .slice p2 qY.2.1.length q2, .slice o2 qY.2.2.length r2]) rfl (by kernel_rfl) (by kernel_rfl) (by kernel_rfl) (fun _ _ _ h => h) (Or.inl ⟨by rfl, fun W3 hS => by obtain ⟨_, hS1, _⟩ := hS; have c0 := hS1.cell 0 _ rfl; have c1 := hS1.cell 1 _ rfl; have c2 := hS1.cell 2 _ rfl; go_simp⟩) hS0 ?_
  refine wpAnyH_take (i := 2) (oi := ⟨_, _, _, _, _, _⟩) (v := .agg #[.bool qT.1, .slice pb qT.2.1.length qb, .slice ob qT.2.2.length rb]) rfl (by kernel_rfl) (by kernel_rfl) (by kernel_rfl) (fun _ _ _ h => h) (Or.inl ⟨by rfl, fun W3 hS => by obtain ⟨_, _, hS1⟩ := hS; have c0 := hS1.cell 0 _ rfl; have c1 := hS1.cell 1 _ rfl; have c2 := hS1.cell 2 _ rfl; go_simp⟩) hS0 ?_
  clear hS0
  try simp only [Act.put, List.setIfInBounds_toArray, List.set_cons_zero, List.set_cons_succ]
  refine wpAnyH_all (rs := [3]) (by kernel_rfl) (by simp) ?_
  intro i hi
  obtain rfl : i = 3 := by simpa using hi
  refine wpOp_intro rfl (fun K1 hK => ?_)
  clear hi
  go_simp
  refine (km _ (M.get 3 rfl) (M.get 2 rfl) (M.get 1 rfl) (M.get 0 rfl)).mono ?_
  rintro e V1 ⟨a1, c1, a1', c1', rfl, g, g', rr⟩
  have M' := ((M.up rr).add g).add g'
  clear M rr g g'
  have M := M'; clear M'
  refine hK _ _ ⟨⟨M.box 2 rfl, M.box 1 rfl, M.old hB⟩, ?_⟩
  clear hK K1
  refine wpAnyH_all (rs := [4]) (by kernel_rfl) (by simp) ?_
  intro i hi
  obtain rfl : i = 4 := by simpa using hi
  refine wpOp_intro rfl (fun K2 hK => ?_)
  clear hi
  go_simp
  refine (ka _ (M.get 7 rfl) (M.get 6 rfl) (M.get 1 rfl) (M.get 0 rfl)).mono ?_
  rintro e V2 ⟨a2, c2, a2', c2', rfl, g, g', rr⟩
  have M' := ((M.up rr).add g).add g'
  clear M rr g g'
  have M := M'; clear M'
  refine hK _ _ ⟨⟨M.box 2 rfl, M.box 1 rfl, M.old hB⟩, ?_⟩
  clear hK K2
  have f0_0 := M.fr 0 rfl 0; have f0_1 := M.fr 0 rfl 1; have f0_2 := M.fr 0 rfl 2
  have z0_0 := M.cell 0 rfl 0 rfl; have z0_1 := M.cell 0 rfl 1 rfl; have z0_2 := M.cell 0 rfl 2 rfl
  refine wpAnyH_all (rs := [5]) (by kernel_rfl) (by simp) ?_
  intro i hi
  obtain rfl : i = 5 := by simpa using hi
  refine wpOp_intro rfl (fun Ks4 hK => ?_)
  clear hi
  go_simp
  have M' := (((M.put 0 rfl rfl 0 (.bool qZ.1)).put 0 rfl rfl 1 (.slice a2 qZ.2.1.length c2)).put 0 rfl rfl 2 (.slice a2' qZ.2.2.length c2'))
  clear M f0_0 z0_0 f0_1 z0_1 f0_2 z0_2
  refine hK _ _ ⟨⟨M'.box 2 rfl, M'.box 1 rfl, M'.old hB⟩, ?_⟩
  clear hK Ks4
  refine wpAnyH_done (by kernel_rfl) ?_ _
  go_wp2
  refine ret_boxN rfl rfl (M'.box 0 rfl) Try.underlying43 size_rat rfl ?_
  exact ⟨a2, c2, a2', c2', rfl, M'.get 1 rfl, M'.get 0 rfl, M'.below⟩
end Go.Proofs.Ytlcbicdendelfaa
