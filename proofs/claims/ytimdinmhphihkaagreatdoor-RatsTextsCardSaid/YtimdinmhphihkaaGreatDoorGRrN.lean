/- The document's answer for fractions: may one be. The document's answer for fractions: one, or 0. The document's answer for fractions: what is done with one and with two. The document's answer for fractions: the other way about, less, its sign, by another one. -/
import Derived.Test.YtimdinmhphihkaaGreatDoorGRmk
import Derived.Test.YtimdinmhphihkaaGreatDoorGMathG
set_option linter.unusedSimpArgs false
set_option linter.unusedVariables false
namespace Go.Proofs.YtimdinmhphihkaaGreatDoor
open Go Go.Proofs Go.RowKit Go.Shelf Nu

attribute [local go_sem] Oper.semAt_some

section
variable {w : World} {p1 p2 : Option Addr} {q1 q2 : Nat} {n : Bool} {l d : List Nat}
set_option maxRecDepth 100000 in
set_option maxHeartbeats 8000000 in
theorem rr_check_1 (h1 : Reads w (.slice p1 l.length q1) l) (h2 : Reads w (.slice p2 d.length q2) d) (s1 : Sm l) (s2 : Sm d) (l1 : l.length ≤ 70000) (l2 : d.length ≤ 70000) (c1 : ichk n l = false) :
    Calls Tryz.prog 12 #[.agg #[.bool n, .slice p1 l.length q1, .slice p2 d.length q2]] w fun e w' => e = .returned (.bool false) ∧ Below w.heap.size w w' := by
  have kc1 := fun (W : World) (g : Reads W (.slice p1 l.length q1) l) => richeck_any (n := n) g (by omega)
  rw [c1] at kc1
  have M : Mem w [(w.heap.size, 27, [.bool n, .slice p1 l.length q1, .slice p2 d.length q2])] [(.slice p2 d.length q2, d), (.slice p1 l.length q1, l)] (w.alloc (.cells #[.bool n, .slice p1 l.length q1, .slice p2 d.length q2] 27)) := by
    have M := ((((Mem.start w).add h1).add h2).new 27 [.bool n, .slice p1 l.length q1, .slice p2 d.length q2])
    simpa only [World.size_alloc] using M
  clear h1 h2 s1 s2 l1 l2 c1
  go_enter Tryz.func12, Tryz.ntmps12
  have z0_0 := M.cell 0 rfl 0 rfl; have z0_1 := M.cell 0 rfl 1 rfl; have z0_2 := M.cell 0 rfl 2 rfl
  go_wp2_with fail
  go_at_call 59
  refine (kc1 _ (M.get 1 rfl)).mono ?_
  rintro e w1 ⟨rfl, rr⟩
  have M' := M.up rr
  clear M rr z0_0 z0_1 z0_2
  have M := M'; clear M'
  have z0_0 := M.cell 0 rfl 0 rfl; have z0_1 := M.cell 0 rfl 1 rfl; have z0_2 := M.cell 0 rfl 2 rfl
  go_wp2_with fail
  go_ret
  exact ⟨rfl, M.below⟩
set_option maxRecDepth 100000 in
set_option maxHeartbeats 8000000 in
theorem rr_check_2 (h1 : Reads w (.slice p1 l.length q1) l) (h2 : Reads w (.slice p2 d.length q2) d) (s1 : Sm l) (s2 : Sm d) (l1 : l.length ≤ 70000) (l2 : d.length ≤ 70000) (c1 : ichk n l = true) (c2 : chk d = false) :
    Calls Tryz.prog 12 #[.agg #[.bool n, .slice p1 l.length q1, .slice p2 d.length q2]] w fun e w' => e = .returned (.bool false) ∧ Below w.heap.size w w' := by
  have kc1 := fun (W : World) (g : Reads W (.slice p1 l.length q1) l) => richeck_any (n := n) g (by omega)
  rw [c1] at kc1
  have kc2 := fun (W : World) (g : Reads W (.slice p2 d.length q2) d) => rnc_any g (by omega)
  rw [c2] at kc2
  have M : Mem w [(w.heap.size, 27, [.bool n, .slice p1 l.length q1, .slice p2 d.length q2])] [(.slice p2 d.length q2, d), (.slice p1 l.length q1, l)] (w.alloc (.cells #[.bool n, .slice p1 l.length q1, .slice p2 d.length q2] 27)) := by
    have M := ((((Mem.start w).add h1).add h2).new 27 [.bool n, .slice p1 l.length q1, .slice p2 d.length q2])
    simpa only [World.size_alloc] using M
  clear h1 h2 s1 s2 l1 l2 c1 c2
  go_enter Tryz.func12, Tryz.ntmps12
  have z0_0 := M.cell 0 rfl 0 rfl; have z0_1 := M.cell 0 rfl 1 rfl; have z0_2 := M.cell 0 rfl 2 rfl
  go_wp2_with fail
  go_at_call 59
  refine (kc1 _ (M.get 1 rfl)).mono ?_
  rintro e w1 ⟨rfl, rr⟩
  have M' := M.up rr
  clear M rr z0_0 z0_1 z0_2
  have M := M'; clear M'
  have z0_0 := M.cell 0 rfl 0 rfl; have z0_1 := M.cell 0 rfl 1 rfl; have z0_2 := M.cell 0 rfl 2 rfl
  go_wp2_with fail
  go_at_call 60
  refine (kc2 _ (M.get 0 rfl)).mono ?_
  rintro e w2 ⟨rfl, hw⟩
  subst w2
  go_wp2_with fail
  go_ret
  exact ⟨rfl, M.below⟩
set_option maxRecDepth 100000 in
set_option maxHeartbeats 8000000 in
theorem rr_check_3 (h1 : Reads w (.slice p1 l.length q1) l) (h2 : Reads w (.slice p2 d.length q2) d) (s1 : Sm l) (s2 : Sm d) (l1 : l.length ≤ 70000) (l2 : d.length ≤ 70000) (c1 : ichk n l = true) (c2 : chk d = true) (c3 : d.length = 0) :
    Calls Tryz.prog 12 #[.agg #[.bool n, .slice p1 l.length q1, .slice p2 d.length q2]] w fun e w' => e = .returned (.bool false) ∧ Below w.heap.size w w' := by
  have kc1 := fun (W : World) (g : Reads W (.slice p1 l.length q1) l) => richeck_any (n := n) g (by omega)
  rw [c1] at kc1
  have kc2 := fun (W : World) (g : Reads W (.slice p2 d.length q2) d) => rnc_any g (by omega)
  rw [c2] at kc2
  have hl : ((d.length : Int) == 0) = true := by rw [c3]; rfl
  have M : Mem w [(w.heap.size, 27, [.bool n, .slice p1 l.length q1, .slice p2 d.length q2])] [(.slice p2 d.length q2, d), (.slice p1 l.length q1, l)] (w.alloc (.cells #[.bool n, .slice p1 l.length q1, .slice p2 d.length q2] 27)) := by
    have M := ((((Mem.start w).add h1).add h2).new 27 [.bool n, .slice p1 l.length q1, .slice p2 d.length q2])
    simpa only [World.size_alloc] using M
  clear h1 h2 s1 s2 l1 l2 c1 c2 c3
  go_enter Tryz.func12, Tryz.ntmps12
  have z0_0 := M.cell 0 rfl 0 rfl; have z0_1 := M.cell 0 rfl 1 rfl; have z0_2 := M.cell 0 rfl 2 rfl
  go_wp2_with fail
  go_at_call 59
  refine (kc1 _ (M.get 1 rfl)).mono ?_
  rintro e w1 ⟨rfl, rr⟩
  have M' := M.up rr
  clear M rr z0_0 z0_1 z0_2
  have M := M'; clear M'
  have z0_0 := M.cell 0 rfl 0 rfl; have z0_1 := M.cell 0 rfl 1 rfl; have z0_2 := M.cell 0 rfl 2 rfl
  go_wp2_with fail
  go_at_call 60
  refine (kc2 _ (M.get 0 rfl)).mono ?_
  rintro e w2 ⟨rfl, hw⟩
  subst w2
  go_wp2_with fail
  go_ret
  exact ⟨rfl, M.below⟩
set_option maxRecDepth 100000 in
set_option maxHeartbeats 8000000 in
theorem rr_check_4 (h1 : Reads w (.slice p1 l.length q1) l) (h2 : Reads w (.slice p2 d.length q2) d) (s1 : Sm l) (s2 : Sm d) (l1 : l.length ≤ 70000) (l2 : d.length ≤ 70000) (c1 : ichk n l = true) (c2 : chk d = true) (c3 : d.length ≠ 0) (c4 : Nat.gcd (val l) (val d) = 1) :
    Calls Tryz.prog 12 #[.agg #[.bool n, .slice p1 l.length q1, .slice p2 d.length q2]] w fun e w' => e = .returned (.bool true) ∧ Below w.heap.size w w' := by
  have kc1 := fun (W : World) (g : Reads W (.slice p1 l.length q1) l) => richeck_any (n := n) g (by omega)
  rw [c1] at kc1
  have kc2 := fun (W : World) (g : Reads W (.slice p2 d.length q2) d) => rnc_any g (by omega)
  rw [c2] at kc2
  have hl : ((d.length : Int) == 0) = false := beq_eq_false_iff_ne.2 (by omega)
  have k1 : chk l = true := by unfold ichk at c1; simp at c1; exact c1.1
  have eL : l = digs (val l) := (digs_val s1 k1).symm
  have eD : d = digs (val d) := (digs_val s2 c2).symm
  obtain ⟨G, hG⟩ : ∃ G, G = Nat.gcd (val l) (val d) := ⟨_, rfl⟩
  obtain ⟨LG, hLG⟩ : ∃ L, L = digs G := ⟨_, rfl⟩
  have kg := fun (W : World) (g1 : Reads W (.slice p1 l.length q1) l) (g2 : Reads W (.slice p2 d.length q2) d) => p_gcd (G := LG) eL eD (by rw [hLG, hG]) (by omega) (by omega) g1 g2
  rw [← hG] at c4
  have eG : LG = [1] := by rw [hLG, c4]; exact digs_one1
  have M : Mem w [(w.heap.size, 27, [.bool n, .slice p1 l.length q1, .slice p2 d.length q2])] [(.slice p2 d.length q2, d), (.slice p1 l.length q1, l)] (w.alloc (.cells #[.bool n, .slice p1 l.length q1, .slice p2 d.length q2] 27)) := by
    have M := ((((Mem.start w).add h1).add h2).new 27 [.bool n, .slice p1 l.length q1, .slice p2 d.length q2])
    simpa only [World.size_alloc] using M
  clear h1 h2 s1 s2 l1 l2 c1 c2 c3 k1 eL eD hG hLG c4
  go_enter Tryz.func12, Tryz.ntmps12
  have z0_0 := M.cell 0 rfl 0 rfl; have z0_1 := M.cell 0 rfl 1 rfl; have z0_2 := M.cell 0 rfl 2 rfl
  go_wp2_with fail
  go_at_call 59
  refine (kc1 _ (M.get 1 rfl)).mono ?_
  rintro e w1 ⟨rfl, rr⟩
  have M' := M.up rr
  clear M rr z0_0 z0_1 z0_2
  have M := M'; clear M'
  have z0_0 := M.cell 0 rfl 0 rfl; have z0_1 := M.cell 0 rfl 1 rfl; have z0_2 := M.cell 0 rfl 2 rfl
  go_wp2_with fail
  go_at_call 60
  refine (kc2 _ (M.get 0 rfl)).mono ?_
  rintro e w2 ⟨rfl, hw⟩
  subst w2
  go_wp2_with fail
  go_at_call 61
  refine (kg _ (M.get 1 rfl) (M.get 0 rfl)).mono ?_
  rintro e w3 ⟨a, c, rfl, g, rr⟩
  have M' := M.up rr
  clear M rr z0_0 z0_1 z0_2
  have M := M'; clear M'
  rw [eG] at g ⊢
  obtain ⟨bG, oG, hb, hc⟩ := g.addr
  obtain ⟨rfl, _⟩ := hb (by simp)
  have hcell := hc 0 (by simp)
  simp only [Nat.add_zero, List.getD_cons_zero] at hcell
  clear hb hc g eG
  have ln : ([1] : List Nat).length = 1 := rfl
  rw [ln]
  go_wp2_with fail
  go_ret
  exact ⟨rfl, M.below⟩
set_option maxRecDepth 100000 in
set_option maxHeartbeats 8000000 in
theorem rr_check_5 (h1 : Reads w (.slice p1 l.length q1) l) (h2 : Reads w (.slice p2 d.length q2) d) (s1 : Sm l) (s2 : Sm d) (l1 : l.length ≤ 70000) (l2 : d.length ≤ 70000) (c1 : ichk n l = true) (c2 : chk d = true) (c3 : d.length ≠ 0) (c4 : Nat.gcd (val l) (val d) ≠ 1) (c5 : (digs (Nat.gcd (val l) (val d))).length = 1) :
    Calls Tryz.prog 12 #[.agg #[.bool n, .slice p1 l.length q1, .slice p2 d.length q2]] w fun e w' => e = .returned (.bool false) ∧ Below w.heap.size w w' := by
  have kc1 := fun (W : World) (g : Reads W (.slice p1 l.length q1) l) => richeck_any (n := n) g (by omega)
  rw [c1] at kc1
  have kc2 := fun (W : World) (g : Reads W (.slice p2 d.length q2) d) => rnc_any g (by omega)
  rw [c2] at kc2
  have hl : ((d.length : Int) == 0) = false := beq_eq_false_iff_ne.2 (by omega)
  have k1 : chk l = true := by unfold ichk at c1; simp at c1; exact c1.1
  have eL : l = digs (val l) := (digs_val s1 k1).symm
  have eD : d = digs (val d) := (digs_val s2 c2).symm
  obtain ⟨G, hG⟩ : ∃ G, G = Nat.gcd (val l) (val d) := ⟨_, rfl⟩
  obtain ⟨LG, hLG⟩ : ∃ L, L = digs G := ⟨_, rfl⟩
  have kg := fun (W : World) (g1 : Reads W (.slice p1 l.length q1) l) (g2 : Reads W (.slice p2 d.length q2) d) => p_gcd (G := LG) eL eD (by rw [hLG, hG]) (by omega) (by omega) g1 g2
  rw [← hG] at c4 c5
  have eG : LG = [G] := by rw [hLG]; exact digs_single c5
  have hg1 : ((G : Int) == 1) = false := beq_eq_false_iff_ne.2 (by omega)
  have hg2 : ¬ (G : Int) = 1 := by omega
  have M : Mem w [(w.heap.size, 27, [.bool n, .slice p1 l.length q1, .slice p2 d.length q2])] [(.slice p2 d.length q2, d), (.slice p1 l.length q1, l)] (w.alloc (.cells #[.bool n, .slice p1 l.length q1, .slice p2 d.length q2] 27)) := by
    have M := ((((Mem.start w).add h1).add h2).new 27 [.bool n, .slice p1 l.length q1, .slice p2 d.length q2])
    simpa only [World.size_alloc] using M
  clear h1 h2 s1 s2 l1 l2 c1 c2 c3 k1 eL eD hG hLG c4 c5
  go_enter Tryz.func12, Tryz.ntmps12
  have z0_0 := M.cell 0 rfl 0 rfl; have z0_1 := M.cell 0 rfl 1 rfl; have z0_2 := M.cell 0 rfl 2 rfl
  go_wp2_with fail
  go_at_call 59
  refine (kc1 _ (M.get 1 rfl)).mono ?_
  rintro e w1 ⟨rfl, rr⟩
  have M' := M.up rr
  clear M rr z0_0 z0_1 z0_2
  have M := M'; clear M'
  have z0_0 := M.cell 0 rfl 0 rfl; have z0_1 := M.cell 0 rfl 1 rfl; have z0_2 := M.cell 0 rfl 2 rfl
  go_wp2_with fail
  go_at_call 60
  refine (kc2 _ (M.get 0 rfl)).mono ?_
  rintro e w2 ⟨rfl, hw⟩
  subst w2
  go_wp2_with fail
  go_at_call 61
  refine (kg _ (M.get 1 rfl) (M.get 0 rfl)).mono ?_
  rintro e w3 ⟨a, c, rfl, g, rr⟩
  have M' := M.up rr
  clear M rr z0_0 z0_1 z0_2
  have M := M'; clear M'
  rw [eG] at g ⊢
  obtain ⟨bG, oG, hb, hc⟩ := g.addr
  obtain ⟨rfl, _⟩ := hb (by simp)
  have hcell := hc 0 (by simp)
  simp only [Nat.add_zero, List.getD_cons_zero] at hcell
  clear hb hc g eG
  have ln : ([G] : List Nat).length = 1 := rfl
  rw [ln]
  go_wp2_with fail
  go_ret
  exact ⟨rfl, M.below⟩
set_option maxRecDepth 100000 in
set_option maxHeartbeats 8000000 in
theorem rr_check_6 (h1 : Reads w (.slice p1 l.length q1) l) (h2 : Reads w (.slice p2 d.length q2) d) (s1 : Sm l) (s2 : Sm d) (l1 : l.length ≤ 70000) (l2 : d.length ≤ 70000) (c1 : ichk n l = true) (c2 : chk d = true) (c3 : d.length ≠ 0) (c5 : (digs (Nat.gcd (val l) (val d))).length ≠ 1) :
    Calls Tryz.prog 12 #[.agg #[.bool n, .slice p1 l.length q1, .slice p2 d.length q2]] w fun e w' => e = .returned (.bool false) ∧ Below w.heap.size w w' := by
  have kc1 := fun (W : World) (g : Reads W (.slice p1 l.length q1) l) => richeck_any (n := n) g (by omega)
  rw [c1] at kc1
  have kc2 := fun (W : World) (g : Reads W (.slice p2 d.length q2) d) => rnc_any g (by omega)
  rw [c2] at kc2
  have hl : ((d.length : Int) == 0) = false := beq_eq_false_iff_ne.2 (by omega)
  have k1 : chk l = true := by unfold ichk at c1; simp at c1; exact c1.1
  have eL : l = digs (val l) := (digs_val s1 k1).symm
  have eD : d = digs (val d) := (digs_val s2 c2).symm
  obtain ⟨G, hG⟩ : ∃ G, G = Nat.gcd (val l) (val d) := ⟨_, rfl⟩
  obtain ⟨LG, hLG⟩ : ∃ L, L = digs G := ⟨_, rfl⟩
  have kg := fun (W : World) (g1 : Reads W (.slice p1 l.length q1) l) (g2 : Reads W (.slice p2 d.length q2) d) => p_gcd (G := LG) eL eD (by rw [hLG, hG]) (by omega) (by omega) g1 g2
  rw [← hG, ← hLG] at c5
  have hg1 : ((LG.length : Int) == 1) = false := beq_eq_false_iff_ne.2 (by omega)
  have hg2 : ¬ (LG.length : Int) = 1 := by omega
  have M : Mem w [(w.heap.size, 27, [.bool n, .slice p1 l.length q1, .slice p2 d.length q2])] [(.slice p2 d.length q2, d), (.slice p1 l.length q1, l)] (w.alloc (.cells #[.bool n, .slice p1 l.length q1, .slice p2 d.length q2] 27)) := by
    have M := ((((Mem.start w).add h1).add h2).new 27 [.bool n, .slice p1 l.length q1, .slice p2 d.length q2])
    simpa only [World.size_alloc] using M
  clear h1 h2 s1 s2 l1 l2 c1 c2 c3 k1 eL eD hG hLG c5
  go_enter Tryz.func12, Tryz.ntmps12
  have z0_0 := M.cell 0 rfl 0 rfl; have z0_1 := M.cell 0 rfl 1 rfl; have z0_2 := M.cell 0 rfl 2 rfl
  go_wp2_with fail
  go_at_call 59
  refine (kc1 _ (M.get 1 rfl)).mono ?_
  rintro e w1 ⟨rfl, rr⟩
  have M' := M.up rr
  clear M rr z0_0 z0_1 z0_2
  have M := M'; clear M'
  have z0_0 := M.cell 0 rfl 0 rfl; have z0_1 := M.cell 0 rfl 1 rfl; have z0_2 := M.cell 0 rfl 2 rfl
  go_wp2_with fail
  go_at_call 60
  refine (kc2 _ (M.get 0 rfl)).mono ?_
  rintro e w2 ⟨rfl, hw⟩
  subst w2
  go_wp2_with fail
  go_at_call 61
  refine (kg _ (M.get 1 rfl) (M.get 0 rfl)).mono ?_
  rintro e w3 ⟨a, c, rfl, g, rr⟩
  have M' := M.up rr
  clear M rr z0_0 z0_1 z0_2
  have M := M'; clear M'
  clear g
  go_wp2_with fail
  go_ret
  exact ⟨rfl, M.below⟩
/-- Check, by hand -/
theorem rr_check (h1 : Reads w (.slice p1 l.length q1) l) (h2 : Reads w (.slice p2 d.length q2) d) (s1 : Sm l) (s2 : Sm d) (l1 : l.length ≤ 70000) (l2 : d.length ≤ 70000) :
    Calls Tryz.prog 12 #[.agg #[.bool n, .slice p1 l.length q1, .slice p2 d.length q2]] w fun e w' => e = .returned (.bool (rchk n l d)) ∧ Below w.heap.size w w' := by
  unfold rchk
  cases c1 : ichk n l with
  | false => exact rr_check_1 h1 h2 s1 s2 l1 l2 c1
  | true =>
    cases c2 : chk d with
    | false => exact rr_check_2 h1 h2 s1 s2 l1 l2 c1 c2
    | true =>
      by_cases c3 : d.length = 0
      · rw [show decide (0 < d.length) = false from decide_eq_false (by omega)]
        exact rr_check_3 h1 h2 s1 s2 l1 l2 c1 c2 c3
      · rw [show decide (0 < d.length) = true from decide_eq_true (by omega)]
        by_cases c4 : Nat.gcd (val l) (val d) = 1
        · rw [show decide (Nat.gcd (val l) (val d) = 1) = true by simp [c4]]
          exact rr_check_4 h1 h2 s1 s2 l1 l2 c1 c2 c3 c4
        · rw [show decide (Nat.gcd (val l) (val d) = 1) = false by simp [c4]]
          by_cases c5 : (digs (Nat.gcd (val l) (val d))).length = 1
          · exact rr_check_5 h1 h2 s1 s2 l1 l2 c1 c2 c3 c4 c5
          · exact rr_check_6 h1 h2 s1 s2 l1 l2 c1 c2 c3 c5
end

end Go.Proofs.YtimdinmhphihkaaGreatDoor

namespace Go.Proofs.YtimdinmhphihkaaGreatDoor
open Go Go.Proofs Go.RowKit Go.Shelf Nu

attribute [local go_sem] Oper.semAt_some

section
variable {w : World} {p1 p2 : Option Addr} {q1 q2 : Nat} {n : Bool} {l d : List Nat}
set_option maxRecDepth 100000 in
set_option maxHeartbeats 8000000 in
theorem rr_fit_ok {s : Bool} {L D : List Nat} {X : Rat} (hX : RIs n l d X) (cX : RCan s L D X) (l1 : l.length ≤ 70000) (l2 : d.length ≤ 70000) (h1 : Reads w (.slice p1 l.length q1) l) (h2 : Reads w (.slice p2 d.length q2) d) (hc : rchk n l d = true) :
    Calls Tryz.prog 62 #[.agg #[.bool n, .slice p1 l.length q1, .slice p2 d.length q2]] w fun e w' => ∃ a c a' c', e = .returned (.agg #[.bool s, .slice a L.length c, .slice a' D.length c']) ∧ Reads w' (.slice a L.length c) L ∧ Reads w' (.slice a' D.length c') D ∧ Below w.heap.size w w' := by
  have kc := fun (W : World) (g1 : Reads W (.slice p1 l.length q1) l) (g2 : Reads W (.slice p2 d.length q2) d) => rr_check (n := n) g1 g2 hX.1 hX.2.1 l1 l2
  rw [hc] at kc
  obtain ⟨rfl, rfl, rfl⟩ := (hX.can hc).uniq cX
  have M : Mem w [(w.heap.size + 1, 27, [.bool false, .slice none 0 0, .slice none 0 0]), (w.heap.size, 27, [.bool n, .slice p1 l.length q1, .slice p2 d.length q2])] [(.slice p2 d.length q2, d), (.slice p1 l.length q1, l)] ((w.alloc (.cells #[.bool n, .slice p1 l.length q1, .slice p2 d.length q2] 27)).alloc (.cells #[.bool false, .slice none 0 0, .slice none 0 0] 27)) := by
    have M := (((((Mem.start w).add h1).add h2).new 27 [.bool n, .slice p1 l.length q1, .slice p2 d.length q2]).new 27 [.bool false, .slice none 0 0, .slice none 0 0])
    simpa only [World.size_alloc] using M
  clear hX cX l1 l2 h1 h2 hc
  go_enter Tryz.func62, Tryz.ntmps62
  have z1_0 := M.cell 1 rfl 0 rfl; have z1_1 := M.cell 1 rfl 1 rfl; have z1_2 := M.cell 1 rfl 2 rfl
  go_wp2_with fail
  go_at_call 12
  refine (kc _ (M.get 1 rfl) (M.get 0 rfl)).mono ?_
  rintro e w1 ⟨rfl, rr⟩
  have M' := M.up rr
  clear M rr kc z1_0 z1_1 z1_2
  have M := M'; clear M'
  have z0_0 := M.cell 0 rfl 0 rfl; have z0_1 := M.cell 0 rfl 1 rfl; have z0_2 := M.cell 0 rfl 2 rfl; have z1_0 := M.cell 1 rfl 0 rfl; have z1_1 := M.cell 1 rfl 1 rfl; have z1_2 := M.cell 1 rfl 2 rfl
  have f0_0 := M.fr 0 rfl 0; have f0_1 := M.fr 0 rfl 1; have f0_2 := M.fr 0 rfl 2
  go_wp2_with fail
  have M' := ((M.put 0 rfl rfl 0 (.bool n)).put 0 rfl rfl 1 (.slice p1 l.length q1)).put 0 rfl rfl 2 (.slice p2 d.length q2)
  refine ret_boxN rfl rfl (M'.box 0 rfl) Tryz.underlying27 size_rat rfl ?_
  exact ⟨p1, q1, p2, q2, rfl, M'.get 1 rfl, M'.get 0 rfl, M'.below⟩
set_option maxRecDepth 100000 in
set_option maxHeartbeats 8000000 in
theorem rr_fit_no {s : Bool} {L D : List Nat} {X : Rat} (hX : RIs n l d X) (cX : RCan s L D X) (l1 : l.length ≤ 70000) (l2 : d.length ≤ 70000) (h1 : Reads w (.slice p1 l.length q1) l) (h2 : Reads w (.slice p2 d.length q2) d) (hc : rchk n l d = false) :
    Calls Tryz.prog 62 #[.agg #[.bool n, .slice p1 l.length q1, .slice p2 d.length q2]] w fun e w' => ∃ a c a' c', e = .returned (.agg #[.bool s, .slice a L.length c, .slice a' D.length c']) ∧ Reads w' (.slice a L.length c) L ∧ Reads w' (.slice a' D.length c') D ∧ Below w.heap.size w w' := by
  have kc := fun (W : World) (g1 : Reads W (.slice p1 l.length q1) l) (g2 : Reads W (.slice p2 d.length q2) d) => rr_check (n := n) g1 g2 hX.1 hX.2.1 l1 l2
  rw [hc] at kc
  obtain rfl := hX.zero hc
  obtain ⟨rfl, rfl, rfl⟩ := rcan_zero cX
  have M : Mem w [(w.heap.size + 1, 27, [.bool false, .slice none 0 0, .slice none 0 0]), (w.heap.size, 27, [.bool n, .slice p1 l.length q1, .slice p2 d.length q2])] [(.slice p2 d.length q2, d), (.slice p1 l.length q1, l)] ((w.alloc (.cells #[.bool n, .slice p1 l.length q1, .slice p2 d.length q2] 27)).alloc (.cells #[.bool false, .slice none 0 0, .slice none 0 0] 27)) := by
    have M := (((((Mem.start w).add h1).add h2).new 27 [.bool n, .slice p1 l.length q1, .slice p2 d.length q2]).new 27 [.bool false, .slice none 0 0, .slice none 0 0])
    simpa only [World.size_alloc] using M
  clear hX cX l1 l2 h1 h2 hc
  rw [digs_one1]
  go_enter Tryz.func62, Tryz.ntmps62
  have z1_0 := M.cell 1 rfl 0 rfl; have z1_1 := M.cell 1 rfl 1 rfl; have z1_2 := M.cell 1 rfl 2 rfl
  go_wp2_with fail
  go_at_call 12
  refine (kc _ (M.get 1 rfl) (M.get 0 rfl)).mono ?_
  rintro e w1 ⟨rfl, rr⟩
  have M' := M.up rr
  clear M rr kc z1_0 z1_1 z1_2
  have M := M'; clear M'
  have M1 := ((M.put 0 rfl rfl 0 (.bool false)).put 0 rfl rfl 1 (.slice none 0 0)).put 0 rfl rfl 2 (.slice (some ⟨w1.heap.size, 0, none⟩) 1 1)
  have hf := lit_one (((w1.setCell ⟨w.heap.size + 1, 0, none⟩ (.bool false)).setCell ⟨w.heap.size + 1, 1, none⟩ (.slice none 0 0)).setCell ⟨w.heap.size + 1, 2, none⟩ (.slice (some ⟨w1.heap.size, 0, none⟩) 1 1))
  have hs3 : (((w1.setCell ⟨w.heap.size + 1, 0, none⟩ (.bool false)).setCell ⟨w.heap.size + 1, 1, none⟩ (.slice none 0 0)).setCell ⟨w.heap.size + 1, 2, none⟩ (.slice (some ⟨w1.heap.size, 0, none⟩) 1 1)).heap.size = w1.heap.size := by simp
  rw [hs3] at hf
  have M' := (M1.up ((Below.refl _ _).alloc (Nat.le_refl _) (.cells #[.int .u32 1] 90))).add hf
  have z0 := M.cell 0 rfl 0 rfl; have z1 := M.cell 0 rfl 1 rfl; have z2 := M.cell 0 rfl 2 rfl
  have f0 := M.fr 0 rfl 0; have f1 := M.fr 0 rfl 1; have f2 := M.fr 0 rfl 2
  have q0 := M.lt (k := 0) rfl
  clear M M1 hf hs3
  go_wp2_with fail
  refine ret_boxN rfl rfl (M'.box 0 rfl) Tryz.underlying27 size_rat rfl ?_
  exact ⟨none, 0, some ⟨w1.heap.size, 0, none⟩, 1, rfl, Reads.nil _, M'.get 0 rfl, M'.below⟩
theorem rr_fit {s : Bool} {L D : List Nat} {X : Rat} (hX : RIs n l d X) (cX : RCan s L D X) (l1 : l.length ≤ 70000) (l2 : d.length ≤ 70000) (h1 : Reads w (.slice p1 l.length q1) l) (h2 : Reads w (.slice p2 d.length q2) d) :
    Calls Tryz.prog 62 #[.agg #[.bool n, .slice p1 l.length q1, .slice p2 d.length q2]] w fun e w' => ∃ a c a' c', e = .returned (.agg #[.bool s, .slice a L.length c, .slice a' D.length c']) ∧ Reads w' (.slice a L.length c) L ∧ Reads w' (.slice a' D.length c') D ∧ Below w.heap.size w w' := by
  cases hc : rchk n l d with
  | true => exact rr_fit_ok hX cX l1 l2 h1 h2 hc
  | false => exact rr_fit_no hX cX l1 l2 h1 h2 hc
end

end Go.Proofs.YtimdinmhphihkaaGreatDoor

namespace Go.Proofs.YtimdinmhphihkaaGreatDoor
open Go Go.Proofs Go.RowKit Go.Shelf Nu

attribute [local go_sem] Oper.semAt_some

end Go.Proofs.YtimdinmhphihkaaGreatDoor

namespace Go.Proofs.YtimdinmhphihkaaGreatDoor
open Go Go.Proofs Go.RowKit Go.Shelf Nu

attribute [local go_sem] Oper.semAt_some

end Go.Proofs.YtimdinmhphihkaaGreatDoor
