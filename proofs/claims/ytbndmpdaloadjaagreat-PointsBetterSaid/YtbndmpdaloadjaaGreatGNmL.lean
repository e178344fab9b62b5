/- PointsBetter: whether one value is better is as documented. -/
import Derived.Test.YtbndmpdaloadjaaGreatGNmM
import Derived.Test.YtbndmpdaloadjaaGreatGRrWh
set_option linter.unusedSimpArgs false
set_option linter.unusedVariables false
namespace Go.Proofs.YtbndmpdaloadjaaGreat
open Go Go.Proofs Go.RowKit Go.Shelf Nu
set_option linter.unusedVariables false
set_option linter.unusedSimpArgs false
set_option maxRecDepth 100000

attribute [local go_sem] Oper.semAt_some

theorem rsg_bd {X Y : Rat} {z : Int} (h : z = rsg X Y) : -1 ≤ z ∧ z ≤ 1 := by
  rw [h]; unfold rsg
  split
  · omega
  · split <;> omega
/-- whether one value is better -/
def bet (most : Bool) (X Y : Rat) : Bool := if most then decide (0 < rsg X Y) else decide (rsg X Y < 0)
def gmod (x : MV) (p : List Qr) : Bool := decide (40 < x.vars.length) || (decide (70 < x.rows.length) || (decide (3000 < x.size) || (decide (50 < p.length) || decide (500 < rsize p))))
set_option maxHeartbeats 8000000 in
theorem better_any {w : World} {x : MV} {va ga ra : Option Addr} {vn vc gn gc rn rc : Nat} {q1 q2 : Qr} {p1 o1 p2 o2 : Option Addr} {p1c o1c p2c o2c : Nat} (g1 : Reads w (.slice p1 q1.2.1.length p1c) q1.2.1) (g1' : Reads w (.slice o1 q1.2.2.length o1c) q1.2.2) (g2 : Reads w (.slice p2 q2.2.1.length p2c) q2.2.1) (g2' : Reads w (.slice o2 q2.2.2.length o2c) q2.2.2) (f1 : Fit q1) (f2 : Fit q2) :
    Calls Tryz.prog 8 #[.agg #[.bool x.most, .slice va vn vc, .slice ga gn gc, .slice ra rn rc], .agg #[.bool q1.1, .slice p1 q1.2.1.length p1c, .slice o1 q1.2.2.length o1c], .agg #[.bool q2.1, .slice p2 q2.2.1.length p2c, .slice o2 q2.2.2.length o2c]] w fun e w' => e = .returned (.bool (bet x.most (qval q1) (qval q2))) ∧ Below w.heap.size w w' := by
  obtain ⟨z, hz⟩ : ∃ z, z = rsg (qval q1) (qval q2) := ⟨_, rfl⟩
  have kc := Lib.hid (fun (W : World) (r : Below w.heap.size w W) => r_cmp (w := W) z hz.symm f1.is f2.is f1.2.1 f1.2.2 f2.2.1 f2.2.2 (g1.below r) (g1'.below r) (g2.below r) (g2'.below r))
  have hz2 : -1 ≤ z ∧ z ≤ 1 := rsg_bd hz
  unfold bet
  rw [← hz]
  have M : Mem w [(w.heap.size + 1 + 1, 32, [.bool q2.1, .slice p2 q2.2.1.length p2c, .slice o2 q2.2.2.length o2c]), (w.heap.size + 1, 32, [.bool q1.1, .slice p1 q1.2.1.length p1c, .slice o1 q1.2.2.length o1c]), (w.heap.size, 26, [.bool x.most, .slice va vn vc, .slice ga gn gc, .slice ra rn rc])] [] (((w.alloc (.cells #[.bool x.most, .slice va vn vc, .slice ga gn gc, .slice ra rn rc] 26)).alloc (.cells #[.bool q1.1, .slice p1 q1.2.1.length p1c, .slice o1 q1.2.2.length o1c] 32)).alloc (.cells #[.bool q2.1, .slice p2 q2.2.1.length p2c, .slice o2 q2.2.2.length o2c] 32)) := by
    have M := (((Mem.start w).new 26 [.bool x.most, .slice va vn vc, .slice ga gn gc, .slice ra rn rc]).new 32 [.bool q1.1, .slice p1 q1.2.1.length p1c, .slice o1 q1.2.2.length o1c]).new 32 [.bool q2.1, .slice p2 q2.2.1.length p2c, .slice o2 q2.2.2.length o2c]
    simpa only [World.size_alloc] using M
  clear hz g1 g1' g2 g2' f1 f2
  generalize x.most = mo at *
  generalize q1.2.1.length = a1 at *
  generalize q1.2.2.length = a2 at *
  generalize q2.2.1.length = a3 at *
  generalize q2.2.2.length = a4' at *
  generalize q1.1 = s1 at *
  generalize q2.1 = s2 at *
  cases mo with
  | false =>
    go_enter Tryz.func8, Tryz.ntmps8
    have z0_0 := M.cell 0 rfl 0 rfl; have z0_1 := M.cell 0 rfl 1 rfl; have z0_2 := M.cell 0 rfl 2 rfl; have z1_0 := M.cell 1 rfl 0 rfl; have z1_1 := M.cell 1 rfl 1 rfl; have z1_2 := M.cell 1 rfl 2 rfl; have z2_0 := M.cell 2 rfl 0 rfl; have z2_1 := M.cell 2 rfl 1 rfl; have z2_2 := M.cell 2 rfl 2 rfl; have z2_3 := M.cell 2 rfl 3 rfl
    go_wp2_with fail
    clear z0_0 z0_1 z0_2 z1_0 z1_1 z1_2 z2_0 z2_1 z2_2 z2_3
    refine (kc.out _ M.below).mono ?_
    rintro e w1 ⟨rfl, rr⟩
    have M' := M.up rr
    clear M rr
    have M := M'; clear M'
    have z0_0 := M.cell 0 rfl 0 rfl; have z0_1 := M.cell 0 rfl 1 rfl; have z0_2 := M.cell 0 rfl 2 rfl; have z1_0 := M.cell 1 rfl 0 rfl; have z1_1 := M.cell 1 rfl 1 rfl; have z1_2 := M.cell 1 rfl 2 rfl; have z2_0 := M.cell 2 rfl 0 rfl; have z2_1 := M.cell 2 rfl 1 rfl; have z2_2 := M.cell 2 rfl 2 rfl; have z2_3 := M.cell 2 rfl 3 rfl
    go_wp2_with fail
    go_ret
    exact ⟨rfl, M.below⟩
  | true =>
    go_enter Tryz.func8, Tryz.ntmps8
    have z0_0 := M.cell 0 rfl 0 rfl; have z0_1 := M.cell 0 rfl 1 rfl; have z0_2 := M.cell 0 rfl 2 rfl; have z1_0 := M.cell 1 rfl 0 rfl; have z1_1 := M.cell 1 rfl 1 rfl; have z1_2 := M.cell 1 rfl 2 rfl; have z2_0 := M.cell 2 rfl 0 rfl; have z2_1 := M.cell 2 rfl 1 rfl; have z2_2 := M.cell 2 rfl 2 rfl; have z2_3 := M.cell 2 rfl 3 rfl
    go_wp2_with fail
    clear z0_0 z0_1 z0_2 z1_0 z1_1 z1_2 z2_0 z2_1 z2_2 z2_3
    refine (kc.out _ M.below).mono ?_
    rintro e w1 ⟨rfl, rr⟩
    have M' := M.up rr
    clear M rr
    have M := M'; clear M'
    have z0_0 := M.cell 0 rfl 0 rfl; have z0_1 := M.cell 0 rfl 1 rfl; have z0_2 := M.cell 0 rfl 2 rfl; have z1_0 := M.cell 1 rfl 0 rfl; have z1_1 := M.cell 1 rfl 1 rfl; have z1_2 := M.cell 1 rfl 2 rfl; have z2_0 := M.cell 2 rfl 0 rfl; have z2_1 := M.cell 2 rfl 1 rfl; have z2_2 := M.cell 2 rfl 2 rfl; have z2_3 := M.cell 2 rfl 3 rfl
    go_wp2_with fail
    go_ret
    exact ⟨rfl, M.below⟩
set_option maxHeartbeats 8000000 in
theorem rn_better {w : World} {x : MV} {va ga ra : Option Addr} {vn vc gn gc rn rc : Nat} {q1 q2 : Qr} {p1 o1 p2 o2 : Option Addr} {p1c o1c p2c o2c : Nat} (g1 : Reads w (.slice p1 q1.2.1.length p1c) q1.2.1) (g1' : Reads w (.slice o1 q1.2.2.length o1c) q1.2.2) (g2 : Reads w (.slice p2 q2.2.1.length p2c) q2.2.1) (g2' : Reads w (.slice o2 q2.2.2.length o2c) q2.2.2) (f1 : Fit q1) (f2 : Fit q2) :
    Calls Tryz.prog 9 #[.agg #[.bool x.most, .slice va vn vc, .slice ga gn gc, .slice ra rn rc], .agg #[.bool q1.1, .slice p1 q1.2.1.length p1c, .slice o1 q1.2.2.length o1c], .agg #[.bool q2.1, .slice p2 q2.2.1.length p2c, .slice o2 q2.2.2.length o2c]] w fun e w' => e = .returned (.bool (bet x.most (qval q1) (qval q2))) ∧ Below w.heap.size w w' := by
  obtain ⟨z, hz⟩ : ∃ z, z = rsg (qval q1) (qval q2) := ⟨_, rfl⟩
  have kc := Lib.hid (fun (W : World) (r : Below w.heap.size w W) => rr_cmp (w := W) z hz.symm f1.is f2.is f1.2.1 f1.2.2 f2.2.1 f2.2.2 (g1.below r) (g1'.below r) (g2.below r) (g2'.below r))
  have hz2 : -1 ≤ z ∧ z ≤ 1 := rsg_bd hz
  unfold bet
  rw [← hz]
  have M : Mem w [(w.heap.size + 1 + 1, 32, [.bool q2.1, .slice p2 q2.2.1.length p2c, .slice o2 q2.2.2.length o2c]), (w.heap.size + 1, 32, [.bool q1.1, .slice p1 q1.2.1.length p1c, .slice o1 q1.2.2.length o1c]), (w.heap.size, 26, [.bool x.most, .slice va vn vc, .slice ga gn gc, .slice ra rn rc])] [] (((w.alloc (.cells #[.bool x.most, .slice va vn vc, .slice ga gn gc, .slice ra rn rc] 26)).alloc (.cells #[.bool q1.1, .slice p1 q1.2.1.length p1c, .slice o1 q1.2.2.length o1c] 32)).alloc (.cells #[.bool q2.1, .slice p2 q2.2.1.length p2c, .slice o2 q2.2.2.length o2c] 32)) := by
    have M := (((Mem.start w).new 26 [.bool x.most, .slice va vn vc, .slice ga gn gc, .slice ra rn rc]).new 32 [.bool q1.1, .slice p1 q1.2.1.length p1c, .slice o1 q1.2.2.length o1c]).new 32 [.bool q2.1, .slice p2 q2.2.1.length p2c, .slice o2 q2.2.2.length o2c]
    simpa only [World.size_alloc] using M
  clear hz g1 g1' g2 g2' f1 f2
  generalize x.most = mo at *
  generalize q1.2.1.length = a1 at *
  generalize q1.2.2.length = a2 at *
  generalize q2.2.1.length = a3 at *
  generalize q2.2.2.length = a4' at *
  generalize q1.1 = s1 at *
  generalize q2.1 = s2 at *
  cases mo with
  | false =>
    go_enter Tryz.func9, Tryz.ntmps9
    have z0_0 := M.cell 0 rfl 0 rfl; have z0_1 := M.cell 0 rfl 1 rfl; have z0_2 := M.cell 0 rfl 2 rfl; have z1_0 := M.cell 1 rfl 0 rfl; have z1_1 := M.cell 1 rfl 1 rfl; have z1_2 := M.cell 1 rfl 2 rfl; have z2_0 := M.cell 2 rfl 0 rfl; have z2_1 := M.cell 2 rfl 1 rfl; have z2_2 := M.cell 2 rfl 2 rfl; have z2_3 := M.cell 2 rfl 3 rfl
    go_wp2_with fail
    clear z0_0 z0_1 z0_2 z1_0 z1_1 z1_2 z2_0 z2_1 z2_2 z2_3
    refine (kc.out _ M.below).mono ?_
    rintro e w1 ⟨rfl, rr⟩
    have M' := M.up rr
    clear M rr
    have M := M'; clear M'
    have z0_0 := M.cell 0 rfl 0 rfl; have z0_1 := M.cell 0 rfl 1 rfl; have z0_2 := M.cell 0 rfl 2 rfl; have z1_0 := M.cell 1 rfl 0 rfl; have z1_1 := M.cell 1 rfl 1 rfl; have z1_2 := M.cell 1 rfl 2 rfl; have z2_0 := M.cell 2 rfl 0 rfl; have z2_1 := M.cell 2 rfl 1 rfl; have z2_2 := M.cell 2 rfl 2 rfl; have z2_3 := M.cell 2 rfl 3 rfl
    go_wp2_with fail
    go_ret
    exact ⟨rfl, M.below⟩
  | true =>
    go_enter Tryz.func9, Tryz.ntmps9
    have z0_0 := M.cell 0 rfl 0 rfl; have z0_1 := M.cell 0 rfl 1 rfl; have z0_2 := M.cell 0 rfl 2 rfl; have z1_0 := M.cell 1 rfl 0 rfl; have z1_1 := M.cell 1 rfl 1 rfl; have z1_2 := M.cell 1 rfl 2 rfl; have z2_0 := M.cell 2 rfl 0 rfl; have z2_1 := M.cell 2 rfl 1 rfl; have z2_2 := M.cell 2 rfl 2 rfl; have z2_3 := M.cell 2 rfl 3 rfl
    go_wp2_with fail
    clear z0_0 z0_1 z0_2 z1_0 z1_1 z1_2 z2_0 z2_1 z2_2 z2_3
    refine (kc.out _ M.below).mono ?_
    rintro e w1 ⟨rfl, rr⟩
    have M' := M.up rr
    clear M rr
    have M := M'; clear M'
    have z0_0 := M.cell 0 rfl 0 rfl; have z0_1 := M.cell 0 rfl 1 rfl; have z0_2 := M.cell 0 rfl 2 rfl; have z1_0 := M.cell 1 rfl 0 rfl; have z1_1 := M.cell 1 rfl 1 rfl; have z1_2 := M.cell 1 rfl 2 rfl; have z2_0 := M.cell 2 rfl 0 rfl; have z2_1 := M.cell 2 rfl 1 rfl; have z2_2 := M.cell 2 rfl 2 rfl; have z2_3 := M.cell 2 rfl 3 rfl
    go_wp2_with fail
    go_ret
    exact ⟨rfl, M.below⟩
set_option maxHeartbeats 16000000 in
theorem great_any {w : World} {x : MV} {va ga ra : Option Addr} {vn vc gn gc rn rc : Nat} (hV : VarsR w (.slice va vn vc) x.vars) (hG : VReads w (.slice ga gn gc) x.goal) (hR : RowsR w (.slice ra rn rc) x.rows) (hb : x.Big) {pa : Option Addr} {pn pc : Nat} {p : List Qr} (hp : VReads w (.slice pa pn pc) p) (hpn : pn ≤ 70368744177664) (hpb : ∀ q ∈ p, Big q) :
    Calls Tryz.prog 5 #[.agg #[.bool x.most, .slice va vn vc, .slice ga gn gc, .slice ra rn rc], .slice pa pn pc] w fun e w' => e = .returned (.bool (gmod x p)) ∧ Below w.heap.size w w' := by
  have HX := Lib.hid (show BoxN (w.alloc (.cells #[.bool x.most, .slice va vn vc, .slice ga gn gc, .slice ra rn rc] 26)) w.heap.size 26 #[.bool x.most, .slice va vn vc, .slice ga gn gc, .slice ra rn rc] from BoxN.new w _ _)
  have HB := Lib.hid (show Below w.heap.size w (w.alloc (.cells #[.bool x.most, .slice va vn vc, .slice ga gn gc, .slice ra rn rc] 26)) from (Below.refl _ _).alloc (Nat.le_refl _) _)
  have EQ := Lib.hid (show vn = x.vars.length ∧ rn = x.rows.length ∧ pn = p.length from ⟨hV.addr.1, hR.addr.1, hp.addr.1⟩)
  have hvn : vn ≤ 70368744177664 := by rw [EQ.out.1]; exact hb.1.1
  have hrn : rn ≤ 70368744177664 := by rw [EQ.out.2.1]; exact hb.2.2.1
  obtain ⟨S, hS⟩ : ∃ S, S = x.size := ⟨_, rfl⟩
  have k1 := Lib.hid (fun (W : World) (r : Below w.heap.size w W) => modelSize_any (hV.below r) (hG.below r) (hR.below r) hb)
  rw [← hS] at k1
  obtain ⟨P, hP⟩ : ∃ P, P = rsize p := ⟨_, rfl⟩
  have k2 := Lib.hid (fun (W : World) (r : Below w.heap.size w W) => ratsSize_any (hp.below r) hpb hpn)
  rw [show ssz pn p = P by rw [hP, EQ.out.2.2]; rfl] at k2
  have hSle : S ≤ 4000000000000000 := by
    rw [hS]
    have h1 := vsz_le hb.1
    have h2 := rsize_le hb.2.1
    have h3 := wsz_le hb.2.2
    unfold MV.size
    have q1 := a4_le (a4 (a4 1 (lsz Vr.size x.vars.length x.vars)) (rsize x.goal)) (lsz Rw.size x.rows.length x.rows)
    have q2 := a4_le (a4 1 (lsz Vr.size x.vars.length x.vars)) (rsize x.goal)
    have q3 := a4_le 1 (lsz Vr.size x.vars.length x.vars)
    omega
  have hPle : P ≤ 200000000000000 := by rw [hP]; exact rsize_le ⟨by rw [← EQ.out.2.2]; exact hpn, hpb⟩
  have hR0 : gmod x p = (decide (40 < vn) || (decide (70 < rn) || (decide (3000 < S) || (decide (50 < pn) || decide (500 < P))))) := by rw [hS, hP, EQ.out.1, EQ.out.2.1, EQ.out.2.2]; rfl
  rw [hR0]
  clear hS hP hR0 hV hG hR hb hp hpb EQ
  by_cases c0 : 40 < vn
  · have j0 : (40 : Int) < (vn : Int) := by omega
    have j0' : decide ((40 : Int) < (vn : Int)) = true := decide_eq_true j0
    have hR : (decide (40 < vn) || (decide (70 < rn) || (decide (3000 < S) || (decide (50 < pn) || decide (500 < P))))) = true := by rw [decide_eq_true c0]; simp
    rw [hR]
    clear hR c0 k1 k2
    go_enter Tryz.func5, Tryz.ntmps5
    have z0 := HX.out.cell 0 _ rfl; have z1 := HX.out.cell 1 _ rfl; have z2 := HX.out.cell 2 _ rfl; have z3 := HX.out.cell 3 _ rfl
    go_wp2_with fail
    go_ret
    exact ⟨rfl, HB.out⟩
  · by_cases c1 : 70 < rn
    · have j0 : ¬ (40 : Int) < (vn : Int) := by omega
      have j0' : decide ((40 : Int) < (vn : Int)) = false := decide_eq_false j0
      have j1 : (70 : Int) < (rn : Int) := by omega
      have j1' : decide ((70 : Int) < (rn : Int)) = true := decide_eq_true j1
      have hR : (decide (40 < vn) || (decide (70 < rn) || (decide (3000 < S) || (decide (50 < pn) || decide (500 < P))))) = true := by rw [decide_eq_false c0, decide_eq_true c1]; simp
      rw [hR]
      clear hR c0 c1 k1 k2
      go_enter Tryz.func5, Tryz.ntmps5
      have z0 := HX.out.cell 0 _ rfl; have z1 := HX.out.cell 1 _ rfl; have z2 := HX.out.cell 2 _ rfl; have z3 := HX.out.cell 3 _ rfl
      go_wp2_with fail
      go_ret
      exact ⟨rfl, HB.out⟩
    · by_cases c2 : 3000 < S
      · have j0 : ¬ (40 : Int) < (vn : Int) := by omega
        have j0' : decide ((40 : Int) < (vn : Int)) = false := decide_eq_false j0
        have j1 : ¬ (70 : Int) < (rn : Int) := by omega
        have j1' : decide ((70 : Int) < (rn : Int)) = false := decide_eq_false j1
        have j2 : (3000 : Int) < (S : Int) := by omega
        have j2' : decide ((3000 : Int) < (S : Int)) = true := decide_eq_true j2
        have hR : (decide (40 < vn) || (decide (70 < rn) || (decide (3000 < S) || (decide (50 < pn) || decide (500 < P))))) = true := by rw [decide_eq_false c0, decide_eq_false c1, decide_eq_true c2]; simp
        rw [hR]
        clear hR c0 c1 c2 k2
        go_enter Tryz.func5, Tryz.ntmps5
        have z0 := HX.out.cell 0 _ rfl; have z1 := HX.out.cell 1 _ rfl; have z2 := HX.out.cell 2 _ rfl; have z3 := HX.out.cell 3 _ rfl
        go_wp2_with fail
        clear z0 z1 z2 z3
        refine (k1.out _ HB.out).mono ?_
        rintro e w1 ⟨rfl, rr⟩
        have HX := Lib.hid (HX.out.under rr)
        have HB1 := Lib.hid (then_below HB.out rr)
        clear rr k1
        have z0 := HX.out.cell 0 _ rfl; have z1 := HX.out.cell 1 _ rfl; have z2 := HX.out.cell 2 _ rfl; have z3 := HX.out.cell 3 _ rfl
        go_wp2_with fail
        go_ret
        exact ⟨rfl, HB1.out⟩
      · by_cases c3 : 50 < pn
        · have j0 : ¬ (40 : Int) < (vn : Int) := by omega
          have j0' : decide ((40 : Int) < (vn : Int)) = false := decide_eq_false j0
          have j1 : ¬ (70 : Int) < (rn : Int) := by omega
          have j1' : decide ((70 : Int) < (rn : Int)) = false := decide_eq_false j1
          have j2 : ¬ (3000 : Int) < (S : Int) := by omega
          have j2' : decide ((3000 : Int) < (S : Int)) = false := decide_eq_false j2
          have j3 : (50 : Int) < (pn : Int) := by omega
          have j3' : decide ((50 : Int) < (pn : Int)) = true := decide_eq_true j3
          have hR : (decide (40 < vn) || (decide (70 < rn) || (decide (3000 < S) || (decide (50 < pn) || decide (500 < P))))) = true := by rw [decide_eq_false c0, decide_eq_false c1, decide_eq_false c2, decide_eq_true c3]; simp
          rw [hR]
          clear hR c0 c1 c2 c3 k2
          go_enter Tryz.func5, Tryz.ntmps5
          have z0 := HX.out.cell 0 _ rfl; have z1 := HX.out.cell 1 _ rfl; have z2 := HX.out.cell 2 _ rfl; have z3 := HX.out.cell 3 _ rfl
          go_wp2_with fail
          clear z0 z1 z2 z3
          refine (k1.out _ HB.out).mono ?_
          rintro e w1 ⟨rfl, rr⟩
          have HX := Lib.hid (HX.out.under rr)
          have HB1 := Lib.hid (then_below HB.out rr)
          clear rr k1
          have z0 := HX.out.cell 0 _ rfl; have z1 := HX.out.cell 1 _ rfl; have z2 := HX.out.cell 2 _ rfl; have z3 := HX.out.cell 3 _ rfl
          go_wp2_with fail
          go_ret
          exact ⟨rfl, HB1.out⟩
        · by_cases c4 : 500 < P
          · have j0 : ¬ (40 : Int) < (vn : Int) := by omega
            have j0' : decide ((40 : Int) < (vn : Int)) = false := decide_eq_false j0
            have j1 : ¬ (70 : Int) < (rn : Int) := by omega
            have j1' : decide ((70 : Int) < (rn : Int)) = false := decide_eq_false j1
            have j2 : ¬ (3000 : Int) < (S : Int) := by omega
            have j2' : decide ((3000 : Int) < (S : Int)) = false := decide_eq_false j2
            have j3 : ¬ (50 : Int) < (pn : Int) := by omega
            have j3' : decide ((50 : Int) < (pn : Int)) = false := decide_eq_false j3
            have j4 : (500 : Int) < (P : Int) := by omega
            have j4' : decide ((500 : Int) < (P : Int)) = true := decide_eq_true j4
            have hR : (decide (40 < vn) || (decide (70 < rn) || (decide (3000 < S) || (decide (50 < pn) || decide (500 < P))))) = true := by rw [decide_eq_false c0, decide_eq_false c1, decide_eq_false c2, decide_eq_false c3, decide_eq_true c4]; simp
            rw [hR]
            clear hR c0 c1 c2 c3 c4 
            go_enter Tryz.func5, Tryz.ntmps5
            have z0 := HX.out.cell 0 _ rfl; have z1 := HX.out.cell 1 _ rfl; have z2 := HX.out.cell 2 _ rfl; have z3 := HX.out.cell 3 _ rfl
            go_wp2_with fail
            clear z0 z1 z2 z3
            refine (k1.out _ HB.out).mono ?_
            rintro e w1 ⟨rfl, rr⟩
            have HX := Lib.hid (HX.out.under rr)
            have HB1 := Lib.hid (then_below HB.out rr)
            clear rr k1
            have z0 := HX.out.cell 0 _ rfl; have z1 := HX.out.cell 1 _ rfl; have z2 := HX.out.cell 2 _ rfl; have z3 := HX.out.cell 3 _ rfl
            go_wp2_with fail
            clear z0 z1 z2 z3
            refine (k2.out _ HB1.out).mono ?_
            rintro e w2 ⟨rfl, rr⟩
            have HX := Lib.hid (HX.out.under rr)
            have HB2 := Lib.hid (then_below HB1.out rr)
            clear rr k2
            have z0 := HX.out.cell 0 _ rfl; have z1 := HX.out.cell 1 _ rfl; have z2 := HX.out.cell 2 _ rfl; have z3 := HX.out.cell 3 _ rfl
            go_wp2_with fail
            go_ret
            exact ⟨rfl, HB2.out⟩
          · have j0 : ¬ (40 : Int) < (vn : Int) := by omega
            have j0' : decide ((40 : Int) < (vn : Int)) = false := decide_eq_false j0
            have j1 : ¬ (70 : Int) < (rn : Int) := by omega
            have j1' : decide ((70 : Int) < (rn : Int)) = false := decide_eq_false j1
            have j2 : ¬ (3000 : Int) < (S : Int) := by omega
            have j2' : decide ((3000 : Int) < (S : Int)) = false := decide_eq_false j2
            have j3 : ¬ (50 : Int) < (pn : Int) := by omega
            have j3' : decide ((50 : Int) < (pn : Int)) = false := decide_eq_false j3
            have j4 : ¬ (500 : Int) < (P : Int) := by omega
            have j4' : decide ((500 : Int) < (P : Int)) = false := decide_eq_false j4
            have hR : (decide (40 < vn) || (decide (70 < rn) || (decide (3000 < S) || (decide (50 < pn) || decide (500 < P))))) = false := by rw [decide_eq_false c0, decide_eq_false c1, decide_eq_false c2, decide_eq_false c3, decide_eq_false c4]; simp
            rw [hR]
            clear hR c0 c1 c2 c3 c4 
            go_enter Tryz.func5, Tryz.ntmps5
            have z0 := HX.out.cell 0 _ rfl; have z1 := HX.out.cell 1 _ rfl; have z2 := HX.out.cell 2 _ rfl; have z3 := HX.out.cell 3 _ rfl
            go_wp2_with fail
            clear z0 z1 z2 z3
            refine (k1.out _ HB.out).mono ?_
            rintro e w1 ⟨rfl, rr⟩
            have HX := Lib.hid (HX.out.under rr)
            have HB1 := Lib.hid (then_below HB.out rr)
            clear rr k1
            have z0 := HX.out.cell 0 _ rfl; have z1 := HX.out.cell 1 _ rfl; have z2 := HX.out.cell 2 _ rfl; have z3 := HX.out.cell 3 _ rfl
            go_wp2_with fail
            clear z0 z1 z2 z3
            refine (k2.out _ HB1.out).mono ?_
            rintro e w2 ⟨rfl, rr⟩
            have HX := Lib.hid (HX.out.under rr)
            have HB2 := Lib.hid (then_below HB1.out rr)
            clear rr k2
            have z0 := HX.out.cell 0 _ rfl; have z1 := HX.out.cell 1 _ rfl; have z2 := HX.out.cell 2 _ rfl; have z3 := HX.out.cell 3 _ rfl
            go_wp2_with fail
            go_ret
            exact ⟨rfl, HB2.out⟩
end Go.Proofs.YtbndmpdaloadjaaGreat
