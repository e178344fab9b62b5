/- PointsBetter: the law. -/
import Derived.Test.YtbndmpdaloadjaaGreatGNmL
set_option linter.unusedSimpArgs false
set_option linter.unusedVariables false
namespace Go.Proofs.YtbndmpdaloadjaaGreat
open Go Go.Proofs Go.RowKit Go.Shelf Nu
set_option linter.unusedVariables false
set_option linter.unusedSimpArgs false
set_option maxRecDepth 100000

attribute [local go_sem] Oper.semAt_some

theorem reads_two {W : World} {q1 q2 : Qr} {p1 o1 p2 o2 : Option Addr} {p1c o1c p2c o2c : Nat} (g1 : Reads W (.slice p1 q1.2.1.length p1c) q1.2.1) (g1' : Reads W (.slice o1 q1.2.2.length o1c) q1.2.2) (g2 : Reads W (.slice p2 q2.2.1.length p2c) q2.2.1) (g2' : Reads W (.slice o2 q2.2.2.length o2c) q2.2.2) :
    VReads (W.alloc (.cells #[.bool q1.1, .slice p1 q1.2.1.length p1c, .slice o1 q1.2.2.length o1c, .bool q2.1, .slice p2 q2.2.1.length p2c, .slice o2 q2.2.2.length o2c] 32)) (.slice (some ⟨W.heap.size, 0, none⟩) 2 2) [q1, q2] := by
  have hB := BoxN.new W 32 #[.bool q1.1, .slice p1 q1.2.1.length p1c, .slice o1 q1.2.2.length o1c, .bool q2.1, .slice p2 q2.2.1.length p2c, .slice o2 q2.2.2.length o2c]
  have al : Below W.heap.size W (W.alloc (.cells #[.bool q1.1, .slice p1 q1.2.1.length p1c, .slice o1 q1.2.2.length o1c, .bool q2.1, .slice p2 q2.2.1.length p2c, .slice o2 q2.2.2.length o2c] 32)) := (Below.refl _ _).alloc (Nat.le_refl _) _
  refine .inr (.inl ⟨W.heap.size, 0, 2, rfl, hB.lt, Nat.le_refl _, fun j q hq => ?_⟩)
  match j with
  | 0 =>
    obtain rfl : q1 = q := by simpa using hq
    exact ⟨p1, p1c, o1, o1c, hB.cell 0 _ rfl, hB.cell 1 _ rfl, hB.cell 2 _ rfl, g1.below al, g1'.below al⟩
  | 1 =>
    obtain rfl : q2 = q := by simpa using hq
    exact ⟨p2, p2c, o2, o2c, hB.cell 3 _ rfl, hB.cell 4 _ rfl, hB.cell 5 _ rfl, g2.below al, g2'.below al⟩
  | j + 2 => simp at hq
/-- what is not too great -/
theorem gmod_no {x : MV} {p : List Qr} (hb : x.Big) (hpb : ∀ q ∈ p, Big q) (h : gmod x p = false) : x.Mod ∧ ∀ q ∈ p, Fit q := by
  unfold gmod at h
  simp only [Bool.or_eq_false_iff, decide_eq_false_iff_not] at h
  obtain ⟨h1, h2, h3, h4, h5⟩ := h
  have h3 : x.size ≤ 3000 := by omega
  unfold MV.size at h3
  have k3 := a4_small (by omega) h3
  have k2 := a4_small (by omega) (show a4 (a4 1 (lsz Vr.size x.vars.length x.vars)) (rsize x.goal) ≤ 3000 by omega)
  have k1 := a4_small (by omega) (show a4 1 (lsz Vr.size x.vars.length x.vars) ≤ 3000 by omega)
  have hv := lsz_small Vr.size (M := 3000) (by omega) (show lsz Vr.size x.vars.length x.vars ≤ 3000 by omega)
  have hr := lsz_small Rw.size (M := 3000) (by omega) (show lsz Rw.size x.rows.length x.rows ≤ 3000 by omega)
  have one : ∀ l : List Qr, rsize l ≤ 3000 → (∀ q ∈ l, Big q) → l.length ≤ 65536 ∧ ∀ q ∈ l, q.2.1.length ≤ 100000 ∧ q.2.2.length ≤ 100000 := by
    intro l hl hB
    have h5 := ssz_small (M := 3000) (by omega) hl
    have hf := fit_of_small (M := 3000) (by omega) hB hl
    exact ⟨by omega, fun q hq => by have := (hf q hq).2; omega⟩
  have rz : ∀ a b : Nat, rsz a b ≤ 3000 → a ≤ 100000 ∧ b ≤ 100000 := by
    intro a b h
    unfold rsz at h
    split at h <;> omega
  refine ⟨⟨⟨by omega, fun y hy => ?_⟩, one x.goal (by omega) hb.2.1.2, by omega, fun y hy => ?_⟩, fit_of_small (M := 500) (by omega) hpb (show ssz p.length p ≤ 500 from (show rsize p ≤ 500 by omega))⟩
  · have h6 : y.size ≤ 3000 := by have := lsum_mem Vr.size hy; omega
    unfold Vr.size at h6
    have h7 := a4_small (by omega) h6
    have h8 := a4_small (by omega) (show a4 (1 + y.name.size) (rsz y.low.2.1.length y.low.2.2.length) ≤ 3000 by omega)
    exact ⟨rz _ _ (by omega), rz _ _ (by omega)⟩
  · have h6 : y.size ≤ 3000 := by have := lsum_mem Rw.size hy; omega
    unfold Rw.size at h6
    have h7 := a4_small (by omega) h6
    have h8 := a4_small (by omega) (show a4 1 (rsize y.coef) ≤ 3000 by omega)
    exact ⟨one _ (by omega) (hb.2.2.2 y hy).1.2, rz _ _ (by omega)⟩
set_option maxHeartbeats 32000000 in
theorem better_law {w : World} {x : MV} {va ga ra : Option Addr} {vn vc gn gc rn rc : Nat} (hV : VarsR w (.slice va vn vc) x.vars) (hG : VReads w (.slice ga gn gc) x.goal) (hR : RowsR w (.slice ra rn rc) x.rows) (hb : x.Big) {q1 q2 : Qr} {p1 o1 p2 o2 : Option Addr} {p1c o1c p2c o2c : Nat} (g1 : Reads w (.slice p1 q1.2.1.length p1c) q1.2.1) (g1' : Reads w (.slice o1 q1.2.2.length o1c) q1.2.2) (u1 : Big q1) (g2 : Reads w (.slice p2 q2.2.1.length p2c) q2.2.1) (g2' : Reads w (.slice o2 q2.2.2.length o2c) q2.2.2) (u2 : Big q2) :
    Calls Tryz.prog 3 #[.agg #[.bool x.most, .slice va vn vc, .slice ga gn gc, .slice ra rn rc], .agg #[.bool q1.1, .slice p1 q1.2.1.length p1c, .slice o1 q1.2.2.length o1c], .agg #[.bool q2.1, .slice p2 q2.2.1.length p2c, .slice o2 q2.2.2.length o2c]] w fun e w' => e = .returned (.bool true) ∧ Below w.heap.size w w' := by
  have HX := Lib.hid (((BoxN.new w 26 #[.bool x.most, .slice va vn vc, .slice ga gn gc, .slice ra rn rc]).alloc (.cells #[.bool q1.1, .slice p1 q1.2.1.length p1c, .slice o1 q1.2.2.length o1c] 32)).alloc (.cells #[.bool q2.1, .slice p2 q2.2.1.length p2c, .slice o2 q2.2.2.length o2c] 32))
  have HP := Lib.hid ((BoxN.new1 w (.cells #[.bool x.most, .slice va vn vc, .slice ga gn gc, .slice ra rn rc] 26) 32 #[.bool q1.1, .slice p1 q1.2.1.length p1c, .slice o1 q1.2.2.length o1c]).alloc (.cells #[.bool q2.1, .slice p2 q2.2.1.length p2c, .slice o2 q2.2.2.length o2c] 32))
  have HQ := Lib.hid (BoxN.new2 w (.cells #[.bool x.most, .slice va vn vc, .slice ga gn gc, .slice ra rn rc] 26) (.cells #[.bool q1.1, .slice p1 q1.2.1.length p1c, .slice o1 q1.2.2.length o1c] 32) 32 #[.bool q2.1, .slice p2 q2.2.1.length p2c, .slice o2 q2.2.2.length o2c])
  have al1 := (Below.refl w.heap.size w).alloc (Nat.le_refl _) (.cells #[.bool x.most, .slice va vn vc, .slice ga gn gc, .slice ra rn rc] 26)
  have al2 := al1.alloc al1.size (.cells #[.bool q1.1, .slice p1 q1.2.1.length p1c, .slice o1 q1.2.2.length o1c] 32)
  have HB := Lib.hid (al2.alloc al2.size (.cells #[.bool q2.1, .slice p2 q2.2.1.length p2c, .slice o2 q2.2.2.length o2c] 32))
  clear al1 al2
  have hp2 : ∀ q ∈ [q1, q2], Big q := fun q hq => by
    rcases List.mem_cons.1 hq with rfl | hq
    · exact u1
    · obtain rfl := List.mem_singleton.1 hq; exact u2
  obtain ⟨G, hG0⟩ : ∃ G, G = gmod x [q1, q2] := ⟨_, rfl⟩
  have kg := Lib.hid (fun (W : World) (r : Below w.heap.size w W) => show Calls Tryz.prog 5 #[.agg #[.bool x.most, .slice va vn vc, .slice ga gn gc, .slice ra rn rc], .slice (some ⟨W.heap.size, 0, none⟩) 2 2] (W.alloc (.cells #[.bool q1.1, .slice p1 q1.2.1.length p1c, .slice o1 q1.2.2.length o1c, .bool q2.1, .slice p2 q2.2.1.length p2c, .slice o2 q2.2.2.length o2c] 32)) (fun e w' => e = .returned (.bool (gmod x [q1, q2])) ∧ Below (W.alloc (.cells #[.bool q1.1, .slice p1 q1.2.1.length p1c, .slice o1 q1.2.2.length o1c, .bool q2.1, .slice p2 q2.2.1.length p2c, .slice o2 q2.2.2.length o2c] 32)).heap.size (W.alloc (.cells #[.bool q1.1, .slice p1 q1.2.1.length p1c, .slice o1 q1.2.2.length o1c, .bool q2.1, .slice p2 q2.2.1.length p2c, .slice o2 q2.2.2.length o2c] 32)) w') from by
    have al : Below W.heap.size W (W.alloc (.cells #[.bool q1.1, .slice p1 q1.2.1.length p1c, .slice o1 q1.2.2.length o1c, .bool q2.1, .slice p2 q2.2.1.length p2c, .slice o2 q2.2.2.length o2c] 32)) := (Below.refl W.heap.size W).alloc (Nat.le_refl _) _
    have v1 := VarsR.below (VarsR.below hV r) al
    have v2 := (hG.below r).below al
    have v3 := RowsR.below (RowsR.below hR r) al
    have v4 := reads_two (g1.below r) (g1'.below r) (g2.below r) (g2'.below r)
    exact great_any v1 v2 v3 hb v4 (by omega) hp2)
  rw [← hG0] at kg
  cases G with
  | true =>
    clear hV hG hR hb g1 g1' u1 g2 g2' u2 hp2 hG0
    go_enter Tryz.func3, Tryz.ntmps3
    have zx0 := HX.out.cell 0 _ rfl; have zx1 := HX.out.cell 1 _ rfl; have zx2 := HX.out.cell 2 _ rfl; have zx3 := HX.out.cell 3 _ rfl; have zp0 := HP.out.cell 0 _ rfl; have zp1 := HP.out.cell 1 _ rfl; have zp2 := HP.out.cell 2 _ rfl; have zq0 := HQ.out.cell 0 _ rfl; have zq1 := HQ.out.cell 1 _ rfl; have zq2 := HQ.out.cell 2 _ rfl; have zz0 := HX.out.lt; have zz1 := HP.out.lt; have zz2 := HQ.out.lt
    go_wp2_with fail
    clear zx0 zx1 zx2 zx3 zp0 zp1 zp2 zq0 zq1 zq2 zz0 zz1 zz2
    have kg1 := kg.out _ HB.out
    simp only [World.size_alloc] at kg1
    refine kg1.mono ?_
    rintro e w1 ⟨rfl, rr0⟩
    obtain ⟨U, hU⟩ : ∃ U, U = ((w.alloc (.cells #[.bool x.most, .slice va vn vc, .slice ga gn gc, .slice ra rn rc] 26)).alloc (.cells #[.bool q1.1, .slice p1 q1.2.1.length p1c, .slice o1 q1.2.2.length o1c] 32)).alloc (.cells #[.bool q2.1, .slice p2 q2.2.1.length p2c, .slice o2 q2.2.2.length o2c] 32) := ⟨_, rfl⟩
    have rr : Below (U.alloc (.cells #[.bool q1.1, .slice p1 q1.2.1.length p1c, .slice o1 q1.2.2.length o1c, .bool q2.1, .slice p2 q2.2.1.length p2c, .slice o2 q2.2.2.length o2c] 32)).heap.size (U.alloc (.cells #[.bool q1.1, .slice p1 q1.2.1.length p1c, .slice o1 q1.2.2.length o1c, .bool q2.1, .slice p2 q2.2.1.length p2c, .slice o2 q2.2.2.length o2c] 32)) w1 := by rw [hU]; simpa only [World.size_alloc] using rr0
    rw [← hU] at HB
    have HB1 := Lib.hid (then_below HB.out (then_below ((Below.refl _ _).alloc (Nat.le_refl _) _) rr))
    clear rr rr0 kg kg1 hU
    go_wp2_with fail
    go_ret
    exact ⟨rfl, HB1.out⟩
  | false =>
    obtain ⟨hm, hf⟩ := gmod_no hb hp2 hG0.symm
    have f1 := hf q1 (by simp)
    have f2 := hf q2 (by simp)
    obtain ⟨R, hRR⟩ : ∃ R, R = bet x.most (qval q1) (qval q2) := ⟨_, rfl⟩
    have r1 : (R == R) = true := by simp
    have kT := Lib.hid (fun (W : World) (r : Below w.heap.size w W) => twinM_any (hV.below r) (hG.below r) (hR.below r) hm)
    have kA := Lib.hid (fun (W : World) (r : Below w.heap.size w W) => rtwin_own (n := q1.1) (by have := f1.2.1; omega) (by have := f1.2.2; omega) (g1.below r) (g1'.below r))
    have kB := Lib.hid (fun (W : World) (r : Below w.heap.size w W) => rtwin_own (n := q2.1) (by have := f2.2.1; omega) (by have := f2.2.2; omega) (g2.below r) (g2'.below r))
    have kD := Lib.hid (fun (W : World) (r : Below w.heap.size w W) => rn_better (x := x) (va := va) (ga := ga) (ra := ra) (vn := vn) (vc := vc) (gn := gn) (gc := gc) (rn := rn) (rc := rc) (g1.below r) (g1'.below r) (g2.below r) (g2'.below r) f1 f2)
    rw [← hRR] at kD
    have HL := Lib.hid (fun (W : World) (r : Below w.heap.size w W) => And.intro (hV.below r) (And.intro (hG.below r) (And.intro (hR.below r) (And.intro (g1.below r) (And.intro (g1'.below r) (And.intro (g2.below r) (g2'.below r)))))))
    have HF := Lib.hid (And.intro hm (And.intro f1 f2))
    have HRR := Lib.hid hRR
    clear hV hG hR hb g1 g1' u1 g2 g2' u2 hp2 hG0 hm hf f1 f2 hRR
    go_enter Tryz.func3, Tryz.ntmps3
    have zx0 := HX.out.cell 0 _ rfl; have zx1 := HX.out.cell 1 _ rfl; have zx2 := HX.out.cell 2 _ rfl; have zx3 := HX.out.cell 3 _ rfl; have zp0 := HP.out.cell 0 _ rfl; have zp1 := HP.out.cell 1 _ rfl; have zp2 := HP.out.cell 2 _ rfl; have zq0 := HQ.out.cell 0 _ rfl; have zq1 := HQ.out.cell 1 _ rfl; have zq2 := HQ.out.cell 2 _ rfl; have zz0 := HX.out.lt; have zz1 := HP.out.lt; have zz2 := HQ.out.lt
    go_wp2_with fail
    clear zx0 zx1 zx2 zx3 zp0 zp1 zp2 zq0 zq1 zq2 zz0 zz1 zz2
    have kg1 := kg.out _ HB.out
    simp only [World.size_alloc] at kg1
    refine kg1.mono ?_
    rintro e w1 ⟨rfl, rr0⟩
    obtain ⟨U, hU⟩ : ∃ U, U = ((w.alloc (.cells #[.bool x.most, .slice va vn vc, .slice ga gn gc, .slice ra rn rc] 26)).alloc (.cells #[.bool q1.1, .slice p1 q1.2.1.length p1c, .slice o1 q1.2.2.length o1c] 32)).alloc (.cells #[.bool q2.1, .slice p2 q2.2.1.length p2c, .slice o2 q2.2.2.length o2c] 32) := ⟨_, rfl⟩
    have rr : Below (U.alloc (.cells #[.bool q1.1, .slice p1 q1.2.1.length p1c, .slice o1 q1.2.2.length o1c, .bool q2.1, .slice p2 q2.2.1.length p2c, .slice o2 q2.2.2.length o2c] 32)).heap.size (U.alloc (.cells #[.bool q1.1, .slice p1 q1.2.1.length p1c, .slice o1 q1.2.2.length o1c, .bool q2.1, .slice p2 q2.2.1.length p2c, .slice o2 q2.2.2.length o2c] 32)) w1 := by rw [hU]; simpa only [World.size_alloc] using rr0
    rw [← hU] at HB HX HP HQ
    have rr' := then_below ((Below.refl _ _).alloc (Nat.le_refl _) _) rr
    clear hU kg1 rr0
    have HX := Lib.hid (HX.out.under rr')
    have HP := Lib.hid (HP.out.under rr')
    have HQ := Lib.hid (HQ.out.under rr')
    have HB1 := Lib.hid (then_below HB.out rr')
    clear rr rr' kg
    have zx0 := HX.out.cell 0 _ rfl; have zx1 := HX.out.cell 1 _ rfl; have zx2 := HX.out.cell 2 _ rfl; have zx3 := HX.out.cell 3 _ rfl; have zp0 := HP.out.cell 0 _ rfl; have zp1 := HP.out.cell 1 _ rfl; have zp2 := HP.out.cell 2 _ rfl; have zq0 := HQ.out.cell 0 _ rfl; have zq1 := HQ.out.cell 1 _ rfl; have zq2 := HQ.out.cell 2 _ rfl; have zz0 := HX.out.lt; have zz1 := HP.out.lt; have zz2 := HQ.out.lt
    go_wp2_with fail
    clear zx0 zx1 zx2 zx3 zp0 zp1 zp2 zq0 zq1 zq2 zz0 zz1 zz2
    refine (kT.out _ HB1.out).mono ?_
    rintro e w3 ⟨tv, rfl, qT, rr⟩
    have HX := Lib.hid (HX.out.under rr)
    have HP := Lib.hid (HP.out.under rr)
    have HQ := Lib.hid (HQ.out.under rr)
    have HB3 := Lib.hid (then_below HB1.out rr)
    have QT := Lib.hid qT
    obtain ⟨h1, t1, h2, t2, h3, t3, rfl, -, -, -⟩ := qT
    clear rr kT
    have zx0 := HX.out.cell 0 _ rfl; have zx1 := HX.out.cell 1 _ rfl; have zx2 := HX.out.cell 2 _ rfl; have zx3 := HX.out.cell 3 _ rfl; have zp0 := HP.out.cell 0 _ rfl; have zp1 := HP.out.cell 1 _ rfl; have zp2 := HP.out.cell 2 _ rfl; have zq0 := HQ.out.cell 0 _ rfl; have zq1 := HQ.out.cell 1 _ rfl; have zq2 := HQ.out.cell 2 _ rfl; have zz0 := HX.out.lt; have zz1 := HP.out.lt; have zz2 := HQ.out.lt
    go_wp2_with fail
    clear zx0 zx1 zx2 zx3 zp0 zp1 zp2 zq0 zq1 zq2 zz0 zz1 zz2
    have HT := Lib.hid (BoxN.new w3 26 #[.bool x.most, .slice (some ⟨h1, 0, none⟩) x.vars.length t1, .slice (some ⟨h2, 0, none⟩) x.goal.length t2, .slice (some ⟨h3, 0, none⟩) x.rows.length t3])
    have HX := Lib.hid (HX.out.alloc (.cells #[.bool x.most, .slice (some ⟨h1, 0, none⟩) x.vars.length t1, .slice (some ⟨h2, 0, none⟩) x.goal.length t2, .slice (some ⟨h3, 0, none⟩) x.rows.length t3] 26))
    have HP := Lib.hid (HP.out.alloc (.cells #[.bool x.most, .slice (some ⟨h1, 0, none⟩) x.vars.length t1, .slice (some ⟨h2, 0, none⟩) x.goal.length t2, .slice (some ⟨h3, 0, none⟩) x.rows.length t3] 26))
    have HQ := Lib.hid (HQ.out.alloc (.cells #[.bool x.most, .slice (some ⟨h1, 0, none⟩) x.vars.length t1, .slice (some ⟨h2, 0, none⟩) x.goal.length t2, .slice (some ⟨h3, 0, none⟩) x.rows.length t3] 26))
    have HB4 := Lib.hid (HB3.out.alloc HB3.out.size (.cells #[.bool x.most, .slice (some ⟨h1, 0, none⟩) x.vars.length t1, .slice (some ⟨h2, 0, none⟩) x.goal.length t2, .slice (some ⟨h3, 0, none⟩) x.rows.length t3] 26))
    have QT := Lib.hid (TwM.below QT.out ((Below.refl w3.heap.size w3).alloc (Nat.le_refl _) (.cells #[.bool x.most, .slice (some ⟨h1, 0, none⟩) x.vars.length t1, .slice (some ⟨h2, 0, none⟩) x.goal.length t2, .slice (some ⟨h3, 0, none⟩) x.rows.length t3] 26)))
    refine (kA.out _ HB4.out).mono ?_
    rintro e w5 ⟨a1, b1, a2, b2, rfl, qa, qa', rr, -⟩
    have HX := Lib.hid (HX.out.under rr)
    have HP := Lib.hid (HP.out.under rr)
    have HQ := Lib.hid (HQ.out.under rr)
    have HT := Lib.hid (HT.out.under rr)
    have HB5 := Lib.hid (then_below HB4.out rr)
    have QT := Lib.hid (TwM.below QT.out rr)
    have QA := Lib.hid (And.intro qa qa')
    clear rr kA qa qa'
    have zx0 := HX.out.cell 0 _ rfl; have zx1 := HX.out.cell 1 _ rfl; have zx2 := HX.out.cell 2 _ rfl; have zx3 := HX.out.cell 3 _ rfl; have zp0 := HP.out.cell 0 _ rfl; have zp1 := HP.out.cell 1 _ rfl; have zp2 := HP.out.cell 2 _ rfl; have zq0 := HQ.out.cell 0 _ rfl; have zq1 := HQ.out.cell 1 _ rfl; have zq2 := HQ.out.cell 2 _ rfl; have zz0 := HX.out.lt; have zz1 := HP.out.lt; have zz2 := HQ.out.lt
    go_wp2_with fail
    clear zx0 zx1 zx2 zx3 zp0 zp1 zp2 zq0 zq1 zq2 zz0 zz1 zz2
    have HA := Lib.hid (BoxN.new w5 32 #[.bool q1.1, .slice (some ⟨a1, 0, none⟩) q1.2.1.length b1, .slice (some ⟨a2, 0, none⟩) q1.2.2.length b2])
    have al := (Below.refl w5.heap.size w5).alloc (Nat.le_refl _) (.cells #[.bool q1.1, .slice (some ⟨a1, 0, none⟩) q1.2.1.length b1, .slice (some ⟨a2, 0, none⟩) q1.2.2.length b2] 32)
    have HX := Lib.hid (HX.out.alloc (.cells #[.bool q1.1, .slice (some ⟨a1, 0, none⟩) q1.2.1.length b1, .slice (some ⟨a2, 0, none⟩) q1.2.2.length b2] 32))
    have HP := Lib.hid (HP.out.alloc (.cells #[.bool q1.1, .slice (some ⟨a1, 0, none⟩) q1.2.1.length b1, .slice (some ⟨a2, 0, none⟩) q1.2.2.length b2] 32))
    have HQ := Lib.hid (HQ.out.alloc (.cells #[.bool q1.1, .slice (some ⟨a1, 0, none⟩) q1.2.1.length b1, .slice (some ⟨a2, 0, none⟩) q1.2.2.length b2] 32))
    have HT := Lib.hid (HT.out.alloc (.cells #[.bool q1.1, .slice (some ⟨a1, 0, none⟩) q1.2.1.length b1, .slice (some ⟨a2, 0, none⟩) q1.2.2.length b2] 32))
    have HB6 := Lib.hid (HB5.out.alloc HB5.out.size (.cells #[.bool q1.1, .slice (some ⟨a1, 0, none⟩) q1.2.1.length b1, .slice (some ⟨a2, 0, none⟩) q1.2.2.length b2] 32))
    have QT := Lib.hid (TwM.below QT.out al)
    have QA := Lib.hid (And.intro (QA.out.1.below al) (QA.out.2.below al))
    clear al
    refine (kB.out _ HB6.out).mono ?_
    rintro e w7 ⟨a3, b3, a4, b4, rfl, qb, qb', rr, -⟩
    have HX := Lib.hid (HX.out.under rr)
    have HP := Lib.hid (HP.out.under rr)
    have HQ := Lib.hid (HQ.out.under rr)
    have HT := Lib.hid (HT.out.under rr)
    have HA := Lib.hid (HA.out.under rr)
    have HB7 := Lib.hid (then_below HB6.out rr)
    have QT := Lib.hid (TwM.below QT.out rr)
    have QA := Lib.hid (And.intro (QA.out.1.below rr) (QA.out.2.below rr))
    have QB := Lib.hid (And.intro qb qb')
    clear rr kB qb qb'
    go_wp2_with fail
    have HC := Lib.hid (BoxN.new w7 32 #[.bool q2.1, .slice (some ⟨a3, 0, none⟩) q2.2.1.length b3, .slice (some ⟨a4, 0, none⟩) q2.2.2.length b4])
    have al := (Below.refl w7.heap.size w7).alloc (Nat.le_refl _) (.cells #[.bool q2.1, .slice (some ⟨a3, 0, none⟩) q2.2.1.length b3, .slice (some ⟨a4, 0, none⟩) q2.2.2.length b4] 32)
    have HX := Lib.hid (HX.out.alloc (.cells #[.bool q2.1, .slice (some ⟨a3, 0, none⟩) q2.2.1.length b3, .slice (some ⟨a4, 0, none⟩) q2.2.2.length b4] 32))
    have HP := Lib.hid (HP.out.alloc (.cells #[.bool q2.1, .slice (some ⟨a3, 0, none⟩) q2.2.1.length b3, .slice (some ⟨a4, 0, none⟩) q2.2.2.length b4] 32))
    have HQ := Lib.hid (HQ.out.alloc (.cells #[.bool q2.1, .slice (some ⟨a3, 0, none⟩) q2.2.1.length b3, .slice (some ⟨a4, 0, none⟩) q2.2.2.length b4] 32))
    have HT := Lib.hid (HT.out.alloc (.cells #[.bool q2.1, .slice (some ⟨a3, 0, none⟩) q2.2.1.length b3, .slice (some ⟨a4, 0, none⟩) q2.2.2.length b4] 32))
    have HA := Lib.hid (HA.out.alloc (.cells #[.bool q2.1, .slice (some ⟨a3, 0, none⟩) q2.2.1.length b3, .slice (some ⟨a4, 0, none⟩) q2.2.2.length b4] 32))
    have HB8 := Lib.hid (HB7.out.alloc HB7.out.size (.cells #[.bool q2.1, .slice (some ⟨a3, 0, none⟩) q2.2.1.length b3, .slice (some ⟨a4, 0, none⟩) q2.2.2.length b4] 32))
    have QT := Lib.hid (TwM.below QT.out al)
    have QA := Lib.hid (And.intro (QA.out.1.below al) (QA.out.2.below al))
    have QB := Lib.hid (And.intro (QB.out.1.below al) (QB.out.2.below al))
    clear al HB HB1 HB3 HB4 HB5 HB6 HB7
    obtain ⟨V, hV⟩ : ∃ V, V = w7.alloc (.cells #[.bool q2.1, .slice (some ⟨a3, 0, none⟩) q2.2.1.length b3, .slice (some ⟨a4, 0, none⟩) q2.2.2.length b4] 32) := ⟨_, rfl⟩
    rw [← hV] at HX HP HQ HT HA HB8 QT QA QB HC ⊢
    clear hV
    obtain ⟨n1, n2, n3, n4, n5, n6, en, d1, d2, d3⟩ := QT.out
    cases en
    have kE := Lib.hid (fun (W : World) (r : Below V.heap.size V W) => better_any (x := x) (va := some ⟨h1, 0, none⟩) (ga := some ⟨h2, 0, none⟩) (ra := some ⟨h3, 0, none⟩) (vn := x.vars.length) (vc := t1) (gn := x.goal.length) (gc := t2) (rn := x.rows.length) (rc := t3) (QA.out.1.fresh.reads.below r) (QA.out.2.fresh.reads.below r) (QB.out.1.fresh.reads.below r) (QB.out.2.fresh.reads.below r) HF.out.2.1 HF.out.2.2)
    rw [← HRR.out] at kE
    have kM := Lib.hid (fun (W : World) (r : Below V.heap.size V W) => leftM_any (TwVars.below d1 r) (d2.below r) (TwRows.below d3 r) (HL.out _ (then_below HB8.out r)).1 (HL.out _ (then_below HB8.out r)).2.1 (HL.out _ (then_below HB8.out r)).2.2.1 HF.out.1)
    have kP := Lib.hid (fun (W : World) (r : Below V.heap.size V W) => rleft_any (n := q1.1) (by have := HF.out.2.1.2.1; omega) (by have := HF.out.2.1.2.2; omega) (QA.out.1.below r) (QA.out.2.below r) (HL.out _ (then_below HB8.out r)).2.2.2.1 (HL.out _ (then_below HB8.out r)).2.2.2.2.1)
    have kQ := Lib.hid (fun (W : World) (r : Below V.heap.size V W) => rleft_any (n := q2.1) (by have := HF.out.2.2.2.1; omega) (by have := HF.out.2.2.2.2; omega) (QB.out.1.below r) (QB.out.2.below r) (HL.out _ (then_below HB8.out r)).2.2.2.2.2.1 (HL.out _ (then_below HB8.out r)).2.2.2.2.2.2)
    clear d1 d2 d3 HL HF QT QA QB HRR
    refine region_bl (S := fun W => Below V.heap.size V W) (by kernel_rfl) ?_
    intro V0 hS0
    refine wpAnyH_take (i := 0) (oi := ⟨_, _, _, _, _, _⟩) (v := .agg #[.bool x.most, .slice (some ⟨h1, 0, none⟩) x.vars.length t1, .slice (some ⟨h2, 0, none⟩) x.goal.length t2, .slice (some ⟨h3, 0, none⟩) x.rows.length t3]) rfl (by kernel_rfl) (by kernel_rfl) (by kernel_rfl) (fun _ _ _ h => h) (Or.inl ⟨by rfl, fun W3 hS => by have hX := HT.out.under hS; have c0 := hX.cell 0 _ rfl; have c1 := hX.cell 1 _ rfl; have c2 := hX.cell 2 _ rfl; have c3 := hX.cell 3 _ rfl; go_simp⟩) hS0 ?_
    try simp only [Act.put, List.setIfInBounds_toArray, List.set_cons_zero, List.set_cons_succ]
    refine wpAnyH_take (i := 1) (oi := ⟨_, _, _, _, _, _⟩) (v := .agg #[.bool q1.1, .slice (some ⟨a1, 0, none⟩) q1.2.1.length b1, .slice (some ⟨a2, 0, none⟩) q1.2.2.length b2]) rfl (by kernel_rfl) (by kernel_rfl) (by kernel_rfl) (fun _ _ _ h => h) (Or.inl ⟨by rfl, fun W3 hS => by have hX := HA.out.under hS; have c0 := hX.cell 0 _ rfl; have c1 := hX.cell 1 _ rfl; have c2 := hX.cell 2 _ rfl; go_simp⟩) hS0 ?_
    try simp only [Act.put, List.setIfInBounds_toArray, List.set_cons_zero, List.set_cons_succ]
    refine wpAnyH_take (i := 2) (oi := ⟨_, _, _, _, _, _⟩) (v := .agg #[.bool q2.1, .slice (some ⟨a3, 0, none⟩) q2.2.1.length b3, .slice (some ⟨a4, 0, none⟩) q2.2.2.length b4]) rfl (by kernel_rfl) (by kernel_rfl) (by kernel_rfl) (fun _ _ _ h => h) (Or.inl ⟨by rfl, fun W3 hS => by have hX := HC.out.under hS; have c0 := hX.cell 0 _ rfl; have c1 := hX.cell 1 _ rfl; have c2 := hX.cell 2 _ rfl; go_simp⟩) hS0 ?_
    try simp only [Act.put, List.setIfInBounds_toArray, List.set_cons_zero, List.set_cons_succ]
    refine wpAnyH_take (i := 4) (oi := ⟨_, _, _, _, _, _⟩) (v := .agg #[.bool x.most, .slice va vn vc, .slice ga gn gc, .slice ra rn rc]) rfl (by kernel_rfl) (by kernel_rfl) (by kernel_rfl) (fun _ _ _ h => h) (Or.inl ⟨by rfl, fun W3 hS => by have hX := HX.out.under hS; have c0 := hX.cell 0 _ rfl; have c1 := hX.cell 1 _ rfl; have c2 := hX.cell 2 _ rfl; have c3 := hX.cell 3 _ rfl; go_simp⟩) hS0 ?_
    try simp only [Act.put, List.setIfInBounds_toArray, List.set_cons_zero, List.set_cons_succ]
    refine wpAnyH_take (i := 5) (oi := ⟨_, _, _, _, _, _⟩) (v := .agg #[.bool q1.1, .slice p1 q1.2.1.length p1c, .slice o1 q1.2.2.length o1c]) rfl (by kernel_rfl) (by kernel_rfl) (by kernel_rfl) (fun _ _ _ h => h) (Or.inl ⟨by rfl, fun W3 hS => by have hX := HP.out.under hS; have c0 := hX.cell 0 _ rfl; have c1 := hX.cell 1 _ rfl; have c2 := hX.cell 2 _ rfl; go_simp⟩) hS0 ?_
    try simp only [Act.put, List.setIfInBounds_toArray, List.set_cons_zero, List.set_cons_succ]
    refine wpAnyH_take (i := 6) (oi := ⟨_, _, _, _, _, _⟩) (v := .agg #[.bool q2.1, .slice p2 q2.2.1.length p2c, .slice o2 q2.2.2.length o2c]) rfl (by kernel_rfl) (by kernel_rfl) (by kernel_rfl) (fun _ _ _ h => h) (Or.inl ⟨by rfl, fun W3 hS => by have hX := HQ.out.under hS; have c0 := hX.cell 0 _ rfl; have c1 := hX.cell 1 _ rfl; have c2 := hX.cell 2 _ rfl; go_simp⟩) hS0 ?_
    try simp only [Act.put, List.setIfInBounds_toArray, List.set_cons_zero, List.set_cons_succ]
    have HV := Lib.hid hS0
    clear hS0
    refine wpAnyH_all (rs := [3]) (by kernel_rfl) (by simp) ?_
    intro i hi
    obtain rfl : i = 3 := by simpa using hi
    refine wpOp_intro rfl (fun K1 hK => ?_)
    clear hi
    go_simp
    refine (kE.out _ HV.out).mono ?_
    rintro e V1 ⟨rfl, rr⟩
    have hS1 := then_below HV.out rr
    clear rr HV
    refine hK _ _ ⟨hS1, ?_⟩
    clear hK K1
    have hS0 := hS1
    clear hS1 kE
    have HV := Lib.hid hS0
    clear hS0
    refine wpAnyH_all (rs := [7]) (by kernel_rfl) (by simp) ?_
    intro i hi
    obtain rfl : i = 7 := by simpa using hi
    refine wpOp_intro rfl (fun K2 hK => ?_)
    clear hi
    go_simp
    refine (kD.out _ (then_below HB8.out HV.out)).mono ?_
    rintro e V2 ⟨rfl, rr⟩
    have hS1 := then_below HV.out rr
    clear rr HV
    refine hK _ _ ⟨hS1, ?_⟩
    clear hK K2
    have hS0 := hS1
    clear hS1 kD
    refine wpAnyH_take (i := 8) (oi := ⟨_, _, _, _, _, _⟩) (v := .bool true) rfl (by kernel_rfl) (by kernel_rfl) (by kernel_rfl) (fun _ _ _ h => h) (Or.inl ⟨by rfl, fun W3 hS => by go_simp⟩) hS0 ?_
    try simp only [Act.put, List.setIfInBounds_toArray, List.set_cons_zero, List.set_cons_succ]
    refine wpAnyH_take (i := 9) (oi := ⟨_, _, _, _, _, _⟩) (v := .bool true) rfl (by kernel_rfl) (by kernel_rfl) (by kernel_rfl) (fun _ _ _ h => h) (Or.inl ⟨by rfl, fun W3 hS => by go_simp⟩) hS0 ?_
    try simp only [Act.put, List.setIfInBounds_toArray, List.set_cons_zero, List.set_cons_succ]
    refine wpAnyH_take (i := 10) (oi := ⟨_, _, _, _, _, _⟩) (v := .agg #[.bool x.most, .slice (some ⟨h1, 0, none⟩) x.vars.length t1, .slice (some ⟨h2, 0, none⟩) x.goal.length t2, .slice (some ⟨h3, 0, none⟩) x.rows.length t3]) rfl (by kernel_rfl) (by kernel_rfl) (by kernel_rfl) (fun _ _ _ h => h) (Or.inl ⟨by rfl, fun W3 hS => by have hX := HT.out.under hS; have c0 := hX.cell 0 _ rfl; have c1 := hX.cell 1 _ rfl; have c2 := hX.cell 2 _ rfl; have c3 := hX.cell 3 _ rfl; go_simp⟩) hS0 ?_
    try simp only [Act.put, List.setIfInBounds_toArray, List.set_cons_zero, List.set_cons_succ]
    refine wpAnyH_take (i := 11) (oi := ⟨_, _, _, _, _, _⟩) (v := .agg #[.bool x.most, .slice va vn vc, .slice ga gn gc, .slice ra rn rc]) rfl (by kernel_rfl) (by kernel_rfl) (by kernel_rfl) (fun _ _ _ h => h) (Or.inl ⟨by rfl, fun W3 hS => by have hX := HX.out.under hS; have c0 := hX.cell 0 _ rfl; have c1 := hX.cell 1 _ rfl; have c2 := hX.cell 2 _ rfl; have c3 := hX.cell 3 _ rfl; go_simp⟩) hS0 ?_
    try simp only [Act.put, List.setIfInBounds_toArray, List.set_cons_zero, List.set_cons_succ]
    have HV := Lib.hid hS0
    clear hS0
    refine wpAnyH_all (rs := [12]) (by kernel_rfl) (by simp) ?_
    intro i hi
    obtain rfl : i = 12 := by simpa using hi
    refine wpOp_intro rfl (fun K3 hK => ?_)
    clear hi
    go_simp
    refine (kM.out _ HV.out).mono ?_
    rintro e V3 ⟨rfl, rr⟩
    have hS1 := then_below HV.out rr
    clear rr HV
    refine hK _ _ ⟨hS1, ?_⟩
    clear hK K3
    have hS0 := hS1
    clear hS1 kM
    refine wpAnyH_take (i := 13) (oi := ⟨_, _, _, _, _, _⟩) (v := .bool true) rfl (by kernel_rfl) (by kernel_rfl) (by kernel_rfl) (fun _ _ _ h => h) (Or.inl ⟨by rfl, fun W3 hS => by go_simp⟩) hS0 ?_
    try simp only [Act.put, List.setIfInBounds_toArray, List.set_cons_zero, List.set_cons_succ]
    refine wpAnyH_take (i := 14) (oi := ⟨_, _, _, _, _, _⟩) (v := .bool true) rfl (by kernel_rfl) (by kernel_rfl) (by kernel_rfl) (fun _ _ _ h => h) (Or.inl ⟨by rfl, fun W3 hS => by go_simp⟩) hS0 ?_
    try simp only [Act.put, List.setIfInBounds_toArray, List.set_cons_zero, List.set_cons_succ]
    refine wpAnyH_take (i := 15) (oi := ⟨_, _, _, _, _, _⟩) (v := .agg #[.bool q1.1, .slice (some ⟨a1, 0, none⟩) q1.2.1.length b1, .slice (some ⟨a2, 0, none⟩) q1.2.2.length b2]) rfl (by kernel_rfl) (by kernel_rfl) (by kernel_rfl) (fun _ _ _ h => h) (Or.inl ⟨by rfl, fun W3 hS => by have hX := HA.out.under hS; have c0 := hX.cell 0 _ rfl; have c1 := hX.cell 1 _ rfl; have c2 := hX.cell 2 _ rfl; go_simp⟩) hS0 ?_
    try simp only [Act.put, List.setIfInBounds_toArray, List.set_cons_zero, List.set_cons_succ]
    refine wpAnyH_take (i := 16) (oi := ⟨_, _, _, _, _, _⟩) (v := .agg #[.bool q1.1, .slice p1 q1.2.1.length p1c, .slice o1 q1.2.2.length o1c]) rfl (by kernel_rfl) (by kernel_rfl) (by kernel_rfl) (fun _ _ _ h => h) (Or.inl ⟨by rfl, fun W3 hS => by have hX := HP.out.under hS; have c0 := hX.cell 0 _ rfl; have c1 := hX.cell 1 _ rfl; have c2 := hX.cell 2 _ rfl; go_simp⟩) hS0 ?_
    try simp only [Act.put, List.setIfInBounds_toArray, List.set_cons_zero, List.set_cons_succ]
    have HV := Lib.hid hS0
    clear hS0
    refine wpAnyH_all (rs := [17]) (by kernel_rfl) (by simp) ?_
    intro i hi
    obtain rfl : i = 17 := by simpa using hi
    refine wpOp_intro rfl (fun K4 hK => ?_)
    clear hi
    go_simp
    refine (kP.out _ HV.out).mono ?_
    rintro e V4 ⟨rfl, rr⟩
    have hS1 := then_below HV.out rr
    clear rr HV
    refine hK _ _ ⟨hS1, ?_⟩
    clear hK K4
    have hS0 := hS1
    clear hS1 kP
    refine wpAnyH_take (i := 18) (oi := ⟨_, _, _, _, _, _⟩) (v := .bool true) rfl (by kernel_rfl) (by kernel_rfl) (by kernel_rfl) (fun _ _ _ h => h) (Or.inl ⟨by rfl, fun W3 hS => by go_simp⟩) hS0 ?_
    try simp only [Act.put, List.setIfInBounds_toArray, List.set_cons_zero, List.set_cons_succ]
    refine wpAnyH_take (i := 19) (oi := ⟨_, _, _, _, _, _⟩) (v := .bool true) rfl (by kernel_rfl) (by kernel_rfl) (by kernel_rfl) (fun _ _ _ h => h) (Or.inl ⟨by rfl, fun W3 hS => by go_simp⟩) hS0 ?_
    try simp only [Act.put, List.setIfInBounds_toArray, List.set_cons_zero, List.set_cons_succ]
    refine wpAnyH_take (i := 20) (oi := ⟨_, _, _, _, _, _⟩) (v := .agg #[.bool q2.1, .slice (some ⟨a3, 0, none⟩) q2.2.1.length b3, .slice (some ⟨a4, 0, none⟩) q2.2.2.length b4]) rfl (by kernel_rfl) (by kernel_rfl) (by kernel_rfl) (fun _ _ _ h => h) (Or.inl ⟨by rfl, fun W3 hS => by have hX := HC.out.under hS; have c0 := hX.cell 0 _ rfl; have c1 := hX.cell 1 _ rfl; have c2 := hX.cell 2 _ rfl; go_simp⟩) hS0 ?_
    try simp only [Act.put, List.setIfInBounds_toArray, List.set_cons_zero, List.set_cons_succ]
    refine wpAnyH_take (i := 21) (oi := ⟨_, _, _, _, _, _⟩) (v := .agg #[.bool q2.1, .slice p2 q2.2.1.length p2c, .slice o2 q2.2.2.length o2c]) rfl (by kernel_rfl) (by kernel_rfl) (by kernel_rfl) (fun _ _ _ h => h) (Or.inl ⟨by rfl, fun W3 hS => by have hX := HQ.out.under hS; have c0 := hX.cell 0 _ rfl; have c1 := hX.cell 1 _ rfl; have c2 := hX.cell 2 _ rfl; go_simp⟩) hS0 ?_
    try simp only [Act.put, List.setIfInBounds_toArray, List.set_cons_zero, List.set_cons_succ]
    have HV := Lib.hid hS0
    clear hS0
    refine wpAnyH_all (rs := [22]) (by kernel_rfl) (by simp) ?_
    intro i hi
    obtain rfl : i = 22 := by simpa using hi
    refine wpOp_intro rfl (fun K5 hK => ?_)
    clear hi
    go_simp
    refine (kQ.out _ HV.out).mono ?_
    rintro e V5 ⟨rfl, rr⟩
    have hS1 := then_below HV.out rr
    clear rr HV
    refine hK _ _ ⟨hS1, ?_⟩
    clear hK K5
    have hS0 := hS1
    clear hS1 kQ
    refine wpAnyH_take (i := 23) (oi := ⟨_, _, _, _, _, _⟩) (v := .bool true) rfl (by kernel_rfl) (by kernel_rfl) (by kernel_rfl) (fun _ _ _ h => h) (Or.inl ⟨by rfl, fun W3 hS => by go_simp⟩) hS0 ?_
    try simp only [Act.put, List.setIfInBounds_toArray, List.set_cons_zero, List.set_cons_succ]
    refine wpAnyH_take (i := 24) (oi := ⟨_, _, _, _, _, _⟩) (v := .bool true) rfl (by kernel_rfl) (by kernel_rfl) (by kernel_rfl) (fun _ _ _ h => h) (Or.inl ⟨by rfl, fun W3 hS => by go_simp⟩) hS0 ?_
    try simp only [Act.put, List.setIfInBounds_toArray, List.set_cons_zero, List.set_cons_succ]
    have HE6 := Lib.hid (then_below HB8.out hS0)
    clear hS0
    refine wpAnyH_done (by kernel_rfl) ?_ _
    go_wp2
    go_ret
    exact ⟨rfl, HE6.out⟩
end Go.Proofs.YtbndmpdaloadjaaGreat
