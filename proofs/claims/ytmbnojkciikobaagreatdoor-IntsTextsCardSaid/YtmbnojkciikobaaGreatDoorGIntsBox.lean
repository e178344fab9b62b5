/- The document's answer: whole numbers, by hand: the small functions. The document's answer: whole numbers, by hand: sums, products, 0 less one, the order. Both arguments' boxes. -/
import Derived.Deep.RegionHeld3
import Derived.Test.YtmbnojkciikobaaGreatDoorGInts
import Derived.Test.YtmbnojkciikobaaGreatDoorGIntsB
namespace Go.Proofs.YtmbnojkciikobaaGreatDoor
open Go Go.Proofs Go.RowKit Go.Shelf Nu

attribute [local go_sem] Oper.semAt_some

set_option maxHeartbeats 2000000 in
theorem richeck_any {w : World} {n : Bool} {v : Value} {l : List Nat} (h : Reads w v l) (hl : l.length ≤ 1000000) :
    Calls Tryz.prog 60 #[.agg #[.bool n, v]] w fun e w' => e = .returned (.bool (ichk n l)) ∧ Below w.heap.size w w' := by
  have kb : ∀ W, Below w.heap.size w W → _ := fun W hW => rcheck_any (h.below hW) hl
  obtain ⟨a, c, rfl⟩ := h.form
  obtain ⟨R, hR⟩ : ∃ R, R = chk l := ⟨_, rfl⟩
  rw [← hR] at kb
  have e : ichk n l = (R && (!n || decide (0 < l.length))) := by rw [hR]; rfl
  rw [e]
  clear h hR e hl
  cases R with
  | false =>
    go_enter Tryz.func60, Tryz.ntmps60
    go_wp2_with (go_at_call 33; refine (kb _ (by first | assumption | exact (Below.refl _ _).alloc (Nat.le_refl _) _)).mono ?_; rintro e w' ⟨rfl, rfl⟩)
    go_ret
    exact ⟨by simp, (Below.refl _ _).alloc (Nat.le_refl _) _⟩
  | true =>
    cases n with
    | false =>
      go_enter Tryz.func60, Tryz.ntmps60
      go_wp2_with (go_at_call 33; refine (kb _ (by first | assumption | exact (Below.refl _ _).alloc (Nat.le_refl _) _)).mono ?_; rintro e w' ⟨rfl, rfl⟩)
      go_ret
      exact ⟨by simp, (Below.refl _ _).alloc (Nat.le_refl _) _⟩
    | true =>
      obtain ⟨m, hm⟩ : ∃ m, m = l.length := ⟨_, rfl⟩
      rw [← hm] at kb ⊢
      clear hm
      rcases Nat.eq_zero_or_pos m with rfl | h0
      · go_enter Tryz.func60, Tryz.ntmps60
        go_wp2_with (go_at_call 33; refine (kb _ (by first | assumption | exact (Below.refl _ _).alloc (Nat.le_refl _) _)).mono ?_; rintro e w' ⟨rfl, rfl⟩)
        go_ret
        exact ⟨by simp, (Below.refl _ _).alloc (Nat.le_refl _) _⟩
      · have hi : 0 < (m : Int) := by omega
        go_enter Tryz.func60, Tryz.ntmps60
        go_wp2_with (go_at_call 33; refine (kb _ (by first | assumption | exact (Below.refl _ _).alloc (Nat.le_refl _) _)).mono ?_; rintro e w' ⟨rfl, rfl⟩)
        go_ret
        exact ⟨(by have h3 : ¬ m = 0 := (by omega); simp [h3, h0]), (Below.refl _ _).alloc (Nat.le_refl _) _⟩

set_option maxHeartbeats 2000000 in
theorem rifit_any {w : World} {n : Bool} {v : Value} {l : List Nat} (h : Reads w v l) (hl : l.length ≤ 1000000) :
    Calls Tryz.prog 134 #[.agg #[.bool n, v]] w fun e w' => e = .returned (.agg #[.bool (izN n l), izS n v l]) ∧ Below w.heap.size w w' := by
  have kb : ∀ W, Below w.heap.size w W → _ := fun W hW => richeck_any (n := n) (h.below hW) hl
  obtain ⟨a, c, rfl⟩ := h.form
  have hb0 : Below w.heap.size w ((w.alloc (.cells #[.bool n, .slice a l.length c] 61)).alloc (.cells #[.bool false, .slice none 0 0] 61)) := ((Below.refl _ _).alloc (Nat.le_refl _) _).alloc (by simp) _
  have B1 := (Box2.new w 61 (.bool n) (.slice a l.length c)).alloc (.cells #[.bool false, .slice none 0 0] 61)
  have B2 := Box2.new1 w (.cells #[.bool n, .slice a l.length c] 61) 61 (.bool false) (.slice none 0 0)
  cases hR : ichk n l with
  | false =>
    have e1 : izN n l = false := by simp [izN, hR]
    have e2 : ∀ v, izS n v l = .slice none 0 0 := fun v => by simp [izS, hR]
    rw [e1, e2]
    rw [hR] at kb
    have kc := kb _ hb0
    clear e1 e2 hR h kb hb0
    go_enter Tryz.func134, Tryz.ntmps134
    go_wp2_with (go_at_call 60; refine kc.mono ?_; rintro e w1 ⟨rfl, r1⟩; have q2 := (B2.below r1).c0; have q3 := (B2.below r1).c1; have q4 := (B2.below r1).fr 0; have q5 := (B2.below r1).fr 1)
    refine ret_box2 rfl rfl (((B2.below r1).set0 _).set1 _) Tryz.underlying61 size_int rfl ?_
    exact ⟨rfl, below_sets (below_from (((Below.refl _ _).alloc (Nat.le_refl _) _).alloc (by simp) _) r1 (by simp; omega)) (by omega) _ _⟩
  | true =>
    have e1 : izN n l = n := by simp [izN, hR]
    have e2 : ∀ v, izS n v l = v := fun v => by simp [izS, hR]
    rw [e1, e2]
    rw [hR] at kb
    have kc := kb _ hb0
    clear e1 e2 hR h kb hb0
    go_enter Tryz.func134, Tryz.ntmps134
    go_wp2_with (go_at_call 60; refine kc.mono ?_; rintro e w1 ⟨rfl, r1⟩; have q0 := (B1.below r1).c0; have q1 := (B1.below r1).c1; have q2 := (B2.below r1).c0; have q3 := (B2.below r1).c1; have q4 := (B2.below r1).fr 0; have q5 := (B2.below r1).fr 1)
    refine ret_box2 rfl rfl (((B2.below r1).set0 _).set1 _) Tryz.underlying61 size_int rfl ?_
    exact ⟨rfl, below_sets (below_from (((Below.refl _ _).alloc (Nat.le_refl _) _).alloc (by simp) _) r1 (by simp; omega)) (by omega) _ _⟩

theorem rsigned_any (n : Bool) (a : Option Addr) (m c : Nat) (w : World) :
    Calls Tryz.prog 135 #[.bool n, .slice a m c] w fun e w' => e = .returned (.agg #[.bool (n && decide (0 < m)), .slice a m c]) ∧ Below w.heap.size w w' := by
  cases n with
  | false =>
    go_enter Tryz.func135, Tryz.ntmps135
    go_wp2
    refine ret_box2 rfl rfl (Box2.new w _ _ _) Tryz.underlying61 size_int rfl ?_
    exact ⟨by simp, (Below.refl _ _).alloc (Nat.le_refl _) _⟩
  | true =>
    rcases Nat.eq_zero_or_pos m with rfl | h0
    · go_enter Tryz.func135, Tryz.ntmps135
      go_wp2
      refine ret_box2 rfl rfl (Box2.new w _ _ _) Tryz.underlying61 size_int rfl ?_
      exact ⟨by simp, (Below.refl _ _).alloc (Nat.le_refl _) _⟩
    · have hi : 0 < (m : Int) := by omega
      go_enter Tryz.func135, Tryz.ntmps135
      go_wp2
      refine ret_box2 rfl rfl (Box2.new w _ _ _) Tryz.underlying61 size_int rfl ?_
      exact ⟨by simp [h0], (Below.refl _ _).alloc (Nat.le_refl _) _⟩


end Go.Proofs.YtmbnojkciikobaaGreatDoor

namespace Go.Proofs.YtmbnojkciikobaaGreatDoor
open Go Go.Proofs Go.RowKit Go.Shelf Nu

attribute [local go_sem] Oper.semAt_some

section
variable {w : World} {p1 p2 : Option Addr} {q1 q2 A B : Nat}
theorem rd_add (N : Nat) (h1 : Reads w (.slice p1 (digs A).length q1) (digs A)) (h2 : Reads w (.slice p2 (digs B).length q2) (digs B)) (l1 : (digs A).length ≤ 100000) (l2 : (digs B).length ≤ 100000) (e : N = A + B) :
    Calls Tryz.prog 17 #[.slice p1 (digs A).length q1, .slice p2 (digs B).length q2] w fun e w' => ∃ a c, e = .returned (.slice a (digs N).length c) ∧ Reads w' (.slice a (digs N).length c) (digs N) ∧ Below w.heap.size w w' := by
  have k := radd_any h1 h2 l1 l2 (sm_digs _) (sm_digs _)
  rw [nv_digs, nv_digs, ← e] at k
  refine k.mono ?_
  rintro e w' ⟨v, rfl, f, hB⟩
  obtain ⟨a, c, rfl⟩ := f.form
  exact ⟨a, c, rfl, f, hB⟩
theorem rd_mul (N : Nat) (h1 : Reads w (.slice p1 (digs A).length q1) (digs A)) (h2 : Reads w (.slice p2 (digs B).length q2) (digs B)) (l1 : (digs A).length ≤ 100000) (l2 : (digs B).length ≤ 100000) (e : N = A * B) :
    Calls Tryz.prog 18 #[.slice p1 (digs A).length q1, .slice p2 (digs B).length q2] w fun e w' => ∃ a c, e = .returned (.slice a (digs N).length c) ∧ Reads w' (.slice a (digs N).length c) (digs N) ∧ Below w.heap.size w w' := by
  have k := rmul_any h1 h2 l1 l2 (sm_digs _) (sm_digs _)
  rw [nv_digs, nv_digs, ← e] at k
  refine k.mono ?_
  rintro e w' ⟨v, rfl, f, hB⟩
  obtain ⟨a, c, rfl⟩ := f.form
  exact ⟨a, c, rfl, f, hB⟩
theorem rd_sub (N : Nat) (h1 : Reads w (.slice p1 (digs A).length q1) (digs A)) (h2 : Reads w (.slice p2 (digs B).length q2) (digs B)) (l1 : (digs A).length ≤ 100000) (l2 : (digs B).length ≤ 100000) (h : B ≤ A) (e : N = A - B) :
    Calls Tryz.prog 13 #[.slice p1 (digs A).length q1, .slice p2 (digs B).length q2] w fun e w' => ∃ a c, e = .returned (.tuple #[.slice a (digs N).length c, .int .i64 0]) ∧ Reads w' (.slice a (digs N).length c) (digs N) ∧ Below w.heap.size w w' := by
  subst e
  have k := rsub_any h1 h2 l1 l2 (sm_digs _) (sm_digs _)
  simp only [chk_digs, val_digs, h, and_self, if_true] at k
  refine k.mono ?_
  rintro e w' ⟨v, rfl, f, hB⟩
  obtain ⟨a, c, rfl⟩ := f.form
  exact ⟨a, c, rfl, f, hB⟩
theorem rd_cmp (h1 : Reads w (.slice p1 (digs A).length q1) (digs A)) (h2 : Reads w (.slice p2 (digs B).length q2) (digs B)) (l1 : (digs A).length ≤ 100000) (l2 : (digs B).length ≤ 100000) :
    Calls Tryz.prog 15 #[.slice p1 (digs A).length q1, .slice p2 (digs B).length q2] w fun e w' => e = .returned (.int .i64 (sgn A B)) ∧ Below w.heap.size w w' := by
  have k := rcmp_any h1 h2 l1 l2 (sm_digs _) (sm_digs _)
  rwa [nv_digs, nv_digs] at k
end

section
variable {w : World} {v1 v2 : Value} {n1 n2 m1 m2 : Bool} {p1 p2 : Option Addr} {q1 q2 A B : Nat}
set_option maxHeartbeats 4000000 in
theorem riadd_same {N : Nat} (f1 : ∃ a n c, v1 = .slice a n c) (f2 : ∃ a n c, v2 = .slice a n c)
    (ko1 : ∀ W, Below w.heap.size w W → Calls Tryz.prog 134 #[.agg #[.bool n1, v1]] W fun e w' => e = .returned (.agg #[.bool m1, .slice p1 (digs A).length q1]) ∧ Below W.heap.size W w')
    (ko2 : ∀ W, Below w.heap.size w W → Calls Tryz.prog 134 #[.agg #[.bool n2, v2]] W fun e w' => e = .returned (.agg #[.bool m1, .slice p2 (digs B).length q2]) ∧ Below W.heap.size W w')
    (h1 : Reads w (.slice p1 (digs A).length q1) (digs A)) (h2 : Reads w (.slice p2 (digs B).length q2) (digs B)) (l1 : (digs A).length ≤ 100000) (l2 : (digs B).length ≤ 100000) (e : N = A + B) :
    Calls Tryz.prog 48 #[.agg #[.bool n1, v1], .agg #[.bool n2, v2]] w fun e w' => ∃ a c, e = .returned (.agg #[.bool (m1 && decide (0 < N)), .slice a (digs N).length c]) ∧ Reads w' (.slice a (digs N).length c) (digs N) ∧ Below w.heap.size w w' := by
  obtain ⟨s1, t1, c1, rfl⟩ := f1
  obtain ⟨s2, t2, c2, rfl⟩ := f2
  have ka : ∀ W, Below w.heap.size w W → _ := fun W hW => rd_add (w := W) N (h1.below hW) (h2.below hW) l1 l2 e
  have ks := fun W a c => rsigned_any (m1) a (digs N).length c W
  rw [dec_digs] at ks
  have KS := Lib.hid ks
  have KA := Lib.hid ka
  clear ka ks h1 h2 e l1 l2
  have KO1 := Lib.hid ko1
  have KO2 := Lib.hid ko2
  clear ko1 ko2
  obtain ⟨u0, hu0⟩ : ∃ u0, u0 = ((w.alloc (.cells #[.bool n1, .slice s1 t1 c1] 61)).alloc (.cells #[.bool n2, .slice s2 t2 c2] 61)).alloc (.cells #[.bool false, .slice none 0 0] 61) := ⟨_, rfl⟩
  have X1 := Lib.hid (show Box2 u0 w.heap.size 61 (.bool n1) (.slice s1 t1 c1) by rw [hu0]; exact ((Box2.new w _ _ _).alloc _).alloc _)
  have X2 := Lib.hid (show Box2 u0 (w.heap.size + 1) 61 (.bool n2) (.slice s2 t2 c2) by rw [hu0]; exact (Box2.new1 w _ _ _ _).alloc _)
  have X3 := Lib.hid (show Box2 u0 (w.heap.size + 1 + 1) 61 (.bool false) (.slice none 0 0) by
    rw [hu0]
    have := Box2.new1 (w.alloc (.cells #[.bool n1, .slice s1 t1 c1] 61)) (.cells #[.bool n2, .slice s2 t2 c2] 61) 61 (.bool false) (.slice none 0 0)
    rwa [World.size_alloc] at this)
  have hb := Lib.hid (show Below w.heap.size w u0 by rw [hu0]; exact (((Below.refl _ _).alloc (Nat.le_refl _) _).alloc (by simp) _).alloc (by simp; omega) _)
  obtain ⟨B1, hB1⟩ : ∃ b, b = w.heap.size := ⟨_, rfl⟩
  obtain ⟨B2, hB2⟩ : ∃ b, b = w.heap.size + 1 := ⟨_, rfl⟩
  obtain ⟨B3, hB3⟩ : ∃ b, b = w.heap.size + 1 + 1 := ⟨_, rfl⟩
  have d12 : B1 ≠ B2 := by omega
  have d13 : B1 ≠ B3 := by omega
  have d23 : B2 ≠ B3 := by omega
  have e1 := Lib.hid (show w.heap.size ≤ B1 by omega)
  have e2 := Lib.hid (show w.heap.size ≤ B2 by omega)
  have e3 := Lib.hid (show w.heap.size ≤ B3 by omega)
  rw [← hB1] at X1
  rw [← hB2] at X2
  rw [← hB3] at X3
  have hu0' := Lib.hid hu0
  have hB1' := Lib.hid hB1
  have hB2' := Lib.hid hB2
  have hB3' := Lib.hid hB3
  clear hu0 hB1 hB2 hB3
  go_enter Tryz.func48, Tryz.ntmps48
  go_wp2_with fail
  rw [← hu0'.out, ← hB3'.out, ← hB2'.out, ← hB1'.out]
  clear hu0' hB1' hB2' hB3'
  go_at_call 134
  refine (KO1.out _ hb.out).mono ?_
  rintro e u1 ⟨rfl, r⟩
  replace X1 := Lib.hid (X1.out.below r)
  replace X2 := Lib.hid (X2.out.below r)
  replace X3 := Lib.hid (X3.out.below r)
  replace hb := Lib.hid (then_below hb.out r)
  have a0 := X1.out.c0
  have a1 := X1.out.c1
  have a2 := X1.out.fr 0
  have a3 := X1.out.fr 1
  have b0 := X2.out.c0
  have b1 := X2.out.c1
  clear r
  go_wp2_with fail
  clear a0 a1 a2 a3 b0 b1
  obtain ⟨u2, hu2⟩ : ∃ u2, u2 = (u1.setCell ⟨B1, 0, none⟩ (.bool m1)).setCell ⟨B1, 1, none⟩ (.slice p1 (digs A).length q1) := ⟨_, rfl⟩
  replace X1 := Lib.hid (show Box2 u2 B1 61 (.bool m1) (.slice p1 (digs A).length q1) by rw [hu2]; exact (X1.out.set0 _).set1 _)
  replace X2 := Lib.hid (show Box2 u2 B2 61 (.bool n2) (.slice s2 t2 c2) by rw [hu2]; exact (X2.out.other d12.symm _).other d12.symm _)
  replace X3 := Lib.hid (show Box2 u2 B3 61 (.bool false) (.slice none 0 0) by rw [hu2]; exact (X3.out.other d13.symm _).other d13.symm _)
  replace hb := Lib.hid (show Below w.heap.size w u2 by rw [hu2]; exact below_sets hb.out e1.out _ _)
  rw [← hu2]
  clear hu2
  go_at_call 134
  refine (KO2.out _ hb.out).mono ?_
  rintro e u3 ⟨rfl, r⟩
  replace X1 := Lib.hid (X1.out.below r)
  replace X2 := Lib.hid (X2.out.below r)
  replace X3 := Lib.hid (X3.out.below r)
  replace hb := Lib.hid (then_below hb.out r)
  have a0 := X1.out.c0
  have a1 := X1.out.c1
  have b0 := X2.out.c0
  have b1 := X2.out.c1
  have b2 := X2.out.fr 0
  have b3 := X2.out.fr 1
  clear r
  go_wp2_with fail
  clear a0 a1 b0 b1 b2 b3
  obtain ⟨u4, hu4⟩ : ∃ u4, u4 = (u3.setCell ⟨B2, 0, none⟩ (.bool m1)).setCell ⟨B2, 1, none⟩ (.slice p2 (digs B).length q2) := ⟨_, rfl⟩
  replace X1 := Lib.hid (show Box2 u4 B1 61 (.bool m1) (.slice p1 (digs A).length q1) by rw [hu4]; exact (X1.out.other d12 _).other d12 _)
  replace X2 := Lib.hid (show Box2 u4 B2 61 (.bool m1) (.slice p2 (digs B).length q2) by rw [hu4]; exact (X2.out.set0 _).set1 _)
  replace X3 := Lib.hid (show Box2 u4 B3 61 (.bool false) (.slice none 0 0) by rw [hu4]; exact (X3.out.other d23.symm _).other d23.symm _)
  replace hb := Lib.hid (show Below w.heap.size w u4 by rw [hu4]; exact below_sets hb.out e2.out _ _)
  rw [← hu4]
  clear hu4
  have a0 := X1.out.c0
  have a1 := X1.out.c1
  have b0 := X2.out.c0
  have b1 := X2.out.c1
  go_wp2_with fail
  have hb2 := Lib.hid hb.out.drew
  have Y1 := Lib.hid X1.out.drew
  have Y2 := Lib.hid X2.out.drew
  have Y3 := Lib.hid X3.out.drew
  go_region_held3 (fun w' => w'.cell? ⟨B1, 0, none⟩ = some (.bool m1) ∧ w'.cell? ⟨B1, 1, none⟩ = some (.slice p1 (digs A).length q1) ∧ w'.cell? ⟨B2, 0, none⟩ = some (.bool m1) ∧ w'.cell? ⟨B2, 1, none⟩ = some (.slice p2 (digs B).length q2))
    (first
      | (with_reducible exact ⟨a0, a1, b0, b1⟩)
      | (with_reducible exact ⟨Y1.out.c0, Y1.out.c1, Y2.out.c0, Y2.out.c1⟩)
      | (with_reducible exact ⟨C1.out.c0, C1.out.c1, C2.out.c0, C2.out.c1⟩)
      | (with_reducible exact ⟨E1.out.c0, E1.out.c1, E2.out.c0, E2.out.c1⟩)
      | (with_reducible exact ⟨F1.out.c0, F1.out.c1, F2.out.c0, F2.out.c1⟩)
      | go_keep)
    ((first
      | (go_at_call 17; refine (KA.out _ hb2.out).mono ?_; rintro e w1 ⟨a, c, rfl, g0, r1⟩; have g := Lib.hid g0; have hb3 := Lib.hid (then_below hb2.out r1); have C1 := Lib.hid (Y1.out.below r1); have C2 := Lib.hid (Y2.out.below r1); have C3 := Lib.hid (Y3.out.below r1); clear g0 r1)
      | (go_at_call 135; refine (KS.out _ _ _).mono ?_; rintro e w2 ⟨rfl, r2⟩; have E1 := Lib.hid (C1.out.below r2); have E2 := Lib.hid (C2.out.below r2); have E3 := Lib.hid (C3.out.below r2); have F1 := Lib.hid ((E1.out.other (B' := B3) (o := 0) d13 (.bool (m1 && decide (0 < N)))).other (B' := B3) (o := 1) d13 (.slice a (digs N).length c)); have F2 := Lib.hid ((E2.out.other (B' := B3) (o := 0) d23 (.bool (m1 && decide (0 < N)))).other (B' := B3) (o := 1) d23 (.slice a (digs N).length c)); have q4' := E3.out.c0; have q5' := E3.out.c1; have q6 := E3.out.fr 0; have q7 := E3.out.fr 1; have g2 := Lib.hid (g.out.below r2); have hb4 := Lib.hid (then_below hb3.out r2); clear r2)))
  all_goals
    go_wp2
    refine ret_box2 rfl rfl ((E3.out.set0 _).set1 _) Tryz.underlying61 size_int rfl ?_
    exact ⟨a, c, rfl, g2.out.sets E3.out, below_sets hb4.out e3.out _ _⟩

set_option maxHeartbeats 4000000 in
theorem rimul_any {N : Nat} (f1 : ∃ a n c, v1 = .slice a n c) (f2 : ∃ a n c, v2 = .slice a n c)
    (ko1 : ∀ W, Below w.heap.size w W → Calls Tryz.prog 134 #[.agg #[.bool n1, v1]] W fun e w' => e = .returned (.agg #[.bool m1, .slice p1 (digs A).length q1]) ∧ Below W.heap.size W w')
    (ko2 : ∀ W, Below w.heap.size w W → Calls Tryz.prog 134 #[.agg #[.bool n2, v2]] W fun e w' => e = .returned (.agg #[.bool m2, .slice p2 (digs B).length q2]) ∧ Below W.heap.size W w')
    (h1 : Reads w (.slice p1 (digs A).length q1) (digs A)) (h2 : Reads w (.slice p2 (digs B).length q2) (digs B)) (l1 : (digs A).length ≤ 100000) (l2 : (digs B).length ≤ 100000) (e : N = A * B) :
    Calls Tryz.prog 50 #[.agg #[.bool n1, v1], .agg #[.bool n2, v2]] w fun e w' => ∃ a c, e = .returned (.agg #[.bool ((m1 != m2) && decide (0 < N)), .slice a (digs N).length c]) ∧ Reads w' (.slice a (digs N).length c) (digs N) ∧ Below w.heap.size w w' := by
  obtain ⟨s1, t1, c1, rfl⟩ := f1
  obtain ⟨s2, t2, c2, rfl⟩ := f2
  have ka : ∀ W, Below w.heap.size w W → _ := fun W hW => rd_mul (w := W) N (h1.below hW) (h2.below hW) l1 l2 e
  have ks := fun W a c => rsigned_any (m1 != m2) a (digs N).length c W
  rw [dec_digs] at ks
  have KS := Lib.hid ks
  have KA := Lib.hid ka
  clear ka ks h1 h2 e l1 l2
  have KO1 := Lib.hid ko1
  have KO2 := Lib.hid ko2
  clear ko1 ko2
  obtain ⟨u0, hu0⟩ : ∃ u0, u0 = ((w.alloc (.cells #[.bool n1, .slice s1 t1 c1] 61)).alloc (.cells #[.bool n2, .slice s2 t2 c2] 61)).alloc (.cells #[.bool false, .slice none 0 0] 61) := ⟨_, rfl⟩
  have X1 := Lib.hid (show Box2 u0 w.heap.size 61 (.bool n1) (.slice s1 t1 c1) by rw [hu0]; exact ((Box2.new w _ _ _).alloc _).alloc _)
  have X2 := Lib.hid (show Box2 u0 (w.heap.size + 1) 61 (.bool n2) (.slice s2 t2 c2) by rw [hu0]; exact (Box2.new1 w _ _ _ _).alloc _)
  have X3 := Lib.hid (show Box2 u0 (w.heap.size + 1 + 1) 61 (.bool false) (.slice none 0 0) by
    rw [hu0]
    have := Box2.new1 (w.alloc (.cells #[.bool n1, .slice s1 t1 c1] 61)) (.cells #[.bool n2, .slice s2 t2 c2] 61) 61 (.bool false) (.slice none 0 0)
    rwa [World.size_alloc] at this)
  have hb := Lib.hid (show Below w.heap.size w u0 by rw [hu0]; exact (((Below.refl _ _).alloc (Nat.le_refl _) _).alloc (by simp) _).alloc (by simp; omega) _)
  obtain ⟨B1, hB1⟩ : ∃ b, b = w.heap.size := ⟨_, rfl⟩
  obtain ⟨B2, hB2⟩ : ∃ b, b = w.heap.size + 1 := ⟨_, rfl⟩
  obtain ⟨B3, hB3⟩ : ∃ b, b = w.heap.size + 1 + 1 := ⟨_, rfl⟩
  have d12 : B1 ≠ B2 := by omega
  have d13 : B1 ≠ B3 := by omega
  have d23 : B2 ≠ B3 := by omega
  have e1 := Lib.hid (show w.heap.size ≤ B1 by omega)
  have e2 := Lib.hid (show w.heap.size ≤ B2 by omega)
  have e3 := Lib.hid (show w.heap.size ≤ B3 by omega)
  rw [← hB1] at X1
  rw [← hB2] at X2
  rw [← hB3] at X3
  have hu0' := Lib.hid hu0
  have hB1' := Lib.hid hB1
  have hB2' := Lib.hid hB2
  have hB3' := Lib.hid hB3
  clear hu0 hB1 hB2 hB3
  go_enter Tryz.func50, Tryz.ntmps50
  go_wp2_with fail
  rw [← hu0'.out, ← hB3'.out, ← hB2'.out, ← hB1'.out]
  clear hu0' hB1' hB2' hB3'
  go_at_call 134
  refine (KO1.out _ hb.out).mono ?_
  rintro e u1 ⟨rfl, r⟩
  replace X1 := Lib.hid (X1.out.below r)
  replace X2 := Lib.hid (X2.out.below r)
  replace X3 := Lib.hid (X3.out.below r)
  replace hb := Lib.hid (then_below hb.out r)
  have a0 := X1.out.c0
  have a1 := X1.out.c1
  have a2 := X1.out.fr 0
  have a3 := X1.out.fr 1
  have b0 := X2.out.c0
  have b1 := X2.out.c1
  clear r
  go_wp2_with fail
  clear a0 a1 a2 a3 b0 b1
  obtain ⟨u2, hu2⟩ : ∃ u2, u2 = (u1.setCell ⟨B1, 0, none⟩ (.bool m1)).setCell ⟨B1, 1, none⟩ (.slice p1 (digs A).length q1) := ⟨_, rfl⟩
  replace X1 := Lib.hid (show Box2 u2 B1 61 (.bool m1) (.slice p1 (digs A).length q1) by rw [hu2]; exact (X1.out.set0 _).set1 _)
  replace X2 := Lib.hid (show Box2 u2 B2 61 (.bool n2) (.slice s2 t2 c2) by rw [hu2]; exact (X2.out.other d12.symm _).other d12.symm _)
  replace X3 := Lib.hid (show Box2 u2 B3 61 (.bool false) (.slice none 0 0) by rw [hu2]; exact (X3.out.other d13.symm _).other d13.symm _)
  replace hb := Lib.hid (show Below w.heap.size w u2 by rw [hu2]; exact below_sets hb.out e1.out _ _)
  rw [← hu2]
  clear hu2
  go_at_call 134
  refine (KO2.out _ hb.out).mono ?_
  rintro e u3 ⟨rfl, r⟩
  replace X1 := Lib.hid (X1.out.below r)
  replace X2 := Lib.hid (X2.out.below r)
  replace X3 := Lib.hid (X3.out.below r)
  replace hb := Lib.hid (then_below hb.out r)
  have a0 := X1.out.c0
  have a1 := X1.out.c1
  have b0 := X2.out.c0
  have b1 := X2.out.c1
  have b2 := X2.out.fr 0
  have b3 := X2.out.fr 1
  clear r
  go_wp2_with fail
  clear a0 a1 b0 b1 b2 b3
  obtain ⟨u4, hu4⟩ : ∃ u4, u4 = (u3.setCell ⟨B2, 0, none⟩ (.bool m2)).setCell ⟨B2, 1, none⟩ (.slice p2 (digs B).length q2) := ⟨_, rfl⟩
  replace X1 := Lib.hid (show Box2 u4 B1 61 (.bool m1) (.slice p1 (digs A).length q1) by rw [hu4]; exact (X1.out.other d12 _).other d12 _)
  replace X2 := Lib.hid (show Box2 u4 B2 61 (.bool m2) (.slice p2 (digs B).length q2) by rw [hu4]; exact (X2.out.set0 _).set1 _)
  replace X3 := Lib.hid (show Box2 u4 B3 61 (.bool false) (.slice none 0 0) by rw [hu4]; exact (X3.out.other d23.symm _).other d23.symm _)
  replace hb := Lib.hid (show Below w.heap.size w u4 by rw [hu4]; exact below_sets hb.out e2.out _ _)
  rw [← hu4]
  clear hu4
  have a0 := X1.out.c0
  have a1 := X1.out.c1
  have b0 := X2.out.c0
  have b1 := X2.out.c1
  go_wp2_with fail
  have hb2 := Lib.hid hb.out.drew
  have Y1 := Lib.hid X1.out.drew
  have Y2 := Lib.hid X2.out.drew
  have Y3 := Lib.hid X3.out.drew
  go_region_held3 (fun w' => w'.cell? ⟨B1, 0, none⟩ = some (.bool m1) ∧ w'.cell? ⟨B1, 1, none⟩ = some (.slice p1 (digs A).length q1) ∧ w'.cell? ⟨B2, 0, none⟩ = some (.bool m2) ∧ w'.cell? ⟨B2, 1, none⟩ = some (.slice p2 (digs B).length q2))
    (first
      | (with_reducible exact ⟨a0, a1, b0, b1⟩)
      | (with_reducible exact ⟨Y1.out.c0, Y1.out.c1, Y2.out.c0, Y2.out.c1⟩)
      | (with_reducible exact ⟨C1.out.c0, C1.out.c1, C2.out.c0, C2.out.c1⟩)
      | (with_reducible exact ⟨E1.out.c0, E1.out.c1, E2.out.c0, E2.out.c1⟩)
      | (with_reducible exact ⟨F1.out.c0, F1.out.c1, F2.out.c0, F2.out.c1⟩)
      | go_keep)
    ((first
      | (go_at_call 18; refine (KA.out _ hb2.out).mono ?_; rintro e w1 ⟨a, c, rfl, g0, r1⟩; have g := Lib.hid g0; have hb3 := Lib.hid (then_below hb2.out r1); have C1 := Lib.hid (Y1.out.below r1); have C2 := Lib.hid (Y2.out.below r1); have C3 := Lib.hid (Y3.out.below r1); clear g0 r1)
      | (go_at_call 135; refine (KS.out _ _ _).mono ?_; rintro e w2 ⟨rfl, r2⟩; have E1 := Lib.hid (C1.out.below r2); have E2 := Lib.hid (C2.out.below r2); have E3 := Lib.hid (C3.out.below r2); have F1 := Lib.hid ((E1.out.other (B' := B3) (o := 0) d13 (.bool ((m1 != m2) && decide (0 < N)))).other (B' := B3) (o := 1) d13 (.slice a (digs N).length c)); have F2 := Lib.hid ((E2.out.other (B' := B3) (o := 0) d23 (.bool ((m1 != m2) && decide (0 < N)))).other (B' := B3) (o := 1) d23 (.slice a (digs N).length c)); have q4' := E3.out.c0; have q5' := E3.out.c1; have q6 := E3.out.fr 0; have q7 := E3.out.fr 1; have g2 := Lib.hid (g.out.below r2); have hb4 := Lib.hid (then_below hb3.out r2); clear r2)))
  all_goals
    go_wp2
    refine ret_box2 rfl rfl ((E3.out.set0 _).set1 _) Tryz.underlying61 size_int rfl ?_
    exact ⟨a, c, rfl, g2.out.sets E3.out, below_sets hb4.out e3.out _ _⟩

set_option maxHeartbeats 4000000 in
theorem riadd_ge {N : Nat} (f1 : ∃ a n c, v1 = .slice a n c) (f2 : ∃ a n c, v2 = .slice a n c)
    (ko1 : ∀ W, Below w.heap.size w W → Calls Tryz.prog 134 #[.agg #[.bool n1, v1]] W fun e w' => e = .returned (.agg #[.bool m1, .slice p1 (digs A).length q1]) ∧ Below W.heap.size W w')
    (ko2 : ∀ W, Below w.heap.size w W → Calls Tryz.prog 134 #[.agg #[.bool n2, v2]] W fun e w' => e = .returned (.agg #[.bool (!m1), .slice p2 (digs B).length q2]) ∧ Below W.heap.size W w')
    (h1 : Reads w (.slice p1 (digs A).length q1) (digs A)) (h2 : Reads w (.slice p2 (digs B).length q2) (digs B)) (l1 : (digs A).length ≤ 100000) (l2 : (digs B).length ≤ 100000) (hle : B ≤ A) (e : N = A - B) :
    Calls Tryz.prog 48 #[.agg #[.bool n1, v1], .agg #[.bool n2, v2]] w fun e w' => ∃ a c, e = .returned (.agg #[.bool (m1 && decide (0 < N)), .slice a (digs N).length c]) ∧ Reads w' (.slice a (digs N).length c) (digs N) ∧ Below w.heap.size w w' := by
  obtain ⟨s1, t1, c1, rfl⟩ := f1
  obtain ⟨s2, t2, c2, rfl⟩ := f2
  have ka : ∀ W, Below w.heap.size w W → _ := fun W hW => rd_sub (w := W) N (h1.below hW) (h2.below hW) l1 l2 hle e
  have kc : ∀ W, Below w.heap.size w W → _ := fun W hW => rd_cmp (w := W) (h1.below hW) (h2.below hW) l1 l2
  obtain ⟨z, hz⟩ : ∃ z, z = sgn A B := ⟨_, rfl⟩
  rw [← hz] at kc
  have hz0 : ¬ z < 0 := by rw [hz]; unfold sgn; split; omega; split <;> omega
  have ks := fun W a c => rsigned_any (m1) a (digs N).length c W
  rw [dec_digs] at ks
  have KS := Lib.hid ks
  have KA := Lib.hid ka
  have KC := Lib.hid kc
  clear ka kc ks h1 h2 e l1 l2 hz hle
  have KO1 := Lib.hid ko1
  have KO2 := Lib.hid ko2
  clear ko1 ko2
  obtain ⟨u0, hu0⟩ : ∃ u0, u0 = ((w.alloc (.cells #[.bool n1, .slice s1 t1 c1] 61)).alloc (.cells #[.bool n2, .slice s2 t2 c2] 61)).alloc (.cells #[.bool false, .slice none 0 0] 61) := ⟨_, rfl⟩
  have X1 := Lib.hid (show Box2 u0 w.heap.size 61 (.bool n1) (.slice s1 t1 c1) by rw [hu0]; exact ((Box2.new w _ _ _).alloc _).alloc _)
  have X2 := Lib.hid (show Box2 u0 (w.heap.size + 1) 61 (.bool n2) (.slice s2 t2 c2) by rw [hu0]; exact (Box2.new1 w _ _ _ _).alloc _)
  have X3 := Lib.hid (show Box2 u0 (w.heap.size + 1 + 1) 61 (.bool false) (.slice none 0 0) by
    rw [hu0]
    have := Box2.new1 (w.alloc (.cells #[.bool n1, .slice s1 t1 c1] 61)) (.cells #[.bool n2, .slice s2 t2 c2] 61) 61 (.bool false) (.slice none 0 0)
    rwa [World.size_alloc] at this)
  have hb := Lib.hid (show Below w.heap.size w u0 by rw [hu0]; exact (((Below.refl _ _).alloc (Nat.le_refl _) _).alloc (by simp) _).alloc (by simp; omega) _)
  obtain ⟨B1, hB1⟩ : ∃ b, b = w.heap.size := ⟨_, rfl⟩
  obtain ⟨B2, hB2⟩ : ∃ b, b = w.heap.size + 1 := ⟨_, rfl⟩
  obtain ⟨B3, hB3⟩ : ∃ b, b = w.heap.size + 1 + 1 := ⟨_, rfl⟩
  have d12 : B1 ≠ B2 := by omega
  have d13 : B1 ≠ B3 := by omega
  have d23 : B2 ≠ B3 := by omega
  have e1 := Lib.hid (show w.heap.size ≤ B1 by omega)
  have e2 := Lib.hid (show w.heap.size ≤ B2 by omega)
  have e3 := Lib.hid (show w.heap.size ≤ B3 by omega)
  rw [← hB1] at X1
  rw [← hB2] at X2
  rw [← hB3] at X3
  have hu0' := Lib.hid hu0
  have hB1' := Lib.hid hB1
  have hB2' := Lib.hid hB2
  have hB3' := Lib.hid hB3
  clear hu0 hB1 hB2 hB3
  go_enter Tryz.func48, Tryz.ntmps48
  go_wp2_with fail
  rw [← hu0'.out, ← hB3'.out, ← hB2'.out, ← hB1'.out]
  clear hu0' hB1' hB2' hB3'
  go_at_call 134
  refine (KO1.out _ hb.out).mono ?_
  rintro e u1 ⟨rfl, r⟩
  replace X1 := Lib.hid (X1.out.below r)
  replace X2 := Lib.hid (X2.out.below r)
  replace X3 := Lib.hid (X3.out.below r)
  replace hb := Lib.hid (then_below hb.out r)
  have a0 := X1.out.c0
  have a1 := X1.out.c1
  have a2 := X1.out.fr 0
  have a3 := X1.out.fr 1
  have b0 := X2.out.c0
  have b1 := X2.out.c1
  clear r
  go_wp2_with fail
  clear a0 a1 a2 a3 b0 b1
  obtain ⟨u2, hu2⟩ : ∃ u2, u2 = (u1.setCell ⟨B1, 0, none⟩ (.bool m1)).setCell ⟨B1, 1, none⟩ (.slice p1 (digs A).length q1) := ⟨_, rfl⟩
  replace X1 := Lib.hid (show Box2 u2 B1 61 (.bool m1) (.slice p1 (digs A).length q1) by rw [hu2]; exact (X1.out.set0 _).set1 _)
  replace X2 := Lib.hid (show Box2 u2 B2 61 (.bool n2) (.slice s2 t2 c2) by rw [hu2]; exact (X2.out.other d12.symm _).other d12.symm _)
  replace X3 := Lib.hid (show Box2 u2 B3 61 (.bool false) (.slice none 0 0) by rw [hu2]; exact (X3.out.other d13.symm _).other d13.symm _)
  replace hb := Lib.hid (show Below w.heap.size w u2 by rw [hu2]; exact below_sets hb.out e1.out _ _)
  rw [← hu2]
  clear hu2
  go_at_call 134
  refine (KO2.out _ hb.out).mono ?_
  rintro e u3 ⟨rfl, r⟩
  replace X1 := Lib.hid (X1.out.below r)
  replace X2 := Lib.hid (X2.out.below r)
  replace X3 := Lib.hid (X3.out.below r)
  replace hb := Lib.hid (then_below hb.out r)
  have a0 := X1.out.c0
  have a1 := X1.out.c1
  have b0 := X2.out.c0
  have b1 := X2.out.c1
  have b2 := X2.out.fr 0
  have b3 := X2.out.fr 1
  clear r
  go_wp2_with fail
  clear a0 a1 b0 b1 b2 b3
  obtain ⟨u4, hu4⟩ : ∃ u4, u4 = (u3.setCell ⟨B2, 0, none⟩ (.bool (!m1))).setCell ⟨B2, 1, none⟩ (.slice p2 (digs B).length q2) := ⟨_, rfl⟩
  replace X1 := Lib.hid (show Box2 u4 B1 61 (.bool m1) (.slice p1 (digs A).length q1) by rw [hu4]; exact (X1.out.other d12 _).other d12 _)
  replace X2 := Lib.hid (show Box2 u4 B2 61 (.bool (!m1)) (.slice p2 (digs B).length q2) by rw [hu4]; exact (X2.out.set0 _).set1 _)
  replace X3 := Lib.hid (show Box2 u4 B3 61 (.bool false) (.slice none 0 0) by rw [hu4]; exact (X3.out.other d23.symm _).other d23.symm _)
  replace hb := Lib.hid (show Below w.heap.size w u4 by rw [hu4]; exact below_sets hb.out e2.out _ _)
  rw [← hu4]
  clear hu4
  have a0 := X1.out.c0
  have a1 := X1.out.c1
  have b0 := X2.out.c0
  have b1 := X2.out.c1
  go_wp2_with fail
  go_at_call 15
  refine (KC.out _ hb.out).mono ?_
  rintro e w1 ⟨rfl, r1⟩
  replace X1 := Lib.hid (X1.out.below r1)
  replace X2 := Lib.hid (X2.out.below r1)
  replace X3 := Lib.hid (X3.out.below r1)
  replace hb := Lib.hid (then_below hb.out r1)
  replace a0 := X1.out.c0
  replace a1 := X1.out.c1
  replace b0 := X2.out.c0
  replace b1 := X2.out.c1
  clear r1
  go_wp2_with fail
  go_at_call 13
  refine (KA.out _ hb.out).mono ?_
  rintro e w2 ⟨a, c, rfl, g, r1⟩
  replace X1 := Lib.hid (X1.out.below r1)
  replace X2 := Lib.hid (X2.out.below r1)
  replace X3 := Lib.hid (X3.out.below r1)
  replace hb := Lib.hid (then_below hb.out r1)
  replace a0 := X1.out.c0
  replace a1 := X1.out.c1
  replace b0 := X2.out.c0
  replace b1 := X2.out.c1
  have G := Lib.hid g
  clear r1 g
  go_wp2_with fail
  go_at_call 135
  refine (KS.out _ _ _).mono ?_
  rintro e w3 ⟨rfl, r1⟩
  have D3 := X3.out.below r1
  have q4' := D3.c0
  have q5' := D3.c1
  have q6 := D3.fr 0
  have q7 := D3.fr 1
  have R1 := Lib.hid r1
  have HD3 := Lib.hid D3
  clear r1 D3
  go_wp2
  refine ret_box2 rfl rfl ((HD3.out.set0 _).set1 _) Tryz.underlying61 size_int rfl ?_
  exact ⟨a, c, rfl, (G.out.below R1.out).sets HD3.out, below_sets (then_below hb.out R1.out) e3.out _ _⟩

set_option maxHeartbeats 4000000 in
theorem riadd_lt {N : Nat} (f1 : ∃ a n c, v1 = .slice a n c) (f2 : ∃ a n c, v2 = .slice a n c)
    (ko1 : ∀ W, Below w.heap.size w W → Calls Tryz.prog 134 #[.agg #[.bool n1, v1]] W fun e w' => e = .returned (.agg #[.bool m1, .slice p1 (digs A).length q1]) ∧ Below W.heap.size W w')
    (ko2 : ∀ W, Below w.heap.size w W → Calls Tryz.prog 134 #[.agg #[.bool n2, v2]] W fun e w' => e = .returned (.agg #[.bool (!m1), .slice p2 (digs B).length q2]) ∧ Below W.heap.size W w')
    (h1 : Reads w (.slice p1 (digs A).length q1) (digs A)) (h2 : Reads w (.slice p2 (digs B).length q2) (digs B)) (l1 : (digs A).length ≤ 100000) (l2 : (digs B).length ≤ 100000) (hlt : A < B) (e : N = B - A) :
    Calls Tryz.prog 48 #[.agg #[.bool n1, v1], .agg #[.bool n2, v2]] w fun e w' => ∃ a c, e = .returned (.agg #[.bool ((!m1) && decide (0 < N)), .slice a (digs N).length c]) ∧ Reads w' (.slice a (digs N).length c) (digs N) ∧ Below w.heap.size w w' := by
  obtain ⟨s1, t1, c1, rfl⟩ := f1
  obtain ⟨s2, t2, c2, rfl⟩ := f2
  have ka : ∀ W, Below w.heap.size w W → _ := fun W hW => rd_sub (w := W) N (h2.below hW) (h1.below hW) l2 l1 (Nat.le_of_lt hlt) e
  have kc : ∀ W, Below w.heap.size w W → _ := fun W hW => rd_cmp (w := W) (h1.below hW) (h2.below hW) l1 l2
  obtain ⟨z, hz⟩ : ∃ z, z = sgn A B := ⟨_, rfl⟩
  rw [← hz] at kc
  have hz0 : z < 0 := by rw [hz]; unfold sgn; rw [if_pos hlt]; omega
  have ks := fun W a c => rsigned_any (!m1) a (digs N).length c W
  rw [dec_digs] at ks
  have KS := Lib.hid ks
  have KA := Lib.hid ka
  have KC := Lib.hid kc
  clear ka kc ks h1 h2 e l1 l2 hz hlt
  have KO1 := Lib.hid ko1
  have KO2 := Lib.hid ko2
  clear ko1 ko2
  obtain ⟨u0, hu0⟩ : ∃ u0, u0 = ((w.alloc (.cells #[.bool n1, .slice s1 t1 c1] 61)).alloc (.cells #[.bool n2, .slice s2 t2 c2] 61)).alloc (.cells #[.bool false, .slice none 0 0] 61) := ⟨_, rfl⟩
  have X1 := Lib.hid (show Box2 u0 w.heap.size 61 (.bool n1) (.slice s1 t1 c1) by rw [hu0]; exact ((Box2.new w _ _ _).alloc _).alloc _)
  have X2 := Lib.hid (show Box2 u0 (w.heap.size + 1) 61 (.bool n2) (.slice s2 t2 c2) by rw [hu0]; exact (Box2.new1 w _ _ _ _).alloc _)
  have X3 := Lib.hid (show Box2 u0 (w.heap.size + 1 + 1) 61 (.bool false) (.slice none 0 0) by
    rw [hu0]
    have := Box2.new1 (w.alloc (.cells #[.bool n1, .slice s1 t1 c1] 61)) (.cells #[.bool n2, .slice s2 t2 c2] 61) 61 (.bool false) (.slice none 0 0)
    rwa [World.size_alloc] at this)
  have hb := Lib.hid (show Below w.heap.size w u0 by rw [hu0]; exact (((Below.refl _ _).alloc (Nat.le_refl _) _).alloc (by simp) _).alloc (by simp; omega) _)
  obtain ⟨B1, hB1⟩ : ∃ b, b = w.heap.size := ⟨_, rfl⟩
  obtain ⟨B2, hB2⟩ : ∃ b, b = w.heap.size + 1 := ⟨_, rfl⟩
  obtain ⟨B3, hB3⟩ : ∃ b, b = w.heap.size + 1 + 1 := ⟨_, rfl⟩
  have d12 : B1 ≠ B2 := by omega
  have d13 : B1 ≠ B3 := by omega
  have d23 : B2 ≠ B3 := by omega
  have e1 := Lib.hid (show w.heap.size ≤ B1 by omega)
  have e2 := Lib.hid (show w.heap.size ≤ B2 by omega)
  have e3 := Lib.hid (show w.heap.size ≤ B3 by omega)
  rw [← hB1] at X1
  rw [← hB2] at X2
  rw [← hB3] at X3
  have hu0' := Lib.hid hu0
  have hB1' := Lib.hid hB1
  have hB2' := Lib.hid hB2
  have hB3' := Lib.hid hB3
  clear hu0 hB1 hB2 hB3
  go_enter Tryz.func48, Tryz.ntmps48
  go_wp2_with fail
  rw [← hu0'.out, ← hB3'.out, ← hB2'.out, ← hB1'.out]
  clear hu0' hB1' hB2' hB3'
  go_at_call 134
  refine (KO1.out _ hb.out).mono ?_
  rintro e u1 ⟨rfl, r⟩
  replace X1 := Lib.hid (X1.out.below r)
  replace X2 := Lib.hid (X2.out.below r)
  replace X3 := Lib.hid (X3.out.below r)
  replace hb := Lib.hid (then_below hb.out r)
  have a0 := X1.out.c0
  have a1 := X1.out.c1
  have a2 := X1.out.fr 0
  have a3 := X1.out.fr 1
  have b0 := X2.out.c0
  have b1 := X2.out.c1
  clear r
  go_wp2_with fail
  clear a0 a1 a2 a3 b0 b1
  obtain ⟨u2, hu2⟩ : ∃ u2, u2 = (u1.setCell ⟨B1, 0, none⟩ (.bool m1)).setCell ⟨B1, 1, none⟩ (.slice p1 (digs A).length q1) := ⟨_, rfl⟩
  replace X1 := Lib.hid (show Box2 u2 B1 61 (.bool m1) (.slice p1 (digs A).length q1) by rw [hu2]; exact (X1.out.set0 _).set1 _)
  replace X2 := Lib.hid (show Box2 u2 B2 61 (.bool n2) (.slice s2 t2 c2) by rw [hu2]; exact (X2.out.other d12.symm _).other d12.symm _)
  replace X3 := Lib.hid (show Box2 u2 B3 61 (.bool false) (.slice none 0 0) by rw [hu2]; exact (X3.out.other d13.symm _).other d13.symm _)
  replace hb := Lib.hid (show Below w.heap.size w u2 by rw [hu2]; exact below_sets hb.out e1.out _ _)
  rw [← hu2]
  clear hu2
  go_at_call 134
  refine (KO2.out _ hb.out).mono ?_
  rintro e u3 ⟨rfl, r⟩
  replace X1 := Lib.hid (X1.out.below r)
  replace X2 := Lib.hid (X2.out.below r)
  replace X3 := Lib.hid (X3.out.below r)
  replace hb := Lib.hid (then_below hb.out r)
  have a0 := X1.out.c0
  have a1 := X1.out.c1
  have b0 := X2.out.c0
  have b1 := X2.out.c1
  have b2 := X2.out.fr 0
  have b3 := X2.out.fr 1
  clear r
  go_wp2_with fail
  clear a0 a1 b0 b1 b2 b3
  obtain ⟨u4, hu4⟩ : ∃ u4, u4 = (u3.setCell ⟨B2, 0, none⟩ (.bool (!m1))).setCell ⟨B2, 1, none⟩ (.slice p2 (digs B).length q2) := ⟨_, rfl⟩
  replace X1 := Lib.hid (show Box2 u4 B1 61 (.bool m1) (.slice p1 (digs A).length q1) by rw [hu4]; exact (X1.out.other d12 _).other d12 _)
  replace X2 := Lib.hid (show Box2 u4 B2 61 (.bool (!m1)) (.slice p2 (digs B).length q2) by rw [hu4]; exact (X2.out.set0 _).set1 _)
  replace X3 := Lib.hid (show Box2 u4 B3 61 (.bool false) (.slice none 0 0) by rw [hu4]; exact (X3.out.other d23.symm _).other d23.symm _)
  replace hb := Lib.hid (show Below w.heap.size w u4 by rw [hu4]; exact below_sets hb.out e2.out _ _)
  rw [← hu4]
  clear hu4
  have a0 := X1.out.c0
  have a1 := X1.out.c1
  have b0 := X2.out.c0
  have b1 := X2.out.c1
  go_wp2_with fail
  go_at_call 15
  refine (KC.out _ hb.out).mono ?_
  rintro e w1 ⟨rfl, r1⟩
  replace X1 := Lib.hid (X1.out.below r1)
  replace X2 := Lib.hid (X2.out.below r1)
  replace X3 := Lib.hid (X3.out.below r1)
  replace hb := Lib.hid (then_below hb.out r1)
  replace a0 := X1.out.c0
  replace a1 := X1.out.c1
  replace b0 := X2.out.c0
  replace b1 := X2.out.c1
  clear r1
  go_wp2_with fail
  go_at_call 13
  refine (KA.out _ hb.out).mono ?_
  rintro e w2 ⟨a, c, rfl, g, r1⟩
  replace X1 := Lib.hid (X1.out.below r1)
  replace X2 := Lib.hid (X2.out.below r1)
  replace X3 := Lib.hid (X3.out.below r1)
  replace hb := Lib.hid (then_below hb.out r1)
  replace a0 := X1.out.c0
  replace a1 := X1.out.c1
  replace b0 := X2.out.c0
  replace b1 := X2.out.c1
  have G := Lib.hid g
  clear r1 g
  go_wp2_with fail
  go_at_call 135
  refine (KS.out _ _ _).mono ?_
  rintro e w3 ⟨rfl, r1⟩
  have D3 := X3.out.below r1
  have q4' := D3.c0
  have q5' := D3.c1
  have q6 := D3.fr 0
  have q7 := D3.fr 1
  have R1 := Lib.hid r1
  have HD3 := Lib.hid D3
  clear r1 D3
  go_wp2
  refine ret_box2 rfl rfl ((HD3.out.set0 _).set1 _) Tryz.underlying61 size_int rfl ?_
  exact ⟨a, c, rfl, (G.out.below R1.out).sets HD3.out, below_sets (then_below hb.out R1.out) e3.out _ _⟩

end

end Go.Proofs.YtmbnojkciikobaaGreatDoor

namespace Go.Proofs.YtmbnojkciikobaaGreatDoor
open Go Go.Proofs Go.RowKit Go.Shelf Nu

/-- both arguments' boxes, and the result's, if there is one -/
def BoxS (s : Nat) (t : TypeId) (n1 : Bool) (s1 : Option Addr) (t1 c1 : Nat) (n2 : Bool) (s2 : Option Addr) (t2 c2 : Nat) (res : Bool) (W : World) : Prop :=
  Box2 W s t (.bool n1) (.slice s1 t1 c1) ∧ Box2 W (s + 1) t (.bool n2) (.slice s2 t2 c2) ∧ (res = true → Box2 W (s + 1 + 1) t (.bool false) (.slice none 0 0)) ∧ s + 1 + (if res then 1 else 0) < W.heap.size
section
variable {s : Nat} {t : TypeId} {n1 n2 : Bool} {s1 s2 : Option Addr} {t1 c1 t2 c2 : Nat} {res : Bool} {W : World}
theorem BoxS.alloc (h : BoxS s t n1 s1 t1 c1 n2 s2 t2 c2 res W) (o : Obj) : BoxS s t n1 s1 t1 c1 n2 s2 t2 c2 res (W.alloc o) := ⟨h.1.alloc o, h.2.1.alloc o, fun e => (h.2.2.1 e).alloc o, by have := h.2.2.2; rw [World.size_alloc]; omega⟩
theorem BoxS.below (h : BoxS s t n1 s1 t1 c1 n2 s2 t2 c2 res W) {W' : World} (hb : Below W.heap.size W W') : BoxS s t n1 s1 t1 c1 n2 s2 t2 c2 res W' := ⟨h.1.below hb, h.2.1.below hb, fun e => (h.2.2.1 e).below hb, by have := h.2.2.2; have := hb.size; omega⟩
theorem BoxS.other (h : BoxS s t n1 s1 t1 c1 n2 s2 t2 c2 res W) {B o : Nat} (hB : s + 1 + (if res then 1 else 0) < B) (x : Value) : BoxS s t n1 s1 t1 c1 n2 s2 t2 c2 res (W.setCell ⟨B, o, none⟩ x) :=
  ⟨h.1.other (by omega) _, h.2.1.other (by omega) _, fun e => (h.2.2.1 e).other (by simp [e] at hB; omega) _, by rw [World.size_setCell]; exact h.2.2.2⟩
theorem BoxS.lt (h : BoxS s t n1 s1 t1 c1 n2 s2 t2 c2 res W) : s + 1 + (if res then 1 else 0) < W.heap.size := h.2.2.2
theorem bsC (h : BoxS s t n1 s1 t1 c1 n2 s2 t2 c2 res W) : W.cell? ⟨s, 0, none⟩ = some (.bool n1) ∧ W.cell? ⟨s, 1, none⟩ = some (.slice s1 t1 c1) ∧ W.cell? ⟨s + 1, 0, none⟩ = some (.bool n2) ∧ W.cell? ⟨s + 1, 1, none⟩ = some (.slice s2 t2 c2) := ⟨h.1.c0, h.1.c1, h.2.1.c0, h.2.1.c1⟩
end

end Go.Proofs.YtmbnojkciikobaaGreatDoor
