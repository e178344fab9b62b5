/- Whole numbers: 0 less one, its sign, two that are the same; numbers of 64 bits. -/
import Derived.Test.YtjcoaoacgcpooaaIntsForm
namespace Go.Proofs.Ytjcoaoacgcpooaa
open Go Go.Proofs Go.RowKit Go.Shelf Nu

attribute [local go_sem] Oper.semAt_some

section
variable {w : World} {v1 v2 : Value} {l1 l2 : List Nat} {n1 n2 : Bool}
set_option maxHeartbeats 4000000 in
theorem ineg_any {m1 R : Bool} {p1 : Option Addr} {q1' A : Nat} (f1 : ∃ a n c, v1 = .slice a n c) (r0 : Reads w (.slice p1 (digs A).length q1') (digs A)) (la : (digs A).length ≤ 100000) (hR : R = (!m1 && decide (0 < (digs A).length)))
    (ko1 : ∀ W, Below w.heap.size w W → Calls Try.prog 30 #[.agg #[.bool n1, v1]] W fun e w' => e = .returned (.agg #[.bool m1, .slice p1 (digs A).length q1']) ∧ Below W.heap.size W w') :
    Calls Try.prog 15 #[.agg #[.bool n1, v1]] w fun e w' => ∃ a c, e = .returned (.agg #[.bool R, .slice a (digs A).length c]) ∧ Reads w' (.slice a (digs A).length c) (digs A) ∧ Below w.heap.size w w' := by
  obtain ⟨s1, t1, c1, rfl⟩ := f1
  have B1 := (Box2.new w 25 (.bool n1) (.slice s1 t1 c1)).alloc (.cells #[.bool false, .slice none 0 0] 25)
  have B2 := Box2.new1 w (.cells #[.bool n1, .slice s1 t1 c1] 25) 25 (.bool false) (.slice none 0 0)
  have h0 : Below w.heap.size w ((w.alloc (.cells #[.bool n1, .slice s1 t1 c1] 25)).alloc (.cells #[.bool false, .slice none 0 0] 25)) := ((Below.refl _ _).alloc (Nat.le_refl _) _).alloc (by simp) _
  have ks := fun W a c => signed_any (!m1) a (digs A).length c W
  rw [← hR] at ks
  have kc : ∀ W, Below w.heap.size w W → _ := fun W hW => clone_any (r0.below hW) (by omega)
  clear r0 la hR
  go_enter Try.func15, Try.ntmps15
  go_wp2_with (go_at_call 30; refine (ko1 _ h0).mono ?_; rintro e w1 ⟨rfl, r1⟩; have C2 := B2.below r1; have h1 := then_below h0 r1)
  have hsz : w.heap.size + 1 < w1.heap.size := C2.lt
  have X := (Box2.new w1 52 (.bool m1) (.slice p1 (digs A).length q1')).drew
  have Z := (C2.alloc (.cells #[.bool m1, .slice p1 (digs A).length q1'] 52)).drew
  have h2 := (h1.alloc h1.size (.cells #[.bool m1, .slice p1 (digs A).length q1'] 52)).drew
  have x0 := X.c0
  have x1 := X.c1
  go_region_with (first
    | (go_at_call 34; refine (kc _ h2).mono ?_; clear kc; rintro e w2 ⟨v, rfl, f, r2⟩; have g := f.reads; obtain ⟨a, c, rfl⟩ := g.form; have X1 := X.below r2; have Z1 := Z.below r2; have x2 := X1.c0; have h3 := then_below h2 r2)
    | (go_at_call 32; refine (ks _ _ _).mono ?_; clear ks; rintro e w3 ⟨rfl, r3⟩; have Z2 := Z1.below r3; have z2 := Z2.c0; have z3 := Z2.c1; have z4 := Z2.fr 0; have z5 := Z2.fr 1; have h4 := then_below h3 r3))
  all_goals
    go_wp2
    refine ret_box2 rfl rfl ((Z2.set0 _).set1 _) Try.underlying25 size_int rfl ?_
    exact ⟨a, c, rfl, (g.below r3).sets Z2, below_sets h4 (by omega) _ _⟩
theorem i_neg (Z : Int) (h1 : Reads w v1 l1) (k1 : l1.length ≤ 50000) (s1 : Sm l1) (hZ : Z = - zv n1 l1) :
    Calls Try.prog 15 #[.agg #[.bool n1, v1]] w fun e w' => ∃ a c, e = .returned (.agg #[.bool (decide (Z < 0)), .slice a (digs Z.natAbs).length c]) ∧ Reads w' (.slice a (digs Z.natAbs).length c) (digs Z.natAbs) ∧ Below w.heap.size w w' := by
  obtain ⟨m1, p1, q1, A, e1, f1, r1, z1, t1, y1⟩ := iarg (n := n1) h1 s1
  have ko1 : ∀ W, Below w.heap.size w W → _ := fun W hW => iorZero_any (n := n1) (h1.below hW) (by omega)
  rw [e1, f1] at ko1
  rw [y1] at hZ
  have hA : Z.natAbs = A := by cases m1 <;> simp [zz] at hZ <;> omega
  have hR : decide (Z < 0) = (!m1 && decide (0 < (digs A).length)) := by
    rw [dec_digs]
    cases m1 <;> simp [zz] at hZ z1 ⊢ <;> omega
  rw [hA]
  exact ineg_any h1.parts r1 (by omega) hR ko1

set_option maxHeartbeats 1000000 in
theorem i_sign (z : Int) (h1 : Reads w v1 l1) (k1 : l1.length ≤ 50000) (s1 : Sm l1) (hz : sgz (zv n1 l1) 0 = z) :
    Calls Try.prog 17 #[.agg #[.bool n1, v1]] w fun e w' => e = .returned (.int .i64 z) ∧ Below w.heap.size w w' := by
  have h0 : zv false [] = 0 := by simp [zv, zz, izN, izL, ichk, chk, val]
  have kc : ∀ W, Below w.heap.size w W → _ := fun W hW => i_cmp (w := W) (n1 := n1) (n2 := false) (v2 := .slice none 0 0) (l2 := []) z (h1.below hW) (Reads.nil W) k1 (by simp) s1 Sm.nil (by rw [h0]; exact hz)
  obtain ⟨a, c, rfl⟩ := h1.form
  have hb0 : Below w.heap.size w (w.alloc (.cells #[.bool n1, .slice a l1.length c] 25)) := (Below.refl _ _).alloc (Nat.le_refl _) _
  have kd := kc _ hb0
  clear h1 hz h0 kc k1 s1
  go_enter Try.func17, Try.ntmps17
  go_wp2_with (go_at_call 18; refine kd.mono ?_; clear kd; rintro e w1 ⟨rfl, r1⟩)
  go_ret
  exact ⟨rfl, then_below hb0 r1⟩

set_option maxHeartbeats 2000000 in
/-- SameInt, and the law package's own same -/
theorem sameInt_any {R : Bool} (h1 : Reads w v1 l1) (h2 : Reads w v2 l2) (k1 : l1.length ≤ 1000000) (k2 : l2.length ≤ 1000000) (hR : R = (n1 == n2 && decide (l1 = l2))) :
    Calls Try.prog 33 #[.agg #[.bool n1, v1], .agg #[.bool n2, v2]] w fun e w' => e = .returned (.bool R) ∧ Below w.heap.size w w' := by
  have kc : ∀ W, Below w.heap.size w W → _ := fun W hW => sameNat_any (h1.below hW) (h2.below hW) k1 k2
  obtain ⟨a, c, rfl⟩ := h1.form
  obtain ⟨b, d, rfl⟩ := h2.form
  have hb0 : Below w.heap.size w ((w.alloc (.cells #[.bool n1, .slice a l1.length c] 25)).alloc (.cells #[.bool n2, .slice b l2.length d] 25)) := ((Below.refl _ _).alloc (Nat.le_refl _) _).alloc (by simp) _
  have kd := kc _ hb0
  obtain ⟨S, hS⟩ : ∃ S, S = decide (l1 = l2) := ⟨_, rfl⟩
  rw [← hS] at kd hR
  clear h1 h2 k1 k2 kc hS
  by_cases hn : n1 = n2
  · subst hn
    obtain rfl : R = S := by rw [hR]; simp
    clear hR
    cases n1
    all_goals
      go_enter Try.func33, Try.ntmps33
      go_wp2_with (go_at_call 25; refine kd.mono ?_; clear kd; rintro e w1 ⟨rfl, n, rfl⟩)
      go_ret
      exact ⟨by simp, ⟨hb0.os, hb0.tape, hb0.output, hb0.size, hb0.block⟩⟩
  · obtain rfl : R = false := by rw [hR]; cases n1 <;> cases n2 <;> simp at hn ⊢
    clear hR kd
    cases n1 <;> cases n2
    all_goals first
      | exact absurd rfl hn
      | (go_enter Try.func33, Try.ntmps33
         go_wp2
         go_ret
         exact ⟨rfl, hb0⟩)
set_option maxHeartbeats 1000000 in
theorem same_any {R : Bool} (h1 : Reads w v1 l1) (h2 : Reads w v2 l2) (k1 : l1.length ≤ 1000000) (k2 : l2.length ≤ 1000000) (hR : R = (n1 == n2 && decide (l1 = l2))) :
    Calls Try.prog 13 #[.agg #[.bool n1, v1], .agg #[.bool n2, v2]] w fun e w' => e = .returned (.bool R) ∧ Below w.heap.size w w' := by
  have kc : ∀ W, Below w.heap.size w W → _ := fun W hW => sameInt_any (n1 := n1) (n2 := n2) (h1.below hW) (h2.below hW) k1 k2 hR
  obtain ⟨a, c, rfl⟩ := h1.form
  obtain ⟨b, d, rfl⟩ := h2.form
  have hb0 : Below w.heap.size w ((w.alloc (.cells #[.bool n1, .slice a l1.length c] 25)).alloc (.cells #[.bool n2, .slice b l2.length d] 25)) := ((Below.refl _ _).alloc (Nat.le_refl _) _).alloc (by simp) _
  have kd := kc _ hb0
  clear h1 h2 k1 k2 kc hR
  go_enter Try.func13, Try.ntmps13
  go_wp2_with (go_at_call 33; refine kd.mono ?_; clear kd; rintro e w1 ⟨rfl, r1⟩)
  go_ret
  exact ⟨rfl, then_below hb0 r1⟩
end

end Go.Proofs.Ytjcoaoacgcpooaa
