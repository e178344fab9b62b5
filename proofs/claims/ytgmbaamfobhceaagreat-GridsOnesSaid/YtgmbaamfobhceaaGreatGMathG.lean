/- Whole numbers: the contracts, of any two. Whole numbers: products, of any two. Whole numbers: 0 less one, its sign, two that are the same; numbers .. -/
import Derived.Laws.ResultCell
import Derived.Test.YtgmbaamfobhceaaGreatGIntsAdd
import Derived.Test.YtgmbaamfobhceaaGreatGIntsSub
import Derived.Test.YtgmbaamfobhceaaGreatGIntsCmp
import Derived.Test.YtgmbaamfobhceaaGreatGIntsMul
import Derived.Test.YtgmbaamfobhceaaGreatGInts
import Derived.Test.YtgmbaamfobhceaaGreatGLoop
set_option linter.unusedSimpArgs false
set_option linter.unusedVariables false
set_option maxHeartbeats 2000000
namespace Go.Proofs.YtgmbaamfobhceaaGreat
open Go Go.Proofs Go.RowKit Go.Shelf Nu
def zv (n : Bool) (l : List Nat) : Int := zz (izN n l) (val (izL n l))
def sgz (X Y : Int) : Int := if X < Y then -1 else if Y < X then 1 else 0
theorem and_dec (m : Bool) {p q : Prop} [Decidable p] [Decidable q] (h1 : m = true → (p ↔ q)) (h2 : m = false → ¬ q) : (m && decide p) = decide q := by
 cases m
 · rw [Bool.false_and]; exact (decide_eq_false (h2 rfl)).symm
 · rw [Bool.true_and]; exact decide_eq_decide.2 (h1 rfl)
theorem zz_t (A : Nat) : zz true A = -(A : Int) := rfl
theorem zz_f (A : Nat) : zz false A = (A : Int) := rfl
theorem z_far {m : Bool} {A B : Nat} {Z : Int} (hZ : Z = zz m A + zz m B) (z1 : m = true → 0 < A) : Z.natAbs = A + B ∧ (m && decide (0 < Z.natAbs)) = decide (Z < 0) := by
 cases m
 · rw [zz_f, zz_f] at hZ
   exact ⟨by omega, and_dec _ (by intro h; cases h) (by intro _; omega)⟩
 · rw [zz_t, zz_t] at hZ
   exact ⟨by omega, and_dec _ (by intro _; constructor <;> intro _ <;> omega) (by intro h; cases h)⟩
theorem z_ge {m : Bool} {A B : Nat} {Z : Int} (hZ : Z = zz m A + zz (!m) B) (h : B ≤ A) : Z.natAbs = A - B ∧ (m && decide (0 < Z.natAbs)) = decide (Z < 0) := by
 cases m
 · rw [Bool.not_false, zz_f, zz_t] at hZ
   exact ⟨by omega, and_dec _ (by intro h; cases h) (by intro _; omega)⟩
 · rw [Bool.not_true, zz_t, zz_f] at hZ
   exact ⟨by omega, and_dec _ (by intro _; constructor <;> intro _ <;> omega) (by intro h; cases h)⟩
theorem z_lt {m : Bool} {A B : Nat} {Z : Int} (hZ : Z = zz m A + zz (!m) B) (h : A < B) : Z.natAbs = B - A ∧ (!m && decide (0 < Z.natAbs)) = decide (Z < 0) := by
 cases m
 · rw [Bool.not_false, zz_f, zz_t] at hZ
   exact ⟨by omega, and_dec _ (by intro _; constructor <;> intro _ <;> omega) (by intro h; cases h)⟩
 · rw [Bool.not_true, zz_t, zz_f] at hZ
   exact ⟨by omega, and_dec _ (by intro h; cases h) (by intro _; omega)⟩
theorem zz_not (m : Bool) (B : Nat) : - zz m B = zz (!m) B := by
 cases m
 · rfl
 · rw [Bool.not_true, zz_t, zz_f]; omega
theorem iarg {w : World} {n : Bool} {v : Value} {l : List Nat} (h : Reads w v l) (hs : Sm l) : ∃ (m : Bool) (p : Option Addr) (q A : Nat), izN n l = m ∧ izS n v l = .slice p (digs A).length q ∧ Reads w (.slice p (digs A).length q) (digs A) ∧ (m = true → 0 < A) ∧ (digs A).length ≤ l.length ∧ zv n l = zz m A := by
 obtain ⟨A, h1, h2, h3⟩ := izL_digs (n := n) hs
 have hr := izS_reads (n := n) h
 rw [h1] at hr
 obtain ⟨p, q, e⟩ := hr.form
 rw [e] at hr
 exact ⟨_, p, q, A, rfl, e, hr, h2, h3, by unfold zv; rw [h1, val_digs]⟩
theorem Reads.parts {w : World} {v : Value} {l : List Nat} (h : Reads w v l) : ∃ a n c, v = .slice a n c := by
 obtain ⟨a, c, e⟩ := h.form; exact ⟨a, _, c, e⟩
theorem zv_canon (X : Int) : zv (decide (X < 0)) (digs X.natAbs) = X := by
 have hc : ichk (decide (X < 0)) (digs X.natAbs) = true := by
   unfold ichk
   rw [chk_digs, dec_digs]
   by_cases h : X < 0
   · simp [h]; omega
   · simp [h]
 unfold zv izN izL zz
 rw [hc, if_pos rfl, val_digs]
 by_cases h : X < 0
 · simp [h]; omega
 · simp [h]; omega
section
variable {w : World} {v1 v2 : Value} {l1 l2 : List Nat} {n1 n2 : Bool}
theorem i_add_own (Z : Int) (h1 : Reads w v1 l1) (h2 : Reads w v2 l2) (k1 : l1.length ≤ 50000) (k2 : l2.length ≤ 50000) (s1 : Sm l1) (s2 : Sm l2) (hZ : Z = zv n1 l1 + zv n2 l2) :
   Calls Tryz.prog 104 #[.agg #[.bool n1, v1], .agg #[.bool n2, v2]] w fun e w' => ∃ a c, e = .returned (.agg #[.bool (decide (Z < 0)), .slice a (digs Z.natAbs).length c]) ∧ Fresh w' w.heap.size (.slice a (digs Z.natAbs).length c) (digs Z.natAbs) ∧ Below w.heap.size w w' := by
 obtain ⟨m1, p1, q1, A, e1, f1, r1, z1, t1, y1⟩ := iarg (n := n1) h1 s1
 obtain ⟨m2, p2, q2, B, e2, f2, r2, z2, t2, y2⟩ := iarg (n := n2) h2 s2
 have ko1 : ∀ W, Below w.heap.size w W → _ := fun W hW => iorZero_any (n := n1) (h1.below hW) (by omega)
 have ko2 : ∀ W, Below w.heap.size w W → _ := fun W hW => iorZero_any (n := n2) (h2.below hW) (by omega)
 rw [e1, f1] at ko1
 rw [e2, f2] at ko2
 rw [y1, y2] at hZ
 by_cases hm : m1 = m2
 · subst hm
   refine iadd_any (b0 := w.heap.size) h1.parts h2.parts ko1 ko2 (.inl rfl) (fun W => adding_same m1 p1 _ q1 W) fun W hW => ?_
   refine (farther_any m1 Z.natAbs (r1.below hW) (r2.below hW) (by omega) (by omega) (z_far hZ z1).1).mono ?_
   rintro e w' ⟨a, c, rfl, g, hb⟩
   exact ⟨a, c, by rw [(z_far hZ z1).2], g.mono hW.size, hb⟩
 · obtain rfl : m2 = !m1 := by cases m1 <;> cases m2 <;> simp at hm ⊢
   refine iadd_any (b0 := w.heap.size) h1.parts h2.parts ko1 ko2 (.inr rfl) (fun W => adding_other m1 p1 _ q1 W) fun W hW => ?_
   by_cases hAB : B ≤ A
   · refine (back_ge m1 Z.natAbs (r1.below hW) (r2.below hW) (by omega) (by omega) hAB (z_ge hZ hAB).1).mono ?_
     rintro e w' ⟨a, c, rfl, g, hb⟩
     exact ⟨a, c, by rw [(z_ge hZ hAB).2], g.mono hW.size, hb⟩
   · refine (back_lt m1 Z.natAbs (r1.below hW) (r2.below hW) (by omega) (by omega) (by omega) (z_lt hZ (by omega)).1).mono ?_
     rintro e w' ⟨a, c, rfl, g, hb⟩
     exact ⟨a, c, by rw [(z_lt hZ (by omega)).2], g.mono hW.size, hb⟩
theorem i_add (Z : Int) (h1 : Reads w v1 l1) (h2 : Reads w v2 l2) (k1 : l1.length ≤ 50000) (k2 : l2.length ≤ 50000) (s1 : Sm l1) (s2 : Sm l2) (hZ : Z = zv n1 l1 + zv n2 l2) :
  Calls Tryz.prog 104 #[.agg #[.bool n1, v1], .agg #[.bool n2, v2]] w fun e w' => ∃ a c, e = .returned (.agg #[.bool (decide (Z < 0)), .slice a (digs Z.natAbs).length c]) ∧ Reads w' (.slice a (digs Z.natAbs).length c) (digs Z.natAbs) ∧ Below w.heap.size w w' :=
 (i_add_own Z h1 h2 k1 k2 s1 s2 hZ).mono fun _ _ ⟨a, c, e, g, hb⟩ => ⟨a, c, e, g.reads, hb⟩
theorem i_sub_own (Z : Int) (h1 : Reads w v1 l1) (h2 : Reads w v2 l2) (k1 : l1.length ≤ 50000) (k2 : l2.length ≤ 50000) (s1 : Sm l1) (s2 : Sm l2) (hZ : Z = zv n1 l1 - zv n2 l2) :
   Calls Tryz.prog 139 #[.agg #[.bool n1, v1], .agg #[.bool n2, v2]] w fun e w' => ∃ a c, e = .returned (.agg #[.bool (decide (Z < 0)), .slice a (digs Z.natAbs).length c]) ∧ Fresh w' w.heap.size (.slice a (digs Z.natAbs).length c) (digs Z.natAbs) ∧ Below w.heap.size w w' := by
 obtain ⟨m1, p1, q1, A, e1, f1, r1, z1, t1, y1⟩ := iarg (n := n1) h1 s1
 obtain ⟨m2, p2, q2, B, e2, f2, r2, z2, t2, y2⟩ := iarg (n := n2) h2 s2
 have ko1 : ∀ W, Below w.heap.size w W → _ := fun W hW => iorZero_any (n := n1) (h1.below hW) (by omega)
 have ko2 : ∀ W, Below w.heap.size w W → _ := fun W hW => iorZero_any (n := n2) (h2.below hW) (by omega)
 rw [e1, f1] at ko1
 rw [e2, f2] at ko2
 rw [y1, y2, Int.sub_eq_add_neg, zz_not] at hZ
 by_cases hm : m1 = m2
 · subst hm
   refine isub_any (b0 := w.heap.size) h1.parts h2.parts ko1 ko2 (.inr rfl) (fun W => adding_other m1 p1 _ q1 W) fun W hW => ?_
   by_cases hAB : B ≤ A
   · refine (back_ge m1 Z.natAbs (r1.below hW) (r2.below hW) (by omega) (by omega) hAB (z_ge hZ hAB).1).mono ?_
     rintro e w' ⟨a, c, rfl, g, hb⟩
     exact ⟨a, c, by rw [(z_ge hZ hAB).2], g.mono hW.size, hb⟩
   · refine (back_lt m1 Z.natAbs (r1.below hW) (r2.below hW) (by omega) (by omega) (by omega) (z_lt hZ (by omega)).1).mono ?_
     rintro e w' ⟨a, c, rfl, g, hb⟩
     exact ⟨a, c, by rw [(z_lt hZ (by omega)).2], g.mono hW.size, hb⟩
 · obtain rfl : m2 = !m1 := by cases m1 <;> cases m2 <;> simp at hm ⊢
   rw [Bool.not_not] at hZ
   refine isub_any (b0 := w.heap.size) h1.parts h2.parts ko1 ko2 (.inl rfl) (fun W => by rw [Bool.not_not]; exact adding_same m1 p1 _ q1 W) fun W hW => ?_
   refine (farther_any m1 Z.natAbs (r1.below hW) (r2.below hW) (by omega) (by omega) (z_far hZ z1).1).mono ?_
   rintro e w' ⟨a, c, rfl, g, hb⟩
   exact ⟨a, c, by rw [(z_far hZ z1).2], g.mono hW.size, hb⟩
theorem i_sub (Z : Int) (h1 : Reads w v1 l1) (h2 : Reads w v2 l2) (k1 : l1.length ≤ 50000) (k2 : l2.length ≤ 50000) (s1 : Sm l1) (s2 : Sm l2) (hZ : Z = zv n1 l1 - zv n2 l2) :
  Calls Tryz.prog 139 #[.agg #[.bool n1, v1], .agg #[.bool n2, v2]] w fun e w' => ∃ a c, e = .returned (.agg #[.bool (decide (Z < 0)), .slice a (digs Z.natAbs).length c]) ∧ Reads w' (.slice a (digs Z.natAbs).length c) (digs Z.natAbs) ∧ Below w.heap.size w w' :=
 (i_sub_own Z h1 h2 k1 k2 s1 s2 hZ).mono fun _ _ ⟨a, c, e, g, hb⟩ => ⟨a, c, e, g.reads, hb⟩
theorem i_cmp (z : Int) (h1 : Reads w v1 l1) (h2 : Reads w v2 l2) (k1 : l1.length ≤ 50000) (k2 : l2.length ≤ 50000) (s1 : Sm l1) (s2 : Sm l2) (hz : sgz (zv n1 l1) (zv n2 l2) = z) :
   Calls Tryz.prog 92 #[.agg #[.bool n1, v1], .agg #[.bool n2, v2]] w fun e w' => e = .returned (.int .i64 z) ∧ Below w.heap.size w w' := by
 obtain ⟨m1, p1, q1, A, e1, f1, r1, z1, t1, y1⟩ := iarg (n := n1) h1 s1
 obtain ⟨m2, p2, q2, B, e2, f2, r2, z2, t2, y2⟩ := iarg (n := n2) h2 s2
 have ko1 : ∀ W, Below w.heap.size w W → _ := fun W hW => iorZero_any (n := n1) (h1.below hW) (by omega)
 have ko2 : ∀ W, Below w.heap.size w W → _ := fun W hW => iorZero_any (n := n2) (h2.below hW) (by omega)
 rw [e1, f1] at ko1
 rw [e2, f2] at ko2
 rw [y1, y2] at hz
 refine icmp_any h1.parts h2.parts ko1 ko2 (fun W hW hm => ?_) fun hm => ?_
 · subst hm
   cases m1
   · simp only [Bool.false_eq_true, if_false]
     refine d_cmp z (r1.below hW) (r2.below hW) (by omega) (by omega) ?_
     rw [← hz]; simp only [zz, sgz, sgn, Bool.false_eq_true, if_false]; split <;> (try split) <;> (try split) <;> omega
   · simp only [if_true]
     refine d_cmp z (r2.below hW) (r1.below hW) (by omega) (by omega) ?_
     rw [← hz]; simp only [zz, sgz, sgn, if_true]; split <;> (try split) <;> (try split) <;> omega
 · rw [← hz]
   cases m1 <;> cases m2 <;> simp [zz, sgz] at hm z1 z2 ⊢ <;> omega
end
section
variable {w : World} {v1 v2 : Value} {l1 l2 : List Nat} {n1 n2 : Bool}
theorem i_mul_own (Z : Int) (h1 : Reads w v1 l1) (h2 : Reads w v2 l2) (k1 : l1.length ≤ 50000) (k2 : l2.length ≤ 50000) (s1 : Sm l1) (s2 : Sm l2) (hZ : Z = zv n1 l1 * zv n2 l2) :
  Calls Tryz.prog 93 #[.agg #[.bool n1, v1], .agg #[.bool n2, v2]] w fun e w' => ∃ a c, e = .returned (.agg #[.bool (decide (Z < 0)), .slice a (digs Z.natAbs).length c]) ∧ Fresh w' w.heap.size (.slice a (digs Z.natAbs).length c) (digs Z.natAbs) ∧ Below w.heap.size w w' := by
 obtain ⟨m1, p1, q1, A, e1, f1, r1, z1, t1, y1⟩ := iarg (n := n1) h1 s1
 obtain ⟨m2, p2, q2, B, e2, f2, r2, z2, t2, y2⟩ := iarg (n := n2) h2 s2
 have ko1 : ∀ W, Below w.heap.size w W → _ := fun W hW => iorZero_any (n := n1) (h1.below hW) (by omega)
 have ko2 : ∀ W, Below w.heap.size w W → _ := fun W hW => iorZero_any (n := n2) (h2.below hW) (by omega)
 rw [e1, f1] at ko1
 rw [e2, f2] at ko2
 rw [y1, y2] at hZ
 have hM : Z.natAbs = A * B := by
  rw [hZ, Int.natAbs_mul]
  congr 1
  · cases m1 <;> simp [zz]
  · cases m2 <;> simp [zz]
 have hR : decide (Z < 0) = (m1 != m2 && decide (0 < (digs Z.natAbs).length)) := by
  rw [dec_digs, hM]
  have hP : ((A * B : Nat) : Int) = (A : Int) * (B : Int) := Int.natCast_mul A B
  obtain ⟨P, hPe⟩ : ∃ P, P = A * B := ⟨_, rfl⟩
  rw [← hPe] at hP ⊢
  symm
  cases m1 <;> cases m2
  · rw [zz_f, zz_f, ← hP] at hZ; exact and_dec _ (by intro h; cases h) (by intro _; omega)
  · rw [zz_f, zz_t, Int.mul_neg, ← hP] at hZ; exact and_dec _ (by intro _; constructor <;> intro _ <;> omega) (by intro h; cases h)
  · rw [zz_t, zz_f, Int.neg_mul, ← hP] at hZ; exact and_dec _ (by intro _; constructor <;> intro _ <;> omega) (by intro h; cases h)
  · rw [zz_t, zz_t, Int.neg_mul_neg, ← hP] at hZ; exact and_dec _ (by intro h; cases h) (by intro _; omega)
 refine imul_any (b0 := w.heap.size) h1.parts h2.parts ko1 ko2 hR fun W hW => ?_
 exact fd_mul w.heap.size Z.natAbs (r1.below hW) (r2.below hW) (by omega) (by omega) hM hW.size
theorem i_mul (Z : Int) (h1 : Reads w v1 l1) (h2 : Reads w v2 l2) (k1 : l1.length ≤ 50000) (k2 : l2.length ≤ 50000) (s1 : Sm l1) (s2 : Sm l2) (hZ : Z = zv n1 l1 * zv n2 l2) :
  Calls Tryz.prog 93 #[.agg #[.bool n1, v1], .agg #[.bool n2, v2]] w fun e w' => ∃ a c, e = .returned (.agg #[.bool (decide (Z < 0)), .slice a (digs Z.natAbs).length c]) ∧ Reads w' (.slice a (digs Z.natAbs).length c) (digs Z.natAbs) ∧ Below w.heap.size w w' :=
 (i_mul_own Z h1 h2 k1 k2 s1 s2 hZ).mono fun _ _ ⟨a, c, e, g, hb⟩ => ⟨a, c, e, g.reads, hb⟩
end
end Go.Proofs.YtgmbaamfobhceaaGreat
namespace Go.Proofs.YtgmbaamfobhceaaGreat
open Go Go.Proofs Go.RowKit Go.Shelf Nu
attribute [local go_sem] Oper.semAt_some
section
variable {w : World} {v1 v2 : Value} {l1 l2 : List Nat} {n1 n2 : Bool}
theorem i_sign (z : Int) (h1 : Reads w v1 l1) (k1 : l1.length ≤ 50000) (s1 : Sm l1) (hz : sgz (zv n1 l1) 0 = z) :
  Calls Tryz.prog 130 #[.agg #[.bool n1, v1]] w fun e w' => e = .returned (.int .i64 z) ∧ Below w.heap.size w w' := by
 have h0 : zv false [] = 0 := by simp [zv, zz, izN, izL, ichk, chk, val]
 have kc : ∀ W, Below w.heap.size w W → _ := fun W hW => i_cmp (w := W) (n1 := n1) (n2 := false) (v2 := .slice none 0 0) (l2 := []) z (h1.below hW) (Reads.nil W) k1 (by simp) s1 Sm.nil (by rw [h0]; exact hz)
 obtain ⟨a, c, rfl⟩ := h1.form
 have hb0 : Below w.heap.size w (w.alloc (.cells #[.bool n1, .slice a l1.length c] 42)) := (Below.refl _ _).alloc (Nat.le_refl _) _
 have kd := kc _ hb0
 clear h1 hz h0 kc k1 s1
 go_enter Tryz.func130, Tryz.ntmps130
 go_wp2_with (go_at_call 92; refine kd.mono ?_; clear kd; rintro e w1 ⟨rfl, r1⟩)
 go_ret
 exact ⟨rfl, then_below hb0 r1⟩
theorem sameInt_any {R : Bool} (h1 : Reads w v1 l1) (h2 : Reads w v2 l2) (k1 : l1.length ≤ 1000000) (k2 : l2.length ≤ 1000000) (hR : R = (n1 == n2 && decide (l1 = l2))) :
    Calls Tryz.prog 67 #[.agg #[.bool n1, v1], .agg #[.bool n2, v2]] w fun e w' => e = .returned (.bool R) ∧ Below w.heap.size w w' := by
  have kc : ∀ W, Below w.heap.size w W → _ := fun W hW => sameNat_any (h1.below hW) (h2.below hW) k1 k2
  obtain ⟨a, c, rfl⟩ := h1.form
  obtain ⟨b, d, rfl⟩ := h2.form
  have hb0 : Below w.heap.size w ((w.alloc (.cells #[.bool n1, .slice a l1.length c] 42)).alloc (.cells #[.bool n2, .slice b l2.length d] 42)) := ((Below.refl _ _).alloc (Nat.le_refl _) _).alloc (by simp) _
  have kd := kc _ hb0
  obtain ⟨S, hS⟩ : ∃ S, S = decide (l1 = l2) := ⟨_, rfl⟩
  rw [← hS] at kd hR
  clear h1 h2 k1 k2 kc hS
  by_cases hn : n1 = n2
  · subst hn
    obtain rfl : R = S := by rw [hR]; simp
    clear hR
    cases n1
    all_goals
      go_enter Tryz.func67, Tryz.ntmps67
      go_wp2_with (go_at_call 68; refine kd.mono ?_; clear kd; rintro e w1 ⟨rfl, n, rfl⟩)
      go_ret
      exact ⟨by simp, ⟨hb0.os, hb0.tape, hb0.output, hb0.size, hb0.block⟩⟩
  · obtain rfl : R = false := by rw [hR]; cases n1 <;> cases n2 <;> simp at hn ⊢
    clear hR kd
    cases n1 <;> cases n2
    all_goals first
      | exact absurd rfl hn
      | (go_enter Tryz.func67, Tryz.ntmps67
         go_wp2
         go_ret
         exact ⟨rfl, hb0⟩)
end
theorem wrap_neg1 {n : Nat} (h0 : 0 < n) (h : n ≤ 9223372036854775808) : IntKind.u64.wrap (-(n : Int)) = ((18446744073709551616 - n : Nat) : Int) := by
 rw [IntKind.wrap_u64]; omega
theorem wrap_neg2 {n : Nat} (h0 : 0 < n) (h : n ≤ 9223372036854775808) : IntKind.u64.wrap (-((18446744073709551616 - n : Nat) : Int)) = (n : Int) := by
 rw [IntKind.wrap_u64]; omega
theorem wrap_pos_u {n : Nat} (h : n ≤ 9223372036854775807) : IntKind.u64.wrap (n : Int) = (n : Int) := by
 rw [IntKind.wrap_u64]; omega
theorem i_of (X : Int) (W : World) (h1 : -9223372036854775808 ≤ X) (h2 : X ≤ 9223372036854775807) :
   Calls Tryz.prog 65 #[.int .i64 X] W fun e w' => ∃ a c, e = .returned (.agg #[.bool (decide (X < 0)), .slice a (digs X.natAbs).length c]) ∧ Reads w' (.slice a (digs X.natAbs).length c) (digs X.natAbs) ∧ Below W.heap.size W w' := by
 obtain ⟨n, hn⟩ : ∃ n, n = X.natAbs := ⟨_, rfl⟩
 rw [← hn]
 have ko : ∀ V, _ := fun V => of_any n (by omega) V
 have B := Box2.new W 42 (.bool false) (.slice none 0 0)
 have h0 : Below W.heap.size W (W.alloc (.cells #[.bool false, .slice none 0 0] 42)) := (Below.refl _ _).alloc (Nat.le_refl _) _
 by_cases hx : X < 0
 · have e : X = -(n : Int) := by omega
   have hp : 0 < n := by omega
   have hle : n ≤ 9223372036854775808 := by omega
   have ks := fun V a c => signed_any true a (digs n).length c V
   rw [dec_digs, show (true && decide (0 < n)) = true by simp [hp]] at ks
   rw [show decide (X < 0) = true by simp [hx]]
   subst e
   have u1 := wrap_neg1 hp hle
   have u2 := wrap_neg2 hp hle
   obtain ⟨m, hm⟩ : ∃ m, m = 18446744073709551616 - n := ⟨_, rfl⟩
   rw [← hm] at u1 u2
   have hneg : -(n : Int) < 0 := hx
   clear hn h1 h2 hx hm
   go_enter Tryz.func65, Tryz.ntmps65
   go_wp2_with (first
    | (go_at_call 109; refine (ko _).mono ?_; clear ko; rintro e w1 ⟨v, rfl, f, r1⟩; have g := f.reads; obtain ⟨a, c, rfl⟩ := g.form; have B1 := B.below r1; have h3 := then_below h0 r1)
    | (go_at_call 117; refine (ks _ _ _).mono ?_; clear ks; rintro e w2 ⟨rfl, r2⟩; have B2 := B1.below r2; have z2 := B2.c0; have z3 := B2.c1; have z4 := B2.fr 0; have z5 := B2.fr 1; have h4 := then_below h3 r2))
   refine ret_box2 rfl rfl ((B2.set0 _).set1 _) Tryz.underlying42 size_int rfl ?_
   exact ⟨a, c, rfl, (g.below r2).sets B2, below_sets h4 (Nat.le_refl _) _ _⟩
 · have e : X = (n : Int) := by omega
   have hle : n ≤ 9223372036854775807 := by omega
   have ks := fun V a c => signed_any false a (digs n).length c V
   rw [show (false && decide (0 < (digs n).length)) = false by simp] at ks
   rw [show decide (X < 0) = false by simp [hx]]
   subst e
   have u1 := wrap_pos_u hle
   have hneg : ¬ (n : Int) < 0 := hx
   clear hn h1 h2 hx
   go_enter Tryz.func65, Tryz.ntmps65
   go_wp2_with (first
    | (go_at_call 109; refine (ko _).mono ?_; clear ko; rintro e w1 ⟨v, rfl, f, r1⟩; have g := f.reads; obtain ⟨a, c, rfl⟩ := g.form; have B1 := B.below r1; have h3 := then_below h0 r1)
    | (go_at_call 117; refine (ks _ _ _).mono ?_; clear ks; rintro e w2 ⟨rfl, r2⟩; have B2 := B1.below r2; have z2 := B2.c0; have z3 := B2.c1; have z4 := B2.fr 0; have z5 := B2.fr 1; have h4 := then_below h3 r2))
   refine ret_box2 rfl rfl ((B2.set0 _).set1 _) Tryz.underlying42 size_int rfl ?_
   exact ⟨a, c, rfl, (g.below r2).sets B2, below_sets h4 (Nat.le_refl _) _ _⟩
end Go.Proofs.YtgmbaamfobhceaaGreat
namespace Go.Proofs.YtgmbaamfobhceaaGreat
open Go Go.Proofs Go.RowKit Go.Shelf Nu
end Go.Proofs.YtgmbaamfobhceaaGreat
namespace Go.Proofs.YtgmbaamfobhceaaGreat
open Go Go.Proofs Go.RowKit Go.Shelf Nu
attribute [local go_sem] Oper.semAt_some
section
variable {s d : ByteArray} {neg : Bool} {w : World}
end
end Go.Proofs.YtgmbaamfobhceaaGreat
namespace Go.Proofs.YtgmbaamfobhceaaGreat
open Go Go.Proofs Go.RowKit Go.Shelf Nu
def Is (s : Bool) (L : List Nat) (X : Int) : Prop := Sm L ∧ zv s L = X
def Can (s : Bool) (L : List Nat) (X : Int) : Prop := s = decide (X < 0) ∧ L = digs X.natAbs
theorem Can.is {s : Bool} {L : List Nat} {X : Int} (h : Can s L X) : Is s L X := by
 obtain ⟨rfl, rfl⟩ := h
 exact ⟨sm_digs _, zv_canon X⟩
theorem Can.ex (X : Int) : ∃ (s : Bool) (L : List Nat), Can s L X := ⟨_, _, rfl, rfl⟩
theorem Can.chk {s : Bool} {L : List Nat} {X : Int} (h : Can s L X) : ichk s L = true := by
 obtain ⟨rfl, rfl⟩ := h
 unfold ichk
 rw [chk_digs, dec_digs]
 by_cases h : X < 0
 · simp [h]; omega
 · simp [h]
theorem Can.same {s t : Bool} {L M : List Nat} {X Y : Int} (h : Can s L X) (k : Can t M Y) : (s == t && decide (L = M)) = decide (X = Y) := by
 obtain ⟨rfl, rfl⟩ := h
 obtain ⟨rfl, rfl⟩ := k
 by_cases e : X = Y
 · subst e; simp
 · rw [decide_eq_false e]
   by_cases h1 : digs X.natAbs = digs Y.natAbs
   · have := digs_inj h1
     have h2 : decide (X < 0) ≠ decide (Y < 0) := by
      intro h
      have := decide_eq_decide.1 h
      omega
     rw [beq_eq_false_iff_ne.2 h2, Bool.false_and]
   · rw [decide_eq_false h1, Bool.and_false]
theorem Can.of {n : Bool} {l : List Nat} (hs : Sm l) (hc : ichk n l = true) : Can n l (zv n l) := by
 have h1 : izN n l = n := by unfold izN; rw [hc, Bool.and_true]
 have h2 : izL n l = l := by unfold izL; rw [hc]; rfl
 obtain ⟨A, e, hp, _⟩ := izL_digs (n := n) hs
 rw [h2] at e
 rw [h1] at hp
 subst e
 unfold zv
 rw [h1, h2, val_digs]
 cases n
 · rw [zz_f]; exact ⟨by simp, by rw [Int.natAbs_natCast]⟩
 · have := hp rfl
   rw [zz_t]; exact ⟨by simp; omega, by rw [Int.natAbs_neg, Int.natAbs_natCast]⟩
section
variable {W : World} {p1 p2 : Option Addr} {q1 q2 : Nat} {s1 s2 s3 : Bool} {L1 L2 L3 : List Nat} {X Y : Int}
theorem q_add (hX : Is s1 L1 X) (hY : Is s2 L2 Y) {Z : Int} (hZ : Can s3 L3 Z) (e : Z = X + Y) (l1 : L1.length ≤ 50000) (l2 : L2.length ≤ 50000) (h1 : Reads W (.slice p1 L1.length q1) L1) (h2 : Reads W (.slice p2 L2.length q2) L2) :
  Calls Tryz.prog 104 #[.agg #[.bool s1, .slice p1 L1.length q1], .agg #[.bool s2, .slice p2 L2.length q2]] W fun e w' => ∃ a c, e = .returned (.agg #[.bool s3, .slice a L3.length c]) ∧ Reads w' (.slice a L3.length c) L3 ∧ Below W.heap.size W w' := by
 obtain ⟨rfl, rfl⟩ := hZ
 exact i_add Z h1 h2 l1 l2 hX.1 hY.1 (by rw [hX.2, hY.2, e])
theorem q_sub (hX : Is s1 L1 X) (hY : Is s2 L2 Y) {Z : Int} (hZ : Can s3 L3 Z) (e : Z = X - Y) (l1 : L1.length ≤ 50000) (l2 : L2.length ≤ 50000) (h1 : Reads W (.slice p1 L1.length q1) L1) (h2 : Reads W (.slice p2 L2.length q2) L2) :
  Calls Tryz.prog 139 #[.agg #[.bool s1, .slice p1 L1.length q1], .agg #[.bool s2, .slice p2 L2.length q2]] W fun e w' => ∃ a c, e = .returned (.agg #[.bool s3, .slice a L3.length c]) ∧ Reads w' (.slice a L3.length c) L3 ∧ Below W.heap.size W w' := by
 obtain ⟨rfl, rfl⟩ := hZ
 exact i_sub Z h1 h2 l1 l2 hX.1 hY.1 (by rw [hX.2, hY.2, e])
theorem q_mul (hX : Is s1 L1 X) (hY : Is s2 L2 Y) {Z : Int} (hZ : Can s3 L3 Z) (e : Z = X * Y) (l1 : L1.length ≤ 50000) (l2 : L2.length ≤ 50000) (h1 : Reads W (.slice p1 L1.length q1) L1) (h2 : Reads W (.slice p2 L2.length q2) L2) :
  Calls Tryz.prog 93 #[.agg #[.bool s1, .slice p1 L1.length q1], .agg #[.bool s2, .slice p2 L2.length q2]] W fun e w' => ∃ a c, e = .returned (.agg #[.bool s3, .slice a L3.length c]) ∧ Reads w' (.slice a L3.length c) L3 ∧ Below W.heap.size W w' := by
 obtain ⟨rfl, rfl⟩ := hZ
 exact i_mul Z h1 h2 l1 l2 hX.1 hY.1 (by rw [hX.2, hY.2, e])
theorem q_cmp (z : Int) (hX : Is s1 L1 X) (hY : Is s2 L2 Y) (e : sgz X Y = z) (l1 : L1.length ≤ 50000) (l2 : L2.length ≤ 50000) (h1 : Reads W (.slice p1 L1.length q1) L1) (h2 : Reads W (.slice p2 L2.length q2) L2) :
  Calls Tryz.prog 92 #[.agg #[.bool s1, .slice p1 L1.length q1], .agg #[.bool s2, .slice p2 L2.length q2]] W fun e w' => e = .returned (.int .i64 z) ∧ Below W.heap.size W w' :=
 i_cmp z h1 h2 l1 l2 hX.1 hY.1 (by rw [hX.2, hY.2, e])
theorem q_sign (z : Int) (hX : Is s1 L1 X) (e : sgz X 0 = z) (l1 : L1.length ≤ 50000) (h1 : Reads W (.slice p1 L1.length q1) L1) :
  Calls Tryz.prog 130 #[.agg #[.bool s1, .slice p1 L1.length q1]] W fun e w' => e = .returned (.int .i64 z) ∧ Below W.heap.size W w' :=
 i_sign z h1 l1 hX.1 (by rw [hX.2, e])
theorem q_of (X : Int) (hX : Can s1 L1 X) (h1 : -9223372036854775808 ≤ X) (h2 : X ≤ 9223372036854775807) :
  Calls Tryz.prog 65 #[.int .i64 X] W fun e w' => ∃ a c, e = .returned (.agg #[.bool s1, .slice a L1.length c]) ∧ Reads w' (.slice a L1.length c) L1 ∧ Below W.heap.size W w' := by
 obtain ⟨rfl, rfl⟩ := hX
 exact i_of X W h1 h2
end
theorem Can.len_add {s1 s2 s3 : Bool} {L1 L2 L3 : List Nat} {X Y Z : Int} (hX : Is s1 L1 X) (hY : Is s2 L2 Y) (hZ : Can s3 L3 Z) (e : Z = X + Y ∨ Z = X - Y) : L3.length ≤ L1.length + L2.length + 1 := by
 obtain ⟨rfl, rfl⟩ := hZ
 obtain ⟨_, _, _, A, _, _, _, _, t1, y1⟩ := iarg (n := s1) (w := default) (v := .slice none 0 0) (l := []) (.inl ⟨rfl, rfl⟩) Sm.nil
 obtain ⟨A, e1, _, a1⟩ := izL_digs (n := s1) hX.1
 obtain ⟨B, e2, _, b1⟩ := izL_digs (n := s2) hY.1
 have hx := hX.2
 have hy := hY.2
 unfold zv at hx hy
 rw [e1, val_digs] at hx
 rw [e2, val_digs] at hy
 have hle : Z.natAbs ≤ A + B := by
  cases hs : izN s1 L1 <;> cases ht : izN s2 L2 <;> rw [hs] at hx <;> rw [ht] at hy <;> simp only [zz_t, zz_f] at hx hy <;> omega
 have h3 := digs_mono hle
 have h4 := digs_add_le A B
 omega
theorem Can.len_mul {s1 s2 s3 : Bool} {L1 L2 L3 : List Nat} {X Y Z : Int} (hX : Is s1 L1 X) (hY : Is s2 L2 Y) (hZ : Can s3 L3 Z) (e : Z = X * Y) : L3.length ≤ L1.length + L2.length := by
 obtain ⟨rfl, rfl⟩ := hZ
 obtain ⟨A, e1, _, a1⟩ := izL_digs (n := s1) hX.1
 obtain ⟨B, e2, _, b1⟩ := izL_digs (n := s2) hY.1
 have hx := hX.2
 have hy := hY.2
 unfold zv at hx hy
 rw [e1, val_digs] at hx
 rw [e2, val_digs] at hy
 have hxa : X.natAbs = A := by cases hs : izN s1 L1 <;> rw [hs] at hx <;> simp only [zz_t, zz_f] at hx <;> omega
 have hya : Y.natAbs = B := by cases hs : izN s2 L2 <;> rw [hs] at hy <;> simp only [zz_t, zz_f] at hy <;> omega
 rw [e, Int.natAbs_mul, hxa, hya]
 have h4 := digs_mul_le A B
 omega
end Go.Proofs.YtgmbaamfobhceaaGreat
namespace Go.Proofs.YtgmbaamfobhceaaGreat.Nu
theorem cop_of {a b : Nat} (h : ∀ k, k ∣ a → k ∣ b → k = 1) : Nat.Coprime a b := h _ (Nat.gcd_dvd_left a b) (Nat.gcd_dvd_right a b)
theorem rnz {d : Nat} (hd : d ≠ 0) : (d : Rat) ≠ 0 := by
 intro h0
 exact hd (by exact_mod_cast h0)
theorem rat_low {n : Int} {d : Nat} {X : Rat} (hd : d ≠ 0) (hc : Nat.Coprime n.natAbs d) (h : X * (d : Rat) = (n : Rat)) : X.num = n ∧ X.den = d := by
 have e : X = Rat.mk' n d hd hc := by
  have e2 : Rat.mk' n d hd hc * (d : Rat) = (n : Rat) := by
   rw [Rat.mk_eq_divInt, Rat.divInt_eq_div]
   have := rnz hd
   have : ((d : Int) : Rat) = (d : Rat) := by norm_cast
   grind
  have := rnz hd
  grind
 rw [e]; exact ⟨rfl, rfl⟩
theorem rat_den (X : Rat) : X * (X.den : Rat) = (X.num : Rat) := by
 have e := Rat.num_divInt_den X
 rw [Rat.divInt_eq_div] at e
 have h := rnz X.den_nz
 have : ((X.den : Int) : Rat) = (X.den : Rat) := by norm_cast
 rw [this] at e
 generalize (X.den : Rat) = d at *
 generalize (X.num : Rat) = n at *
 grind
theorem cop_sum {p q : Int} {k m : Nat} (hp : (k : Int) ∣ q) (h : (k : Int) ∣ p + q ∨ (k : Int) ∣ p - q ∨ (k : Int) ∣ q - p ∨ (k : Int) ∣ q + p) (hm : p.natAbs = m) : k ∣ m := by
 subst hm
 rw [← Int.ofNat_dvd_left]
 rcases h with h | h | h | h
 · have := Int.dvd_sub h hp; rwa [Int.add_sub_cancel] at this
 · have := Int.dvd_add h hp; rwa [Int.sub_add_cancel] at this
 · have := Int.dvd_sub hp h; rwa [show q - (q - p) = p by omega] at this
 · have := Int.dvd_sub h hp; rwa [show q + p - q = p by omega] at this
theorem cop_rest {xn yn s : Int} {xr yr : Nat} (hx : Nat.Coprime xn.natAbs xr) (hr : Nat.Coprime xr yr) (hs : s = xn * yr + yn * xr ∨ s = xn * yr - yn * xr ∨ s = yn * xr - xn * yr ∨ s = yn * xr + xn * yr) : Nat.Coprime s.natAbs xr := by
 refine cop_of fun k h1 h2 => ?_
 have h3 : (k : Int) ∣ s := Int.ofNat_dvd_left.2 h1
 have h4 : (k : Int) ∣ yn * xr := Int.dvd_mul_of_dvd_right (Int.natCast_dvd_natCast.2 h2)
 have h5 : k ∣ xn.natAbs * yr := by
  refine cop_sum (p := xn * yr) h4 ?_ (by rw [Int.natAbs_mul]; rfl)
  rcases hs with h | h | h | h
  · exact .inl (h ▸ h3)
  · exact .inr (.inl (h ▸ h3))
  · exact .inr (.inr (.inl (h ▸ h3)))
  · exact .inr (.inr (.inr (h ▸ h3)))
 have h6 : Nat.Coprime k yr := Nat.Coprime.coprime_dvd_left h2 hr
 have h7 : k ∣ xn.natAbs := h6.dvd_of_dvd_mul_right h5
 have := Nat.dvd_gcd h7 h2
 rw [hx] at this
 exact Nat.dvd_one.1 this
theorem sum_low {X Y Z : Rat} {s s' : Int} {g xr yr t g' : Nat} (hg : g = Nat.gcd X.den Y.den) (hxr : X.den = g * xr) (hyr : Y.den = g * yr)
   (h : (s = X.num * yr + Y.num * xr ∧ Z = X + Y) ∨ (s = X.num * yr - Y.num * xr ∧ Z = X - Y)) (ht : t = Nat.gcd s.natAbs g) (hs' : s = t * s') (hg' : g = t * g') :
   Z.num = s' ∧ Z.den = xr * (yr * g') := by
 have hX := X.den_nz
 have hY := Y.den_nz
 have hx0 : xr ≠ 0 := by rintro rfl; rw [Nat.mul_zero] at hxr; exact hX hxr
 have hy0 : yr ≠ 0 := by rintro rfl; rw [Nat.mul_zero] at hyr; exact hY hyr
 have hg0 : g ≠ 0 := by rintro rfl; rw [Nat.zero_mul] at hxr; exact hX hxr
 have ht0 : t ≠ 0 := by rintro rfl; rw [Nat.zero_mul] at hg'; exact hg0 hg'
 have hg0' : g' ≠ 0 := by rintro rfl; rw [Nat.mul_zero] at hg'; exact hg0 hg'
 have cr : Nat.Coprime xr yr := by
   have : g * Nat.gcd xr yr = g * 1 := by rw [← Nat.gcd_mul_left, ← hxr, ← hyr, ← hg, Nat.mul_one]
   exact Nat.eq_of_mul_eq_mul_left (Nat.pos_of_ne_zero hg0) this
 have cx : Nat.Coprime X.num.natAbs xr := Nat.Coprime.coprime_dvd_right ⟨g, by rw [hxr, Nat.mul_comm]⟩ X.reduced
 have cy : Nat.Coprime Y.num.natAbs yr := Nat.Coprime.coprime_dvd_right ⟨g, by rw [hyr, Nat.mul_comm]⟩ Y.reduced
 have c1 : Nat.Coprime s.natAbs xr := cop_rest (yn := Y.num) cx cr (h.elim (fun h => .inl h.1) (fun h => .inr (.inl h.1)))
 have c2 : Nat.Coprime s.natAbs yr := cop_rest (yn := X.num) cy cr.symm (h.elim (fun h => .inr (.inr (.inr h.1))) (fun h => .inr (.inr (.inl h.1))))
 have es : s.natAbs = t * s'.natAbs := by rw [hs', Int.natAbs_mul]; rfl
 have d1 : s'.natAbs ∣ s.natAbs := ⟨t, by rw [es, Nat.mul_comm]⟩
 have c3 : Nat.Coprime s'.natAbs g' := by
   have : t * Nat.gcd s'.natAbs g' = t * 1 := by rw [← Nat.gcd_mul_left, ← es, ← hg', ← ht, Nat.mul_one]
   exact Nat.eq_of_mul_eq_mul_left (Nat.pos_of_ne_zero ht0) this
 refine rat_low (Nat.mul_ne_zero hx0 (Nat.mul_ne_zero hy0 hg0')) ((Nat.Coprime.coprime_dvd_left d1 c1).mul_right ((Nat.Coprime.coprime_dvd_left d1 c2).mul_right c3)) ?_
 have eX := rat_den X
 have eY := rat_den Y
 rw [hxr] at eX
 rw [hyr] at eY
 have t0 := rnz ht0
 have e4 : (g : Rat) = t * g' := by rw [hg']; push_cast; rfl
 have e5 : (t : Rat) * s' = s := by rw [hs']; push_cast; rfl
 rcases h with ⟨h, hZ⟩ | ⟨h, hZ⟩
 · have e6 : (s : Rat) = X.num * yr + Y.num * xr := by rw [h]; push_cast; rfl
   push_cast at *
   subst hZ
   grind
 · have e6 : (s : Rat) = X.num * yr - Y.num * xr := by rw [h]; push_cast; rfl
   push_cast at *
   subst hZ
   grind
theorem mul_low {X Y : Rat} {p q : Int} {d u a b : Nat} (hd : d = Nat.gcd X.num.natAbs Y.den) (hu : u = Nat.gcd Y.num.natAbs X.den)
   (h1 : X.num = d * p) (h2 : Y.num = u * q) (h3 : X.den = u * a) (h4 : Y.den = d * b) : (X * Y).num = p * q ∧ (X * Y).den = a * b := by
 have hX := X.den_nz
 have hY := Y.den_nz
 have hu0 : u ≠ 0 := by rintro rfl; rw [Nat.zero_mul] at h3; exact hX h3
 have hd0 : d ≠ 0 := by rintro rfl; rw [Nat.zero_mul] at h4; exact hY h4
 have ha0 : a ≠ 0 := by rintro rfl; rw [Nat.mul_zero] at h3; exact hX h3
 have hb0 : b ≠ 0 := by rintro rfl; rw [Nat.mul_zero] at h4; exact hY h4
 have n1 : X.num.natAbs = d * p.natAbs := by rw [h1, Int.natAbs_mul]; rfl
 have n2 : Y.num.natAbs = u * q.natAbs := by rw [h2, Int.natAbs_mul]; rfl
 have c1 : Nat.Coprime p.natAbs b := by
   have : d * Nat.gcd p.natAbs b = d * 1 := by rw [← Nat.gcd_mul_left, ← n1, ← h4, ← hd, Nat.mul_one]
   exact Nat.eq_of_mul_eq_mul_left (Nat.pos_of_ne_zero hd0) this
 have c2 : Nat.Coprime q.natAbs a := by
   have : u * Nat.gcd q.natAbs a = u * 1 := by rw [← Nat.gcd_mul_left, ← n2, ← h3, ← hu, Nat.mul_one]
   exact Nat.eq_of_mul_eq_mul_left (Nat.pos_of_ne_zero hu0) this
 have c3 : Nat.Coprime p.natAbs a := Nat.Coprime.coprime_dvd_left ⟨d, by rw [n1, Nat.mul_comm]⟩ (Nat.Coprime.coprime_dvd_right ⟨u, by rw [h3, Nat.mul_comm]⟩ X.reduced)
 have c4 : Nat.Coprime q.natAbs b := Nat.Coprime.coprime_dvd_left ⟨u, by rw [n2, Nat.mul_comm]⟩ (Nat.Coprime.coprime_dvd_right ⟨d, by rw [h4, Nat.mul_comm]⟩ Y.reduced)
 refine rat_low (Nat.mul_ne_zero ha0 hb0) ?_ ?_
 · rw [Int.natAbs_mul]
   exact (c3.mul_right c1).mul_left (c2.mul_right c4)
 · have eX := rat_den X
   have eY := rat_den Y
   have t0 := rnz hu0
   have t1 := rnz hd0
   rw [h3] at eX
   rw [h4] at eY
   have e4 : (X.num : Rat) = d * p := by rw [h1]; push_cast; rfl
   have e5 : (Y.num : Rat) = u * q := by rw [h2]; push_cast; rfl
   push_cast at *
   grind
/-! order, floor, the whole of two -/
theorem rat_cmp (X Y : Rat) : (X.num * Y.den < Y.num * X.den ↔ X < Y) ∧ (Y.num * X.den < X.num * Y.den ↔ Y < X) := ⟨(Rat.lt_iff X Y).symm, (Rat.lt_iff Y X).symm⟩
end Go.Proofs.YtgmbaamfobhceaaGreat.Nu
namespace Go.Proofs.YtgmbaamfobhceaaGreat
open Go Go.Proofs Go.RowKit Go.Shelf Nu
def rchk (n : Bool) (l d : List Nat) : Bool := ichk n l && (chk d && (decide (0 < d.length) && decide (Nat.gcd (val l) (val d) = 1)))
def rv (n : Bool) (l d : List Nat) : Rat := if rchk n l d then ((zv n l : Int) : Rat) / ((val d : Nat) : Rat) else 0
def RIs (n : Bool) (l d : List Nat) (X : Rat) : Prop := Sm l ∧ Sm d ∧ rv n l d = X
def RCan (n : Bool) (l d : List Nat) (X : Rat) : Prop := Can n l X.num ∧ d = digs X.den
theorem rv_can {n : Bool} {l d : List Nat} (hs : Sm l) (hd : Sm d) (h : rchk n l d = true) : RCan n l d (rv n l d) := by
 have h' := h
 unfold rchk at h'
 simp only [Bool.and_eq_true, decide_eq_true_eq] at h'
 obtain ⟨hi, hc, h0, hg⟩ := h'
 have hcan := Can.of hs hi
 have hz : (zv n l).natAbs = val l := by
  have := congrArg val hcan.2
  rw [val_digs] at this; exact this.symm
 have hd0 : val d ≠ 0 := fun e => by
  have := digs_val hd hc
  rw [e, digs_zero] at this
  rw [← this] at h0; simp at h0
 have hX : rv n l d = ((zv n l : Int) : Rat) / ((val d : Nat) : Rat) := by unfold rv; rw [if_pos h]
 have := rat_low (X := rv n l d) (n := zv n l) hd0 (by unfold Nat.Coprime; rw [hz]; exact hg) (by rw [hX]; have := rnz hd0; grind)
 exact ⟨by rw [this.1]; exact hcan, by rw [this.2]; exact (digs_val hd hc).symm⟩
theorem RCan.ex (X : Rat) : ∃ (n : Bool) (l d : List Nat), RCan n l d X := ⟨_, _, _, ⟨rfl, rfl⟩, rfl⟩
section
variable {n m : Bool} {l d k e : List Nat} {X Y : Rat}
theorem RCan.chk (h : RCan n l d X) : rchk n l d = true := by
 obtain ⟨h1, rfl⟩ := h
 unfold rchk
 rw [h1.chk, chk_digs, val_digs]
 have h2 : val l = X.num.natAbs := by rw [h1.2, val_digs]
 have h3 : 0 < (digs X.den).length := digs_len_pos X.den_nz
 have h4 : Nat.gcd X.num.natAbs X.den = 1 := X.reduced
 rw [h2]
 simp [h3, h4]
theorem RCan.sm (h : RCan n l d X) : Sm l ∧ Sm d := by
 obtain ⟨⟨_, rfl⟩, rfl⟩ := h
 exact ⟨sm_digs _, sm_digs _⟩
theorem rat_frac (X : Rat) : ((X.num : Int) : Rat) / ((X.den : Nat) : Rat) = X := by
 have := rat_den X
 have := rnz X.den_nz
 grind
theorem RCan.is (h : RCan n l d X) : RIs n l d X := by
 refine ⟨h.sm.1, h.sm.2, ?_⟩
 unfold rv
 rw [if_pos h.chk, h.1.is.2, h.2, val_digs]
 exact rat_frac X
theorem RIs.can (h : RIs n l d X) (hc : rchk n l d = true) : RCan n l d X := h.2.2 ▸ rv_can h.1 h.2.1 hc
theorem RIs.zero (h : RIs n l d X) (hc : rchk n l d = false) : X = 0 := by
 have := h.2.2
 unfold rv at this
 rw [hc] at this
 exact this.symm
theorem RCan.same (h : RCan n l d X) (g : RCan m k e Y) : ((n == m && decide (l = k)) && decide (d = e)) = decide (X = Y) := by
 obtain ⟨h1, rfl⟩ := h
 obtain ⟨g1, rfl⟩ := g
 rw [h1.same g1]
 by_cases e : X = Y
 · subst e; simp
 · rw [decide_eq_false e]
   by_cases e1 : X.num = Y.num
   · by_cases e2 : digs X.den = digs Y.den
     · exact absurd (Rat.ext e1 (digs_inj e2)) e
     · rw [decide_eq_false e2, Bool.and_false]
   · rw [decide_eq_false e1, Bool.false_and]
end
def rl (X : Rat) : Nat := (digs X.num.natAbs).length + (digs X.den).length
theorem RCan.len {n : Bool} {l d : List Nat} {X : Rat} (h : RCan n l d X) : l.length + d.length = rl X := by
 obtain ⟨⟨_, rfl⟩, rfl⟩ := h; rfl
theorem rat_small {Z : Rat} {n : Int} {m : Nat} (hm : m ≠ 0) (h : Z * (m : Rat) = (n : Rat)) : Z.num.natAbs ≤ n.natAbs ∧ Z.den ≤ m := by
 have h1 := rat_den Z
 have h2 : Z.num * (m : Int) = n * (Z.den : Int) := by
  have : ((Z.num : Int) : Rat) * (m : Rat) = (n : Rat) * (Z.den : Rat) := by rw [← h1, ← h]; grind
  exact_mod_cast this
 have h3 : Z.num.natAbs * m = n.natAbs * Z.den := by
  have := congrArg Int.natAbs h2
  rwa [Int.natAbs_mul, Int.natAbs_mul, Int.natAbs_natCast, Int.natAbs_natCast] at this
 have h4 : Z.den ∣ m := by
  have : Nat.Coprime Z.den Z.num.natAbs := Z.reduced.symm
  exact this.dvd_of_dvd_mul_left ⟨n.natAbs, by rw [h3, Nat.mul_comm]⟩
 obtain ⟨k, rfl⟩ := h4
 have hk : 0 < k := Nat.pos_of_ne_zero (by rintro rfl; exact hm (Nat.mul_zero _))
 have hd : 0 < Z.den := Z.den_pos
 refine ⟨?_, Nat.le_mul_of_pos_right _ hk⟩
 have h5 : Z.den * (Z.num.natAbs * k) = Z.den * n.natAbs := by
  rw [Nat.mul_comm Z.den n.natAbs, ← h3, Nat.mul_left_comm]
 have h6 := Nat.eq_of_mul_eq_mul_left hd h5
 rw [← h6]
 exact Nat.le_mul_of_pos_right _ hk
theorem rl_zero : rl 0 = 1 := by
 have : (digs 1).length = 1 := by rw [digs_pos (by omega)]; simp [digs_zero]
 show (digs (Int.natAbs 0)).length + (digs 1).length = 1
 rw [this]; simp [digs_zero]
theorem RIs.len {n : Bool} {l d : List Nat} {X : Rat} (h : RIs n l d X) : rl X ≤ l.length + d.length + 1 := by
 cases hc : rchk n l d with
 | true => have := (h.can hc).len; omega
 | false => rw [h.zero hc, rl_zero]; omega
theorem Can.div {s : Bool} {L : List Nat} {X T : Int} {G : Nat} (h : Can s L X) (e : X = G * T) (hG : G ≠ 0) : Can s (digs T.natAbs) T := by
 refine ⟨?_, rfl⟩
 rw [h.1, e]
 refine decide_eq_decide.2 ⟨fun h => ?_, fun h => Int.mul_neg_of_pos_of_neg (by omega) h⟩
 by_cases h1 : T < 0
 · exact h1
 · have := Int.mul_nonneg (show (0 : Int) ≤ (G : Int) by omega) (show 0 ≤ T by omega)
   omega
theorem gcd_nz {a b : Nat} (h : b ≠ 0) : Nat.gcd a b ≠ 0 := fun e => h (Nat.eq_zero_of_gcd_eq_zero_right e)
theorem int_dvd {n : Int} {g : Nat} (h : g ∣ n.natAbs) : ∃ p : Int, n = g * p := Int.ofNat_dvd_left.2 h
theorem rmul_parts (X Y : Rat) : ∃ (d u a b : Nat) (p q : Int), d = Nat.gcd X.num.natAbs Y.den ∧ u = Nat.gcd Y.num.natAbs X.den ∧ d ≠ 0 ∧ u ≠ 0 ∧ X.num = d * p ∧ Y.num = u * q ∧ X.den = u * a ∧ Y.den = d * b ∧ (X * Y).num = p * q ∧ (X * Y).den = a * b := by
 obtain ⟨p, hp⟩ := int_dvd (Nat.gcd_dvd_left X.num.natAbs Y.den)
 obtain ⟨b, hb⟩ := Nat.gcd_dvd_right X.num.natAbs Y.den
 obtain ⟨q, hq⟩ := int_dvd (Nat.gcd_dvd_left Y.num.natAbs X.den)
 obtain ⟨a, ha⟩ := Nat.gcd_dvd_right Y.num.natAbs X.den
 obtain ⟨h1, h2⟩ := mul_low rfl rfl hp hq ha hb
 exact ⟨_, _, a, b, p, q, rfl, rfl, gcd_nz Y.den_nz, gcd_nz X.den_nz, hp, hq, ha, hb, h1, h2⟩
theorem rsum_parts (X Y Z : Rat) (join : Int → Int → Int) (h : (join = (fun a b => a + b) ∧ Z = X + Y) ∨ (join = (fun a b => a - b) ∧ Z = X - Y)) :
  ∃ (g xr yr t g' : Nat) (s s' : Int), g = Nat.gcd X.den Y.den ∧ g ≠ 0 ∧ X.den = g * xr ∧ Y.den = g * yr ∧ s = join (X.num * yr) (Y.num * xr) ∧ t = Nat.gcd s.natAbs g ∧ t ≠ 0 ∧ s = t * s' ∧ Y.den = t * (yr * g') ∧ Z.num = s' ∧ Z.den = xr * (yr * g') := by
 obtain ⟨xr, hx⟩ := Nat.gcd_dvd_left X.den Y.den
 obtain ⟨yr, hy⟩ := Nat.gcd_dvd_right X.den Y.den
 obtain ⟨s, hs⟩ : ∃ s, s = join (X.num * yr) (Y.num * xr) := ⟨_, rfl⟩
 have g0 := gcd_nz (a := X.den) Y.den_nz
 obtain ⟨g, hg⟩ : ∃ g, g = Nat.gcd X.den Y.den := ⟨_, rfl⟩
 rw [← hg] at hx hy g0
 obtain ⟨s', hs'⟩ := int_dvd (Nat.gcd_dvd_left s.natAbs g)
 obtain ⟨g', hg'⟩ := Nat.gcd_dvd_right s.natAbs g
 obtain ⟨t, ht⟩ : ∃ t, t = Nat.gcd s.natAbs g := ⟨_, rfl⟩
 have t0 : t ≠ 0 := ht ▸ gcd_nz g0
 rw [← ht] at hs' hg'
 have key : Z.num = s' ∧ Z.den = xr * (yr * g') := by
  refine sum_low hg hx hy ?_ ht hs' hg'
  rcases h with ⟨rfl, h⟩ | ⟨rfl, h⟩
  · exact .inl ⟨hs, h⟩
  · exact .inr ⟨hs, h⟩
 have e9 : Y.den = t * (yr * g') := by
  rw [hy]
  conv => lhs; rw [hg']
  rw [Nat.mul_assoc, Nat.mul_comm g' yr]
 exact ⟨g, xr, yr, t, g', s, s', hg, g0, hx, hy, hs, ht, t0, hs', e9, key.1, key.2⟩
def rsg (X Y : Rat) : Int := if X < Y then -1 else if Y < X then 1 else 0
theorem rsg_eq (X Y : Rat) : sgz (X.num * (Y.den : Int)) (Y.num * (X.den : Int)) = rsg X Y := by
 obtain ⟨h1, h2⟩ := rat_cmp X Y
 unfold sgz rsg
 simp only [h1, h2]
theorem rsg_num (X : Rat) : sgz X.num 0 = rsg X 0 := by
 have := rsg_eq X 0
 simpa using this
end Go.Proofs.YtgmbaamfobhceaaGreat
namespace Go.Proofs.YtgmbaamfobhceaaGreat.Nu
def LS (ha hb A B u1 u2 v1 v2 : Nat) (ev : Bool) : Prop :=
 (if ev then A + u1 * ha = v1 * hb ∧ B + v2 * hb = u2 * ha ∧ u2 * v1 = u1 * v2 + 1 else A + v1 * hb = u1 * ha ∧ B + u2 * ha = v2 * hb ∧ u1 * v2 = u2 * v1 + 1) ∧
 A * v2 + B * v1 = ha ∧ B ≤ A ∧ u2 ≤ v2 ∧ u1 + u2 ≤ v1 + v2 ∧ 1 ≤ v2 ∧ (v1 = 0 ∨ 1 ≤ u2)
theorem LS.start {ha hb : Nat} (h : hb ≤ ha) : LS ha hb ha hb 1 0 0 1 false :=
 ⟨by simp, by simp, h, by omega, by omega, by omega, .inl rfl⟩
theorem ls_ring1 (A B q r ha hb u1 u2 v1 v2 : Nat) (hA : A = B * q + r) (h1 : A + v1 * hb = u1 * ha) (h2 : B + u2 * ha = v2 * hb) : r + (v1 + q * v2) * hb = (u1 + q * u2) * ha := by
 subst hA
 have e : q * (B + u2 * ha) = q * (v2 * hb) := by rw [h2]
 grind
theorem ls_ring2 (A B q r v1 v2 : Nat) (hA : A = B * q + r) : B * (v1 + q * v2) + r * v2 = A * v2 + B * v1 := by
 subst hA; grind
theorem LS.step {ha hb A B u1 u2 v1 v2 : Nat} {ev : Bool} (h : LS ha hb A B u1 u2 v1 v2 ev) (hB : 1 ≤ B) : LS ha hb B (A % B) u2 (u1 + A / B * u2) v2 (v1 + A / B * v2) (!ev) := by
 obtain ⟨h1, h2, h3, h4, h5, h6, h7⟩ := h
 have hd := (Nat.div_add_mod A B).symm
 have hr := Nat.mod_lt A (show B > 0 by omega)
 have hq : 1 ≤ A / B := (Nat.one_le_div_iff (by omega)).2 h3
 generalize A / B = q at *
 generalize A % B = r at *
 obtain ⟨t, rfl⟩ : ∃ t, q = t + 1 := ⟨q - 1, by omega⟩
 have e1 : (t + 1) * u2 = t * u2 + u2 := by rw [Nat.add_mul, Nat.one_mul]
 have e2 : (t + 1) * v2 = t * v2 + v2 := by rw [Nat.add_mul, Nat.one_mul]
 have e3 : t * u2 ≤ t * v2 := Nat.mul_le_mul_left _ h4
 have hu : 1 ≤ u1 + u2 := by
   rcases Nat.eq_zero_or_pos (u1 + u2) with h | h
   · obtain rfl : u1 = 0 := by omega
     obtain rfl : u2 = 0 := by omega
     cases ev <;> simp at h1
   · exact h
 refine ⟨?_, (ls_ring2 A B (t + 1) r v1 v2 hd).trans h2, by omega, by omega, by omega, by omega, .inr (by omega)⟩
 cases ev
 · simp only [Bool.false_eq_true, if_false] at h1
   obtain ⟨g1, g2, g3⟩ := h1
   simp only [Bool.not_false, if_true]
   exact ⟨g2, ls_ring1 A B (t + 1) r ha hb u1 u2 v1 v2 hd g1 g2, by grind⟩
 · simp only [if_true] at h1
   obtain ⟨g1, g2, g3⟩ := h1
   simp only [Bool.not_true, Bool.false_eq_true, if_false]
   exact ⟨g2, ls_ring1 A B (t + 1) r hb ha v1 v2 u1 u2 hd g1 g2, by grind⟩
def Made (ha hb u0 u1 v0 v1 : Nat) (ev : Bool) : Prop :=
 ∀ a b K, ha * K ≤ a → a < (ha + 1) * K → hb * K ≤ b → b < (hb + 1) * K →
  ∃ x y : Nat, (if ev then x + v0 * b = u0 * a ∧ y + u1 * a = v1 * b else x + u0 * a = v0 * b ∧ y + v1 * b = u1 * a) ∧ y < x ∧ x ≤ b ∧ Nat.gcd x y = Nat.gcd a b
theorem gcd_of {a b x y u1 u2 v1 v2 : Nat} (h1 : x + v1 * b = u1 * a) (h2 : y + u2 * a = v2 * b) (h3 : x * v2 + y * v1 = a) (h4 : x * u2 + y * u1 = b) : Nat.gcd x y = Nat.gcd a b := by
 refine Nat.dvd_antisymm ?_ ?_
 · refine Nat.dvd_gcd ?_ ?_
   · rw [← h3]; exact Nat.dvd_add (Nat.dvd_mul_right_of_dvd (Nat.gcd_dvd_left x y) _) (Nat.dvd_mul_right_of_dvd (Nat.gcd_dvd_right x y) _)
   · rw [← h4]; exact Nat.dvd_add (Nat.dvd_mul_right_of_dvd (Nat.gcd_dvd_left x y) _) (Nat.dvd_mul_right_of_dvd (Nat.gcd_dvd_right x y) _)
 · refine Nat.dvd_gcd ?_ ?_
   · refine (Nat.dvd_add_left (Nat.dvd_mul_left_of_dvd (Nat.gcd_dvd_right a b) v1)).1 ?_
     rw [h1]; exact Nat.dvd_mul_left_of_dvd (Nat.gcd_dvd_left a b) u1
   · refine (Nat.dvd_add_left (Nat.dvd_mul_left_of_dvd (Nat.gcd_dvd_left a b) u2)).1 ?_
     rw [h2]; exact Nat.dvd_mul_left_of_dvd (Nat.gcd_dvd_right a b) v2
theorem back_of {a b x y u1 u2 v1 v2 : Nat} (h1 : x + v1 * b = u1 * a) (h2 : y + u2 * a = v2 * b) (hd : u1 * v2 = u2 * v1 + 1) : x * v2 + y * v1 = a ∧ x * u2 + y * u1 = b := by
 have e1 : (x + v1 * b) * v2 = u1 * a * v2 := by rw [h1]
 have e2 : (y + u2 * a) * v1 = v2 * b * v1 := by rw [h2]
 have e3 : (x + v1 * b) * u2 = u1 * a * u2 := by rw [h1]
 have e4 : (y + u2 * a) * u1 = v2 * b * u1 := by rw [h2]
 have e5 : u1 * v2 * a = (u2 * v1 + 1) * a := by rw [hd]
 have e6 : u1 * v2 * b = (u2 * v1 + 1) * b := by rw [hd]
 constructor
 · grind
 · grind
theorem real_of {ha hb A B u1 u2 v1 v2 a b K : Nat} (g1 : A + v1 * hb = u1 * ha) (g2 : B + u2 * ha = v2 * hb) (c1 : v1 ≤ A) (c2 : u2 ≤ B) (c3 : B + (v1 + v2) ≤ A) (c4 : 1 ≤ v1 + v2)
   (a1 : ha * K ≤ a) (b1 : hb * K ≤ b) (a2 : a < (ha + 1) * K) (b2 : b < (hb + 1) * K) : ∃ x y, x + v1 * b = u1 * a ∧ y + u2 * a = v2 * b ∧ y < x := by
 obtain ⟨α, rfl⟩ : ∃ α, a = ha * K + α := ⟨a - ha * K, by omega⟩
 obtain ⟨β, rfl⟩ : ∃ β, b = hb * K + β := ⟨b - hb * K, by omega⟩
 rw [Nat.add_mul, Nat.one_mul] at a2 b2
 have ha' : α < K := by omega
 have hb' : β < K := by omega
 have e1 : v1 * β ≤ A * K := Nat.mul_le_mul c1 (by omega)
 have e2 : u2 * α ≤ B * K := Nat.mul_le_mul c2 (by omega)
 have e3 : (v1 + v2) * β < (v1 + v2) * K := Nat.mul_lt_mul_of_pos_left hb' (by omega)
 have e4 : (B + (v1 + v2)) * K ≤ A * K := Nat.mul_le_mul_right _ c3
 have p1 : u1 * (ha * K + α) = A * K + v1 * (hb * K) + u1 * α := by
   have : (A + v1 * hb) * K = u1 * ha * K := by rw [g1]
   grind
 have p2 : v2 * (hb * K + β) = B * K + u2 * (ha * K) + v2 * β := by
   have : (B + u2 * ha) * K = v2 * hb * K := by rw [g2]
   grind
 refine ⟨A * K + u1 * α - v1 * β, B * K + v2 * β - u2 * α, ?_, ?_, ?_⟩
 · rw [p1, Nat.mul_add v1]; omega
 · rw [p2, Nat.mul_add u2]; omega
 · rw [Nat.add_mul] at e3 e4
   rw [Nat.add_mul v1 v2 K] at e3 e4
   omega
theorem LS.made {ha hb A B u1 u2 v1 v2 : Nat} {ev : Bool} (h : LS ha hb A B u1 u2 v1 v2 ev) (c1 : v2 ≤ B) (c2 : v1 + v2 ≤ A - B) : v1 = 0 ∨ Made ha hb u1 u2 v1 v2 (!ev) := by
 obtain ⟨h1, h2, h3, h4, h5, h6, h7⟩ := h
 rcases h7 with h7 | h7
 · exact .inl h7
 refine .inr ?_
 intro a b K a1 a2 b1 b2
 cases ev
 · simp only [Bool.false_eq_true, if_false] at h1
   obtain ⟨g1, g2, g3⟩ := h1
   obtain ⟨x, y, e1, e2, e3⟩ := real_of g1 g2 (by omega) (by omega) (by omega) (by omega) a1 b1 a2 b2
   obtain ⟨f1, f2⟩ := back_of e1 e2 g3
   refine ⟨x, y, ?_, e3, ?_, gcd_of e1 e2 f1 f2⟩
   · simp only [Bool.not_false, if_true]; exact ⟨e1, e2⟩
   · rw [← f2]; exact Nat.le_trans (Nat.le_mul_of_pos_right x h7) (Nat.le_add_right _ _)
 · simp only [if_true] at h1
   obtain ⟨g1, g2, g3⟩ := h1
   obtain ⟨x, y, e1, e2, e3⟩ : ∃ x y, x + u1 * a = v1 * b ∧ y + v2 * b = u2 * a ∧ y < x := by
     obtain ⟨α, rfl⟩ : ∃ α, a = ha * K + α := ⟨a - ha * K, by omega⟩
     obtain ⟨β, rfl⟩ : ∃ β, b = hb * K + β := ⟨b - hb * K, by omega⟩
     rw [Nat.add_mul, Nat.one_mul] at a2 b2
     have ha' : α < K := by omega
     have hb' : β < K := by omega
     have k1 : u1 * α ≤ A * K := Nat.mul_le_mul (by omega) (by omega)
     have k2 : v2 * β ≤ B * K := Nat.mul_le_mul (by omega) (by omega)
     have k3 : (u1 + u2) * α ≤ (v1 + v2) * α := Nat.mul_le_mul_right _ h5
     have k5 : (v1 + v2) * α < (v1 + v2) * K := Nat.mul_lt_mul_of_pos_left ha' (by omega)
     have k4 : (B + (v1 + v2)) * K ≤ A * K := Nat.mul_le_mul_right _ (by omega)
     have p1 : v1 * (hb * K + β) = A * K + u1 * (ha * K) + v1 * β := by
       have : (A + u1 * ha) * K = v1 * hb * K := by rw [g1]
       grind
     have p2 : u2 * (ha * K + α) = B * K + v2 * (hb * K) + u2 * α := by
       have : (B + v2 * hb) * K = u2 * ha * K := by rw [g2]
       grind
     refine ⟨A * K + v1 * β - u1 * α, B * K + u2 * α - v2 * β, ?_, ?_, ?_⟩
     · rw [p1, Nat.mul_add u1]; omega
     · rw [p2, Nat.mul_add v2]; omega
     · rw [Nat.add_mul] at k3 k4
       rw [Nat.add_mul v1 v2 K] at k4 k5
       rw [Nat.add_mul v1 v2 α] at k3 k5
       omega
   obtain ⟨f1, f2⟩ := back_of (a := b) (b := a) (u1 := v1) (u2 := v2) (v1 := u1) (v2 := u2) e1 e2 (by rw [Nat.mul_comm v1, Nat.mul_comm v2]; exact g3)
   refine ⟨x, y, ?_, e3, ?_, ?_⟩
   · simp only [Bool.not_true, Bool.false_eq_true, if_false]; exact ⟨e1, e2⟩
   · rw [← f1]; exact Nat.le_trans (Nat.le_mul_of_pos_right x h7) (Nat.le_add_right _ _)
   · rw [gcd_of e1 e2 f1 f2, Nat.gcd_comm]
theorem LS.small {ha hb A B u1 u2 v1 v2 : Nat} {ev : Bool} (h : LS ha hb A B u1 u2 v1 v2 ev) (hh : ha < 18446744073709551616) (c1 : v2 ≤ B) : u2 < 4294967296 ∧ v2 < 4294967296 := by
 obtain ⟨h1, h2, h3, h4, h5, h6, h7⟩ := h
 have e : v2 * v2 ≤ A * v2 := Nat.mul_le_mul_right _ (by omega)
 have hv : v2 < 4294967296 := by
  rcases Nat.lt_or_ge v2 4294967296 with h | h
  · exact h
  · have := Nat.mul_le_mul h h
    omega
 exact ⟨by omega, hv⟩
theorem LS.next_small {ha hb A B u1 u2 v1 v2 : Nat} {ev : Bool} (h : LS ha hb A B u1 u2 v1 v2 ev) (hB : 1 ≤ B) : v1 + A / B * v2 ≤ ha ∧ u1 + A / B * u2 ≤ ha ∧ A / B ≤ ha ∧ A / B * v2 ≤ ha ∧ A / B * u2 ≤ ha := by
 have hs := h.step hB
 obtain ⟨h1, h2, h3, h4, h5, h6, h7⟩ := h
 obtain ⟨k1, k2, k3, k4, k5, k6, k7⟩ := hs
 have e : 1 * (v1 + A / B * v2) ≤ B * (v1 + A / B * v2) := Nat.mul_le_mul_right _ hB
 have e2 : A / B ≤ A := Nat.div_le_self _ _
 have e3 : A * 1 ≤ A * v2 := Nat.mul_le_mul_left _ h6
 omega
end Go.Proofs.YtgmbaamfobhceaaGreat.Nu
