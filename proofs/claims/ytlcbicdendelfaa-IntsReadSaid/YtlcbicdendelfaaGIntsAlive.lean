/- Whole numbers: the contracts, of any two. Whole numbers: products, of any two. Whole numbers: 0 less one, its sign, two that are the same; numbers of 64 bits. Whole numbers of 64 bits, and back. A number's text is read as it; a text that is read is the number's: of the digits alone. Whether a text is longer than is gone through. Whole numbers: their texts, and back. Whole numbers: the contracts as a walk asks them: each number a sign and its parts. The law package's own test of some answers, of whole numbers. -/
import Derived.Laws.ResultCell
import Derived.Test.YtlcbicdendelfaaGIntsAdd
import Derived.Test.YtlcbicdendelfaaGIntsSub
import Derived.Test.YtlcbicdendelfaaGIntsCmp
import Derived.Test.YtlcbicdendelfaaGIntsMul
import Derived.Test.YtlcbicdendelfaaGInts
import Derived.Test.YtlcbicdendelfaaLayB
namespace Go.Proofs.Ytlcbicdendelfaa
open Go Go.Proofs Go.RowKit Go.Shelf Nu

/-- what a whole number of this sign and these parts is worth; 0, if it may not be -/
def zv (n : Bool) (l : List Nat) : Int := zz (izN n l) (val (izL n l))
/-- the order of two -/
def sgz (X Y : Int) : Int := if X < Y then -1 else if Y < X then 1 else 0

theorem and_dec (m : Bool) {p q : Prop} [Decidable p] [Decidable q] (h1 : m = true → (p ↔ q)) (h2 : m = false → ¬ q) : (m && decide p) = decide q := by
  cases m
  · rw [Bool.false_and]; exact (decide_eq_false (h2 rfl)).symm
  · rw [Bool.true_and]; exact decide_eq_decide.2 (h1 rfl)
theorem zz_t (A : Nat) : zz true A = -(A : Int) := rfl
theorem zz_f (A : Nat) : zz false A = (A : Int) := rfl
/-- a whole number by cases of both signs -/
theorem z_far {m : Bool} {A B : Nat} {Z : Int} (hZ : Z = zz m A + zz m B) (z1 : m = true → 0 < A) : Z.natAbs = A + B ∧ (m && decide (0 < Z.natAbs)) = decide (Z < 0) := by
  cases m
  · rw [zz_f, zz_f] at hZ
    exact ⟨by omega, and_dec _ (by intro h; cases h) (by intro _; omega)⟩
  · rw [zz_t, zz_t] at hZ
    exact ⟨by omega, and_dec _ (by intro _; constructor <;> intro _ <;> omega) (by intro h; cases h)⟩
theorem z_ge {m : Bool} {A B : Nat} {Z : Int} (hZ : Z = zz m A + zz (!m) B) (h : B ≤ A) : Z.natAbs = A - B ∧ (m && decide (0 < Z.natAbs)) = decide (Z < 0) := by
  cases m
  · rw [Bool.not_false, zz_f, zz_t] at hZ
    exact ⟨by omega, and_dec _ (by intro h; cases h) (by intro _; omega)⟩
  · rw [Bool.not_true, zz_t, zz_f] at hZ
    exact ⟨by omega, and_dec _ (by intro _; constructor <;> intro _ <;> omega) (by intro h; cases h)⟩
theorem z_lt {m : Bool} {A B : Nat} {Z : Int} (hZ : Z = zz m A + zz (!m) B) (h : A < B) : Z.natAbs = B - A ∧ (!m && decide (0 < Z.natAbs)) = decide (Z < 0) := by
  cases m
  · rw [Bool.not_false, zz_f, zz_t] at hZ
    exact ⟨by omega, and_dec _ (by intro _; constructor <;> intro _ <;> omega) (by intro h; cases h)⟩
  · rw [Bool.not_true, zz_t, zz_f] at hZ
    exact ⟨by omega, and_dec _ (by intro h; cases h) (by intro _; omega)⟩
theorem zz_not (m : Bool) (B : Nat) : - zz m B = zz (!m) B := by
  cases m
  · rfl
  · rw [Bool.not_true, zz_t, zz_f]; omega

theorem iarg {w : World} {n : Bool} {v : Value} {l : List Nat} (h : Reads w v l) (hs : Sm l) : ∃ (m : Bool) (p : Option Addr) (q A : Nat), izN n l = m ∧ izS n v l = .slice p (digs A).length q ∧ Reads w (.slice p (digs A).length q) (digs A) ∧ (m = true → 0 < A) ∧ (digs A).length ≤ l.length ∧ zv n l = zz m A := by
  obtain ⟨A, h1, h2, h3⟩ := izL_digs (n := n) hs
  have hr := izS_reads (n := n) h
  rw [h1] at hr
  obtain ⟨p, q, e⟩ := hr.form
  rw [e] at hr
  exact ⟨_, p, q, A, rfl, e, hr, h2, h3, by unfold zv; rw [h1, val_digs]⟩
theorem Reads.parts {w : World} {v : Value} {l : List Nat} (h : Reads w v l) : ∃ a n c, v = .slice a n c := by
  obtain ⟨a, c, e⟩ := h.form; exact ⟨a, _, c, e⟩
theorem zv_canon (X : Int) : zv (decide (X < 0)) (digs X.natAbs) = X := by
  have hc : ichk (decide (X < 0)) (digs X.natAbs) = true := by
    unfold ichk
    rw [chk_digs, dec_digs]
    by_cases h : X < 0
    · simp [h]; omega
    · simp [h]
  unfold zv izN izL zz
  rw [hc, if_pos rfl, val_digs]
  by_cases h : X < 0
  · simp [h]; omega
  · simp [h]; omega

section
variable {w : World} {v1 v2 : Value} {l1 l2 : List Nat} {n1 n2 : Bool}
theorem i_add_own (Z : Int) (h1 : Reads w v1 l1) (h2 : Reads w v2 l2) (k1 : l1.length ≤ 50000) (k2 : l2.length ≤ 50000) (s1 : Sm l1) (s2 : Sm l2) (hZ : Z = zv n1 l1 + zv n2 l2) :
    Calls Try.prog 28 #[.agg #[.bool n1, v1], .agg #[.bool n2, v2]] w fun e w' => ∃ a c, e = .returned (.agg #[.bool (decide (Z < 0)), .slice a (digs Z.natAbs).length c]) ∧ Fresh w' w.heap.size (.slice a (digs Z.natAbs).length c) (digs Z.natAbs) ∧ Below w.heap.size w w' := by
  obtain ⟨m1, p1, q1, A, e1, f1, r1, z1, t1, y1⟩ := iarg (n := n1) h1 s1
  obtain ⟨m2, p2, q2, B, e2, f2, r2, z2, t2, y2⟩ := iarg (n := n2) h2 s2
  have ko1 : ∀ W, Below w.heap.size w W → _ := fun W hW => iorZero_any (n := n1) (h1.below hW) (by omega)
  have ko2 : ∀ W, Below w.heap.size w W → _ := fun W hW => iorZero_any (n := n2) (h2.below hW) (by omega)
  rw [e1, f1] at ko1
  rw [e2, f2] at ko2
  rw [y1, y2] at hZ
  by_cases hm : m1 = m2
  · subst hm
    refine iadd_any (b0 := w.heap.size) h1.parts h2.parts ko1 ko2 (.inl rfl) (fun W => adding_same m1 p1 _ q1 W) fun W hW => ?_
    refine (farther_any m1 Z.natAbs (r1.below hW) (r2.below hW) (by omega) (by omega) (z_far hZ z1).1).mono ?_
    rintro e w' ⟨a, c, rfl, g, hb⟩
    exact ⟨a, c, by rw [(z_far hZ z1).2], g.mono hW.size, hb⟩
  · obtain rfl : m2 = !m1 := by cases m1 <;> cases m2 <;> simp at hm ⊢
    refine iadd_any (b0 := w.heap.size) h1.parts h2.parts ko1 ko2 (.inr rfl) (fun W => adding_other m1 p1 _ q1 W) fun W hW => ?_
    by_cases hAB : B ≤ A
    · refine (back_ge m1 Z.natAbs (r1.below hW) (r2.below hW) (by omega) (by omega) hAB (z_ge hZ hAB).1).mono ?_
      rintro e w' ⟨a, c, rfl, g, hb⟩
      exact ⟨a, c, by rw [(z_ge hZ hAB).2], g.mono hW.size, hb⟩
    · refine (back_lt m1 Z.natAbs (r1.below hW) (r2.below hW) (by omega) (by omega) (by omega) (z_lt hZ (by omega)).1).mono ?_
      rintro e w' ⟨a, c, rfl, g, hb⟩
      exact ⟨a, c, by rw [(z_lt hZ (by omega)).2], g.mono hW.size, hb⟩
theorem i_add (Z : Int) (h1 : Reads w v1 l1) (h2 : Reads w v2 l2) (k1 : l1.length ≤ 50000) (k2 : l2.length ≤ 50000) (s1 : Sm l1) (s2 : Sm l2) (hZ : Z = zv n1 l1 + zv n2 l2) :
    Calls Try.prog 28 #[.agg #[.bool n1, v1], .agg #[.bool n2, v2]] w fun e w' => ∃ a c, e = .returned (.agg #[.bool (decide (Z < 0)), .slice a (digs Z.natAbs).length c]) ∧ Reads w' (.slice a (digs Z.natAbs).length c) (digs Z.natAbs) ∧ Below w.heap.size w w' :=
  (i_add_own Z h1 h2 k1 k2 s1 s2 hZ).mono fun _ _ ⟨a, c, e, g, hb⟩ => ⟨a, c, e, g.reads, hb⟩
theorem i_sub_own (Z : Int) (h1 : Reads w v1 l1) (h2 : Reads w v2 l2) (k1 : l1.length ≤ 50000) (k2 : l2.length ≤ 50000) (s1 : Sm l1) (s2 : Sm l2) (hZ : Z = zv n1 l1 - zv n2 l2) :
    Calls Try.prog 29 #[.agg #[.bool n1, v1], .agg #[.bool n2, v2]] w fun e w' => ∃ a c, e = .returned (.agg #[.bool (decide (Z < 0)), .slice a (digs Z.natAbs).length c]) ∧ Fresh w' w.heap.size (.slice a (digs Z.natAbs).length c) (digs Z.natAbs) ∧ Below w.heap.size w w' := by
  obtain ⟨m1, p1, q1, A, e1, f1, r1, z1, t1, y1⟩ := iarg (n := n1) h1 s1
  obtain ⟨m2, p2, q2, B, e2, f2, r2, z2, t2, y2⟩ := iarg (n := n2) h2 s2
  have ko1 : ∀ W, Below w.heap.size w W → _ := fun W hW => iorZero_any (n := n1) (h1.below hW) (by omega)
  have ko2 : ∀ W, Below w.heap.size w W → _ := fun W hW => iorZero_any (n := n2) (h2.below hW) (by omega)
  rw [e1, f1] at ko1
  rw [e2, f2] at ko2
  rw [y1, y2, Int.sub_eq_add_neg, zz_not] at hZ
  by_cases hm : m1 = m2
  · subst hm
    refine isub_any (b0 := w.heap.size) h1.parts h2.parts ko1 ko2 (.inr rfl) (fun W => adding_other m1 p1 _ q1 W) fun W hW => ?_
    by_cases hAB : B ≤ A
    · refine (back_ge m1 Z.natAbs (r1.below hW) (r2.below hW) (by omega) (by omega) hAB (z_ge hZ hAB).1).mono ?_
      rintro e w' ⟨a, c, rfl, g, hb⟩
      exact ⟨a, c, by rw [(z_ge hZ hAB).2], g.mono hW.size, hb⟩
    · refine (back_lt m1 Z.natAbs (r1.below hW) (r2.below hW) (by omega) (by omega) (by omega) (z_lt hZ (by omega)).1).mono ?_
      rintro e w' ⟨a, c, rfl, g, hb⟩
      exact ⟨a, c, by rw [(z_lt hZ (by omega)).2], g.mono hW.size, hb⟩
  · obtain rfl : m2 = !m1 := by cases m1 <;> cases m2 <;> simp at hm ⊢
    rw [Bool.not_not] at hZ
    refine isub_any (b0 := w.heap.size) h1.parts h2.parts ko1 ko2 (.inl rfl) (fun W => by rw [Bool.not_not]; exact adding_same m1 p1 _ q1 W) fun W hW => ?_
    refine (farther_any m1 Z.natAbs (r1.below hW) (r2.below hW) (by omega) (by omega) (z_far hZ z1).1).mono ?_
    rintro e w' ⟨a, c, rfl, g, hb⟩
    exact ⟨a, c, by rw [(z_far hZ z1).2], g.mono hW.size, hb⟩
theorem i_sub (Z : Int) (h1 : Reads w v1 l1) (h2 : Reads w v2 l2) (k1 : l1.length ≤ 50000) (k2 : l2.length ≤ 50000) (s1 : Sm l1) (s2 : Sm l2) (hZ : Z = zv n1 l1 - zv n2 l2) :
    Calls Try.prog 29 #[.agg #[.bool n1, v1], .agg #[.bool n2, v2]] w fun e w' => ∃ a c, e = .returned (.agg #[.bool (decide (Z < 0)), .slice a (digs Z.natAbs).length c]) ∧ Reads w' (.slice a (digs Z.natAbs).length c) (digs Z.natAbs) ∧ Below w.heap.size w w' :=
  (i_sub_own Z h1 h2 k1 k2 s1 s2 hZ).mono fun _ _ ⟨a, c, e, g, hb⟩ => ⟨a, c, e, g.reads, hb⟩
theorem i_cmp (z : Int) (h1 : Reads w v1 l1) (h2 : Reads w v2 l2) (k1 : l1.length ≤ 50000) (k2 : l2.length ≤ 50000) (s1 : Sm l1) (s2 : Sm l2) (hz : sgz (zv n1 l1) (zv n2 l2) = z) :
    Calls Try.prog 36 #[.agg #[.bool n1, v1], .agg #[.bool n2, v2]] w fun e w' => e = .returned (.int .i64 z) ∧ Below w.heap.size w w' := by
  obtain ⟨m1, p1, q1, A, e1, f1, r1, z1, t1, y1⟩ := iarg (n := n1) h1 s1
  obtain ⟨m2, p2, q2, B, e2, f2, r2, z2, t2, y2⟩ := iarg (n := n2) h2 s2
  have ko1 : ∀ W, Below w.heap.size w W → _ := fun W hW => iorZero_any (n := n1) (h1.below hW) (by omega)
  have ko2 : ∀ W, Below w.heap.size w W → _ := fun W hW => iorZero_any (n := n2) (h2.below hW) (by omega)
  rw [e1, f1] at ko1
  rw [e2, f2] at ko2
  rw [y1, y2] at hz
  refine icmp_any h1.parts h2.parts ko1 ko2 (fun W hW hm => ?_) fun hm => ?_
  · subst hm
    cases m1
    · simp only [Bool.false_eq_true, if_false]
      refine d_cmp z (r1.below hW) (r2.below hW) (by omega) (by omega) ?_
      rw [← hz]; simp only [zz, sgz, sgn, Bool.false_eq_true, if_false]; split <;> (try split) <;> (try split) <;> omega
    · simp only [if_true]
      refine d_cmp z (r2.below hW) (r1.below hW) (by omega) (by omega) ?_
      rw [← hz]; simp only [zz, sgz, sgn, if_true]; split <;> (try split) <;> (try split) <;> omega
  · rw [← hz]
    cases m1 <;> cases m2 <;> simp [zz, sgz] at hm z1 z2 ⊢ <;> omega
end

end Go.Proofs.Ytlcbicdendelfaa

namespace Go.Proofs.Ytlcbicdendelfaa
open Go Go.Proofs Go.RowKit Go.Shelf Nu

section
variable {w : World} {v1 v2 : Value} {l1 l2 : List Nat} {n1 n2 : Bool}
theorem i_mul_own (Z : Int) (h1 : Reads w v1 l1) (h2 : Reads w v2 l2) (k1 : l1.length ≤ 50000) (k2 : l2.length ≤ 50000) (s1 : Sm l1) (s2 : Sm l2) (hZ : Z = zv n1 l1 * zv n2 l2) :
    Calls Try.prog 30 #[.agg #[.bool n1, v1], .agg #[.bool n2, v2]] w fun e w' => ∃ a c, e = .returned (.agg #[.bool (decide (Z < 0)), .slice a (digs Z.natAbs).length c]) ∧ Fresh w' w.heap.size (.slice a (digs Z.natAbs).length c) (digs Z.natAbs) ∧ Below w.heap.size w w' := by
  obtain ⟨m1, p1, q1, A, e1, f1, r1, z1, t1, y1⟩ := iarg (n := n1) h1 s1
  obtain ⟨m2, p2, q2, B, e2, f2, r2, z2, t2, y2⟩ := iarg (n := n2) h2 s2
  have ko1 : ∀ W, Below w.heap.size w W → _ := fun W hW => iorZero_any (n := n1) (h1.below hW) (by omega)
  have ko2 : ∀ W, Below w.heap.size w W → _ := fun W hW => iorZero_any (n := n2) (h2.below hW) (by omega)
  rw [e1, f1] at ko1
  rw [e2, f2] at ko2
  rw [y1, y2] at hZ
  have hM : Z.natAbs = A * B := by
    rw [hZ, Int.natAbs_mul]
    congr 1
    · cases m1 <;> simp [zz]
    · cases m2 <;> simp [zz]
  have hR : decide (Z < 0) = (m1 != m2 && decide (0 < (digs Z.natAbs).length)) := by
    rw [dec_digs, hM]
    have hP : ((A * B : Nat) : Int) = (A : Int) * (B : Int) := Int.natCast_mul A B
    obtain ⟨P, hPe⟩ : ∃ P, P = A * B := ⟨_, rfl⟩
    rw [← hPe] at hP ⊢
    symm
    cases m1 <;> cases m2
    · rw [zz_f, zz_f, ← hP] at hZ; exact and_dec _ (by intro h; cases h) (by intro _; omega)
    · rw [zz_f, zz_t, Int.mul_neg, ← hP] at hZ; exact and_dec _ (by intro _; constructor <;> intro _ <;> omega) (by intro h; cases h)
    · rw [zz_t, zz_f, Int.neg_mul, ← hP] at hZ; exact and_dec _ (by intro _; constructor <;> intro _ <;> omega) (by intro h; cases h)
    · rw [zz_t, zz_t, Int.neg_mul_neg, ← hP] at hZ; exact and_dec _ (by intro h; cases h) (by intro _; omega)
  refine imul_any (b0 := w.heap.size) h1.parts h2.parts ko1 ko2 hR fun W hW => ?_
  exact fd_mul w.heap.size Z.natAbs (r1.below hW) (r2.below hW) (by omega) (by omega) hM hW.size
theorem i_mul (Z : Int) (h1 : Reads w v1 l1) (h2 : Reads w v2 l2) (k1 : l1.length ≤ 50000) (k2 : l2.length ≤ 50000) (s1 : Sm l1) (s2 : Sm l2) (hZ : Z = zv n1 l1 * zv n2 l2) :
    Calls Try.prog 30 #[.agg #[.bool n1, v1], .agg #[.bool n2, v2]] w fun e w' => ∃ a c, e = .returned (.agg #[.bool (decide (Z < 0)), .slice a (digs Z.natAbs).length c]) ∧ Reads w' (.slice a (digs Z.natAbs).length c) (digs Z.natAbs) ∧ Below w.heap.size w w' :=
  (i_mul_own Z h1 h2 k1 k2 s1 s2 hZ).mono fun _ _ ⟨a, c, e, g, hb⟩ => ⟨a, c, e, g.reads, hb⟩
end

end Go.Proofs.Ytlcbicdendelfaa

namespace Go.Proofs.Ytlcbicdendelfaa
open Go Go.Proofs Go.RowKit Go.Shelf Nu

attribute [local go_sem] Oper.semAt_some

section
variable {w : World} {v1 v2 : Value} {l1 l2 : List Nat} {n1 n2 : Bool}
set_option maxHeartbeats 4000000 in
theorem ineg_any {m1 R : Bool} {p1 : Option Addr} {q1' A : Nat} (f1 : ∃ a n c, v1 = .slice a n c) (r0 : Reads w (.slice p1 (digs A).length q1') (digs A)) (la : (digs A).length ≤ 100000) (hR : R = (!m1 && decide (0 < (digs A).length)))
    (ko1 : ∀ W, Below w.heap.size w W → Calls Try.prog 31 #[.agg #[.bool n1, v1]] W fun e w' => e = .returned (.agg #[.bool m1, .slice p1 (digs A).length q1']) ∧ Below W.heap.size W w') :
    Calls Try.prog 13 #[.agg #[.bool n1, v1]] w fun e w' => ∃ a c, e = .returned (.agg #[.bool R, .slice a (digs A).length c]) ∧ Fresh w' w.heap.size (.slice a (digs A).length c) (digs A) ∧ Below w.heap.size w w' := by
  obtain ⟨s1, t1, c1, rfl⟩ := f1
  have B1 := (Box2.new w 25 (.bool n1) (.slice s1 t1 c1)).alloc (.cells #[.bool false, .slice none 0 0] 25)
  have B2 := Box2.new1 w (.cells #[.bool n1, .slice s1 t1 c1] 25) 25 (.bool false) (.slice none 0 0)
  have h0 : Below w.heap.size w ((w.alloc (.cells #[.bool n1, .slice s1 t1 c1] 25)).alloc (.cells #[.bool false, .slice none 0 0] 25)) := ((Below.refl _ _).alloc (Nat.le_refl _) _).alloc (by simp) _
  have ks := fun W a c => signed_any (!m1) a (digs A).length c W
  rw [← hR] at ks
  have kc : ∀ W, Below w.heap.size w W → _ := fun W hW => clone_any (r0.below hW) (by omega)
  clear r0 la hR
  go_enter Try.func13, Try.ntmps13
  go_wp2_with (go_at_call 31; refine (ko1 _ h0).mono ?_; rintro e w1 ⟨rfl, r1⟩; have C2 := B2.below r1; have h1 := then_below h0 r1)
  have hsz : w.heap.size + 1 < w1.heap.size := C2.lt
  have X := (Box2.new w1 62 (.bool m1) (.slice p1 (digs A).length q1')).drew
  have Z := (C2.alloc (.cells #[.bool m1, .slice p1 (digs A).length q1'] 62)).drew
  have h2 := (h1.alloc h1.size (.cells #[.bool m1, .slice p1 (digs A).length q1'] 62)).drew
  have x0 := X.c0
  have x1 := X.c1
  go_region_with (first
    | (go_at_call 39; refine (kc _ h2).mono ?_; clear kc; rintro e w2 ⟨v, rfl, f, r2⟩; have g := f.mono h2.size; obtain ⟨a, c, rfl⟩ := g.reads.form; have X1 := X.below r2; have Z1 := Z.below r2; have x2 := X1.c0; have h3 := then_below h2 r2)
    | (go_at_call 35; refine (ks _ _ _).mono ?_; clear ks; rintro e w3 ⟨rfl, r3⟩; have Z2 := Z1.below r3; have z2 := Z2.c0; have z3 := Z2.c1; have z4 := Z2.fr 0; have z5 := Z2.fr 1; have h4 := then_below h3 r3))
  all_goals
    go_wp2
    refine ret_box2 rfl rfl ((Z2.set0 _).set1 _) Try.underlying25 size_int rfl ?_
    exact ⟨a, c, rfl, (g.below r3).sets Z2, below_sets h4 (by omega) _ _⟩
theorem i_neg_own (Z : Int) (h1 : Reads w v1 l1) (k1 : l1.length ≤ 50000) (s1 : Sm l1) (hZ : Z = - zv n1 l1) :
    Calls Try.prog 13 #[.agg #[.bool n1, v1]] w fun e w' => ∃ a c, e = .returned (.agg #[.bool (decide (Z < 0)), .slice a (digs Z.natAbs).length c]) ∧ Fresh w' w.heap.size (.slice a (digs Z.natAbs).length c) (digs Z.natAbs) ∧ Below w.heap.size w w' := by
  obtain ⟨m1, p1, q1, A, e1, f1, r1, z1, t1, y1⟩ := iarg (n := n1) h1 s1
  have ko1 : ∀ W, Below w.heap.size w W → _ := fun W hW => iorZero_any (n := n1) (h1.below hW) (by omega)
  rw [e1, f1] at ko1
  rw [y1] at hZ
  have hA : Z.natAbs = A := by cases m1 <;> simp [zz] at hZ <;> omega
  have hR : decide (Z < 0) = (!m1 && decide (0 < (digs A).length)) := by
    rw [dec_digs]
    cases m1 <;> simp [zz] at hZ z1 ⊢ <;> omega
  rw [hA]
  exact ineg_any h1.parts r1 (by omega) hR ko1
theorem i_neg (Z : Int) (h1 : Reads w v1 l1) (k1 : l1.length ≤ 50000) (s1 : Sm l1) (hZ : Z = - zv n1 l1) :
    Calls Try.prog 13 #[.agg #[.bool n1, v1]] w fun e w' => ∃ a c, e = .returned (.agg #[.bool (decide (Z < 0)), .slice a (digs Z.natAbs).length c]) ∧ Reads w' (.slice a (digs Z.natAbs).length c) (digs Z.natAbs) ∧ Below w.heap.size w w' :=
  (i_neg_own Z h1 k1 s1 hZ).mono fun _ _ ⟨a, c, e, g, hb⟩ => ⟨a, c, e, g.reads, hb⟩

set_option maxHeartbeats 1000000 in
theorem i_sign (z : Int) (h1 : Reads w v1 l1) (k1 : l1.length ≤ 50000) (s1 : Sm l1) (hz : sgz (zv n1 l1) 0 = z) :
    Calls Try.prog 10 #[.agg #[.bool n1, v1]] w fun e w' => e = .returned (.int .i64 z) ∧ Below w.heap.size w w' := by
  have h0 : zv false [] = 0 := by simp [zv, zz, izN, izL, ichk, chk, val]
  have kc : ∀ W, Below w.heap.size w W → _ := fun W hW => i_cmp (w := W) (n1 := n1) (n2 := false) (v2 := .slice none 0 0) (l2 := []) z (h1.below hW) (Reads.nil W) k1 (by simp) s1 Sm.nil (by rw [h0]; exact hz)
  obtain ⟨a, c, rfl⟩ := h1.form
  have hb0 : Below w.heap.size w (w.alloc (.cells #[.bool n1, .slice a l1.length c] 25)) := (Below.refl _ _).alloc (Nat.le_refl _) _
  have kd := kc _ hb0
  clear h1 hz h0 kc k1 s1
  go_enter Try.func10, Try.ntmps10
  go_wp2_with (go_at_call 36; refine kd.mono ?_; clear kd; rintro e w1 ⟨rfl, r1⟩)
  go_ret
  exact ⟨rfl, then_below hb0 r1⟩

set_option maxHeartbeats 2000000 in
/-- SameInt, and the law package's own same -/
theorem sameInt_any {R : Bool} (h1 : Reads w v1 l1) (h2 : Reads w v2 l2) (k1 : l1.length ≤ 1000000) (k2 : l2.length ≤ 1000000) (hR : R = (n1 == n2 && decide (l1 = l2))) :
    Calls Try.prog 38 #[.agg #[.bool n1, v1], .agg #[.bool n2, v2]] w fun e w' => e = .returned (.bool R) ∧ Below w.heap.size w w' := by
  have kc : ∀ W, Below w.heap.size w W → _ := fun W hW => sameNat_any (h1.below hW) (h2.below hW) k1 k2
  obtain ⟨a, c, rfl⟩ := h1.form
  obtain ⟨b, d, rfl⟩ := h2.form
  have hb0 : Below w.heap.size w ((w.alloc (.cells #[.bool n1, .slice a l1.length c] 25)).alloc (.cells #[.bool n2, .slice b l2.length d] 25)) := ((Below.refl _ _).alloc (Nat.le_refl _) _).alloc (by simp) _
  have kd := kc _ hb0
  obtain ⟨S, hS⟩ : ∃ S, S = decide (l1 = l2) := ⟨_, rfl⟩
  rw [← hS] at kd hR
  clear h1 h2 k1 k2 kc hS
  by_cases hn : n1 = n2
  · subst hn
    obtain rfl : R = S := by rw [hR]; simp
    clear hR
    cases n1
    all_goals
      go_enter Try.func38, Try.ntmps38
      go_wp2_with (go_at_call 66; refine kd.mono ?_; clear kd; rintro e w1 ⟨rfl, n, rfl⟩)
      go_ret
      exact ⟨by simp, ⟨hb0.os, hb0.tape, hb0.output, hb0.size, hb0.block⟩⟩
  · obtain rfl : R = false := by rw [hR]; cases n1 <;> cases n2 <;> simp at hn ⊢
    clear hR kd
    cases n1 <;> cases n2
    all_goals first
      | exact absurd rfl hn
      | (go_enter Try.func38, Try.ntmps38
         go_wp2
         go_ret
         exact ⟨rfl, hb0⟩)
set_option maxHeartbeats 1000000 in
theorem same_any {R : Bool} (h1 : Reads w v1 l1) (h2 : Reads w v2 l2) (k1 : l1.length ≤ 1000000) (k2 : l2.length ≤ 1000000) (hR : R = (n1 == n2 && decide (l1 = l2))) :
    Calls Try.prog 12 #[.agg #[.bool n1, v1], .agg #[.bool n2, v2]] w fun e w' => e = .returned (.bool R) ∧ Below w.heap.size w w' := by
  have kc : ∀ W, Below w.heap.size w W → _ := fun W hW => sameInt_any (n1 := n1) (n2 := n2) (h1.below hW) (h2.below hW) k1 k2 hR
  obtain ⟨a, c, rfl⟩ := h1.form
  obtain ⟨b, d, rfl⟩ := h2.form
  have hb0 : Below w.heap.size w ((w.alloc (.cells #[.bool n1, .slice a l1.length c] 25)).alloc (.cells #[.bool n2, .slice b l2.length d] 25)) := ((Below.refl _ _).alloc (Nat.le_refl _) _).alloc (by simp) _
  have kd := kc _ hb0
  clear h1 h2 k1 k2 kc hR
  go_enter Try.func12, Try.ntmps12
  go_wp2_with (go_at_call 38; refine kd.mono ?_; clear kd; rintro e w1 ⟨rfl, r1⟩)
  go_ret
  exact ⟨rfl, then_below hb0 r1⟩
end

end Go.Proofs.Ytlcbicdendelfaa

namespace Go.Proofs.Ytlcbicdendelfaa
open Go Go.Proofs Go.RowKit Go.Shelf Nu

attribute [local go_sem] Oper.semAt_some

theorem wrap_neg {n : Nat} (h0 : 0 < n) (h : n ≤ 9223372036854775808) : IntKind.u64.wrap (-(IntKind.u64.wrap (-(n : Int)))) = (n : Int) := by
  rw [IntKind.wrap_u64, IntKind.wrap_u64]; omega
theorem wrap_neg1 {n : Nat} (h0 : 0 < n) (h : n ≤ 9223372036854775808) : IntKind.u64.wrap (-(n : Int)) = ((18446744073709551616 - n : Nat) : Int) := by
  rw [IntKind.wrap_u64]; omega
theorem wrap_neg2 {n : Nat} (h0 : 0 < n) (h : n ≤ 9223372036854775808) : IntKind.u64.wrap (-((18446744073709551616 - n : Nat) : Int)) = (n : Int) := by
  rw [IntKind.wrap_u64]; omega
theorem wrap_back {n : Nat} (h0 : 0 < n) (h : n ≤ 9223372036854775808) : IntKind.i64.wrap ((18446744073709551616 - n : Nat) : Int) = -(n : Int) := by
  rw [IntKind.wrap_i64]; omega
theorem wrap_pos {n : Nat} (h : n ≤ 9223372036854775807) : IntKind.i64.wrap (n : Int) = (n : Int) := by
  rw [IntKind.wrap_i64]; omega
theorem wrap_pos_u {n : Nat} (h : n ≤ 9223372036854775807) : IntKind.u64.wrap (n : Int) = (n : Int) := by
  rw [IntKind.wrap_u64]; omega

set_option maxHeartbeats 2000000 in
theorem i_of (X : Int) (W : World) (h1 : -9223372036854775808 ≤ X) (h2 : X ≤ 9223372036854775807) :
    Calls Try.prog 25 #[.int .i64 X] W fun e w' => ∃ a c, e = .returned (.agg #[.bool (decide (X < 0)), .slice a (digs X.natAbs).length c]) ∧ Reads w' (.slice a (digs X.natAbs).length c) (digs X.natAbs) ∧ Below W.heap.size W w' := by
  obtain ⟨n, hn⟩ : ∃ n, n = X.natAbs := ⟨_, rfl⟩
  rw [← hn]
  have ko : ∀ V, _ := fun V => of_any n (by omega) V
  have B := Box2.new W 25 (.bool false) (.slice none 0 0)
  have h0 : Below W.heap.size W (W.alloc (.cells #[.bool false, .slice none 0 0] 25)) := (Below.refl _ _).alloc (Nat.le_refl _) _
  by_cases hx : X < 0
  · have e : X = -(n : Int) := by omega
    have hp : 0 < n := by omega
    have hle : n ≤ 9223372036854775808 := by omega
    have ks := fun V a c => signed_any true a (digs n).length c V
    rw [dec_digs, show (true && decide (0 < n)) = true by simp [hp]] at ks
    rw [show decide (X < 0) = true by simp [hx]]
    subst e
    have u1 := wrap_neg1 hp hle
    have u2 := wrap_neg2 hp hle
    obtain ⟨m, hm⟩ : ∃ m, m = 18446744073709551616 - n := ⟨_, rfl⟩
    rw [← hm] at u1 u2
    have hneg : -(n : Int) < 0 := hx
    clear hn h1 h2 hx hm
    go_enter Try.func25, Try.ntmps25
    go_wp2_with (first
      | (go_at_call 55; refine (ko _).mono ?_; clear ko; rintro e w1 ⟨v, rfl, f, r1⟩; have g := f.reads; obtain ⟨a, c, rfl⟩ := g.form; have B1 := B.below r1; have h3 := then_below h0 r1)
      | (go_at_call 35; refine (ks _ _ _).mono ?_; clear ks; rintro e w2 ⟨rfl, r2⟩; have B2 := B1.below r2; have z2 := B2.c0; have z3 := B2.c1; have z4 := B2.fr 0; have z5 := B2.fr 1; have h4 := then_below h3 r2))
    refine ret_box2 rfl rfl ((B2.set0 _).set1 _) Try.underlying25 size_int rfl ?_
    exact ⟨a, c, rfl, (g.below r2).sets B2, below_sets h4 (Nat.le_refl _) _ _⟩
  · have e : X = (n : Int) := by omega
    have hle : n ≤ 9223372036854775807 := by omega
    have ks := fun V a c => signed_any false a (digs n).length c V
    rw [show (false && decide (0 < (digs n).length)) = false by simp] at ks
    rw [show decide (X < 0) = false by simp [hx]]
    subst e
    have u1 := wrap_pos_u hle
    have hneg : ¬ (n : Int) < 0 := hx
    clear hn h1 h2 hx
    go_enter Try.func25, Try.ntmps25
    go_wp2_with (first
      | (go_at_call 55; refine (ko _).mono ?_; clear ko; rintro e w1 ⟨v, rfl, f, r1⟩; have g := f.reads; obtain ⟨a, c, rfl⟩ := g.form; have B1 := B.below r1; have h3 := then_below h0 r1)
      | (go_at_call 35; refine (ks _ _ _).mono ?_; clear ks; rintro e w2 ⟨rfl, r2⟩; have B2 := B1.below r2; have z2 := B2.c0; have z3 := B2.c1; have z4 := B2.fr 0; have z5 := B2.fr 1; have h4 := then_below h3 r2))
    refine ret_box2 rfl rfl ((B2.set0 _).set1 _) Try.underlying25 size_int rfl ?_
    exact ⟨a, c, rfl, (g.below r2).sets B2, below_sets h4 (Nat.le_refl _) _ _⟩

theorem backV_digs {n : Nat} (h : n < 18446744073709551616) : backV (digs n) = .tuple #[.int .u64 n, .int .i64 0] := by
  have hl : (digs n).length ≤ 2 := digs_length_le (Nat.lt_of_lt_of_le h (by decide))
  unfold backV
  rw [if_pos (chk_digs n), if_neg (by omega), val_digs]

set_option maxHeartbeats 2000000 in
/-- Back, and the law package's own small, of a number of 64 bits -/
theorem i_back (X : Int) {w : World} {a : Option Addr} {c : Nat} (h : Reads w (.slice a (digs X.natAbs).length c) (digs X.natAbs)) (h1 : -9223372036854775808 ≤ X) (h2 : X ≤ 9223372036854775807) :
    Calls Try.prog 26 #[.agg #[.bool (decide (X < 0)), .slice a (digs X.natAbs).length c]] w fun e w' => e = .returned (.tuple #[.int .i64 X, .int .i64 0]) ∧ Below w.heap.size w w' := by
  have hc : ichk (decide (X < 0)) (digs X.natAbs) = true := by
    unfold ichk
    rw [chk_digs, dec_digs]
    by_cases h : X < 0
    · simp [h]; omega
    · simp [h]
  obtain ⟨n, hn⟩ : ∃ n, n = X.natAbs := ⟨_, rfl⟩
  rw [← hn] at h hc ⊢
  have hl : (digs n).length ≤ 2 := digs_length_le (Nat.lt_of_le_of_lt (show n ≤ 9223372036854775808 by omega) (by decide))
  have kc : ∀ V, Below w.heap.size w V → _ := fun V hV => icheck_any (n := decide (X < 0)) (h.below hV) (by omega)
  rw [hc] at kc
  have kb : ∀ V, Below w.heap.size w V → _ := fun V hV => back_any' (h.below hV) (by omega) (sm_digs _)
  rw [backV_digs (n := n) (by omega)] at kb
  have B := Box2.new w 25 (.bool (decide (X < 0))) (.slice a (digs n).length c)
  have h0 : Below w.heap.size w (w.alloc (.cells #[.bool (decide (X < 0)), .slice a (digs n).length c] 25)) := (Below.refl _ _).alloc (Nat.le_refl _) _
  by_cases hx : X < 0
  · have e : X = -(n : Int) := by omega
    have hp : 0 < n := by omega
    have hle : n ≤ 9223372036854775808 := by omega
    have hd : decide (X < 0) = true := by simp [hx]
    rw [hd] at kc B h0 ⊢
    subst e
    have u1 := wrap_neg1 hp hle
    have u2 := wrap_back hp hle
    obtain ⟨m, hm⟩ : ∃ m, m = 18446744073709551616 - n := ⟨_, rfl⟩
    rw [← hm] at u1 u2
    have hi : (n : Int) ≤ 9223372036854775808 := by omega
    clear hn h1 h2 hx hm h hc hd
    go_enter Try.func26, Try.ntmps26
    go_wp2_with (first
      | (go_at_call 11; refine (kc _ h0).mono ?_; clear kc; rintro e w1 ⟨rfl, r1⟩; have B1 := B.below r1; have h3 := then_below h0 r1; have z1 := B1.c1)
      | (go_at_call 56; refine (kb _ h3).mono ?_; clear kb; rintro e w2 ⟨rfl, r2⟩; have B2 := B1.below r2; have z2 := B2.c0; have h4 := then_below h3 r2))
    go_ret2
    exact ⟨rfl, h4⟩
  · have e : X = (n : Int) := by omega
    have hle : n ≤ 9223372036854775807 := by omega
    have hd : decide (X < 0) = false := by simp [hx]
    rw [hd] at kc B h0 ⊢
    subst e
    have u1 := wrap_pos hle
    have hi : (n : Int) ≤ 9223372036854775807 := by omega
    clear hn h1 h2 hx h hc hd
    go_enter Try.func26, Try.ntmps26
    go_wp2_with (first
      | (go_at_call 11; refine (kc _ h0).mono ?_; clear kc; rintro e w1 ⟨rfl, r1⟩; have B1 := B.below r1; have h3 := then_below h0 r1; have z1 := B1.c1)
      | (go_at_call 56; refine (kb _ h3).mono ?_; clear kb; rintro e w2 ⟨rfl, r2⟩; have B2 := B1.below r2; have z2 := B2.c0; have h4 := then_below h3 r2))
    go_ret2
    exact ⟨rfl, h4⟩
set_option maxHeartbeats 1000000 in
theorem i_small (X : Int) {w : World} {a : Option Addr} {c : Nat} (h : Reads w (.slice a (digs X.natAbs).length c) (digs X.natAbs)) (h1 : -9223372036854775808 ≤ X) (h2 : X ≤ 9223372036854775807) :
    Calls Try.prog 27 #[.agg #[.bool (decide (X < 0)), .slice a (digs X.natAbs).length c]] w fun e w' => e = .returned (.int .i64 X) ∧ Below w.heap.size w w' := by
  have kb : ∀ V, Below w.heap.size w V → _ := fun V hV => i_back X (h.below hV) h1 h2
  have h0 : Below w.heap.size w (w.alloc (.cells #[.bool (decide (X < 0)), .slice a (digs X.natAbs).length c] 25)) := (Below.refl _ _).alloc (Nat.le_refl _) _
  have kd := kb _ h0
  obtain ⟨R, hR⟩ : ∃ R, R = decide (X < 0) := ⟨_, rfl⟩
  rw [← hR] at kd h0 ⊢
  clear h h1 h2 kb hR
  go_enter Try.func27, Try.ntmps27
  go_wp2_with (go_at_call 26; refine kd.mono ?_; clear kd; rintro e w1 ⟨rfl, r1⟩)
  go_ret
  exact ⟨rfl, then_below h0 r1⟩

end Go.Proofs.Ytlcbicdendelfaa

namespace Go.Proofs.Ytlcbicdendelfaa
open Go Go.Proofs Go.RowKit Go.Shelf Nu

/-- a number's text -/
def txt (V : Nat) : ByteArray := ⟨((low V).reverse.map UInt8.ofNat).toArray⟩
/-- the number of some digits, the lowest first -/
def dec : List Nat → Nat
  | [] => 0
  | d :: l => (d - 48) + 10 * dec l
/-- a text's bytes -/
def nat8 (s : ByteArray) : List Nat := s.data.toList.map UInt8.toNat

theorem dec_low (V : Nat) : dec (low V) = V := by
  induction V using Nat.strongRecOn with
  | ind V ih =>
    rw [low]
    by_cases h : V / 10 = 0
    · simp [h, dec]; omega
    · simp only [h, dite_false, dec]
      rw [ih (V / 10) (by omega)]
      omega
theorem low_digit {V x : Nat} (h : x ∈ low V) : 48 ≤ x ∧ x ≤ 57 := by
  induction V using Nat.strongRecOn with
  | ind V ih =>
    rw [low] at h
    rcases List.mem_cons.1 h with rfl | h
    · omega
    · split at h
      · cases h
      · exact ih (V / 10) (by omega) h
theorem low_last {V : Nat} (h : 0 < V) : ∃ x, (low V).getLast? = some x ∧ x ≠ 48 := by
  induction V using Nat.strongRecOn with
  | ind V ih =>
    rw [low]
    by_cases h0 : V / 10 = 0
    · exact ⟨48 + V % 10, by simp [h0], by omega⟩
    · obtain ⟨x, h1, h2⟩ := ih (V / 10) (by omega) (by omega)
      refine ⟨x, ?_, h2⟩
      simp only [h0, dite_false]
      have hne : low (V / 10) ≠ [] := fun e => by have := low_pos (V / 10); rw [e] at this; simp at this
      rw [List.getLast?_cons, h1]
      rfl
theorem low_one {V : Nat} (h : (low V).length ≠ 1) : 0 < V := by
  rcases Nat.eq_zero_or_pos V with rfl | h1
  · exact absurd (by rw [low]; simp) h
  · exact h1
theorem dec_pos {l : List Nat} (hd : ∀ x ∈ l, 48 ≤ x ∧ x ≤ 57) {x : Nat} (h : l.getLast? = some x) (hx : x ≠ 48) : 0 < dec l := by
  induction l with
  | nil => simp at h
  | cons d l ih =>
    cases l with
    | nil =>
      have e : d = x := by simpa using h
      have := hd d (by simp)
      simp only [dec]; omega
    | cons d2 l2 =>
      have := ih (fun y hy => hd y (by simp at hy ⊢; exact .inr hy)) (by simpa using h)
      simp only [dec] at this ⊢; omega
theorem low_dec {l : List Nat} (hd : ∀ x ∈ l, 48 ≤ x ∧ x ≤ 57) (hn : l ≠ []) (h : l.length = 1 ∨ ∃ x, l.getLast? = some x ∧ x ≠ 48) : low (dec l) = l := by
  induction l with
  | nil => exact absurd rfl hn
  | cons d l ih =>
    have h1 := hd d (by simp)
    cases l with
    | nil =>
      rw [low]
      have e : (d - 48) / 10 = 0 := by omega
      simp only [dec, Nat.mul_zero, Nat.add_zero, e, dite_true]
      congr 1
      omega
    | cons d2 l2 =>
      obtain ⟨x, hx1, hx2⟩ : ∃ x, (d :: d2 :: l2).getLast? = some x ∧ x ≠ 48 := by
        rcases h with h | h
        · simp at h
        · exact h
      have hl : ∀ x ∈ d2 :: l2, 48 ≤ x ∧ x ≤ 57 := fun y hy => hd y (List.mem_cons_of_mem _ hy)
      have hx1' : (d2 :: l2).getLast? = some x := by simpa using hx1
      have hp := dec_pos hl hx1' hx2
      have hi := ih hl (by simp) (.inr ⟨x, hx1', hx2⟩)
      generalize d2 :: l2 = m at *
      rw [low]
      have e1 : (d - 48 + 10 * dec m) / 10 = dec m := by omega
      have e2 : (d - 48 + 10 * dec m) % 10 = d - 48 := by omega
      simp only [dec, e1, e2]
      rw [dif_neg (by omega), hi]
      congr 1
      omega

theorem nat8_length (s : ByteArray) : (nat8 s).length = s.size := by simp [nat8]
theorem bt_nat8 (s : ByteArray) (j : Nat) : bt s j = (nat8 s).getD j 0 := by
  unfold bt nat8
  rw [List.getD_eq_getElem?_getD, List.getD_eq_getElem?_getD, List.getElem?_map]
  cases s.data.toList[j]? <;> rfl
theorem numv_dec (s : ByteArray) (k : Nat) (hk : k ≤ s.size) : numv s k = dec ((nat8 s).take k).reverse := by
  induction k with
  | zero => simp [numv, dec]
  | succ k ih =>
    have hl := nat8_length s
    rw [numv, ih (by omega), List.take_succ_eq_append_getElem (by omega), List.reverse_append, List.reverse_singleton, List.singleton_append, dec, bt_nat8, List.getD_eq_getElem?_getD, List.getElem?_eq_getElem (by omega)]
    simp only [Option.getD_some]
    omega
theorem nat8_txt (V : Nat) : nat8 (txt V) = (low V).reverse := by
  unfold nat8 txt
  simp only [List.map_map]
  rw [List.map_congr_left (g := id)]
  · simp
  · intro x hx
    have := low_digit (List.mem_reverse.1 hx)
    simp only [Function.comp, UInt8.toNat_ofNat', id]
    omega
theorem txt_size (V : Nat) : (txt V).size = (low V).length := by rw [← nat8_length, nat8_txt, List.length_reverse]
theorem txt_numv (V : Nat) : numv (txt V) (txt V).size = V := by
  rw [numv_dec _ _ (Nat.le_refl _), nat8_txt, txt_size, List.take_of_length_le (by simp), List.reverse_reverse, dec_low]
theorem txt_num (V : Nat) : isNum (txt V) := by
  have hb : ∀ j, j < (low V).length → ∃ x ∈ low V, bt (txt V) j = x := fun j hj => by
    rw [bt_nat8, nat8_txt, List.getD_eq_getElem?_getD, List.getElem?_eq_getElem (by simpa using hj)]
    exact ⟨_, List.mem_reverse.1 (List.getElem_mem _), rfl⟩
  refine ⟨fun j hj => ?_, ?_⟩
  · rw [txt_size] at hj
    obtain ⟨x, hx, e⟩ := hb j hj
    rw [e]; exact low_digit hx
  · rw [txt_size]
    by_cases h : (low V).length = 1
    · exact .inl h
    · have := low_pos V
      refine .inr ⟨by omega, ?_⟩
      obtain ⟨x, h1, h2⟩ := low_last (low_one h)
      rw [bt_nat8, nat8_txt, List.getD_eq_getElem?_getD, ← List.head?_eq_getElem?, List.head?_reverse, h1]
      exact h2
theorem txt_back {s : ByteArray} (h : isNum s) : txt (numv s s.size) = s := by
  have hl := nat8_length s
  have hpos : 0 < s.size := by rcases h.2 with h | h <;> omega
  have e : low (numv s s.size) = (nat8 s).reverse := by
    rw [numv_dec _ _ (Nat.le_refl _), List.take_of_length_le (by omega)]
    refine low_dec (fun x hx => ?_) (fun e => ?_) ?_
    · obtain ⟨j, hj, rfl⟩ := List.mem_iff_getElem.1 (List.mem_reverse.1 hx)
      have := h.1 j (by omega)
      rw [bt_nat8, List.getD_eq_getElem?_getD, List.getElem?_eq_getElem hj] at this
      simpa using this
    · have := congrArg List.length e
      rw [List.length_reverse, hl, List.length_nil] at this; omega
    · rw [List.length_reverse, hl]
      rcases h.2 with h | h
      · exact .inl h
      · refine .inr ⟨bt s 0, ?_, h.2⟩
        rw [List.getLast?_reverse, List.head?_eq_getElem?, bt_nat8, List.getD_eq_getElem?_getD, List.getElem?_eq_getElem (by omega)]
        rfl
  unfold txt
  rw [e, List.reverse_reverse]
  unfold nat8
  rw [List.map_map]
  have : (UInt8.ofNat ∘ UInt8.toNat) = id := by funext x; simp
  rw [this, List.map_id]
theorem txt_zero : txt 0 = ⟨#[48]⟩ := by
  unfold txt
  rw [low]
  rfl

set_option maxHeartbeats 1000000 in
/-- Beyond, of one size -/
theorem beyond_one (W : World) (x : Nat) (hx : x < 9223372036854775808) (R : Bool) (hR : R = decide (1048576 < x)) :
    Calls Try.prog 7 #[.slice (some ⟨W.heap.size, 0, none⟩) 1 1] (W.alloc (.cells #[.int .i64 x] 3)) fun e w' => e = .returned (.bool R) ∧ Below W.heap.size W w' := by
  have hc : (W.alloc (.cells #[.int .i64 (x : Int)] 3)).cell? ⟨W.heap.size, 0, none⟩ = some (.int .i64 x) := by
    unfold World.cell?
    rw [World.alloc_heap_new]
    rfl
  obtain ⟨V, hV⟩ : ∃ V, V = W.alloc (.cells #[.int .i64 (x : Int)] 3) := ⟨_, rfl⟩
  obtain ⟨b, hb⟩ : ∃ b, b = W.heap.size := ⟨_, rfl⟩
  have HB : Hid (∀ n, Below b W (V.drewN n)) := Lib.hid fun n => by
    rw [hV, hb]
    exact ⟨rfl, rfl, rfl, by show W.heap.size ≤ (W.alloc _).heap.size; simp, fun k hk => Below.heap_alloc W _ k hk⟩
  rw [← hV, ← hb] at hc
  rw [← hV, ← hb]
  have HR := Lib.hid hR
  clear hV hb hR
  go_enter Try.func7, Try.ntmps7
  go_wp2
  go_loopw [3, 4] (fun y z wr => ((z = .int .i64 0 ∧ y = .int .i64 0) ∨ (z = .int .i64 1 ∧ y = .int .i64 x ∧ x ≤ 1048576)) ∧ ∃ n, wr = V.drewN n) (fun _ z _ => 1 - (intOf z).toNat)
  case atStart => exact ⟨.inl ⟨rfl, rfl⟩, 0, rfl⟩
  case round =>
    obtain ⟨h, n, rfl⟩ := hrel
    rcases h with ⟨rfl, rfl⟩ | ⟨rfl, rfl, hxl⟩
    · by_cases hq : 1048576 < (x : Int)
      · have h0 : R = true := by rw [HR.out]; simp; omega
        go_wp2
        go_ret
        exact ⟨by rw [h0]; rfl, HB.out n⟩
      · go_wp2
        go_roundw
        case rel => exact ⟨.inr ⟨by simp, by simp, by omega⟩, n, rfl⟩
        case measure => simp [intOf]
    · have h0 : R = false := by rw [HR.out]; simp; omega
      go_wp2
      go_ret
      exact ⟨by rw [h0]; rfl, HB.out n⟩

end Go.Proofs.Ytlcbicdendelfaa

namespace Go.Proofs.Ytlcbicdendelfaa
open Go Go.Proofs Go.RowKit Go.Shelf Nu

attribute [local go_sem] Oper.semAt_some

/-- a whole number's text -/
def itxt (X : Int) : ByteArray := if X < 0 then ⟨#[45]⟩ ++ txt X.natAbs else txt X.natAbs

theorem cut_any (s : ByteArray) (w : World) : Calls Try.prog 33 #[.string s, .string ⟨#[45]⟩] w fun e w' => e = .returned (.tuple #[.string ⟨(Lib.trimPrefix s.data.toList [45]).toArray⟩, .bool (Lib.hasPrefix s.data.toList [45])]) ∧ w' = w :=
  Any.strings_CutPrefix Ytlcbicdendelfaa.cutL s ⟨#[45]⟩ w

set_option maxHeartbeats 2000000 in
theorem i_text {w : World} {v1 : Value} {l1 : List Nat} {n1 : Bool} (S : ByteArray) (h1 : Reads w v1 l1) (k1 : l1.length ≤ 50000) (s1 : Sm l1) (hS : S = itxt (zv n1 l1)) :
    Calls Try.prog 8 #[.agg #[.bool n1, v1]] w fun e w' => e = .returned (.string S) ∧ Below w.heap.size w w' := by
  obtain ⟨m1, p1, q1, A, e1, f1, r1, z1, t1, y1⟩ := iarg (n := n1) h1 s1
  have ko1 : ∀ W, Below w.heap.size w W → _ := fun W hW => iorZero_any (n := n1) (h1.below hW) (by omega)
  rw [e1, f1] at ko1
  rw [y1] at hS
  have kt : ∀ W, Below w.heap.size w W → _ := fun W hW => text_any (r1.below hW) (sm_digs _) (chk_digs _) (by omega) (txt A) (by rw [val_digs]; rfl)
  obtain ⟨s, t, c, rfl⟩ := h1.parts
  have h0 : Below w.heap.size w (w.alloc (.cells #[.bool n1, .slice s t c] 25)) := (Below.refl _ _).alloc (Nat.le_refl _) _
  cases m1
  · have e : S = txt A := by rw [hS, zz_f]; unfold itxt; rw [if_neg (by omega)]; rfl
    rw [e]
    clear e hS h1 r1 k1 s1 y1 z1 t1
    go_enter Try.func8, Try.ntmps8
    go_wp2_with (first
      | (go_at_call 31; refine (ko1 _ h0).mono ?_; clear ko1; rintro e w1 ⟨rfl, r1⟩; have h2 := then_below h0 r1; have X := Box2.new w1 62 (.bool false) (.slice p1 (digs A).length q1); have h3 := h2.alloc h2.size (.cells #[.bool false, .slice p1 (digs A).length q1] 62))
      | (go_at_call 32; refine (kt _ h3).mono ?_; clear kt; rintro e w2 ⟨rfl, r2⟩))
    go_ret
    exact ⟨rfl, then_below h3 r2⟩
  · have hA := z1 rfl
    have e : S = ⟨#[45]⟩ ++ txt A := by
      rw [hS, zz_t]; unfold itxt; rw [if_pos (by omega)]
      congr 2
      omega
    rw [e]
    have hsz : ¬ 9223372036854775807 < 1 + (txt A).size := by
      rw [txt_size]
      have := low_len_val (sm_digs A)
      rw [val_digs] at this
      omega
    clear e hS h1 r1 k1 s1 y1 z1 t1 hA
    go_enter Try.func8, Try.ntmps8
    go_wp2_with (first
      | (go_at_call 31; refine (ko1 _ h0).mono ?_; clear ko1; rintro e w1 ⟨rfl, r1⟩; have h2 := then_below h0 r1; have X := Box2.new w1 62 (.bool true) (.slice p1 (digs A).length q1); have h3 := h2.alloc h2.size (.cells #[.bool true, .slice p1 (digs A).length q1] 62))
      | (go_at_call 32; refine (kt _ h3).mono ?_; clear kt; rintro e w2 ⟨rfl, r2⟩))
    go_ret
    exact ⟨rfl, then_below h3 r2⟩

theorem ret_box2_tmp {fn : Func} {p q : Tmp} {ty t : TypeId} {R : Ending → World → Prop} {a : Act} {w : World} {B : Nat} {u v x : Value} {fs : Array Field} (h : fn.results = #[.cell p ty, .tmp q]) (hp : a.tmps.getD p undef = .pointer (some ⟨B, 0, none⟩)) (hx : a.tmps.getD q undef = x) (hg : Box2 w B t u v)
    (hu : Try.prog.underlying ty = some (.struct fs)) (hi : (Try.prog.info? ty).map (·.size) = some 2) (hde : a.defers = []) (hR : R (.returned (.tuple #[.agg #[u, v], x])) w) : bodyPost Try.prog fn R .ret a w := by
  refine bodyPost_ret (v := .tuple #[.agg #[u, v], x]) ?_ hde hR
  rw [results_cell_tmp h, hp, hx]
  simp [asAddr, run_loadVar_row (P := Try.prog) w B t ty #[u, v] (0, 0) (.struct fs) hg hu rfl hi, Result.andThen]

section
variable {s d : ByteArray} {neg : Bool} {w : World}
/-- Parse, where the digits are none -/
theorem i_parse_no (E : Int) (hE : E ≠ 0) (hk : ∀ W, Calls Try.prog 33 #[.string s, .string ⟨#[45]⟩] W fun e w' => e = .returned (.tuple #[.string d, .bool neg]) ∧ w' = W)
    (kp : ∀ W, Calls Try.prog 34 #[.string d] W fun e w' => e = .returned (.tuple #[.slice none 0 0, .int .i64 E]) ∧ Below W.heap.size W w') :
    Calls Try.prog 9 #[.string s] w fun e w' => e = .returned (.tuple #[.agg #[.bool false, .slice none 0 0], .int .i64 E]) ∧ Below w.heap.size w w' := by
  have B := Box2.new w 25 (.bool false) (.slice none 0 0)
  have h0 : Below w.heap.size w (w.alloc (.cells #[.bool false, .slice none 0 0] 25)) := (Below.refl _ _).alloc (Nat.le_refl _) _
  have hb : (E != 0) = true := by simpa using hE
  clear hE
  go_enter Try.func9, Try.ntmps9
  go_wp2_with (first
    | (go_at_call 33; refine (hk _).mono ?_; clear hk; rintro e w' ⟨rfl, rfl⟩)
    | (go_at_call 34; refine (kp _).mono ?_; clear kp; rintro e w1 ⟨rfl, r1⟩; have B1 := B.below r1; have z2 := B1.c0; have z3 := B1.c1; have z4 := B1.fr 0; have z5 := B1.fr 1; have h3 := then_below h0 r1))
  refine ret_box2_tmp rfl rfl rfl ((B1.set0 _).set1 _) Try.underlying25 size_int rfl ?_
  exact ⟨rfl, below_sets h3 (Nat.le_refl _) _ _⟩
set_option maxHeartbeats 1000000 in
/-- .. where a hyphen stands ahead of 0 -/
theorem i_parse_zero (hk : ∀ W, Calls Try.prog 33 #[.string s, .string ⟨#[45]⟩] W fun e w' => e = .returned (.tuple #[.string d, .bool true]) ∧ w' = W) {L : Nat} (hL : L = 0)
    (kp : ∀ W, Calls Try.prog 34 #[.string d] W fun e w' => ∃ a c, e = .returned (.tuple #[.slice a L c, .int .i64 0]) ∧ Below W.heap.size W w') :
    Calls Try.prog 9 #[.string s] w fun e w' => e = .returned (.tuple #[.agg #[.bool false, .slice none 0 0], .int .i64 4]) ∧ Below w.heap.size w w' := by
  subst hL
  have B := Box2.new w 25 (.bool false) (.slice none 0 0)
  have h0 : Below w.heap.size w (w.alloc (.cells #[.bool false, .slice none 0 0] 25)) := (Below.refl _ _).alloc (Nat.le_refl _) _
  go_enter Try.func9, Try.ntmps9
  go_wp2_with (first
    | (go_at_call 33; refine (hk _).mono ?_; clear hk; rintro e w' ⟨rfl, rfl⟩)
    | (go_at_call 34; refine (kp _).mono ?_; clear kp; rintro e w1 ⟨a, c, rfl, r1⟩; have B1 := B.below r1; have z2 := B1.c0; have z3 := B1.c1; have z4 := B1.fr 0; have z5 := B1.fr 1; have h3 := then_below h0 r1))
  refine ret_box2_tmp rfl rfl rfl ((B1.set0 _).set1 _) Try.underlying25 size_int rfl ?_
  exact ⟨rfl, below_sets h3 (Nat.le_refl _) _ _⟩
set_option maxHeartbeats 1000000 in
/-- .. where it is read -/
theorem i_parse_yes {M : Nat} (hM : neg = true → 0 < M) (hk : ∀ W, Calls Try.prog 33 #[.string s, .string ⟨#[45]⟩] W fun e w' => e = .returned (.tuple #[.string d, .bool neg]) ∧ w' = W)
    (kp : ∀ W, Calls Try.prog 34 #[.string d] W fun e w' => ∃ a c, e = .returned (.tuple #[.slice a (digs M).length c, .int .i64 0]) ∧ Reads w' (.slice a (digs M).length c) (digs M) ∧ Below W.heap.size W w') :
    Calls Try.prog 9 #[.string s] w fun e w' => ∃ a c, e = .returned (.tuple #[.agg #[.bool neg, .slice a (digs M).length c], .int .i64 0]) ∧ Reads w' (.slice a (digs M).length c) (digs M) ∧ Below w.heap.size w w' := by
  have B := Box2.new w 25 (.bool false) (.slice none 0 0)
  have h0 : Below w.heap.size w (w.alloc (.cells #[.bool false, .slice none 0 0] 25)) := (Below.refl _ _).alloc (Nat.le_refl _) _
  have ks := fun V a c => signed_any neg a (digs M).length c V
  rw [dec_digs, show (neg && decide (0 < M)) = neg by cases neg; rfl; simpa using hM rfl] at ks
  cases neg
  · go_enter Try.func9, Try.ntmps9
    go_wp2_with (first
      | (go_at_call 33; refine (hk _).mono ?_; clear hk; rintro e w' ⟨rfl, rfl⟩)
      | (go_at_call 34; refine (kp _).mono ?_; clear kp; rintro e w1 ⟨a, c, rfl, g, r1⟩; have B1 := B.below r1; have h3 := then_below h0 r1)
      | (go_at_call 35; refine (ks _ _ _).mono ?_; clear ks; rintro e w2 ⟨rfl, r2⟩; have B2 := B1.below r2; have z2 := B2.c0; have z3 := B2.c1; have z4 := B2.fr 0; have z5 := B2.fr 1; have h4 := then_below h3 r2))
    refine ret_box2_tmp rfl rfl rfl ((B2.set0 _).set1 _) Try.underlying25 size_int rfl ?_
    exact ⟨a, c, rfl, (g.below r2).sets B2, below_sets h4 (Nat.le_refl _) _ _⟩
  · have hpos := digs_len_pos (n := M) (by have := hM rfl; omega)
    have hn : (((digs M).length : Int) == 0) = false := beq_eq_false_iff_ne.2 (by omega)
    clear hM hpos
    go_enter Try.func9, Try.ntmps9
    go_wp2_with (first
      | (go_at_call 33; refine (hk _).mono ?_; clear hk; rintro e w' ⟨rfl, rfl⟩)
      | (go_at_call 34; refine (kp _).mono ?_; clear kp; rintro e w1 ⟨a, c, rfl, g, r1⟩; have B1 := B.below r1; have h3 := then_below h0 r1)
      | (go_at_call 35; refine (ks _ _ _).mono ?_; clear ks; rintro e w2 ⟨rfl, r2⟩; have B2 := B1.below r2; have z2 := B2.c0; have z3 := B2.c1; have z4 := B2.fr 0; have z5 := B2.fr 1; have h4 := then_below h3 r2))
    refine ret_box2_tmp rfl rfl rfl ((B2.set0 _).set1 _) Try.underlying25 size_int rfl ?_
    exact ⟨a, c, rfl, (g.below r2).sets B2, below_sets h4 (Nat.le_refl _) _ _⟩
end

end Go.Proofs.Ytlcbicdendelfaa

namespace Go.Proofs.Ytlcbicdendelfaa
open Go Go.Proofs Go.RowKit Go.Shelf Nu

/-- sign and parts are worth X -/
def Is (s : Bool) (L : List Nat) (X : Int) : Prop := Sm L ∧ zv s L = X
/-- .. and are as they should be -/
def Can (s : Bool) (L : List Nat) (X : Int) : Prop := s = decide (X < 0) ∧ L = digs X.natAbs
theorem Can.is {s : Bool} {L : List Nat} {X : Int} (h : Can s L X) : Is s L X := by
  obtain ⟨rfl, rfl⟩ := h
  exact ⟨sm_digs _, zv_canon X⟩
theorem Can.ex (X : Int) : ∃ (s : Bool) (L : List Nat), Can s L X := ⟨_, _, rfl, rfl⟩
theorem Can.chk {s : Bool} {L : List Nat} {X : Int} (h : Can s L X) : ichk s L = true := by
  obtain ⟨rfl, rfl⟩ := h
  unfold ichk
  rw [chk_digs, dec_digs]
  by_cases h : X < 0
  · simp [h]; omega
  · simp [h]
theorem Can.same {s t : Bool} {L M : List Nat} {X Y : Int} (h : Can s L X) (k : Can t M Y) : (s == t && decide (L = M)) = decide (X = Y) := by
  obtain ⟨rfl, rfl⟩ := h
  obtain ⟨rfl, rfl⟩ := k
  by_cases e : X = Y
  · subst e; simp
  · rw [decide_eq_false e]
    by_cases h1 : digs X.natAbs = digs Y.natAbs
    · have := digs_inj h1
      have h2 : decide (X < 0) ≠ decide (Y < 0) := by
        intro h
        have := decide_eq_decide.1 h
        omega
      rw [beq_eq_false_iff_ne.2 h2, Bool.false_and]
    · rw [decide_eq_false h1, Bool.and_false]
theorem Can.of {n : Bool} {l : List Nat} (hs : Sm l) (hc : ichk n l = true) : Can n l (zv n l) := by
  have h1 : izN n l = n := by unfold izN; rw [hc, Bool.and_true]
  have h2 : izL n l = l := by unfold izL; rw [hc]; rfl
  obtain ⟨A, e, hp, _⟩ := izL_digs (n := n) hs
  rw [h2] at e
  rw [h1] at hp
  subst e
  unfold zv
  rw [h1, h2, val_digs]
  cases n
  · rw [zz_f]; exact ⟨by simp, by rw [Int.natAbs_natCast]⟩
  · have := hp rfl
    rw [zz_t]; exact ⟨by simp; omega, by rw [Int.natAbs_neg, Int.natAbs_natCast]⟩

section
variable {W : World} {p1 p2 : Option Addr} {q1 q2 : Nat} {s1 s2 s3 : Bool} {L1 L2 L3 : List Nat} {X Y : Int}
theorem q_add (hX : Is s1 L1 X) (hY : Is s2 L2 Y) {Z : Int} (hZ : Can s3 L3 Z) (e : Z = X + Y) (l1 : L1.length ≤ 50000) (l2 : L2.length ≤ 50000) (h1 : Reads W (.slice p1 L1.length q1) L1) (h2 : Reads W (.slice p2 L2.length q2) L2) :
    Calls Try.prog 28 #[.agg #[.bool s1, .slice p1 L1.length q1], .agg #[.bool s2, .slice p2 L2.length q2]] W fun e w' => ∃ a c, e = .returned (.agg #[.bool s3, .slice a L3.length c]) ∧ Reads w' (.slice a L3.length c) L3 ∧ Below W.heap.size W w' := by
  obtain ⟨rfl, rfl⟩ := hZ
  exact i_add Z h1 h2 l1 l2 hX.1 hY.1 (by rw [hX.2, hY.2, e])
theorem q_sub (hX : Is s1 L1 X) (hY : Is s2 L2 Y) {Z : Int} (hZ : Can s3 L3 Z) (e : Z = X - Y) (l1 : L1.length ≤ 50000) (l2 : L2.length ≤ 50000) (h1 : Reads W (.slice p1 L1.length q1) L1) (h2 : Reads W (.slice p2 L2.length q2) L2) :
    Calls Try.prog 29 #[.agg #[.bool s1, .slice p1 L1.length q1], .agg #[.bool s2, .slice p2 L2.length q2]] W fun e w' => ∃ a c, e = .returned (.agg #[.bool s3, .slice a L3.length c]) ∧ Reads w' (.slice a L3.length c) L3 ∧ Below W.heap.size W w' := by
  obtain ⟨rfl, rfl⟩ := hZ
  exact i_sub Z h1 h2 l1 l2 hX.1 hY.1 (by rw [hX.2, hY.2, e])
theorem q_mul (hX : Is s1 L1 X) (hY : Is s2 L2 Y) {Z : Int} (hZ : Can s3 L3 Z) (e : Z = X * Y) (l1 : L1.length ≤ 50000) (l2 : L2.length ≤ 50000) (h1 : Reads W (.slice p1 L1.length q1) L1) (h2 : Reads W (.slice p2 L2.length q2) L2) :
    Calls Try.prog 30 #[.agg #[.bool s1, .slice p1 L1.length q1], .agg #[.bool s2, .slice p2 L2.length q2]] W fun e w' => ∃ a c, e = .returned (.agg #[.bool s3, .slice a L3.length c]) ∧ Reads w' (.slice a L3.length c) L3 ∧ Below W.heap.size W w' := by
  obtain ⟨rfl, rfl⟩ := hZ
  exact i_mul Z h1 h2 l1 l2 hX.1 hY.1 (by rw [hX.2, hY.2, e])
theorem q_neg (hX : Is s1 L1 X) {Z : Int} (hZ : Can s3 L3 Z) (e : Z = -X) (l1 : L1.length ≤ 50000) (h1 : Reads W (.slice p1 L1.length q1) L1) :
    Calls Try.prog 13 #[.agg #[.bool s1, .slice p1 L1.length q1]] W fun e w' => ∃ a c, e = .returned (.agg #[.bool s3, .slice a L3.length c]) ∧ Reads w' (.slice a L3.length c) L3 ∧ Below W.heap.size W w' := by
  obtain ⟨rfl, rfl⟩ := hZ
  exact i_neg Z h1 l1 hX.1 (by rw [hX.2, e])
theorem q_cmp (z : Int) (hX : Is s1 L1 X) (hY : Is s2 L2 Y) (e : sgz X Y = z) (l1 : L1.length ≤ 50000) (l2 : L2.length ≤ 50000) (h1 : Reads W (.slice p1 L1.length q1) L1) (h2 : Reads W (.slice p2 L2.length q2) L2) :
    Calls Try.prog 36 #[.agg #[.bool s1, .slice p1 L1.length q1], .agg #[.bool s2, .slice p2 L2.length q2]] W fun e w' => e = .returned (.int .i64 z) ∧ Below W.heap.size W w' :=
  i_cmp z h1 h2 l1 l2 hX.1 hY.1 (by rw [hX.2, hY.2, e])
theorem q_sign (z : Int) (hX : Is s1 L1 X) (e : sgz X 0 = z) (l1 : L1.length ≤ 50000) (h1 : Reads W (.slice p1 L1.length q1) L1) :
    Calls Try.prog 10 #[.agg #[.bool s1, .slice p1 L1.length q1]] W fun e w' => e = .returned (.int .i64 z) ∧ Below W.heap.size W w' :=
  i_sign z h1 l1 hX.1 (by rw [hX.2, e])
theorem q_same (R : Bool) (hX : Can s1 L1 X) (hY : Can s2 L2 Y) (e : decide (X = Y) = R) (l1 : L1.length ≤ 50000) (l2 : L2.length ≤ 50000) (h1 : Reads W (.slice p1 L1.length q1) L1) (h2 : Reads W (.slice p2 L2.length q2) L2) :
    Calls Try.prog 12 #[.agg #[.bool s1, .slice p1 L1.length q1], .agg #[.bool s2, .slice p2 L2.length q2]] W fun e w' => e = .returned (.bool R) ∧ Below W.heap.size W w' :=
  same_any h1 h2 (by omega) (by omega) (by rw [hX.same hY, e])
theorem q_check (hX : Can s1 L1 X) (l1 : L1.length ≤ 50000) (h1 : Reads W (.slice p1 L1.length q1) L1) :
    Calls Try.prog 11 #[.agg #[.bool s1, .slice p1 L1.length q1]] W fun e w' => e = .returned (.bool true) ∧ Below W.heap.size W w' := by
  have := icheck_any (n := s1) h1 (by omega)
  rwa [hX.chk] at this
theorem q_of (X : Int) (hX : Can s1 L1 X) (h1 : -9223372036854775808 ≤ X) (h2 : X ≤ 9223372036854775807) :
    Calls Try.prog 25 #[.int .i64 X] W fun e w' => ∃ a c, e = .returned (.agg #[.bool s1, .slice a L1.length c]) ∧ Reads w' (.slice a L1.length c) L1 ∧ Below W.heap.size W w' := by
  obtain ⟨rfl, rfl⟩ := hX
  exact i_of X W h1 h2
theorem q_small (X : Int) (hX : Can s1 L1 X) (l1 : -9223372036854775808 ≤ X) (l2 : X ≤ 9223372036854775807) (h1 : Reads W (.slice p1 L1.length q1) L1) :
    Calls Try.prog 27 #[.agg #[.bool s1, .slice p1 L1.length q1]] W fun e w' => e = .returned (.int .i64 X) ∧ Below W.heap.size W w' := by
  obtain ⟨rfl, rfl⟩ := hX
  exact i_small X h1 l1 l2
theorem q_text (S : ByteArray) (hX : Is s1 L1 X) (e : S = itxt X) (l1 : L1.length ≤ 50000) (h1 : Reads W (.slice p1 L1.length q1) L1) :
    Calls Try.prog 8 #[.agg #[.bool s1, .slice p1 L1.length q1]] W fun e w' => e = .returned (.string S) ∧ Below W.heap.size W w' :=
  i_text S h1 l1 hX.1 (by rw [hX.2, e])
end
theorem Can.len_add {s1 s2 s3 : Bool} {L1 L2 L3 : List Nat} {X Y Z : Int} (hX : Is s1 L1 X) (hY : Is s2 L2 Y) (hZ : Can s3 L3 Z) (e : Z = X + Y ∨ Z = X - Y) : L3.length ≤ L1.length + L2.length + 1 := by
  obtain ⟨rfl, rfl⟩ := hZ
  obtain ⟨_, _, _, A, _, _, _, _, t1, y1⟩ := iarg (n := s1) (w := default) (v := .slice none 0 0) (l := []) (.inl ⟨rfl, rfl⟩) Sm.nil
  obtain ⟨A, e1, _, a1⟩ := izL_digs (n := s1) hX.1
  obtain ⟨B, e2, _, b1⟩ := izL_digs (n := s2) hY.1
  have hx := hX.2
  have hy := hY.2
  unfold zv at hx hy
  rw [e1, val_digs] at hx
  rw [e2, val_digs] at hy
  have hle : Z.natAbs ≤ A + B := by
    cases hs : izN s1 L1 <;> cases ht : izN s2 L2 <;> rw [hs] at hx <;> rw [ht] at hy <;> simp only [zz_t, zz_f] at hx hy <;> omega
  have h3 := digs_mono hle
  have h4 := digs_add_le A B
  omega
theorem Can.len_mul {s1 s2 s3 : Bool} {L1 L2 L3 : List Nat} {X Y Z : Int} (hX : Is s1 L1 X) (hY : Is s2 L2 Y) (hZ : Can s3 L3 Z) (e : Z = X * Y) : L3.length ≤ L1.length + L2.length := by
  obtain ⟨rfl, rfl⟩ := hZ
  obtain ⟨A, e1, _, a1⟩ := izL_digs (n := s1) hX.1
  obtain ⟨B, e2, _, b1⟩ := izL_digs (n := s2) hY.1
  have hx := hX.2
  have hy := hY.2
  unfold zv at hx hy
  rw [e1, val_digs] at hx
  rw [e2, val_digs] at hy
  have hxa : X.natAbs = A := by cases hs : izN s1 L1 <;> rw [hs] at hx <;> simp only [zz_t, zz_f] at hx <;> omega
  have hya : Y.natAbs = B := by cases hs : izN s2 L2 <;> rw [hs] at hy <;> simp only [zz_t, zz_f] at hy <;> omega
  rw [e, Int.natAbs_mul, hxa, hya]
  have h4 := digs_mul_le A B
  omega

end Go.Proofs.Ytlcbicdendelfaa

namespace Go.Proofs.Ytlcbicdendelfaa
open Go Go.Proofs Go.RowKit Go.Shelf Nu

theorem lit_new (W : World) (l : List Nat) (hl : l.length ≤ 10) : Fresh (W.alloc (.cells (l.map u32v).toArray 41)) W.heap.size (.slice (some ⟨W.heap.size, 0, none⟩) l.length l.length) l :=
  ⟨by simp, .inr ⟨W.heap.size, l.length, _, rfl, Nat.le_refl _, World.alloc_heap_new W _, Nat.le_refl _, small_max (by omega), by simp, by simp [List.take_of_length_le]⟩⟩
theorem below1 {W w' : World} {o : Obj} (h : Below (W.alloc o).heap.size (W.alloc o) w') : Below W.heap.size W w' :=
  ((Below.refl _ W).alloc (Nat.le_refl _) o).trans (h.mono (by rw [World.size_alloc]; omega))
theorem digs_of {l : List Nat} (hs : Sm l) (hc : chk l = true) {n : Nat} (h : val l = n) : digs n = l := by rw [← h]; exact digs_val hs hc
theorem al_five (W : World) : Calls Try.prog 25 #[.int .i64 (-5)] W fun e w' => ∃ b o c, e = .returned (.agg #[.bool true, .slice (some ⟨b, o, none⟩) 1 c]) ∧ Reads w' (.slice (some ⟨b, o, none⟩) 1 c) [5] ∧ Below W.heap.size W w' := by
  have e5 : digs 5 = [5] := digs_of (Sm.cons (by decide) Sm.nil) (by decide) (by decide)
  refine (q_of (W := W) (s1 := true) (L1 := [5]) (-5) ⟨by decide, by rw [show Int.natAbs (-5) = 5 from rfl]; exact e5.symm⟩ (by decide) (by decide)).mono ?_
  rintro e w' ⟨a, c, rfl, g, hb⟩
  obtain ⟨b, o, h1, _⟩ := g.addr
  obtain ⟨rfl, _⟩ := h1 (by decide)
  exact ⟨b, o, c, rfl, g, hb⟩
theorem al_cell {W : World} {b o c : Nat} (g : Reads W (.slice (some ⟨b, o, none⟩) 1 c) [5]) : W.cell? ⟨b, o, none⟩ = some (.int .u32 5) := by
  rcases g with ⟨h, _⟩ | ⟨b', off, cap, e, _, _, hc⟩ | ⟨x, _, h⟩
  · cases h
  · cases e; simpa using hc 0 (by simp)
  · cases h
set_option maxHeartbeats 1000000 in
theorem al_back (W : World) : Calls Try.prog 26 #[.agg #[.bool false, .slice (some ⟨W.heap.size, 0, none⟩) 2 2]] (W.alloc (.cells #[.int .u32 0, .int .u32 2147483648] 41)) fun e w' => e = .returned (.tuple #[.int .i64 0, .int .i64 3]) ∧ Below W.heap.size W w' := by
  have h := (lit_new W [0, 2147483648] (by decide)).reads
  obtain ⟨w, hw⟩ : ∃ w, w = W.alloc (.cells ([0, 2147483648].map u32v).toArray 41) := ⟨_, rfl⟩
  have hb1 : Below W.heap.size W w := by rw [hw]; exact (Below.refl _ W).alloc (Nat.le_refl _) _
  change Calls Try.prog 26 #[.agg #[.bool false, .slice (some ⟨W.heap.size, 0, none⟩) 2 2]] (W.alloc (.cells ([0, 2147483648].map u32v).toArray 41)) _
  rw [← hw] at h ⊢
  obtain ⟨a, ha⟩ : ∃ a : Option Addr, a = some ⟨W.heap.size, 0, none⟩ := ⟨_, rfl⟩
  rw [← ha] at h ⊢
  have kc : ∀ V, Below w.heap.size w V → _ := fun V hV => icheck_any (n := false) (h.below hV) (by decide)
  rw [show ichk false [0, 2147483648] = true by decide] at kc
  have kb : ∀ V, Below w.heap.size w V → _ := fun V hV => back_any' (h.below hV) (by decide) (Sm.cons (by decide) (Sm.cons (by decide) Sm.nil))
  rw [show backV [0, 2147483648] = .tuple #[.int .u64 9223372036854775808, .int .i64 0] by simp [backV, chk, val]] at kb
  have B := Box2.new w 25 (.bool false) (.slice a 2 2)
  have h0 : Below w.heap.size w (w.alloc (.cells #[.bool false, .slice a 2 2] 25)) := (Below.refl _ _).alloc (Nat.le_refl _) _
  clear h hw ha
  go_enter Try.func26, Try.ntmps26
  go_wp2_with (first
    | (go_at_call 11; refine (kc _ h0).mono ?_; clear kc; rintro e w1 ⟨rfl, r1⟩; have B1 := B.below r1; have h3 := then_below h0 r1; have z1 := B1.c1)
    | (go_at_call 56; refine (kb _ h3).mono ?_; clear kb; rintro e w2 ⟨rfl, r2⟩; have B2 := B1.below r2; have z2 := B2.c0; have h4 := then_below h3 r2))
  go_ret2
  exact ⟨rfl, then_below hb1 h4⟩
theorem al_back2 (W : World) (o : Obj) : Calls Try.prog 26 #[.agg #[.bool false, .slice (some ⟨W.heap.size + 1, 0, none⟩) 2 2]] ((W.alloc o).alloc (.cells #[.int .u32 0, .int .u32 2147483648] 41)) fun e w' => e = .returned (.tuple #[.int .i64 0, .int .i64 3]) ∧ Below (W.alloc o).heap.size (W.alloc o) w' := by
  have k := al_back (W.alloc o)
  rw [show (⟨(W.alloc o).heap.size, 0, none⟩ : Addr) = ⟨W.heap.size + 1, 0, none⟩ by rw [World.size_alloc]] at k
  exact k
theorem cut_of {s d : ByteArray} {neg : Bool} (h1 : (⟨(Lib.trimPrefix s.data.toList [45]).toArray⟩ : ByteArray) = d) (h2 : Lib.hasPrefix s.data.toList [45] = neg) (V : World) :
    Calls Try.prog 33 #[.string s, .string ⟨#[45]⟩] V fun e w' => e = .returned (.tuple #[.string d, .bool neg]) ∧ w' = V := by
  have := cut_any s V
  rwa [h1, h2] at this
theorem al_p1 (W : World) : Calls Try.prog 9 #[.string ⟨#[45, 49, 50]⟩] W fun e w' => ∃ a c, e = .returned (.tuple #[.agg #[.bool true, .slice a 1 c], .int .i64 0]) ∧ Reads w' (.slice a 1 c) [12] ∧ Below W.heap.size W w' := by
  have e12 : digs 12 = [12] := digs_of (Sm.cons (by decide) Sm.nil) (by decide) (by decide)
  have k := i_parse_yes (s := ⟨#[45, 49, 50]⟩) (d := ⟨#[49, 50]⟩) (neg := true) (w := W) (M := 12) (fun _ => by decide) (fun V => cut_of (by simp [Lib.trimPrefix, Lib.hasPrefix]) (by decide) V) fun V => by
    refine (parse_ok ⟨#[49, 50]⟩ V ⟨by decide, by decide⟩ (by decide)).mono ?_
    rintro e w' ⟨v, rfl, f, hb⟩
    rw [show numv ⟨#[49, 50]⟩ (⟨#[49, 50]⟩ : ByteArray).size = 12 by decide] at f
    obtain ⟨a, c, rfl⟩ := f.reads.form
    exact ⟨a, c, rfl, f.reads, hb⟩
  rw [e12] at k
  exact k
theorem al_p2 (W : World) : Calls Try.prog 9 #[.string ⟨#[45, 48]⟩] W fun e w' => e = .returned (.tuple #[.agg #[.bool false, .slice none 0 0], .int .i64 4]) ∧ Below W.heap.size W w' :=
  i_parse_zero (s := ⟨#[45, 48]⟩) (d := ⟨#[48]⟩) (w := W) (fun V => cut_of (by simp [Lib.trimPrefix, Lib.hasPrefix]) (by decide) V) (L := (digs 0).length) (by rw [digs_zero]; rfl) fun V => by
    refine (parse_ok ⟨#[48]⟩ V ⟨by decide, by decide⟩ (by decide)).mono ?_
    rintro e w' ⟨v, rfl, f, hb⟩
    rw [show numv ⟨#[48]⟩ (⟨#[48]⟩ : ByteArray).size = 0 by decide] at f
    obtain ⟨a, c, rfl⟩ := f.reads.form
    exact ⟨a, c, rfl, hb⟩
theorem al_p3 (W : World) : Calls Try.prog 9 #[.string ⟨#[43, 49]⟩] W fun e w' => e = .returned (.tuple #[.agg #[.bool false, .slice none 0 0], .int .i64 4]) ∧ Below W.heap.size W w' :=
  i_parse_no (s := ⟨#[43, 49]⟩) (d := ⟨#[43, 49]⟩) (neg := false) (w := W) 4 (by decide) (fun V => cut_of (by simp [Lib.trimPrefix, Lib.hasPrefix]) (by decide) V) fun V => parse_form ⟨#[43, 49]⟩ V (by decide) (by unfold isNum; decide)
theorem al_chk (W : World) : Calls Try.prog 11 #[.agg #[.bool true, .slice none 0 0]] W fun e w' => e = .returned (.bool false) ∧ Below W.heap.size W w' := by
  have := icheck_any (n := true) (Reads.nil W) (by decide)
  rwa [show ichk true [] = false by decide] at this
theorem al_txt : itxt (-12) = ⟨#[45, 49, 50]⟩ := by
  have h1 : low 12 = [50, 49] := by simp [low]
  have h2 : txt 12 = ⟨#[49, 50]⟩ := by unfold txt; rw [h1]; rfl
  unfold itxt
  rw [if_pos (by decide), show Int.natAbs (-12) = 12 from rfl, h2]
  apply ByteArray.ext
  rfl
theorem al_can : Can true [12] (-12) := ⟨by decide, by rw [show Int.natAbs (-12) = 12 from rfl]; exact (digs_of (Sm.cons (by decide) Sm.nil) (by decide) (by decide)).symm⟩
theorem al_text (W : World) {a : Option Addr} {c : Nat} (g : Reads W (.slice a 1 c) [12]) : Calls Try.prog 8 #[.agg #[.bool true, .slice a 1 c]] W fun e w' => e = .returned (.string ⟨#[45, 49, 50]⟩) ∧ Below W.heap.size W w' :=
  q_text (L1 := [12]) (s1 := true) ⟨#[45, 49, 50]⟩ al_can.is al_txt.symm (by decide) g

set_option maxRecDepth 100000 in
set_option maxHeartbeats 8000000 in
theorem ialive_any (w : World) : Calls Try.prog 5 #[] w fun e w' => e = .returned (.bool true) ∧ Below w.heap.size w w' := by
  obtain ⟨xM, hxM⟩ : ∃ x : Int, x = -9223372036854775808 := ⟨_, rfl⟩
  obtain ⟨sM, LM, cM⟩ := Can.ex xM
  have bM : LM.length ≤ 2 := by rw [cM.2, hxM]; exact digs_length_le (by decide)
  obtain ⟨xF, hxF⟩ : ∃ x : Int, x = 5 := ⟨_, rfl⟩
  obtain ⟨sF, LF, cF⟩ := Can.ex xF
  have bF : LF.length ≤ 2 := by rw [cF.2, hxF]; exact digs_length_le (by decide)
  obtain ⟨xV, hxV⟩ : ∃ x : Int, x = -7 := ⟨_, rfl⟩
  obtain ⟨sV, LV, cV⟩ := Can.ex xV
  have bV : LV.length ≤ 2 := by rw [cV.2, hxV]; exact digs_length_le (by decide)
  obtain ⟨xT, hxT⟩ : ∃ x : Int, x = -3 := ⟨_, rfl⟩
  obtain ⟨sT, LT, cT⟩ := Can.ex xT
  have bT : LT.length ≤ 2 := by rw [cT.2, hxT]; exact digs_length_le (by decide)
  obtain ⟨xQ, hxQ⟩ : ∃ x : Int, x = 4 := ⟨_, rfl⟩
  obtain ⟨sQ, LQ, cQ⟩ := Can.ex xQ
  have bQ : LQ.length ≤ 2 := by rw [cQ.2, hxQ]; exact digs_length_le (by decide)
  obtain ⟨xO, hxO⟩ : ∃ x : Int, x = -1 := ⟨_, rfl⟩
  obtain ⟨sO, LO, cO⟩ := Can.ex xO
  have bO : LO.length ≤ 2 := by rw [cO.2, hxO]; exact digs_length_le (by decide)
  obtain ⟨xS, hxS⟩ : ∃ x : Int, x = -2 := ⟨_, rfl⟩
  obtain ⟨sS, LS, cS⟩ := Can.ex xS
  have bS : LS.length ≤ 2 := by rw [cS.2, hxS]; exact digs_length_le (by decide)
  obtain ⟨xD, hxD⟩ : ∃ x : Int, x = 12 := ⟨_, rfl⟩
  obtain ⟨sD, LD, cD⟩ := Can.ex xD
  have bD : LD.length ≤ 2 := by rw [cD.2, hxD]; exact digs_length_le (by decide)
  obtain ⟨xP, hxP⟩ : ∃ x : Int, x = -12 := ⟨_, rfl⟩
  obtain ⟨sP, LP, cP⟩ := Can.ex xP
  have bP : LP.length ≤ 2 := by rw [cP.2, hxP]; exact digs_length_le (by decide)
  have oM := fun (W : World) => q_of (W := W) xM cM (by omega) (by omega)
  rw [hxM] at oM
  have oF := fun (W : World) => q_of (W := W) xF cF (by omega) (by omega)
  rw [hxF] at oF
  have oV := fun (W : World) => q_of (W := W) xV cV (by omega) (by omega)
  rw [hxV] at oV
  have oT := fun (W : World) => q_of (W := W) xT cT (by omega) (by omega)
  rw [hxT] at oT
  have oQ := fun (W : World) => q_of (W := W) xQ cQ (by omega) (by omega)
  rw [hxQ] at oQ
  have oO := fun (W : World) => q_of (W := W) xO cO (by omega) (by omega)
  rw [hxO] at oO
  have kadd := fun (W : World) {p1 : Option Addr} {q1 : Nat} {p2 : Option Addr} {q2 : Nat} (h1 : Reads W (.slice p1 LF.length q1) LF) (h2 : Reads W (.slice p2 LV.length q2) LV) => q_add (W := W) cF.is cV.is cS (by rw [hxS, hxF, hxV]; decide) (by omega) (by omega) h1 h2
  have ksub := fun (W : World) {p1 : Option Addr} {q1 : Nat} {p2 : Option Addr} {q2 : Nat} (h1 : Reads W (.slice p1 LF.length q1) LF) (h2 : Reads W (.slice p2 LV.length q2) LV) => q_sub (W := W) cF.is cV.is cD (by rw [hxD, hxF, hxV]; decide) (by omega) (by omega) h1 h2
  have kmul := fun (W : World) {p1 : Option Addr} {q1 : Nat} {p2 : Option Addr} {q2 : Nat} (h1 : Reads W (.slice p1 LT.length q1) LT) (h2 : Reads W (.slice p2 LQ.length q2) LQ) => q_mul (W := W) cT.is cQ.is cP (by rw [hxP, hxT, hxQ]; decide) (by omega) (by omega) h1 h2
  have mM := fun (W : World) {p1 : Option Addr} {q1 : Nat} (h1 : Reads W (.slice p1 LM.length q1) LM) => q_small (W := W) xM cM (by omega) (by omega) h1
  rw [hxM] at mM
  have mS := fun (W : World) {p1 : Option Addr} {q1 : Nat} (h1 : Reads W (.slice p1 LS.length q1) LS) => q_small (W := W) xS cS (by omega) (by omega) h1
  rw [hxS] at mS
  have mD := fun (W : World) {p1 : Option Addr} {q1 : Nat} (h1 : Reads W (.slice p1 LD.length q1) LD) => q_small (W := W) xD cD (by omega) (by omega) h1
  rw [hxD] at mD
  have mP := fun (W : World) {p1 : Option Addr} {q1 : Nat} (h1 : Reads W (.slice p1 LP.length q1) LP) => q_small (W := W) xP cP (by omega) (by omega) h1
  rw [hxP] at mP
  have ksg := fun (W : World) {p1 : Option Addr} {q1 : Nat} (h1 : Reads W (.slice p1 LO.length q1) LO) => q_sign (W := W) (-1) cO.is (by rw [hxO]; decide) (by omega) h1
  clear hxM bM cM hxF bF cF hxV bV cV hxT bT cT hxQ bQ cQ hxO bO cO hxS bS cS hxD bD cD hxP bP cP
  go_enter Try.func5, Try.ntmps5
  go_wp2_with (first
    | (go_at_call 25; with_reducible refine (al_five w ).mono ?_; rintro e w1 ⟨b5, o5, c5, rfl, g5, r1⟩; have r0 := r1; have X := Box2.new w1 25 (.bool true) (.slice (some ⟨b5, o5, none⟩) 1 c5); replace g5 := g5.below ((Below.refl w1.heap.size w1).alloc (Nat.le_refl _) (.cells #[.bool true, .slice (some ⟨b5, o5, none⟩) 1 c5] 25)))
    | (go_at_call 26; with_reducible refine (al_back2 w1 _).mono ?_; rintro e w2 ⟨rfl, r2⟩; replace r0 := then_below r0 (below1 r2); replace X := X.below r2; replace g5 := g5.below r2)
    | (go_at_call 9; with_reducible refine (al_p1 _ ).mono ?_; rintro e w3 ⟨a12, c12, rfl, g12, r3⟩; replace r0 := then_below r0 r3; replace X := (X.below r3).alloc (.cells #[.bool true, .slice a12 1 c12] 25); have Y := Box2.new w3 25 (.bool true) (.slice a12 1 c12); have al := (Below.refl w3.heap.size w3).alloc (Nat.le_refl _) (.cells #[.bool true, .slice a12 1 c12] 25); replace g5 := (g5.below r3).below al; replace g12 := g12.below al; clear al)
    | (go_at_call 9; with_reducible refine (al_p2 _ ).mono ?_; rintro e w4 ⟨rfl, r4⟩; replace r0 := then_below r0 (below1 r4); replace X := (X.below r4).alloc (.cells #[.bool false, .slice none 0 0] 25); replace Y := (Y.below r4).alloc (.cells #[.bool false, .slice none 0 0] 25); have al := (Below.refl w4.heap.size w4).alloc (Nat.le_refl _) (.cells #[.bool false, .slice none 0 0] 25); replace g5 := (g5.below r4).below al; replace g12 := (g12.below r4).below al; clear al)
    | (go_at_call 9; with_reducible refine (al_p3 _ ).mono ?_; rintro e w5 ⟨rfl, r5⟩; replace r0 := then_below r0 (below1 r5); replace X := (X.below r5).alloc (.cells #[.bool false, .slice none 0 0] 25); replace Y := (Y.below r5).alloc (.cells #[.bool false, .slice none 0 0] 25); have al := (Below.refl w5.heap.size w5).alloc (Nat.le_refl _) (.cells #[.bool false, .slice none 0 0] 25); replace g5 := (g5.below r5).below al; replace g12 := (g12.below r5).below al; clear al; have x0 := X.c0; have x1 := X.c1; have x2 := al_cell g5)
    | (go_at_call 11; with_reducible refine (al_chk _ ).mono ?_; rintro e w6 ⟨rfl, r6⟩; replace r0 := then_below r0 (below1 r6); replace Y := Y.below r6; replace g12 := g12.below r6)
    | (go_at_call 25; with_reducible refine (oM _ ).mono ?_; rintro e w7 ⟨aM7, dM7, rfl, gM, r7⟩; replace r0 := then_below r0 r7; replace Y := Y.below r7; replace g12 := g12.below r7)
    | (go_at_call 27; with_reducible refine (mM _ gM).mono ?_; rintro e w8 ⟨rfl, r8⟩; replace r0 := then_below r0 r8; replace Y := Y.below r8; replace g12 := g12.below r8)
    | (go_at_call 25; with_reducible refine (oF _ ).mono ?_; rintro e w9 ⟨aF9, dF9, rfl, gF, r9⟩; replace r0 := then_below r0 r9; replace Y := Y.below r9; replace g12 := g12.below r9)
    | (go_at_call 25; with_reducible refine (oV _ ).mono ?_; rintro e w10 ⟨aV10, dV10, rfl, gV, r10⟩; replace r0 := then_below r0 r10; replace Y := Y.below r10; replace g12 := g12.below r10; replace gF := gF.below r10)
    | (go_at_call 28; with_reducible refine (kadd _ gF gV).mono ?_; rintro e w11 ⟨aS11, dS11, rfl, gS, r11⟩; replace r0 := then_below r0 r11; replace Y := Y.below r11; replace g12 := g12.below r11)
    | (go_at_call 27; with_reducible refine (mS _ gS).mono ?_; rintro e w12 ⟨rfl, r12⟩; replace r0 := then_below r0 r12; replace Y := Y.below r12; replace g12 := g12.below r12)
    | (go_at_call 25; with_reducible refine (oF _ ).mono ?_; rintro e w13 ⟨aF13, dF13, rfl, gF, r13⟩; replace r0 := then_below r0 r13; replace Y := Y.below r13; replace g12 := g12.below r13)
    | (go_at_call 25; with_reducible refine (oV _ ).mono ?_; rintro e w14 ⟨aV14, dV14, rfl, gV, r14⟩; replace r0 := then_below r0 r14; replace Y := Y.below r14; replace g12 := g12.below r14; replace gF := gF.below r14)
    | (go_at_call 29; with_reducible refine (ksub _ gF gV).mono ?_; rintro e w15 ⟨aD15, dD15, rfl, gD, r15⟩; replace r0 := then_below r0 r15; replace Y := Y.below r15; replace g12 := g12.below r15)
    | (go_at_call 27; with_reducible refine (mD _ gD).mono ?_; rintro e w16 ⟨rfl, r16⟩; replace r0 := then_below r0 r16; replace Y := Y.below r16; replace g12 := g12.below r16)
    | (go_at_call 25; with_reducible refine (oT _ ).mono ?_; rintro e w17 ⟨aT17, dT17, rfl, gT, r17⟩; replace r0 := then_below r0 r17; replace Y := Y.below r17; replace g12 := g12.below r17)
    | (go_at_call 25; with_reducible refine (oQ _ ).mono ?_; rintro e w18 ⟨aQ18, dQ18, rfl, gQ, r18⟩; replace r0 := then_below r0 r18; replace Y := Y.below r18; replace g12 := g12.below r18; replace gT := gT.below r18)
    | (go_at_call 30; with_reducible refine (kmul _ gT gQ).mono ?_; rintro e w19 ⟨aP19, dP19, rfl, gP, r19⟩; replace r0 := then_below r0 r19; replace Y := Y.below r19; replace g12 := g12.below r19)
    | (go_at_call 27; with_reducible refine (mP _ gP).mono ?_; rintro e w20 ⟨rfl, r20⟩; replace r0 := then_below r0 r20; replace Y := Y.below r20; replace g12 := g12.below r20)
    | (go_at_call 25; with_reducible refine (oO _ ).mono ?_; rintro e w21 ⟨aO21, dO21, rfl, gO, r21⟩; replace r0 := then_below r0 r21; replace Y := Y.below r21; replace g12 := g12.below r21)
    | (go_at_call 10; with_reducible refine (ksg _ gO).mono ?_; rintro e w22 ⟨rfl, r22⟩; replace r0 := then_below r0 r22; replace Y := Y.below r22; replace g12 := g12.below r22; have y0 := Y.c0; have y1 := Y.c1)
    | (go_at_call 8; with_reducible refine (al_text _ g12).mono ?_; rintro e w23 ⟨rfl, r23⟩; replace r0 := then_below r0 r23))
  go_ret
  exact ⟨rfl, r0⟩

end Go.Proofs.Ytlcbicdendelfaa
