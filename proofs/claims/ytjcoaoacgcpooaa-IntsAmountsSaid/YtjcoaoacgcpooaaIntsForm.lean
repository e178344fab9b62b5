/- Whole numbers: the contracts, of any two. -/
import Derived.Test.YtjcoaoacgcpooaaIntsAdd
import Derived.Test.YtjcoaoacgcpooaaIntsSub
import Derived.Test.YtjcoaoacgcpooaaIntsCmp
namespace Go.Proofs.Ytjcoaoacgcpooaa
open Go Go.Proofs Go.RowKit Go.Shelf Nu

/-- what a whole number of this sign and these parts is worth; 0, if it may not be -/
def zv (n : Bool) (l : List Nat) : Int := zz (izN n l) (val (izL n l))
/-- the order of two -/
def sgz (X Y : Int) : Int := if X < Y then -1 else if Y < X then 1 else 0

theorem and_dec (m : Bool) {p q : Prop} [Decidable p] [Decidable q] (h1 : m = true → (p ↔ q)) (h2 : m = false → ¬ q) : (m && decide p) = decide q := by
  cases m
  · rw [Bool.false_and]; exact (decide_eq_false (h2 rfl)).symm
  · rw [Bool.true_and]; exact decide_eq_decide.2 (h1 rfl)
theorem zz_t (A : Nat) : zz true A = -(A : Int) := rfl
theorem zz_f (A : Nat) : zz false A = (A : Int) := rfl
/-- a whole number by cases of both signs -/
theorem z_far {m : Bool} {A B : Nat} {Z : Int} (hZ : Z = zz m A + zz m B) (z1 : m = true → 0 < A) : Z.natAbs = A + B ∧ (m && decide (0 < Z.natAbs)) = decide (Z < 0) := by
  cases m
  · rw [zz_f, zz_f] at hZ
    exact ⟨by omega, and_dec _ (by intro h; cases h) (by intro _; omega)⟩
  · rw [zz_t, zz_t] at hZ
    exact ⟨by omega, and_dec _ (by intro _; constructor <;> intro _ <;> omega) (by intro h; cases h)⟩
theorem z_ge {m : Bool} {A B : Nat} {Z : Int} (hZ : Z = zz m A + zz (!m) B) (h : B ≤ A) : Z.natAbs = A - B ∧ (m && decide (0 < Z.natAbs)) = decide (Z < 0) := by
  cases m
  · rw [Bool.not_false, zz_f, zz_t] at hZ
    exact ⟨by omega, and_dec _ (by intro h; cases h) (by intro _; omega)⟩
  · rw [Bool.not_true, zz_t, zz_f] at hZ
    exact ⟨by omega, and_dec _ (by intro _; constructor <;> intro _ <;> omega) (by intro h; cases h)⟩
theorem z_lt {m : Bool} {A B : Nat} {Z : Int} (hZ : Z = zz m A + zz (!m) B) (h : A < B) : Z.natAbs = B - A ∧ (!m && decide (0 < Z.natAbs)) = decide (Z < 0) := by
  cases m
  · rw [Bool.not_false, zz_f, zz_t] at hZ
    exact ⟨by omega, and_dec _ (by intro _; constructor <;> intro _ <;> omega) (by intro h; cases h)⟩
  · rw [Bool.not_true, zz_t, zz_f] at hZ
    exact ⟨by omega, and_dec _ (by intro h; cases h) (by intro _; omega)⟩
theorem zz_not (m : Bool) (B : Nat) : - zz m B = zz (!m) B := by
  cases m
  · rfl
  · rw [Bool.not_true, zz_t, zz_f]; omega

theorem iarg {w : World} {n : Bool} {v : Value} {l : List Nat} (h : Reads w v l) (hs : Sm l) : ∃ (m : Bool) (p : Option Addr) (q A : Nat), izN n l = m ∧ izS n v l = .slice p (digs A).length q ∧ Reads w (.slice p (digs A).length q) (digs A) ∧ (m = true → 0 < A) ∧ (digs A).length ≤ l.length ∧ zv n l = zz m A := by
  obtain ⟨A, h1, h2, h3⟩ := izL_digs (n := n) hs
  have hr := izS_reads (n := n) h
  rw [h1] at hr
  obtain ⟨p, q, e⟩ := hr.form
  rw [e] at hr
  exact ⟨_, p, q, A, rfl, e, hr, h2, h3, by unfold zv; rw [h1, val_digs]⟩
theorem Reads.parts {w : World} {v : Value} {l : List Nat} (h : Reads w v l) : ∃ a n c, v = .slice a n c := by
  obtain ⟨a, c, e⟩ := h.form; exact ⟨a, _, c, e⟩
theorem zv_canon (X : Int) : zv (decide (X < 0)) (digs X.natAbs) = X := by
  have hc : ichk (decide (X < 0)) (digs X.natAbs) = true := by
    unfold ichk
    rw [chk_digs, dec_digs]
    by_cases h : X < 0
    · simp [h]; omega
    · simp [h]
  unfold zv izN izL zz
  rw [hc, if_pos rfl, val_digs]
  by_cases h : X < 0
  · simp [h]; omega
  · simp [h]; omega

section
variable {w : World} {v1 v2 : Value} {l1 l2 : List Nat} {n1 n2 : Bool}
theorem i_add (Z : Int) (h1 : Reads w v1 l1) (h2 : Reads w v2 l2) (k1 : l1.length ≤ 50000) (k2 : l2.length ≤ 50000) (s1 : Sm l1) (s2 : Sm l2) (hZ : Z = zv n1 l1 + zv n2 l2) :
    Calls Try.prog 10 #[.agg #[.bool n1, v1], .agg #[.bool n2, v2]] w fun e w' => ∃ a c, e = .returned (.agg #[.bool (decide (Z < 0)), .slice a (digs Z.natAbs).length c]) ∧ Reads w' (.slice a (digs Z.natAbs).length c) (digs Z.natAbs) ∧ Below w.heap.size w w' := by
  obtain ⟨m1, p1, q1, A, e1, f1, r1, z1, t1, y1⟩ := iarg (n := n1) h1 s1
  obtain ⟨m2, p2, q2, B, e2, f2, r2, z2, t2, y2⟩ := iarg (n := n2) h2 s2
  have ko1 : ∀ W, Below w.heap.size w W → _ := fun W hW => iorZero_any (n := n1) (h1.below hW) (by omega)
  have ko2 : ∀ W, Below w.heap.size w W → _ := fun W hW => iorZero_any (n := n2) (h2.below hW) (by omega)
  rw [e1, f1] at ko1
  rw [e2, f2] at ko2
  rw [y1, y2] at hZ
  by_cases hm : m1 = m2
  · subst hm
    refine iadd_any h1.parts h2.parts ko1 ko2 (.inl rfl) (fun W => adding_same m1 p1 _ q1 W) fun W hW => ?_
    refine (farther_any m1 Z.natAbs (r1.below hW) (r2.below hW) (by omega) (by omega) (z_far hZ z1).1).mono ?_
    rintro e w' ⟨a, c, rfl, g, hb⟩
    exact ⟨a, c, by rw [(z_far hZ z1).2], g, hb⟩
  · obtain rfl : m2 = !m1 := by cases m1 <;> cases m2 <;> simp at hm ⊢
    refine iadd_any h1.parts h2.parts ko1 ko2 (.inr rfl) (fun W => adding_other m1 p1 _ q1 W) fun W hW => ?_
    by_cases hAB : B ≤ A
    · refine (back_ge m1 Z.natAbs (r1.below hW) (r2.below hW) (by omega) (by omega) hAB (z_ge hZ hAB).1).mono ?_
      rintro e w' ⟨a, c, rfl, g, hb⟩
      exact ⟨a, c, by rw [(z_ge hZ hAB).2], g, hb⟩
    · refine (back_lt m1 Z.natAbs (r1.below hW) (r2.below hW) (by omega) (by omega) (by omega) (z_lt hZ (by omega)).1).mono ?_
      rintro e w' ⟨a, c, rfl, g, hb⟩
      exact ⟨a, c, by rw [(z_lt hZ (by omega)).2], g, hb⟩
theorem i_sub (Z : Int) (h1 : Reads w v1 l1) (h2 : Reads w v2 l2) (k1 : l1.length ≤ 50000) (k2 : l2.length ≤ 50000) (s1 : Sm l1) (s2 : Sm l2) (hZ : Z = zv n1 l1 - zv n2 l2) :
    Calls Try.prog 16 #[.agg #[.bool n1, v1], .agg #[.bool n2, v2]] w fun e w' => ∃ a c, e = .returned (.agg #[.bool (decide (Z < 0)), .slice a (digs Z.natAbs).length c]) ∧ Reads w' (.slice a (digs Z.natAbs).length c) (digs Z.natAbs) ∧ Below w.heap.size w w' := by
  obtain ⟨m1, p1, q1, A, e1, f1, r1, z1, t1, y1⟩ := iarg (n := n1) h1 s1
  obtain ⟨m2, p2, q2, B, e2, f2, r2, z2, t2, y2⟩ := iarg (n := n2) h2 s2
  have ko1 : ∀ W, Below w.heap.size w W → _ := fun W hW => iorZero_any (n := n1) (h1.below hW) (by omega)
  have ko2 : ∀ W, Below w.heap.size w W → _ := fun W hW => iorZero_any (n := n2) (h2.below hW) (by omega)
  rw [e1, f1] at ko1
  rw [e2, f2] at ko2
  rw [y1, y2, Int.sub_eq_add_neg, zz_not] at hZ
  by_cases hm : m1 = m2
  · subst hm
    refine isub_any h1.parts h2.parts ko1 ko2 (.inr rfl) (fun W => adding_other m1 p1 _ q1 W) fun W hW => ?_
    by_cases hAB : B ≤ A
    · refine (back_ge m1 Z.natAbs (r1.below hW) (r2.below hW) (by omega) (by omega) hAB (z_ge hZ hAB).1).mono ?_
      rintro e w' ⟨a, c, rfl, g, hb⟩
      exact ⟨a, c, by rw [(z_ge hZ hAB).2], g, hb⟩
    · refine (back_lt m1 Z.natAbs (r1.below hW) (r2.below hW) (by omega) (by omega) (by omega) (z_lt hZ (by omega)).1).mono ?_
      rintro e w' ⟨a, c, rfl, g, hb⟩
      exact ⟨a, c, by rw [(z_lt hZ (by omega)).2], g, hb⟩
  · obtain rfl : m2 = !m1 := by cases m1 <;> cases m2 <;> simp at hm ⊢
    rw [Bool.not_not] at hZ
    refine isub_any h1.parts h2.parts ko1 ko2 (.inl rfl) (fun W => by rw [Bool.not_not]; exact adding_same m1 p1 _ q1 W) fun W hW => ?_
    refine (farther_any m1 Z.natAbs (r1.below hW) (r2.below hW) (by omega) (by omega) (z_far hZ z1).1).mono ?_
    rintro e w' ⟨a, c, rfl, g, hb⟩
    exact ⟨a, c, by rw [(z_far hZ z1).2], g, hb⟩
theorem i_cmp (z : Int) (h1 : Reads w v1 l1) (h2 : Reads w v2 l2) (k1 : l1.length ≤ 50000) (k2 : l2.length ≤ 50000) (s1 : Sm l1) (s2 : Sm l2) (hz : sgz (zv n1 l1) (zv n2 l2) = z) :
    Calls Try.prog 18 #[.agg #[.bool n1, v1], .agg #[.bool n2, v2]] w fun e w' => e = .returned (.int .i64 z) ∧ Below w.heap.size w w' := by
  obtain ⟨m1, p1, q1, A, e1, f1, r1, z1, t1, y1⟩ := iarg (n := n1) h1 s1
  obtain ⟨m2, p2, q2, B, e2, f2, r2, z2, t2, y2⟩ := iarg (n := n2) h2 s2
  have ko1 : ∀ W, Below w.heap.size w W → _ := fun W hW => iorZero_any (n := n1) (h1.below hW) (by omega)
  have ko2 : ∀ W, Below w.heap.size w W → _ := fun W hW => iorZero_any (n := n2) (h2.below hW) (by omega)
  rw [e1, f1] at ko1
  rw [e2, f2] at ko2
  rw [y1, y2] at hz
  refine icmp_any h1.parts h2.parts ko1 ko2 (fun W hW hm => ?_) fun hm => ?_
  · subst hm
    cases m1
    · simp only [Bool.false_eq_true, if_false]
      refine d_cmp z (r1.below hW) (r2.below hW) (by omega) (by omega) ?_
      rw [← hz]; simp only [zz, sgz, sgn, Bool.false_eq_true, if_false]; split <;> (try split) <;> (try split) <;> omega
    · simp only [if_true]
      refine d_cmp z (r2.below hW) (r1.below hW) (by omega) (by omega) ?_
      rw [← hz]; simp only [zz, sgz, sgn, if_true]; split <;> (try split) <;> (try split) <;> omega
  · rw [← hz]
    cases m1 <;> cases m2 <;> simp [zz, sgz] at hm z1 z2 ⊢ <;> omega
end

end Go.Proofs.Ytjcoaoacgcpooaa
