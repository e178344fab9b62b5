/- Whole numbers: the contracts as a walk asks them: each number a sign and its parts. -/
import Derived.Test.YtjcoaoacgcpooaaIntsFormM
import Derived.Test.YtjcoaoacgcpooaaIntsOf
import Derived.Test.YtjcoaoacgcpooaaIntsText
namespace Go.Proofs.Ytjcoaoacgcpooaa
open Go Go.Proofs Go.RowKit Go.Shelf Nu

/-- sign and parts are worth X -/
def Is (s : Bool) (L : List Nat) (X : Int) : Prop := Sm L ∧ zv s L = X
/-- .. and are as they should be -/
def Can (s : Bool) (L : List Nat) (X : Int) : Prop := s = decide (X < 0) ∧ L = digs X.natAbs
theorem Can.is {s : Bool} {L : List Nat} {X : Int} (h : Can s L X) : Is s L X := by
  obtain ⟨rfl, rfl⟩ := h
  exact ⟨sm_digs _, zv_canon X⟩
theorem Can.ex (X : Int) : ∃ (s : Bool) (L : List Nat), Can s L X := ⟨_, _, rfl, rfl⟩
theorem Can.chk {s : Bool} {L : List Nat} {X : Int} (h : Can s L X) : ichk s L = true := by
  obtain ⟨rfl, rfl⟩ := h
  unfold ichk
  rw [chk_digs, dec_digs]
  by_cases h : X < 0
  · simp [h]; omega
  · simp [h]
theorem Can.same {s t : Bool} {L M : List Nat} {X Y : Int} (h : Can s L X) (k : Can t M Y) : (s == t && decide (L = M)) = decide (X = Y) := by
  obtain ⟨rfl, rfl⟩ := h
  obtain ⟨rfl, rfl⟩ := k
  by_cases e : X = Y
  · subst e; simp
  · rw [decide_eq_false e]
    by_cases h1 : digs X.natAbs = digs Y.natAbs
    · have := digs_inj h1
      have h2 : decide (X < 0) ≠ decide (Y < 0) := by
        intro h
        have := decide_eq_decide.1 h
        omega
      rw [beq_eq_false_iff_ne.2 h2, Bool.false_and]
    · rw [decide_eq_false h1, Bool.and_false]
theorem Can.of {n : Bool} {l : List Nat} (hs : Sm l) (hc : ichk n l = true) : Can n l (zv n l) := by
  have h1 : izN n l = n := by unfold izN; rw [hc, Bool.and_true]
  have h2 : izL n l = l := by unfold izL; rw [hc]; rfl
  obtain ⟨A, e, hp, _⟩ := izL_digs (n := n) hs
  rw [h2] at e
  rw [h1] at hp
  subst e
  unfold zv
  rw [h1, h2, val_digs]
  cases n
  · rw [zz_f]; exact ⟨by simp, by rw [Int.natAbs_natCast]⟩
  · have := hp rfl
    rw [zz_t]; exact ⟨by simp; omega, by rw [Int.natAbs_neg, Int.natAbs_natCast]⟩

section
variable {W : World} {p1 p2 : Option Addr} {q1 q2 : Nat} {s1 s2 s3 : Bool} {L1 L2 L3 : List Nat} {X Y : Int}
theorem q_add (hX : Is s1 L1 X) (hY : Is s2 L2 Y) {Z : Int} (hZ : Can s3 L3 Z) (e : Z = X + Y) (l1 : L1.length ≤ 50000) (l2 : L2.length ≤ 50000) (h1 : Reads W (.slice p1 L1.length q1) L1) (h2 : Reads W (.slice p2 L2.length q2) L2) :
    Calls Try.prog 10 #[.agg #[.bool s1, .slice p1 L1.length q1], .agg #[.bool s2, .slice p2 L2.length q2]] W fun e w' => ∃ a c, e = .returned (.agg #[.bool s3, .slice a L3.length c]) ∧ Reads w' (.slice a L3.length c) L3 ∧ Below W.heap.size W w' := by
  obtain ⟨rfl, rfl⟩ := hZ
  exact i_add Z h1 h2 l1 l2 hX.1 hY.1 (by rw [hX.2, hY.2, e])
theorem q_sub (hX : Is s1 L1 X) (hY : Is s2 L2 Y) {Z : Int} (hZ : Can s3 L3 Z) (e : Z = X - Y) (l1 : L1.length ≤ 50000) (l2 : L2.length ≤ 50000) (h1 : Reads W (.slice p1 L1.length q1) L1) (h2 : Reads W (.slice p2 L2.length q2) L2) :
    Calls Try.prog 16 #[.agg #[.bool s1, .slice p1 L1.length q1], .agg #[.bool s2, .slice p2 L2.length q2]] W fun e w' => ∃ a c, e = .returned (.agg #[.bool s3, .slice a L3.length c]) ∧ Reads w' (.slice a L3.length c) L3 ∧ Below W.heap.size W w' := by
  obtain ⟨rfl, rfl⟩ := hZ
  exact i_sub Z h1 h2 l1 l2 hX.1 hY.1 (by rw [hX.2, hY.2, e])
theorem q_mul (hX : Is s1 L1 X) (hY : Is s2 L2 Y) {Z : Int} (hZ : Can s3 L3 Z) (e : Z = X * Y) (l1 : L1.length ≤ 50000) (l2 : L2.length ≤ 50000) (h1 : Reads W (.slice p1 L1.length q1) L1) (h2 : Reads W (.slice p2 L2.length q2) L2) :
    Calls Try.prog 11 #[.agg #[.bool s1, .slice p1 L1.length q1], .agg #[.bool s2, .slice p2 L2.length q2]] W fun e w' => ∃ a c, e = .returned (.agg #[.bool s3, .slice a L3.length c]) ∧ Reads w' (.slice a L3.length c) L3 ∧ Below W.heap.size W w' := by
  obtain ⟨rfl, rfl⟩ := hZ
  exact i_mul Z h1 h2 l1 l2 hX.1 hY.1 (by rw [hX.2, hY.2, e])
theorem q_neg (hX : Is s1 L1 X) {Z : Int} (hZ : Can s3 L3 Z) (e : Z = -X) (l1 : L1.length ≤ 50000) (h1 : Reads W (.slice p1 L1.length q1) L1) :
    Calls Try.prog 15 #[.agg #[.bool s1, .slice p1 L1.length q1]] W fun e w' => ∃ a c, e = .returned (.agg #[.bool s3, .slice a L3.length c]) ∧ Reads w' (.slice a L3.length c) L3 ∧ Below W.heap.size W w' := by
  obtain ⟨rfl, rfl⟩ := hZ
  exact i_neg Z h1 l1 hX.1 (by rw [hX.2, e])
theorem q_cmp (z : Int) (hX : Is s1 L1 X) (hY : Is s2 L2 Y) (e : sgz X Y = z) (l1 : L1.length ≤ 50000) (l2 : L2.length ≤ 50000) (h1 : Reads W (.slice p1 L1.length q1) L1) (h2 : Reads W (.slice p2 L2.length q2) L2) :
    Calls Try.prog 18 #[.agg #[.bool s1, .slice p1 L1.length q1], .agg #[.bool s2, .slice p2 L2.length q2]] W fun e w' => e = .returned (.int .i64 z) ∧ Below W.heap.size W w' :=
  i_cmp z h1 h2 l1 l2 hX.1 hY.1 (by rw [hX.2, hY.2, e])
theorem q_sign (z : Int) (hX : Is s1 L1 X) (e : sgz X 0 = z) (l1 : L1.length ≤ 50000) (h1 : Reads W (.slice p1 L1.length q1) L1) :
    Calls Try.prog 17 #[.agg #[.bool s1, .slice p1 L1.length q1]] W fun e w' => e = .returned (.int .i64 z) ∧ Below W.heap.size W w' :=
  i_sign z h1 l1 hX.1 (by rw [hX.2, e])
theorem q_same (R : Bool) (hX : Can s1 L1 X) (hY : Can s2 L2 Y) (e : decide (X = Y) = R) (l1 : L1.length ≤ 50000) (l2 : L2.length ≤ 50000) (h1 : Reads W (.slice p1 L1.length q1) L1) (h2 : Reads W (.slice p2 L2.length q2) L2) :
    Calls Try.prog 13 #[.agg #[.bool s1, .slice p1 L1.length q1], .agg #[.bool s2, .slice p2 L2.length q2]] W fun e w' => e = .returned (.bool R) ∧ Below W.heap.size W w' :=
  same_any h1 h2 (by omega) (by omega) (by rw [hX.same hY, e])
theorem q_check (hX : Can s1 L1 X) (l1 : L1.length ≤ 50000) (h1 : Reads W (.slice p1 L1.length q1) L1) :
    Calls Try.prog 12 #[.agg #[.bool s1, .slice p1 L1.length q1]] W fun e w' => e = .returned (.bool true) ∧ Below W.heap.size W w' := by
  have := icheck_any (n := s1) h1 (by omega)
  rwa [hX.chk] at this
theorem q_of (X : Int) (hX : Can s1 L1 X) (h1 : -9223372036854775808 ≤ X) (h2 : X ≤ 9223372036854775807) :
    Calls Try.prog 19 #[.int .i64 X] W fun e w' => ∃ a c, e = .returned (.agg #[.bool s1, .slice a L1.length c]) ∧ Reads w' (.slice a L1.length c) L1 ∧ Below W.heap.size W w' := by
  obtain ⟨rfl, rfl⟩ := hX
  exact i_of X W h1 h2
theorem q_small (X : Int) (hX : Can s1 L1 X) (l1 : -9223372036854775808 ≤ X) (l2 : X ≤ 9223372036854775807) (h1 : Reads W (.slice p1 L1.length q1) L1) :
    Calls Try.prog 20 #[.agg #[.bool s1, .slice p1 L1.length q1]] W fun e w' => e = .returned (.int .i64 X) ∧ Below W.heap.size W w' := by
  obtain ⟨rfl, rfl⟩ := hX
  exact i_small X h1 l1 l2
theorem q_text (S : ByteArray) (hX : Is s1 L1 X) (e : S = itxt X) (l1 : L1.length ≤ 50000) (h1 : Reads W (.slice p1 L1.length q1) L1) :
    Calls Try.prog 22 #[.agg #[.bool s1, .slice p1 L1.length q1]] W fun e w' => e = .returned (.string S) ∧ Below W.heap.size W w' :=
  i_text S h1 l1 hX.1 (by rw [hX.2, e])
end
theorem Can.len_add {s1 s2 s3 : Bool} {L1 L2 L3 : List Nat} {X Y Z : Int} (hX : Is s1 L1 X) (hY : Is s2 L2 Y) (hZ : Can s3 L3 Z) (e : Z = X + Y ∨ Z = X - Y) : L3.length ≤ L1.length + L2.length + 1 := by
  obtain ⟨rfl, rfl⟩ := hZ
  obtain ⟨_, _, _, A, _, _, _, _, t1, y1⟩ := iarg (n := s1) (w := default) (v := .slice none 0 0) (l := []) (.inl ⟨rfl, rfl⟩) Sm.nil
  obtain ⟨A, e1, _, a1⟩ := izL_digs (n := s1) hX.1
  obtain ⟨B, e2, _, b1⟩ := izL_digs (n := s2) hY.1
  have hx := hX.2
  have hy := hY.2
  unfold zv at hx hy
  rw [e1, val_digs] at hx
  rw [e2, val_digs] at hy
  have hle : Z.natAbs ≤ A + B := by
    cases hs : izN s1 L1 <;> cases ht : izN s2 L2 <;> rw [hs] at hx <;> rw [ht] at hy <;> simp only [zz_t, zz_f] at hx hy <;> omega
  have h3 := digs_mono hle
  have h4 := digs_add_le A B
  omega
theorem Can.len_mul {s1 s2 s3 : Bool} {L1 L2 L3 : List Nat} {X Y Z : Int} (hX : Is s1 L1 X) (hY : Is s2 L2 Y) (hZ : Can s3 L3 Z) (e : Z = X * Y) : L3.length ≤ L1.length + L2.length := by
  obtain ⟨rfl, rfl⟩ := hZ
  obtain ⟨A, e1, _, a1⟩ := izL_digs (n := s1) hX.1
  obtain ⟨B, e2, _, b1⟩ := izL_digs (n := s2) hY.1
  have hx := hX.2
  have hy := hY.2
  unfold zv at hx hy
  rw [e1, val_digs] at hx
  rw [e2, val_digs] at hy
  have hxa : X.natAbs = A := by cases hs : izN s1 L1 <;> rw [hs] at hx <;> simp only [zz_t, zz_f] at hx <;> omega
  have hya : Y.natAbs = B := by cases hs : izN s2 L2 <;> rw [hs] at hy <;> simp only [zz_t, zz_f] at hy <;> omega
  rw [e, Int.natAbs_mul, hxa, hya]
  have h4 := digs_mul_le A B
  omega

end Go.Proofs.Ytjcoaoacgcpooaa
