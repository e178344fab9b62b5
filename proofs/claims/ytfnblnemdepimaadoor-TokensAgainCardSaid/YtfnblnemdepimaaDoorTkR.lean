/- Tokens with blanks between: how they stand. -/
import Derived.Test.YtfnblnemdepimaaDoorTkQ
namespace Go.Proofs.YtfnblnemdepimaaDoor.Tk

theorem cat_snoc (b : List UInt8) (ts : List Tok) (t : Tok) : cat b (ts ++ [t]) = cat b ts ++ (t.text ++ b) := by simp [cat]
theorem re_snoc (b : List UInt8) : ∀ (ts : List Tok) (p : Nat) (t : Tok), re b.length p (ts ++ [t]) = re b.length p ts ++ [⟨t.kind, t.text, p + (cat b ts).length⟩]
  | [], p, t => by simp [re, cat]
  | u :: ts, p, t => by
    have ih := re_snoc b ts (p + (u.text.length + b.length)) t
    have e : (cat b (u :: ts)).length = (u.text.length + b.length) + (cat b ts).length := by simp [cat]; omega
    simp only [List.cons_append, re, ih, e]
    rw [Nat.add_assoc p]
theorem re_len (n : Nat) : ∀ (ts : List Tok) (p : Nat), (re n p ts).length = ts.length
  | [], _ => rfl
  | t :: ts, p => by simp [re, re_len n ts]
theorem cat_le (b : List UInt8) {l : List UInt8} {k : Nat} {ts : List Tok} {x : Option Nat} (h : Rd l k ts x) : (cat b ts).length ≤ l.length + b.length * ts.length := by
  induction h with
  | nil k => simp [cat]
  | blank _ _ ih => simp only [List.length_cons]; omega
  | @comment l k ts e _ ih =>
    rw [List.length_drop] at ih
    simp only [List.length_cons]; omega
  | @tok l k kd n ts e ht _ ih =>
    have hn := tokN_le ht
    rw [List.length_drop] at ih
    have e : (cat b (⟨kd, l.take n, k⟩ :: ts)).length = (n + b.length) + (cat b ts).length := by
      simp [cat]; omega
    rw [e, List.length_cons, Nat.mul_succ]
    omega
  | bad _ _ _ => simp [cat]
theorem cat_take (b : List UInt8) (ts : List Tok) (k : Nat) : (cat b (ts.take k)).length ≤ (cat b ts).length := by
  conv => rhs; rw [← List.take_append_drop k ts]
  unfold cat
  rw [List.flatMap_append, List.length_append]
  exact Nat.le_add_right _ _
/-- the blanks -/
def bl : Nat → List UInt8
  | 0 => [32] | 1 => [9] | 2 => [10] | 3 => [13] | _ => [32, 35, 32, 120, 10]
theorem bl_head (r : Nat) : ∃ c0 t0, bl r = c0 :: t0 ∧ blank c0 = true := by
  match r with
  | 0 => exact ⟨_, _, rfl, rfl⟩ | 1 => exact ⟨_, _, rfl, rfl⟩ | 2 => exact ⟨_, _, rfl, rfl⟩ | 3 => exact ⟨_, _, rfl, rfl⟩ | _ + 4 => exact ⟨_, _, rfl, rfl⟩
theorem bl_len (r : Nat) : (bl r).length ≤ 5 := by
  match r with
  | 0 => decide | 1 => decide | 2 => decide | 3 => decide | _ + 4 => exact Nat.le_refl 5
theorem bl_sep (r : Nat) (m : List UInt8) (k : Nat) (ts : List Tok) (h : Rd m (k + (bl r).length) ts none) : Rd (bl r ++ m) k ts none := by
  match r with
  | 0 => exact .blank rfl h | 1 => exact .blank rfl h | 2 => exact .blank rfl h | 3 => exact .blank rfl h
  | _ + 4 =>
    have h5 : Rd m (k + 5) ts none := h
    show Rd (32 :: 35 :: 32 :: 120 :: 10 :: m) k ts none
    refine .blank rfl (.comment ?_)
    have hr : run noEnd (32 :: 120 :: 10 :: m) = 2 := by
      rw [run_pos (by decide), run_pos (by decide), run_zero (by decide)]
    rw [hr]
    show Rd (10 :: m) (k + 1 + 1 + 2) ts none
    exact .blank rfl (by rw [show k + 1 + 1 + 2 + 1 = k + 5 by omega]; exact h5)
theorem Rd.blanked {l : List UInt8} {k : Nat} {ts : List Tok} {x : Option Nat} (h : Rd l k ts x) (r : Nat) : Rd (cat (bl r) ts) 0 (re (bl r).length 0 ts) none := by
  obtain ⟨c0, t0, e, h0⟩ := bl_head r
  exact Rd.again e h0 (bl_sep r) ts 0 h.good
end Go.Proofs.YtfnblnemdepimaaDoor.Tk
