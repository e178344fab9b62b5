/- Tokens, where they stand: what lies between them. -/
import Derived.Test.YtfnblnemdepimaaDoorTk
namespace Go.Proofs.YtfnblnemdepimaaDoor.Tk

/-- blanks and comments alone? -/
def scan : Bool → List UInt8 → Bool
  | _, [] => true
  | cm, c :: l => if c = 10 then scan false l else (cm || c == 35 || c == 32 || c == 9 || c == 13) && scan (cm || c == 35) l
/-- the tokens stand in the text, each behind the one ahead of it, blanks and comments alone between them -/
def Pl : List UInt8 → Nat → List Tok → Prop
  | l, _, [] => scan false l = true
  | l, k, t :: ts => ∃ g, t.pos = k + g ∧ t.text ≠ [] ∧ g + t.text.length ≤ l.length ∧ scan false (l.take g) = true ∧ (l.drop g).take t.text.length = t.text ∧ 1 ≤ t.kind ∧ t.kind ≤ 3 ∧ Pl (l.drop (g + t.text.length)) (k + g + t.text.length) ts
theorem Pl.pre {p l : List UInt8} {k : Nat} {ts : List Tok} (hp : ∀ n, scan false (l.take n) = true → scan false (p ++ l.take n) = true) (h : Pl l (k + p.length) ts) : Pl (p ++ l) k ts := by
  cases ts with
  | nil =>
    have := hp l.length (by rw [List.take_length]; exact h)
    rw [List.take_length] at this
    exact this
  | cons t ts =>
    obtain ⟨g, h1, h2, h3, h4, h5, h6, h7, h8⟩ := h
    refine ⟨p.length + g, by omega, h2, by rw [List.length_append]; omega, ?_, ?_, h6, h7, ?_⟩
    · rw [List.take_append, List.take_of_length_le (by omega), show p.length + g - p.length = g by omega]
      exact hp g h4
    · rw [List.drop_append, List.drop_of_length_le (by omega), List.nil_append, show p.length + g - p.length = g by omega]
      exact h5
    · rw [List.drop_append, List.drop_of_length_le (by omega), List.nil_append, show p.length + g + t.text.length - p.length = g + t.text.length by omega, show k + (p.length + g) + t.text.length = k + p.length + g + t.text.length by omega]
      exact h8
theorem scan_blank {c : UInt8} (h : blank c = true) (l : List UInt8) : scan false (c :: l) = scan false l := by
  simp only [blank, Bool.or_eq_true, beq_iff_eq] at h
  rcases h with ((rfl | rfl) | rfl) | rfl <;> simp [scan]
theorem scan_true : ∀ (b m : List UInt8), (∀ c ∈ b, noEnd c = true) → scan true (b ++ m) = scan true m
  | [], _, _ => rfl
  | c :: b, m, h => by
    have hc : c ≠ 10 := by have := h c (by simp); simpa [noEnd] using this
    simp only [List.cons_append, scan, if_neg hc, Bool.true_or, Bool.true_and]
    exact scan_true b m fun d hd => h d (by simp [hd])
theorem Rd.pl {l : List UInt8} {k : Nat} {ts : List Tok} {x : Option Nat} (h : Rd l k ts x) : x = none → Pl l k ts := by
  induction h with
  | nil k => intro _; rfl
  | @blank c l k ts e hb _ ih =>
    intro hx
    exact Pl.pre (p := [c]) (fun n hn => by rw [List.singleton_append, scan_blank hb]; exact hn) (ih hx)
  | @comment l k ts e _ ih =>
    intro hx
    have hl : 35 :: l = (35 :: l.take (run noEnd l)) ++ l.drop (run noEnd l) := by rw [List.cons_append, List.take_append_drop]
    rw [hl]
    have hlen : (35 :: l.take (run noEnd l)).length = 1 + run noEnd l := by
      have := run_le noEnd l
      rw [List.length_cons, List.length_take]; omega
    refine Pl.pre ?_ (by rw [hlen, ← Nat.add_assoc]; exact ih hx)
    intro n hn
    rw [List.cons_append]
    simp only [scan]
    rw [if_neg (by decide)]
    simp only [Bool.false_or, beq_self_eq_true, Bool.true_or, Bool.true_and]
    rw [scan_true _ _ (run_take noEnd l)]
    cases hq : l.drop (run noEnd l) with
    | nil => simp [scan]
    | cons c t =>
      have hc : c = 10 := by
        have := run_drop noEnd l c t hq
        simpa [noEnd] using this
      subst hc
      rw [hq] at hn
      cases n with
      | zero => simp [scan]
      | succ n =>
        rw [List.take_succ_cons] at hn ⊢
        simpa [scan] using hn
  | @tok l k kd n ts e ht _ ih =>
    intro hx
    have hn := tokN_le ht
    have hlen : (l.take n).length = n := by rw [List.length_take]; omega
    refine ⟨0, rfl, ?_, ?_, rfl, ?_, hn.2.2.1, hn.2.2.2, ?_⟩
    · intro e
      have := congrArg List.length e
      rw [hlen] at this
      simp at this; omega
    · rw [hlen]; omega
    · rw [List.drop_zero, hlen]
    · rw [hlen, Nat.zero_add]; exact ih hx
  | bad _ _ _ => intro hx; cases hx
theorem Rd.err {l : List UInt8} {k : Nat} {ts : List Tok} {x : Option Nat} (h : Rd l k ts x) : ∀ p, x = some p → k ≤ p ∧ p < k + l.length := by
  induction h with
  | nil k => intro p hx; cases hx
  | blank hb _ ih => intro p hx; have := ih p hx; simp only [List.length_cons]; omega
  | @comment l k ts e _ ih =>
    intro p hx
    have := ih p hx
    have := run_le noEnd l
    rw [List.length_drop] at *
    simp only [List.length_cons]; omega
  | @tok l k kd n ts e ht _ ih =>
    intro p hx
    have := ih p hx
    have := tokN_le ht
    rw [List.length_drop] at *
    omega
  | bad _ _ _ => intro p hx; cases hx; simp
theorem Rd.len {l : List UInt8} {k : Nat} {ts : List Tok} {x : Option Nat} (h : Rd l k ts x) : ts.length ≤ l.length := by
  induction h with
  | nil k => simp
  | blank hb _ ih => simp only [List.length_cons]; omega
  | @comment l k ts e _ ih => rw [List.length_drop] at ih; simp only [List.length_cons]; omega
  | @tok l k kd n ts e ht _ ih =>
    have := tokN_le ht
    rw [List.length_drop] at ih
    simp only [List.length_cons]; omega
  | bad _ _ _ => simp
end Go.Proofs.YtfnblnemdepimaaDoor.Tk
