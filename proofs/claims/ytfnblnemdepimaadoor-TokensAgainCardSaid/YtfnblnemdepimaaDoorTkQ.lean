/- Tokens of a text's beginning, of two texts, of tokens with blanks between. -/
import Derived.Test.YtfnblnemdepimaaDoorTk
namespace Go.Proofs.YtfnblnemdepimaaDoor.Tk

theorem run_of_take (p : UInt8 → Bool) : ∀ (l : List UInt8) (m : Nat), run p l ≤ m → run p (l.take m) = run p l
  | [], m, _ => by simp
  | c :: l, m, h => by
    by_cases hc : p c = true
    · rw [run_pos hc] at h ⊢
      cases m with
      | zero => omega
      | succ m => rw [List.take_succ_cons, run_pos hc, run_of_take p l m (by omega)]
    · have hc : p c = false := by simpa using hc
      rw [run_zero hc]
      cases m with
      | zero => simp [run]
      | succ m => rw [List.take_succ_cons, run_zero hc]
theorem run_append (p : UInt8 → Bool) : ∀ (l m : List UInt8), (∀ c t, m = c :: t → p c = false) → run p (l ++ m) = run p l
  | [], [], _ => rfl
  | [], c :: m, h => by simp [run, h c m rfl]
  | c :: l, m, h => by
    by_cases hc : p c = true
    · rw [List.cons_append, run_pos hc, run_pos hc, run_append p l m h]
    · have hc : p c = false := by simpa using hc
      rw [List.cons_append, run_zero hc, run_zero hc]

/-- what stands behind the digits -/
def tailN (a : Nat) : List UInt8 → Nat
  | [] => a
  | c :: t => if c = 46 then (if run digit t = 0 then a else a + 1 + run digit t) else a
theorem numN_tail (l : List UInt8) (h : run digit l ≠ 0) : numN l = tailN (run digit l) (l.drop (run digit l)) := by
  unfold numN
  rw [if_neg h]
  split
  · rename_i t ht
    rw [ht]
    simp only [tailN, if_true]
  · rename_i hno
    cases hq : l.drop (run digit l) with
    | nil => rfl
    | cons c t =>
      by_cases hc : c = 46
      · subst hc
        exact (hno t hq).elim
      · simp only [tailN, if_neg hc]
theorem tailN_take (a : Nat) (l : List UInt8) (m : Nat) (h : tailN a l ≤ a + m) : tailN a (l.take m) = tailN a l := by
  cases l with
  | nil => simp
  | cons c t =>
    by_cases hc : c = 46
    · subst hc
      simp only [tailN, if_true] at h ⊢
      cases m with
      | zero =>
        simp only [List.take_zero]
        by_cases h0 : run digit t = 0
        · rw [if_pos h0]
        · rw [if_neg h0] at h; omega
      | succ m =>
        rw [List.take_succ_cons]
        simp only [if_true]
        have hm : run digit t ≤ m := by
          by_cases h0 : run digit t = 0
          · omega
          · rw [if_neg h0] at h; omega
        rw [run_of_take digit t m hm]
    · cases m with
      | zero => simp [tailN, hc]
      | succ m => simp [tailN, hc]
theorem tailN_append (a : Nat) (l m : List UInt8) (hd : ∀ c t, m = c :: t → digit c = false ∧ c ≠ 46) : tailN a (l ++ m) = tailN a l := by
  cases l with
  | nil =>
    cases m with
    | nil => rfl
    | cons c t => simp [tailN, (hd c t rfl).2]
  | cons c t =>
    simp only [List.cons_append, tailN]
    rw [run_append digit t m (fun c t h => (hd c t h).1)]
theorem numN_take (l : List UInt8) (m : Nat) (h : numN l ≤ m) (h0 : run digit l ≠ 0) : numN (l.take m) = numN l := by
  have e := numN_tail l h0
  have ha : run digit l ≤ numN l := by
    rw [e]
    cases l.drop (run digit l) with
    | nil => exact Nat.le_refl _
    | cons c t =>
      simp only [tailN]
      split
      · split <;> omega
      · omega
  have hr := run_of_take digit l m (by omega)
  rw [numN_tail _ (by rw [hr]; exact h0), hr, e, List.drop_take]
  exact tailN_take _ _ _ (by rw [← e]; omega)
theorem numN_append (l m : List UInt8) (h0 : run digit l ≠ 0) (hd : ∀ c t, m = c :: t → digit c = false ∧ c ≠ 46) : numN (l ++ m) = numN l := by
  have hr := run_append digit l m (fun c t h => (hd c t h).1)
  rw [numN_tail _ (by rw [hr]; exact h0), numN_tail l h0, hr]
  have hle := run_le digit l
  rw [List.drop_append_of_le_length hle]
  exact tailN_append _ _ _ hd
theorem digit_run {c : UInt8} {l : List UInt8} (h : digit c = true) : run digit (c :: l) ≠ 0 := by rw [run_pos h]; omega

theorem tokN_take {l : List UInt8} {kd n m : Nat} (h : tokN l = some (kd, n)) (hm : n ≤ m) : tokN (l.take m) = some (kd, n) := by
  have hle := tokN_le h
  cases l with
  | nil => simp [tokN] at h
  | cons c l =>
    cases m with
    | zero => omega
    | succ m =>
      have ht : (c :: l).take (m + 1) = c :: l.take m := List.take_succ_cons
      simp only [tokN] at h
      by_cases hc : letter c = true
      · rw [if_pos hc] at h
        simp only [Option.some.injEq, Prod.mk.injEq] at h
        have := run_of_take ofWord (c :: l) (m + 1) (by omega)
        rw [ht] at this ⊢
        simp only [tokN, if_pos hc, this]
        simp only [Option.some.injEq, Prod.mk.injEq]; exact h
      · rw [if_neg hc] at h
        by_cases hd : digit c = true
        · rw [if_pos hd] at h
          simp only [Option.some.injEq, Prod.mk.injEq] at h
          have := numN_take (c :: l) (m + 1) (by omega) (digit_run hd)
          rw [ht] at this ⊢
          simp only [tokN, if_neg hc, if_pos hd, this]
          simp only [Option.some.injEq, Prod.mk.injEq]; exact h
        · rw [if_neg hd] at h
          have hs : signN (c :: l.take m) = signN (c :: l) := by
            by_cases hz : signN (c :: l) = 0
            · rw [if_pos hz] at h; cases h
            rw [if_neg hz] at h
            simp only [Option.some.injEq, Prod.mk.injEq] at h
            simp only [signN] at h hz ⊢
            cases l with
            | nil => simp
            | cons d l =>
              cases m with
              | zero =>
                show (if ((c == 60 || c == 62) && ([] : List UInt8).head? == some 61) = true then 2 else if sign1 c = true then 1 else 0) = _
                by_cases h2 : (c == 60 || c == 62) && (d :: l).head? == some 61
                · rw [if_pos h2] at h; omega
                · have h3 : ¬ ((c == 60 || c == 62) && ([] : List UInt8).head? == some 61) = true := by simp
                  rw [if_neg h2, if_neg h3]
              | succ m => simp
          rw [ht]
          simp only [tokN, if_neg hc, if_neg hd, hs]
          exact h
theorem blank_no {c : UInt8} (h : blank c = true) : ofWord c = false ∧ digit c = false ∧ c ≠ 46 ∧ c ≠ 61 := by
  simp only [blank, Bool.or_eq_true, beq_iff_eq] at h
  rcases h with ((rfl | rfl) | rfl) | rfl <;> decide
theorem tokN_append {l m : List UInt8} {c0 : UInt8} {t0 : List UInt8} (hm : m = c0 :: t0) (hb : blank c0 = true) {c : UInt8} : tokN (c :: l ++ m) = tokN (c :: l) := by
  obtain ⟨b1, b2, b3, b4⟩ := blank_no hb
  subst hm
  rw [List.cons_append]
  simp only [tokN]
  by_cases hc : letter c = true
  · rw [if_pos hc, if_pos hc]
    have := run_append ofWord (c :: l) (c0 :: t0) (by intro d t h; cases h; exact b1)
    rw [List.cons_append] at this
    rw [this]
  · rw [if_neg hc, if_neg hc]
    by_cases hd : digit c = true
    · rw [if_pos hd, if_pos hd]
      have := numN_append (c :: l) (c0 :: t0) (digit_run hd) (by intro d t h; cases h; exact ⟨b2, b3⟩)
      rw [List.cons_append] at this
      rw [this]
    · rw [if_neg hd, if_neg hd]
      have : signN (c :: (l ++ c0 :: t0)) = signN (c :: l) := by
        simp only [signN]
        cases l with
        | nil =>
          have : ((c == 60 || c == 62) && (([] : List UInt8) ++ c0 :: t0).head? == some 61) = false := by simp [b4]
          rw [this]
          simp
        | cons d l => simp
      rw [this]

/-- a text that ends where a token begins -/
theorem Rd.ahead {l : List UInt8} {k : Nat} {ts : List Tok} {x : Option Nat} (h : Rd l k ts x) : ∀ (j : Nat) (t : Tok), ts[j]? = some t → k ≤ t.pos ∧ t.pos ≤ k + l.length ∧ Rd (l.take (t.pos - k)) k (ts.take j) none := by
  induction h with
  | nil k => intro j t h; simp at h
  | @blank c l k ts e hb _ ih =>
    intro j t h
    obtain ⟨h1, h2, h3⟩ := ih j t h
    refine ⟨by omega, by simp only [List.length_cons]; omega, ?_⟩
    rw [show t.pos - k = (t.pos - (k + 1)) + 1 by omega, List.take_succ_cons]
    exact .blank hb h3
  | @comment l k ts e _ ih =>
    intro j t h
    obtain ⟨h1, h2, h3⟩ := ih j t h
    have hn := run_le noEnd l
    rw [List.length_drop] at h2
    refine ⟨by omega, by simp only [List.length_cons]; omega, ?_⟩
    rw [show t.pos - k = (t.pos - (k + 1)) + 1 by omega, List.take_succ_cons]
    have hr := run_of_take noEnd l (t.pos - (k + 1)) (by omega)
    refine .comment ?_
    rw [hr, List.drop_take, show t.pos - (k + 1) - run noEnd l = t.pos - (k + 1 + run noEnd l) by omega]
    exact h3
  | @tok l k kd n ts e ht _ ih =>
    intro j t h
    have hn := tokN_le ht
    cases j with
    | zero =>
      simp at h
      subst h
      refine ⟨Nat.le_refl _, by simp, ?_⟩
      simp only [Nat.sub_self, List.take_zero]
      exact .nil k
    | succ j =>
      obtain ⟨h1, h2, h3⟩ := ih j t (by simpa using h)
      rw [List.length_drop] at h2
      refine ⟨by omega, by omega, ?_⟩
      rw [List.take_succ_cons]
      have e1 : l.take n = (l.take (t.pos - k)).take n := by rw [List.take_take, Nat.min_eq_left (by omega)]
      rw [e1]
      refine .tok (tokN_take ht (by omega)) ?_
      rw [List.drop_take, show t.pos - k - n = t.pos - (k + n) by omega]
      exact h3
  | bad _ _ _ => intro j t h; simp at h

/-- elsewhere -/
def mv (n : Nat) (ts : List Tok) : List Tok := ts.map fun t => ⟨t.kind, t.text, n + t.pos⟩
theorem Rd.shift {l : List UInt8} {k : Nat} {ts : List Tok} {x : Option Nat} (h : Rd l k ts x) (n : Nat) : Rd l (n + k) (mv n ts) (x.map (n + ·)) := by
  induction h with
  | nil k => exact .nil _
  | @blank c l k ts e hb _ ih => exact .blank hb (by rw [Nat.add_assoc]; exact ih)
  | @comment l k ts e _ ih => exact .comment (by rw [show n + k + 1 + run noEnd l = n + (k + 1 + run noEnd l) by omega]; exact ih)
  | @tok l k kd m ts e ht _ ih => exact .tok ht (by rw [Nat.add_assoc]; exact ih)
  | bad hb hc ht => exact .bad hb hc ht

/-- two texts -/
theorem Rd.join {l : List UInt8} {k : Nat} {ts : List Tok} {x : Option Nat} (h : Rd l k ts x) {m : List UInt8} {c0 : UInt8} {t0 : List UInt8} (hm : m = c0 :: t0) (h0 : c0 = 10) :
    (∀ p, x = some p → Rd (l ++ m) k ts (some p)) ∧ (x = none → ∀ bs y, Rd m (k + l.length) bs y → Rd (l ++ m) k (ts ++ bs) y) := by
  have hb0 : Tk.blank c0 = true := by rw [h0]; rfl
  induction h with
  | nil k => exact ⟨fun p h => (by cases h), fun _ bs y h => by simpa using h⟩
  | @blank c l k ts e hb _ ih =>
    refine ⟨fun p hx => .blank hb (ih.1 p hx), fun hx bs y hy => .blank hb (ih.2 hx bs y ?_)⟩
    rw [List.length_cons] at hy
    rwa [show k + 1 + l.length = k + (l.length + 1) by omega]
  | @comment l k ts e _ ih =>
    have hr := run_append noEnd l m (by intro d t h; rw [hm] at h; cases h; rw [h0]; rfl)
    have hle := run_le noEnd l
    have hd : (l ++ m).drop (run noEnd (l ++ m)) = l.drop (run noEnd l) ++ m := by rw [hr, List.drop_append_of_le_length hle]
    refine ⟨fun p hx => ?_, fun hx bs y hy => ?_⟩
    · rw [List.cons_append]
      refine .comment ?_
      rw [hd, hr]
      exact ih.1 p hx
    · rw [List.cons_append]
      refine .comment ?_
      rw [hd, hr]
      refine ih.2 hx bs y ?_
      rw [List.length_drop, show k + 1 + run noEnd l + (l.length - run noEnd l) = k + (35 :: l).length by simp only [List.length_cons]; omega]
      exact hy
  | @tok l k kd n ts e ht _ ih =>
    have hn := tokN_le ht
    cases l with
    | nil => simp [tokN] at ht
    | cons c l =>
      have ht2 : tokN (c :: l ++ m) = some (kd, n) := by rw [tokN_append hm hb0]; exact ht
      have e1 : (c :: l).take n = (c :: l ++ m).take n := by rw [List.take_append_of_le_length hn.2.1]
      have e2 : (c :: l ++ m).drop n = (c :: l).drop n ++ m := by rw [List.drop_append_of_le_length hn.2.1]
      refine ⟨fun p hx => ?_, fun hx bs y hy => ?_⟩
      · rw [e1]
        refine .tok ht2 ?_
        rw [e2]
        exact ih.1 p hx
      · rw [e1]
        show Rd _ _ (_ :: (ts ++ bs)) y
        refine .tok ht2 ?_
        rw [e2]
        refine ih.2 hx bs y ?_
        rw [List.length_drop, show k + n + ((c :: l).length - n) = k + (c :: l).length by omega]
        exact hy
  | @bad c l k hb hc ht =>
    refine ⟨fun p hx => ?_, fun hx => by cases hx⟩
    cases hx
    exact .bad hb hc (by have := tokN_append (l := l) hm hb0 (c := c); rw [List.cons_append] at this; exact this.trans ht)

/-- each token is one by itself -/
theorem Rd.good {l : List UInt8} {k : Nat} {ts : List Tok} {x : Option Nat} (h : Rd l k ts x) : ∀ t ∈ ts, tokN t.text = some (t.kind, t.text.length) := by
  induction h with
  | nil k => intro t h; cases h
  | blank _ _ ih => exact ih
  | comment _ ih => exact ih
  | @tok l k kd n ts e ht _ ih =>
    intro t h
    rcases List.mem_cons.1 h with rfl | h
    · have hn := tokN_le ht
      have hl : (l.take n).length = n := by rw [List.length_take]; omega
      show tokN (l.take n) = some (kd, (l.take n).length)
      rw [hl]
      exact tokN_take ht (Nat.le_refl _)
    · exact ih t h
  | bad _ _ _ => intro t h; cases h
/-- the tokens with b behind each -/
def cat (b : List UInt8) (ts : List Tok) : List UInt8 := ts.flatMap fun t => t.text ++ b
/-- where they stand then -/
def re (n : Nat) : Nat → List Tok → List Tok
  | _, [] => []
  | k, t :: ts => ⟨t.kind, t.text, k⟩ :: re n (k + (t.text.length + n)) ts
theorem Rd.again {b : List UInt8} {c0 : UInt8} {t0 : List UInt8} (hb : b = c0 :: t0) (h0 : Tk.blank c0 = true) (hs : ∀ (m : List UInt8) (k : Nat) (ts : List Tok), Rd m (k + b.length) ts none → Rd (b ++ m) k ts none) :
    ∀ (ts : List Tok) (k : Nat), (∀ t ∈ ts, tokN t.text = some (t.kind, t.text.length)) → Rd (cat b ts) k (re b.length k ts) none
  | [], k, _ => .nil k
  | t :: ts, k, h => by
    have ht := h t (by simp)
    have hr := Rd.again hb h0 hs ts (k + (t.text.length + b.length)) (fun u hu => h u (by simp [hu]))
    have e : cat b (t :: ts) = t.text ++ (b ++ cat b ts) := by simp [cat]
    rw [e]
    cases hq : t.text with
    | nil => rw [hq] at ht; simp [tokN] at ht
    | cons c l =>
      rw [hq] at ht
      have ht2 : tokN (c :: l ++ (b ++ cat b ts)) = some (t.kind, (c :: l).length) := by
        rw [tokN_append (c0 := c0) (t0 := t0 ++ cat b ts) (by rw [hb]; rfl) h0]; exact ht
      have e1 : (c :: l ++ (b ++ cat b ts)).take (c :: l).length = c :: l := by simp
      have e2 : (c :: l ++ (b ++ cat b ts)).drop (c :: l).length = b ++ cat b ts := by simp
      have := Rd.tok (k := k) ht2 (ts := re b.length (k + (t.text.length + b.length)) ts) (e := none) (by
        rw [e2]
        refine hs _ _ _ ?_
        rw [show k + (c :: l).length + b.length = k + (t.text.length + b.length) by rw [hq, Nat.add_assoc]]
        exact hr)
      rw [e1] at this
      simp only [re, hq]
      rw [hq] at this
      exact this
end Go.Proofs.YtfnblnemdepimaaDoor.Tk
