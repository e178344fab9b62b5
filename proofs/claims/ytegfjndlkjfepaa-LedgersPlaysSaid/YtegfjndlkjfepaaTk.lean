/- Tokens: what a text's tokens are, by lists of bytes. -/
namespace Go.Proofs.Ytegfjndlkjfepaa.Tk

def blank (c : UInt8) : Bool := c == 32 || c == 9 || c == 10 || c == 13
def letter (c : UInt8) : Bool := (97 ≤ c && c ≤ 122) || (65 ≤ c && c ≤ 90)
def digit (c : UInt8) : Bool := 48 ≤ c && c ≤ 57
def ofWord (c : UInt8) : Bool := letter c || digit c || c == 95
def noEnd (c : UInt8) : Bool := c != 10
def sign1 (c : UInt8) : Bool := c == 43 || c == 45 || c == 42 || c == 47 || c == 44 || c == 58 || c == 59 || c == 61 || c == 40 || c == 41 || c == 91 || c == 93

/-- how many at the beginning are such ones -/
def run (p : UInt8 → Bool) : List UInt8 → Nat
  | [] => 0
  | c :: l => if p c then run p l + 1 else 0
theorem run_le (p : UInt8 → Bool) : ∀ l : List UInt8, run p l ≤ l.length
  | [] => Nat.le_refl 0
  | c :: l => by
    have := run_le p l
    simp only [run, List.length_cons]; split <;> omega
theorem run_take (p : UInt8 → Bool) : ∀ l : List UInt8, ∀ c ∈ l.take (run p l), p c = true
  | [], c, h => by simp [run] at h
  | d :: l, c, h => by
    unfold run at h
    split at h
    · rename_i hd
      rw [List.take_succ_cons] at h
      rcases List.mem_cons.1 h with rfl | h
      · exact hd
      · exact run_take p l c h
    · simp at h
theorem run_drop (p : UInt8 → Bool) : ∀ l : List UInt8, ∀ c t, l.drop (run p l) = c :: t → p c = false
  | [], c, t, h => by simp [run] at h
  | d :: l, c, t, h => by
    unfold run at h
    split at h
    · exact run_drop p l c t (by simpa using h)
    · rename_i hd
      simp at h; rw [← h.1]; simpa using hd
/-- a run is told by what stands in it and behind it -/
theorem run_eq (p : UInt8 → Bool) : ∀ (l m : List UInt8), (∀ c ∈ l, p c = true) → (∀ c t, m = c :: t → p c = false) → run p (l ++ m) = l.length
  | [], [], _, _ => rfl
  | [], d :: m, _, h => by simp [run, h d m rfl]
  | c :: l, m, hl, hm => by
    simp only [List.cons_append, run, hl c (by simp), if_true, List.length_cons]
    rw [run_eq p l m (fun d hd => hl d (by simp [hd])) hm]
theorem run_all (p : UInt8 → Bool) (l : List UInt8) (h : ∀ c ∈ l, p c = true) : run p l = l.length := by
  have := run_eq p l [] h (by intro c t h; cases h)
  simpa using this
theorem run_pos {p : UInt8 → Bool} {c : UInt8} {l : List UInt8} (h : p c = true) : run p (c :: l) = run p l + 1 := by simp [run, h]
theorem run_zero {p : UInt8 → Bool} {c : UInt8} {l : List UInt8} (h : p c = false) : run p (c :: l) = 0 := by simp [run, h]

/-- a number's bytes -/
def numN (l : List UInt8) : Nat :=
  if run digit l = 0 then 0 else
  match l.drop (run digit l) with
  | 46 :: t => if run digit t = 0 then run digit l else run digit l + 1 + run digit t
  | _ => run digit l
/-- signs' bytes -/
def signN : List UInt8 → Nat
  | [] => 0
  | c :: l => if (c == 60 || c == 62) && l.head? == some 61 then 2 else if sign1 c then 1 else 0
/-- a token's kind and bytes -/
def tokN : List UInt8 → Option (Nat × Nat)
  | [] => none
  | c :: l => if letter c then some (1, run ofWord (c :: l)) else if digit c then some (2, numN (c :: l)) else if signN (c :: l) = 0 then none else some (3, signN (c :: l))

structure Tok where
  kind : Nat
  text : List UInt8
  pos : Nat

/-- the tokens of a text that stands at a place; where there is none -/
inductive Rd : List UInt8 → Nat → List Tok → Option Nat → Prop
  | nil (k : Nat) : Rd [] k [] none
  | blank {c : UInt8} {l : List UInt8} {k : Nat} {ts : List Tok} {e : Option Nat} : Tk.blank c = true → Rd l (k + 1) ts e → Rd (c :: l) k ts e
  | comment {l : List UInt8} {k : Nat} {ts : List Tok} {e : Option Nat} : Rd (l.drop (run noEnd l)) (k + 1 + run noEnd l) ts e → Rd (35 :: l) k ts e
  | tok {l : List UInt8} {k kd n : Nat} {ts : List Tok} {e : Option Nat} : tokN l = some (kd, n) → Rd (l.drop n) (k + n) ts e → Rd l k (⟨kd, l.take n, k⟩ :: ts) e
  | bad {c : UInt8} {l : List UInt8} {k : Nat} : Tk.blank c = false → c ≠ 35 → tokN (c :: l) = none → Rd (c :: l) k [] (some k)

theorem numN_pos {c : UInt8} {l : List UInt8} (h : digit c = true) : 0 < numN (c :: l) := by
  have : run digit (c :: l) ≠ 0 := by rw [run_pos h]; omega
  unfold numN
  rw [if_neg this]
  split
  · split <;> omega
  · omega
theorem numN_le (l : List UInt8) : numN l ≤ l.length := by
  unfold numN
  split
  · omega
  · have h1 := run_le digit l
    split
    · rename_i t ht
      have h2 := run_le digit t
      have h3 := congrArg List.length ht
      rw [List.length_drop, List.length_cons] at h3
      split <;> omega
    · exact h1
theorem signN_le (l : List UInt8) : signN l ≤ l.length := by
  cases l with
  | nil => simp [signN]
  | cons c l =>
    simp only [signN, List.length_cons]
    cases l with
    | nil => simp; split <;> omega
    | cons d l => simp only [List.length_cons]; split <;> (try split) <;> omega
theorem tokN_le {l : List UInt8} {kd n : Nat} (h : tokN l = some (kd, n)) : 1 ≤ n ∧ n ≤ l.length ∧ 1 ≤ kd ∧ kd ≤ 3 := by
  cases l with
  | nil => simp [tokN] at h
  | cons c l =>
    have h1 := run_le ofWord (c :: l)
    have h3 := numN_le (c :: l)
    have h5 := signN_le (c :: l)
    simp only [tokN] at h
    by_cases hc : letter c = true
    · have h2 : run ofWord (c :: l) = run ofWord l + 1 := run_pos (by simp [ofWord, hc])
      rw [if_pos hc] at h
      simp only [Option.some.injEq, Prod.mk.injEq] at h
      omega
    · rw [if_neg hc] at h
      by_cases hd : digit c = true
      · have h4 := numN_pos (l := l) hd
        rw [if_pos hd] at h
        simp only [Option.some.injEq, Prod.mk.injEq] at h
        omega
      · rw [if_neg hd] at h
        by_cases hz : signN (c :: l) = 0
        · rw [if_pos hz] at h; cases h
        · rw [if_neg hz] at h
          simp only [Option.some.injEq, Prod.mk.injEq] at h
          omega
theorem digit_lo {c : UInt8} (h : digit c = true) : 48 ≤ c.toNat ∧ c.toNat ≤ 57 := by
  simp [digit, UInt8.le_iff_toNat_le] at h; exact h
theorem letter_lo {c : UInt8} (h : letter c = true) : 65 ≤ c.toNat ∧ c.toNat ≤ 122 ∧ (97 ≤ c.toNat ∨ c.toNat ≤ 90) := by
  simp [letter, UInt8.le_iff_toNat_le] at h; omega
theorem signN_blank {c : UInt8} {l : List UInt8} (h : blank c = true ∨ c = 35) : tokN (c :: l) = none := by
  have key : letter c = false ∧ digit c = false ∧ sign1 c = false ∧ (c == 60 || c == 62) = false := by
    rcases h with h | rfl
    · simp only [blank, Bool.or_eq_true, beq_iff_eq] at h
      rcases h with ((rfl | rfl) | rfl) | rfl <;> decide
    · decide
  simp [tokN, key.1, key.2.1, signN, key.2.2.1, key.2.2.2]

theorem Rd.total : ∀ (n : Nat) (l : List UInt8) (k : Nat), l.length ≤ n → ∃ ts e, Rd l k ts e
  | _, [], k, _ => ⟨_, _, .nil k⟩
  | 0, _ :: _, _, h => by simp at h
  | n + 1, c :: l, k, h => by
    simp only [List.length_cons] at h
    by_cases hb : Tk.blank c = true
    · obtain ⟨ts, e, hr⟩ := Rd.total n l (k + 1) (by omega)
      exact ⟨ts, e, .blank hb hr⟩
    by_cases hc : c = 35
    · subst hc
      obtain ⟨ts, e, hr⟩ := Rd.total n (l.drop (run noEnd l)) (k + 1 + run noEnd l) (by rw [List.length_drop]; omega)
      exact ⟨ts, e, .comment hr⟩
    rcases ht : tokN (c :: l) with _ | ⟨kd, m⟩
    · exact ⟨_, _, .bad (by simpa using hb) hc ht⟩
    · have := tokN_le ht
      obtain ⟨ts, e, hr⟩ := Rd.total n ((c :: l).drop m) (k + m) (by rw [List.length_drop, List.length_cons]; omega)
      exact ⟨_, e, .tok ht hr⟩
theorem Rd.det {l : List UInt8} {k : Nat} {ts : List Tok} {e : Option Nat} (h : Rd l k ts e) : ∀ {ts' : List Tok} {e' : Option Nat}, Rd l k ts' e' → ts' = ts ∧ e' = e := by
  induction h with
  | nil k => intro ts' e' h; cases h with
    | nil => exact ⟨rfl, rfl⟩
    | tok ht _ => simp [tokN] at ht
  | @blank c l k ts e hb _ ih =>
    intro ts' e' h
    have hn := signN_blank (l := l) (.inl hb)
    cases h with
    | blank _ h => exact ih h
    | comment h => simp [Tk.blank] at hb
    | tok ht _ => rw [hn] at ht; cases ht
    | bad h _ _ => rw [hb] at h; cases h
  | @comment l k ts e _ ih =>
    intro ts' e' h
    have hn := signN_blank (c := 35) (l := l) (.inr rfl)
    cases h with
    | blank hb _ => simp [Tk.blank] at hb
    | comment h => exact ih h
    | tok ht _ => rw [hn] at ht; cases ht
    | bad _ h _ => exact (h rfl).elim
  | @tok l k kd n ts e ht _ ih =>
    intro ts' e' h
    cases h with
    | nil => simp [tokN] at ht
    | blank hb _ => rw [signN_blank (.inl hb)] at ht; cases ht
    | comment h => rw [signN_blank (.inr rfl)] at ht; cases ht
    | tok ht' h =>
      rw [ht] at ht'
      simp only [Option.some.injEq, Prod.mk.injEq] at ht'
      obtain ⟨rfl, rfl⟩ := ht'
      obtain ⟨rfl, rfl⟩ := ih h
      exact ⟨rfl, rfl⟩
    | bad _ _ h => rw [ht] at h; cases h
  | @bad c l k hb hc hn =>
    intro ts' e' h
    cases h with
    | blank h _ => rw [hb] at h; cases h
    | comment _ => exact (hc rfl).elim
    | tok ht _ => rw [hn] at ht; cases ht
    | bad _ _ _ => exact ⟨rfl, rfl⟩

/-- behind all blanks at its beginning it is read alike -/
theorem Rd.blanks : ∀ (l : List UInt8) {k : Nat} {ts : List Tok} {e : Option Nat}, Rd l k ts e → Rd (l.drop (run Tk.blank l)) (k + run Tk.blank l) ts e
  | [], _, _, _, h => h
  | c :: l, k, ts, e, h => by
    by_cases hb : Tk.blank c = true
    · rw [run_pos hb]
      have h' : Rd l (k + 1) ts e := by
        cases h with
        | blank _ h => exact h
        | comment _ => simp [Tk.blank] at hb
        | tok ht _ => rw [signN_blank (.inl hb)] at ht; cases ht
        | bad h _ _ => rw [hb] at h; cases h
      have := Rd.blanks l h'
      rw [List.drop_succ_cons]
      rwa [show k + (run Tk.blank l + 1) = k + 1 + run Tk.blank l by omega]
    · rw [run_zero (by simpa using hb)]
      exact h
theorem Rd.of_comment {l : List UInt8} {k : Nat} {ts : List Tok} {e : Option Nat} (h : Rd (35 :: l) k ts e) : Rd ((35 :: l).drop (run noEnd (35 :: l))) (k + run noEnd (35 :: l)) ts e := by
  rw [run_pos (p := noEnd) (by decide), List.drop_succ_cons]
  cases h with
  | blank hb _ => simp [Tk.blank] at hb
  | comment h => rwa [show k + (run noEnd l + 1) = k + 1 + run noEnd l by omega]
  | tok ht _ => rw [signN_blank (.inr rfl)] at ht; cases ht
  | bad _ h _ => exact (h rfl).elim
theorem Rd.of_tok {l : List UInt8} {k kd n : Nat} {ts : List Tok} {e : Option Nat} (ht : tokN l = some (kd, n)) (h : Rd l k ts e) : ∃ ts', ts = ⟨kd, l.take n, k⟩ :: ts' ∧ Rd (l.drop n) (k + n) ts' e := by
  obtain ⟨ts', e', h'⟩ := Rd.total _ (l.drop n) (k + n) (Nat.le_refl _)
  obtain ⟨rfl, rfl⟩ := (Rd.tok ht h').det h
  exact ⟨ts', rfl, h'⟩
theorem Rd.of_bad {c : UInt8} {l : List UInt8} {k : Nat} {ts : List Tok} {e : Option Nat} (hb : Tk.blank c = false) (hc : c ≠ 35) (ht : tokN (c :: l) = none) (h : Rd (c :: l) k ts e) : ts = [] ∧ e = some k := (Rd.bad hb hc ht).det h
theorem Rd.of_nil {k : Nat} {ts : List Tok} {e : Option Nat} (h : Rd [] k ts e) : ts = [] ∧ e = none := (Rd.nil k).det h

end Go.Proofs.Ytegfjndlkjfepaa.Tk
