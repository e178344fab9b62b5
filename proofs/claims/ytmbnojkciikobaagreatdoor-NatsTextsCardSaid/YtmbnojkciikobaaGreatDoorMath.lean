/- Great numbers as lists of parts below 2^32: what a list is worth, its digits, sums, differences and products part by part. -/
import Init
namespace Go.Proofs.YtmbnojkciikobaaGreatDoor.Nu

/-- what a list of parts is worth -/
def val : List Nat → Nat
  | [] => 0
  | x :: l => x + 4294967296 * val l

/-- each part has 32 bits -/
def Sm (l : List Nat) : Prop := ∀ x ∈ l, x < 4294967296

/-- the parts of a number, none needless -/
def digs (n : Nat) : List Nat := if n = 0 then [] else (n % 4294967296) :: digs (n / 4294967296)
termination_by n

/-- without noughts at the end -/
def cut : List Nat → List Nat
  | [] => []
  | x :: l => if x = 0 ∧ cut l = [] then [] else x :: cut l

/-- may it be? -/
def chk (l : List Nat) : Bool := l.isEmpty || l.getD (l.length - 1) 0 != 0

/-- what it is worth; 0, if it may not be -/
def nv (l : List Nat) : Nat := if chk l then val l else 0

theorem Sm.nil : Sm [] := fun _ h => by cases h
theorem Sm.cons {x : Nat} {l : List Nat} (hx : x < 4294967296) (h : Sm l) : Sm (x :: l) := fun y hy => by
  rcases List.mem_cons.1 hy with rfl | hy
  · exact hx
  · exact h y hy
theorem Sm.head {x : Nat} {l : List Nat} (h : Sm (x :: l)) : x < 4294967296 := h x (by simp)
theorem Sm.tail {x : Nat} {l : List Nat} (h : Sm (x :: l)) : Sm l := fun y hy => h y (by simp [hy])
theorem Sm.snoc {l : List Nat} {x : Nat} (h : Sm l) (hx : x < 4294967296) : Sm (l ++ [x]) := fun y hy => by
  rcases List.mem_append.1 hy with hy | hy
  · exact h y hy
  · have : y = x := by simpa using hy
    omega
theorem Sm.take {l : List Nat} (h : Sm l) (k : Nat) : Sm (l.take k) := fun y hy => h y (List.mem_of_mem_take hy)
theorem Sm.drop {l : List Nat} (h : Sm l) (k : Nat) : Sm (l.drop k) := fun y hy => h y (List.mem_of_mem_drop hy)
theorem Sm.append {l m : List Nat} (h : Sm l) (k : Sm m) : Sm (l ++ m) := fun y hy => (List.mem_append.1 hy).elim (h y) (k y)
theorem Sm.getD {l : List Nat} (h : Sm l) (k : Nat) : l.getD k 0 < 4294967296 := by
  rw [List.getD_eq_getElem?_getD]
  by_cases hk : k < l.length
  · rw [List.getElem?_eq_getElem hk]; exact h _ (List.getElem_mem hk)
  · rw [List.getElem?_eq_none (by omega)]; decide
theorem Sm.set {l : List Nat} (h : Sm l) (k x : Nat) (hx : x < 4294967296) : Sm (l.set k x) := fun y hy => by
  rcases List.mem_or_eq_of_mem_set hy with hy | rfl
  · exact h y hy
  · exact hx
theorem Sm.replicate (n : Nat) : Sm (List.replicate n 0) := fun y hy => by
  have := (List.mem_replicate.1 hy).2; omega

theorem val_append (l m : List Nat) : val (l ++ m) = val l + 4294967296 ^ l.length * val m := by
  induction l with
  | nil => simp [val]
  | cons x l ih => simp only [List.cons_append, val, ih, List.length_cons, Nat.pow_succ]; rw [Nat.mul_add, Nat.add_assoc, ← Nat.mul_assoc, Nat.mul_comm 4294967296 (4294967296 ^ l.length)]
theorem val_one (x : Nat) : val [x] = x := by simp [val]
theorem val_snoc (l : List Nat) (x : Nat) : val (l ++ [x]) = val l + 4294967296 ^ l.length * x := by rw [val_append, val_one]
theorem val_lt {l : List Nat} (h : Sm l) : val l < 4294967296 ^ l.length := by
  induction l with
  | nil => simp [val]
  | cons x l ih =>
    have h1 := h.head
    have h2 := ih h.tail
    simp only [val, List.length_cons, Nat.pow_succ]
    omega
theorem val_replicate (n : Nat) : val (List.replicate n 0) = 0 := by
  induction n with
  | zero => rfl
  | succ n ih => simp [List.replicate_succ, val, ih]
theorem val_take_succ (l : List Nat) (k : Nat) : val (l.take (k + 1)) = val (l.take k) + 4294967296 ^ k * l.getD k 0 := by
  by_cases hk : k < l.length
  · rw [List.take_succ_eq_append_getElem hk, val_snoc, List.length_take, Nat.min_eq_left (by omega), List.getD_eq_getElem?_getD, List.getElem?_eq_getElem hk]; rfl
  · rw [List.take_of_length_le (by omega), List.take_of_length_le (by omega), List.getD_eq_getElem?_getD, List.getElem?_eq_none (by omega)]; simp
theorem val_split (l : List Nat) (k : Nat) (hk : k ≤ l.length) : val l = val (l.take k) + 4294967296 ^ k * val (l.drop k) := by
  conv => lhs; rw [← List.take_append_drop k l]
  rw [val_append, List.length_take, Nat.min_eq_left hk]

theorem digs_zero : digs 0 = [] := by rw [digs]; rfl
theorem digs_pos {n : Nat} (h : n ≠ 0) : digs n = (n % 4294967296) :: digs (n / 4294967296) := by rw [digs, if_neg h]
theorem val_digs (n : Nat) : val (digs n) = n := by
  induction n using Nat.strongRecOn with
  | _ n ih =>
    by_cases h : n = 0
    · subst h; rw [digs_zero]; rfl
    · rw [digs_pos h, val, ih (n / 4294967296) (by omega)]; omega
theorem sm_digs (n : Nat) : Sm (digs n) := by
  induction n using Nat.strongRecOn with
  | _ n ih =>
    by_cases h : n = 0
    · subst h; rw [digs_zero]; exact Sm.nil
    · rw [digs_pos h]; exact Sm.cons (by omega) (ih _ (by omega))
theorem digs_eq_nil {n : Nat} : digs n = [] ↔ n = 0 := by
  constructor
  · intro h
    by_cases h0 : n = 0
    · exact h0
    · rw [digs_pos h0] at h; cases h
  · rintro rfl; exact digs_zero
theorem val_eq_zero_cut {l : List Nat} : val l = 0 ↔ cut l = [] := by
  induction l with
  | nil => simp [val, cut]
  | cons x l ih =>
    simp only [val, cut]
    by_cases h : x = 0 ∧ cut l = []
    · rw [if_pos h]
      simp only [iff_true]
      have := ih.2 h.2
      omega
    · rw [if_neg h]
      simp only [reduceCtorEq, iff_false]
      intro h0
      exact h ⟨by omega, ih.1 (by omega)⟩
theorem cut_eq {l : List Nat} (h : Sm l) : cut l = digs (val l) := by
  induction l with
  | nil => simp [cut, val, digs_zero]
  | cons x l ih =>
    have hx := h.head
    have hl := ih h.tail
    simp only [cut]
    by_cases hc : x = 0 ∧ cut l = []
    · rw [if_pos hc]
      have h0 := val_eq_zero_cut.2 hc.2
      rw [show val (x :: l) = 0 by simp [val, h0, hc.1], digs_zero]
    · rw [if_neg hc]
      have hne : val (x :: l) ≠ 0 := by
        intro h0
        simp only [val] at h0
        exact hc ⟨by omega, val_eq_zero_cut.1 (by omega)⟩
      rw [digs_pos hne]
      have e1 : val (x :: l) % 4294967296 = x := by simp only [val]; omega
      have e2 : val (x :: l) / 4294967296 = val l := by simp only [val]; omega
      rw [e1, e2, hl]
theorem cut_eq_take (l : List Nat) (n : Nat) (hn : n ≤ l.length) (h0 : ∀ j, n ≤ j → l.getD j 0 = 0) (h1 : n = 0 ∨ l.getD (n - 1) 0 ≠ 0) : cut l = l.take n := by
  induction l generalizing n with
  | nil => simp [cut]
  | cons x l ih =>
    cases n with
    | zero =>
      have hc : cut l = l.take 0 := ih 0 (by omega) (fun j _ => by have := h0 (j + 1) (by omega); simpa using this) (.inl rfl)
      have hx : x = 0 := by have := h0 0 (by omega); simpa using this
      simp only [cut]
      rw [if_pos ⟨hx, by rw [hc]; simp⟩]; simp
    | succ n =>
      have h0' : ∀ j, n ≤ j → l.getD j 0 = 0 := fun j hj => by have := h0 (j + 1) (by omega); simpa using this
      have hn' : n ≤ l.length := by simpa using hn
      cases n with
      | zero =>
        have hc : cut l = l.take 0 := ih 0 (by omega) h0' (.inl rfl)
        have hx : x ≠ 0 := by
          rcases h1 with h1 | h1
          · omega
          · simpa using h1
        simp only [cut]
        rw [if_neg (fun h => hx h.1), hc]; simp
      | succ n =>
        have hc : cut l = l.take (n + 1) := ih (n + 1) hn' h0' (.inr (by
          rcases h1 with h1 | h1
          · omega
          · simpa using h1))
        have hne : cut l ≠ [] := by
          rw [hc]
          cases l with
          | nil => simp at hn'
          | cons y l => simp
        simp only [cut]
        rw [if_neg (fun h => hne h.2), hc]; simp
theorem chk_iff (l : List Nat) : chk l = true ↔ l = [] ∨ l.getD (l.length - 1) 0 ≠ 0 := by
  unfold chk
  cases l with
  | nil => simp
  | cons x l => simp
theorem cut_chk {l : List Nat} (h : chk l = true) : cut l = l := by
  have := cut_eq_take l l.length (Nat.le_refl _) (fun j hj => by rw [List.getD_eq_getElem?_getD, List.getElem?_eq_none hj]; rfl) (by
    rcases (chk_iff l).1 h with rfl | h
    · exact .inl rfl
    · exact .inr h)
  rw [this, List.take_length]
theorem digs_val {l : List Nat} (h : Sm l) (hc : chk l = true) : digs (val l) = l := by rw [← cut_eq h, cut_chk hc]
theorem chk_digs (n : Nat) : chk (digs n) = true := by
  induction n using Nat.strongRecOn with
  | _ n ih =>
    by_cases h : n = 0
    · subst h; rw [digs_zero]; rfl
    · rw [chk_iff]
      right
      rw [digs_pos h]
      have hr := ih (n / 4294967296) (by omega)
      by_cases h2 : n / 4294967296 = 0
      · rw [h2, digs_zero]; simp; omega
      · rcases (chk_iff _).1 hr with e | e
        · exact absurd (digs_eq_nil.1 e) h2
        · cases hd : digs (n / 4294967296) with
          | nil => exact absurd (digs_eq_nil.1 hd) h2
          | cons y t => rw [hd] at e; simpa using e
theorem digs_length_le {n k : Nat} (h : n < 4294967296 ^ k) : (digs n).length ≤ k := by
  induction k generalizing n with
  | zero => have : n = 0 := by simpa using h
            subst this; rw [digs_zero]; simp
  | succ k ih =>
    by_cases h0 : n = 0
    · subst h0; rw [digs_zero]; simp
    · rw [digs_pos h0]
      have := ih (n := n / 4294967296) (by rw [Nat.pow_succ] at h; exact Nat.div_lt_of_lt_mul (by rw [Nat.mul_comm]; exact h))
      simp; omega
theorem le_of_length_lt {l m : List Nat} (hl : Sm l) (_hm : Sm m) (hc : chk m = true) (h : l.length < m.length) : val l < val m := by
  have h1 := val_lt hl
  have hm0 : m ≠ [] := by intro e; rw [e] at h; simp at h
  have h2 : m.getD (m.length - 1) 0 ≠ 0 := ((chk_iff m).1 hc).resolve_left hm0
  have h3 := val_take_succ m (m.length - 1)
  rw [show m.length - 1 + 1 = m.length by omega, List.take_length] at h3
  have h4 : 4294967296 ^ l.length ≤ 4294967296 ^ (m.length - 1) := Nat.pow_le_pow_right (by decide) (by omega)
  have h5 : 4294967296 ^ (m.length - 1) * 1 ≤ 4294967296 ^ (m.length - 1) * m.getD (m.length - 1) 0 := Nat.mul_le_mul_left _ (by omega)
  omega
theorem nv_chk {l : List Nat} (h : chk l = true) : nv l = val l := by simp [nv, h]
theorem digs_nv {l : List Nat} (h : Sm l) : digs (nv l) = if chk l then l else [] := by
  unfold nv
  split
  · rename_i hc; exact digs_val h hc
  · exact digs_zero

end Go.Proofs.YtmbnojkciikobaaGreatDoor.Nu
