/- Lines: what the laws say of lines and of words, as lists of bytes (mathematics alone). -/
import Derived.Test.YthpbcfoaabacgaaGreatDoorLnB
namespace Go.Proofs.YthpbcfoaabacgaaGreatDoor
open Go Go.Proofs Go.RowKit Go.Shelf

namespace Ln
/-- what comes in two pieces -/
theorem lgo_append : ∀ (a b cur : List UInt8), lgo cur (a ++ b) = ((lgo cur a).1 ++ (lgo (lgo cur a).2 b).1, (lgo (lgo cur a).2 b).2)
  | [], b, cur => by simp [lgo]
  | c :: t, b, cur => by
    rw [List.cons_append]
    by_cases h : (c == 10) = true
    · simp only [lgo, h, if_true]
      rw [lgo_append t b []]
      rfl
    · simp only [lgo, h]
      exact lgo_append t b (cur ++ [c])
/-- how many bytes came behind the last byte 10 -/
def behind (n : Nat) (l : List UInt8) : Nat := l.foldl (fun k c => if c == 10 then 0 else k + 1) n
def tens (l : List UInt8) : Nat := (l.filter (fun c => c == 10)).length
theorem lgo_behind : ∀ (l cur : List UInt8), (lgo cur l).2.length = behind cur.length l
  | [], cur => rfl
  | c :: t, cur => by
    show _ = behind (if c == 10 then 0 else cur.length + 1) t
    by_cases h : (c == 10) = true
    · simp only [lgo, h, if_true]; rw [lgo_behind t []]; rfl
    · simp only [lgo, h]; rw [if_neg (by simp)]; rw [if_neg (by simp)]; rw [lgo_behind t (cur ++ [c])]; simp
theorem lgo_tens : ∀ (l cur : List UInt8), (lgo cur l).1.length = tens l
  | [], cur => rfl
  | c :: t, cur => by
    unfold tens
    by_cases h : (c == 10) = true
    · simp only [lgo, h, if_true, List.filter_cons, List.length_cons]; rw [lgo_tens t []]; rfl
    · simp only [lgo, h, List.filter_cons]; rw [if_neg (by simp)]; rw [if_neg (by simp)]; exact lgo_tens t (cur ++ [c])
theorem behind_snoc (n : Nat) (l : List UInt8) (c : UInt8) : behind n (l ++ [c]) = if c == 10 then 0 else behind n l + 1 := by unfold behind; rw [List.foldl_append]; rfl
theorem tens_snoc (l : List UInt8) (c : UInt8) : tens (l ++ [c]) = if c == 10 then tens l + 1 else tens l := by
  unfold tens
  rw [List.filter_append, List.length_append]
  by_cases h : (c == 10) = true
  · rw [if_pos h]; simp [h]
  · rw [if_neg h]; simp [h]
/-- what a line may be -/
def fine (p : List UInt8 × Bool) : Prop := (p.2 = true → p.1 = []) ∧ p.1.length ≤ 70000 ∧ ∀ c ∈ p.1, ill c = false
theorem line_fine (l : List UInt8) : fine (line l) := by
  unfold line
  by_cases h : may (cut l) = true
  · rw [if_pos h]
    unfold may at h
    rw [Bool.and_eq_true, List.all_eq_true] at h
    exact ⟨fun e => (by cases e), of_decide_eq_true h.2, fun c hc => by simpa using h.1 c hc⟩
  · rw [if_neg h]
    exact ⟨fun _ => rfl, by simp, fun c hc => (by cases hc)⟩
theorem lgo_fine : ∀ (l cur : List UInt8), ∀ p ∈ (lgo cur l).1, fine p
  | [], cur => fun p hp => (by cases hp)
  | c :: t, cur => fun p hp => by
    by_cases h : (c == 10) = true
    · simp only [lgo, h, if_true] at hp
      rcases List.mem_cons.1 hp with rfl | hp
      · exact line_fine _
      · exact lgo_fine t [] p hp
    · simp only [lgo, h] at hp
      rw [if_neg (by simp)] at hp
      exact lgo_fine t (cur ++ [c]) p hp
/-- one line alone -/
theorem lgo_plain : ∀ (a cur : List UInt8), (∀ c ∈ a, (c == 10) = false) → lgo cur a = ([], cur ++ a)
  | [], cur, _ => by simp [lgo]
  | c :: t, cur, h => by
    have h1 := h c (List.mem_cons_self ..)
    simp only [lgo, h1]
    rw [if_neg (by simp), lgo_plain t (cur ++ [c]) (fun x hx => h x (List.mem_cons_of_mem _ hx))]
    simp
theorem lgo_one {a : List UInt8} (h : ∀ c ∈ a, (c == 10) = false) : lgo [] (a ++ [10]) = ([line a], []) := by
  rw [lgo_append, lgo_plain a [] h]
  rfl
theorem cut_plain {l : List UInt8} (h : l.getLast? ≠ some 13) : cut l = l := by unfold cut; rw [if_neg h]
theorem cut_both (l : List UInt8) : cut (l ++ [13]) = l := by
  unfold cut
  rw [if_pos (by simp)]
  simp
theorem may_of {l : List UInt8} (h : ∀ c ∈ l, ill c = false) (hl : l.length ≤ 70000) : may l = true := by
  unfold may
  rw [Bool.and_eq_true, List.all_eq_true]
  exact ⟨fun c hc => by simp [h c hc], decide_eq_true hl⟩
theorem ill_13 : ill 13 = true := by decide
theorem ill_10 : ill 10 = true := by decide
theorem last_ill {l : List UInt8} (h : ∀ c ∈ l, ill c = false) : l.getLast? ≠ some 13 := by
  intro e
  have := h 13 (List.mem_of_getLast? e)
  rw [ill_13] at this
  cases this
theorem no_ten {l : List UInt8} (h : ∀ c ∈ l, ill c = false) : ∀ c ∈ l, (c == 10) = false := by
  intro c hc
  rw [beq_eq_false_iff_ne]
  rintro rfl
  have := h 10 hc
  rw [ill_10] at this
  cases this
/-- a line of bytes that may be, ended in either way -/
theorem lgo_good {l : List UInt8} (h : ∀ c ∈ l, ill c = false) (hl : l.length ≤ 70000) : lgo [] (l ++ [10]) = ([(l, false)], []) ∧ lgo [] (l ++ [13] ++ [10]) = ([(l, false)], []) := by
  have hm := may_of h hl
  constructor
  · rw [lgo_one (no_ten h)]
    unfold line
    rw [cut_plain (last_ill h), if_pos hm]
  · rw [lgo_one (a := l ++ [13]) (fun c hc => by
      rcases List.mem_append.1 hc with hc | hc
      · exact no_ten h c hc
      · obtain rfl : c = 13 := by simpa using hc
        rfl)]
    unfold line
    rw [cut_both, if_pos hm]
/-- the byte that a law makes of any one -/
def ink (c : UInt8) : UInt8 := 32 + c % 95
theorem ink_fine (c : UInt8) : ill (ink c) = false := by
  have h : ∀ n, n < 256 → ill (ink (UInt8.ofNat n)) = false := by decide +kernel
  have := h c.toNat c.toNat_lt
  rwa [UInt8.ofNat_toNat] at this
theorem ink_not13 (l : List UInt8) : ∀ c ∈ l.map ink, ill c = false := by
  intro c hc
  obtain ⟨x, _, rfl⟩ := List.mem_map.1 hc
  exact ink_fine x
/-- a line with a byte put in -/
theorem line_spoilt {a b : List UInt8} {c : UInt8} (ha : ∀ x ∈ a, ill x = false) (hb : ∀ x ∈ b, ill x = false) (hl : a.length + b.length + 1 ≤ 70000) (h13 : (a ++ c :: b).getLast? ≠ some 13) :
    line (a ++ c :: b) = if ill c then ([], true) else (a ++ c :: b, false) := by
  unfold line
  rw [cut_plain h13]
  cases h : ill c with
  | true =>
    have : may (a ++ c :: b) = false := by
      unfold may
      rw [Bool.and_eq_false_iff]
      left
      rw [List.all_eq_false]
      exact ⟨c, by simp, by simp [h]⟩
    rw [this]; rfl
  | false =>
    rw [if_pos (may_of (fun x hx => by
      rcases List.mem_append.1 hx with hx | hx
      · exact ha x hx
      · rcases List.mem_cons.1 hx with rfl | hx
        · exact h
        · exact hb x hx) (by simp; omega))]
    rfl
-- words
theorem wgo_append_blank : ∀ (a cur : List UInt8) (c : UInt8) (b : List UInt8), blank c = true → wgo cur (a ++ c :: b) = wgo cur a ++ wgo [] b
  | [], cur, c, b, h => by simp [wgo, h]
  | x :: t, cur, c, b, h => by
    rw [List.cons_append]
    by_cases hx : blank x = true
    · simp only [wgo, hx, if_true]
      rw [wgo_append_blank t [] c b h, List.append_assoc]
    · simp only [wgo, hx]
      exact wgo_append_blank t (cur ++ [x]) c b h
theorem words_blanks : ∀ (k b : List UInt8), (∀ c ∈ k, blank c = true) → words (k ++ b) = words b
  | [], b, _ => rfl
  | c :: t, b, h => by
    have h1 := h c (List.mem_cons_self ..)
    show wgo [] (c :: (t ++ b)) = _
    unfold wgo
    rw [if_pos h1]
    show wend [] ++ words (t ++ b) = _
    rw [words_blanks t b (fun x hx => h x (List.mem_cons_of_mem _ hx))]
    rfl
/-- two texts with blanks between -/
theorem words_both {a b k : List UInt8} (hk : ∀ c ∈ k, blank c = true) (h0 : k ≠ []) : words (a ++ k ++ b) = words a ++ words b := by
  cases k with
  | nil => exact absurd rfl h0
  | cons c t =>
    rw [List.append_assoc, List.cons_append]
    show wgo [] _ = _
    rw [wgo_append_blank a [] c (t ++ b) (hk c (List.mem_cons_self ..))]
    show words a ++ words (t ++ b) = _
    rw [words_blanks t b (fun x hx => hk x (List.mem_cons_of_mem _ hx))]
theorem wgo_solid : ∀ (a cur : List UInt8), (∀ c ∈ a, blank c = false) → wgo cur a = wend (cur ++ a)
  | [], cur, _ => by simp [wgo]
  | c :: t, cur, h => by
    have h1 := h c (List.mem_cons_self ..)
    simp only [wgo, h1]
    rw [if_neg (by simp), wgo_solid t (cur ++ [c]) (fun x hx => h x (List.mem_cons_of_mem _ hx))]
    simp
/-- each word has a byte and no blank -/
theorem wgo_each : ∀ (l cur : List UInt8), (∀ c ∈ cur, blank c = false) → ∀ x ∈ wgo cur l, x ≠ [] ∧ ∀ c ∈ x, blank c = false
  | [], cur, hc => fun x hx => by
    simp only [wgo, wend] at hx
    split at hx
    · cases hx
    · obtain rfl : x = cur := by simpa using hx
      exact ⟨by assumption, hc⟩
  | c :: t, cur, hc => fun x hx => by
    by_cases h : blank c = true
    · simp only [wgo, h, if_true] at hx
      rcases List.mem_append.1 hx with hx | hx
      · unfold wend at hx
        split at hx
        · cases hx
        · obtain rfl : x = cur := by simpa using hx
          exact ⟨by assumption, hc⟩
      · exact wgo_each t [] (fun c hc => by cases hc) x hx
    · simp only [wgo, h] at hx
      rw [if_neg (by simp)] at hx
      refine wgo_each t (cur ++ [c]) (fun y hy => ?_) x hx
      rcases List.mem_append.1 hy with hy | hy
      · exact hc y hy
      · obtain rfl : y = c := by simpa using hy
        simpa using h
theorem words_each (l : List UInt8) : ∀ x ∈ words l, x ≠ [] ∧ ∀ c ∈ x, blank c = false := wgo_each l [] (fun c hc => by cases hc)
theorem words_one {x : List UInt8} (h0 : x ≠ []) (h : ∀ c ∈ x, blank c = false) : words x = [x] := by
  show wgo [] x = _
  rw [wgo_solid x [] h]
  unfold wend
  rw [List.nil_append, if_neg h0]
/-- words with blanks ahead of each are the words again -/
theorem words_again : ∀ (ws : List (List UInt8)) (k : List UInt8), (∀ c ∈ k, blank c = true) → k ≠ [] → (∀ x ∈ ws, x ≠ [] ∧ ∀ c ∈ x, blank c = false) → words (ws.flatMap (fun x => k ++ x) ++ k) = ws
  | [], k, hk, _, _ => by
    show words ([] ++ k) = []
    rw [List.nil_append, ← List.append_nil k, words_blanks k [] hk]; rfl
  | x :: t, k, hk, h0, h => by
    rw [List.flatMap_cons, List.append_assoc, List.append_assoc, words_blanks k _ hk]
    have ih := words_again t k hk h0 (fun y hy => h y (List.mem_cons_of_mem _ hy))
    obtain ⟨h1, h2⟩ := h x (List.mem_cons_self ..)
    have e : ∃ r, t.flatMap (fun x => k ++ x) ++ k = k ++ r := by
      cases t with
      | nil => exact ⟨[], by simp⟩
      | cons y t => exact ⟨y ++ (t.flatMap (fun x => k ++ x) ++ k), by simp⟩
    obtain ⟨r, hr⟩ := e
    rw [hr, ← List.append_assoc, words_both hk h0, words_one h1 h2]
    rw [hr, words_blanks k r hk] at ih
    rw [ih]; rfl
end Ln

end Go.Proofs.YthpbcfoaabacgaaGreatDoor
