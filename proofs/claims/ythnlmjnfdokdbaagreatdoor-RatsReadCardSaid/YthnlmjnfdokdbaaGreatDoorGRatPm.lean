/- Fractions: what any text is read as, of its bytes alone; a fraction's text is read as it. -/
import Derived.Test.YthnlmjnfdokdbaaGreatDoorGRatLit
import Derived.Test.YthnlmjnfdokdbaaGreatDoorGRatCmp
set_option linter.unusedSimpArgs false
set_option linter.unusedVariables false
namespace Go.Proofs.YthnlmjnfdokdbaaGreatDoor
open Go Go.Proofs Go.RowKit Go.Shelf Nu

/-- the number of two texts' numbers, below 0 or not; or why there is none: 4 of no form, 3 of too many digits -/
def pres (neg : Bool) (num den : ByteArray) : Int × Rat :=
  if isNum num ∧ isNum den ∧ den ≠ ⟨#[48]⟩ ∧ (neg = false ∨ num ≠ ⟨#[48]⟩) then
    (if num.size ≤ 200 ∧ den.size ≤ 200 then (0, ((if neg then -((numv num num.size : Nat) : Int) else ((numv num num.size : Nat) : Int) : Int) : Rat) / (((numv den den.size : Nat) : Int) : Rat)) else (3, 0))
  else (4, 0)
/-- digits without their noughts ahead -/
def ptrim (l : List UInt8) : ByteArray := if Lib.trimLeftB l 48 = [] then ⟨#[48]⟩ else ⟨(Lib.trimLeftB l 48).toArray⟩
/-- so many noughts -/
def zeros (n : Nat) : ByteArray := ⟨(Lib.repeatL [48] n).toArray⟩
/-- the two numbers' texts of one with a point -/
def ppt (a b : ByteArray) : ByteArray × ByteArray := if isNum a ∧ b.size ≠ 0 then (ptrim (a ++ b).data.toList, ⟨#[49]⟩ ++ zeros b.size) else (⟨#[]⟩, ⟨#[49]⟩)
/-- .. of any text -/
def psplit (s : ByteArray) : ByteArray × ByteArray :=
  if Lib.indexByte s.data.toList 47 = -1 then
    (if Lib.indexByte s.data.toList 46 = -1 then (s, ⟨#[49]⟩)
    else ppt (s.extract 0 (Lib.indexByte s.data.toList 46).toNat) (s.extract ((Lib.indexByte s.data.toList 46).toNat + 1) s.size))
  else (s.extract 0 (Lib.indexByte s.data.toList 47).toNat, s.extract ((Lib.indexByte s.data.toList 47).toNat + 1) s.size)
def prest (s : ByteArray) : ByteArray := ⟨(Lib.trimPrefix s.data.toList [45]).toArray⟩
def pneg (s : ByteArray) : Bool := Lib.hasPrefix s.data.toList [45]
/-- what any text is read as -/
def pout (s : ByteArray) : Int × Rat := pres (pneg s) (psplit (prest s)).1 (psplit (prest s)).2

theorem ix_lt : ∀ {l : List UInt8} {c : UInt8}, Lib.indexByte l c ≠ -1 → ∃ i : Nat, Lib.indexByte l c = i ∧ i < l.length
  | [], _, h => absurd rfl h
  | b :: l, c, h => by
    unfold Lib.indexByte at h ⊢
    by_cases e : (b == c) = true
    · rw [if_pos e]; exact ⟨0, rfl, by simp⟩
    · rw [if_neg e] at h ⊢
      by_cases e2 : (Lib.indexByte l c == -1) = true
      · rw [if_pos e2] at h; exact absurd rfl h
      · rw [if_neg e2] at h ⊢
        obtain ⟨i, hi, hl⟩ := ix_lt (l := l) (c := c) (by simpa using e2)
        exact ⟨i + 1, by rw [hi]; simp, by simpa using hl⟩
theorem ix_none : ∀ {l : List UInt8} {c : UInt8}, (∀ x ∈ l, x ≠ c) → Lib.indexByte l c = -1
  | [], _, _ => rfl
  | b :: l, c, h => by
    unfold Lib.indexByte
    have h1 := h b (by simp)
    have h2 := ix_none (l := l) (c := c) (fun x hx => h x (List.mem_cons_of_mem _ hx))
    rw [if_neg (by simpa using h1), h2]; rfl
theorem ix_at : ∀ {l m : List UInt8} {c : UInt8}, (∀ x ∈ l, x ≠ c) → Lib.indexByte (l ++ c :: m) c = (l.length : Nat)
  | [], m, c, _ => by simp [Lib.indexByte]
  | b :: l, m, c, h => by
    have h1 := h b (by simp)
    have h2 := ix_at (l := l) (m := m) (c := c) (fun x hx => h x (List.mem_cons_of_mem _ hx))
    rw [List.cons_append]
    unfold Lib.indexByte
    rw [if_neg (by simpa using h1), h2, if_neg (by simp)]
    simp
theorem size_list (s : ByteArray) : s.size = s.data.toList.length := Array.length_toList.symm ▸ rfl
theorem ext_take (s : ByteArray) (i : Nat) : (s.extract 0 i).data.toList = s.data.toList.take i := by simp [ByteArray.data_extract, Array.toList_extract]
theorem ext_drop (s : ByteArray) (i : Nat) : (s.extract i s.size).data.toList = s.data.toList.drop i := by
  have : s.size = s.data.toList.length := size_list s
  rw [ByteArray.data_extract, Array.toList_extract, List.extract_eq_take_drop, this]
  exact List.take_of_length_le (by simp)
theorem data_app (a b : ByteArray) : (a ++ b).data.toList = a.data.toList ++ b.data.toList := by simp
theorem cut_at {a b s : ByteArray} {c : UInt8} (h : s.data.toList = a.data.toList ++ c :: b.data.toList) : s.extract 0 a.size = a ∧ s.extract (a.size + 1) s.size = b := by
  constructor
  · apply ext_lit; rw [ext_take, h, size_list, List.take_left' rfl]
  · apply ext_lit; rw [ext_drop, h, size_list, ← List.drop_drop, List.drop_left' rfl]; rfl
theorem num_bytes {s : ByteArray} (h : isNum s) {x : UInt8} (hx : x ∈ s.data.toList) : 48 ≤ x.toNat ∧ x.toNat ≤ 57 := by
  obtain ⟨j, hj, rfl⟩ := List.mem_iff_getElem.1 hx
  have := h.1 j (by rw [size_list]; exact hj)
  unfold bt at this
  rwa [List.getD_eq_getElem?_getD, List.getElem?_eq_getElem hj] at this
theorem num_not {s : ByteArray} (h : isNum s) (c : UInt8) (hc : c.toNat < 48 ∨ 57 < c.toNat) : ∀ x ∈ s.data.toList, x ≠ c := by
  rintro x hx rfl
  have := num_bytes h hx
  omega
theorem num_pos {s : ByteArray} (h : isNum s) : 0 < s.size := by rcases h.2 with h | h <;> omega
theorem txt_nought : txt 0 = ⟨#[48]⟩ := by apply ext_lit; unfold txt; rw [low]; rfl
theorem num_zero {s : ByteArray} (h : isNum s) : numv s s.size = 0 ↔ s = ⟨#[48]⟩ := by
  constructor
  · intro e; have := txt_back h; rw [e, txt_nought] at this; exact this.symm
  · rintro rfl; rfl
/-- a text of digits, with or without a stroke -/
theorem psplit_num {a : ByteArray} (h : isNum a) : psplit a = (a, ⟨#[49]⟩) := by
  unfold psplit
  rw [if_pos (ix_none (num_not h 47 (by decide))), if_pos (ix_none (num_not h 46 (by decide)))]
theorem psplit_up {a b s : ByteArray} (h : isNum a) (e : s.data.toList = a.data.toList ++ 47 :: b.data.toList) : psplit s = (a, b) := by
  have h1 : Lib.indexByte s.data.toList 47 = (a.size : Nat) := by rw [e, size_list]; exact ix_at (num_not h 47 (by decide))
  unfold psplit
  rw [if_neg (by rw [h1]; omega), h1]
  obtain ⟨e1, e2⟩ := cut_at e
  simp only [Int.toNat_natCast]
  rw [e1, e2]
theorem one_num : isNum ⟨#[49]⟩ := by decide
theorem one_numv : numv ⟨#[49]⟩ 1 = 1 := by decide
theorem prest_no {s : ByteArray} (h : Lib.hasPrefix s.data.toList [45] = false) : pneg s = false ∧ prest s = s := by
  refine ⟨h, ?_⟩
  unfold prest Lib.trimPrefix
  rw [h]; rfl
theorem prest_yes (s : ByteArray) : pneg (⟨#[45]⟩ ++ s) = true ∧ prest (⟨#[45]⟩ ++ s) = s := by
  have e : (⟨#[45]⟩ ++ s : ByteArray).data.toList = 45 :: s.data.toList := by rw [data_app]; rfl
  have h : Lib.hasPrefix (45 :: s.data.toList) [45] = true := by simp [Lib.hasPrefix]
  refine ⟨by unfold pneg; rw [e, h], ?_⟩
  unfold prest Lib.trimPrefix
  rw [e, h]; rfl
theorem num_first {s : ByteArray} {l : List UInt8} (h : isNum s) : Lib.hasPrefix (s.data.toList ++ l) [45] = false := by
  have hp := num_pos h
  have h0 : ∀ x ∈ s.data.toList, x ≠ 45 := num_not h 45 (by decide)
  rw [size_list] at hp
  cases hs : s.data.toList with
  | nil => rw [hs] at hp; simp at hp
  | cons x t =>
    have := h0 x (by rw [hs]; simp)
    have h2 : (45 == x) = false := beq_eq_false_iff_ne.2 (fun e => this e.symm)
    simp [Lib.hasPrefix, List.isPrefixOf, h2]
theorem num_first' {s : ByteArray} (h : isNum s) : Lib.hasPrefix s.data.toList [45] = false := by have := num_first (l := []) h; rwa [List.append_nil] at this
/-- two numbers' texts, with a stroke -/
theorem pout_up {a b s : ByteArray} (h : isNum a) (e : s = a ++ ⟨#[47]⟩ ++ b) : pout s = pres false a b ∧ pout (⟨#[45]⟩ ++ s) = pres true a b := by
  have e1 : s.data.toList = a.data.toList ++ 47 :: b.data.toList := by rw [e, data_app, data_app]; simp
  have h1 := psplit_up h e1
  constructor
  · obtain ⟨k1, k2⟩ := prest_no (s := s) (by rw [e1]; exact num_first h)
    unfold pout; rw [k1, k2, h1]
  · obtain ⟨k1, k2⟩ := prest_yes s
    unfold pout; rw [k1, k2, h1]
theorem pout_num {a : ByteArray} (h : isNum a) : pout a = pres false a ⟨#[49]⟩ ∧ pout (⟨#[45]⟩ ++ a) = pres true a ⟨#[49]⟩ := by
  have h1 := psplit_num h
  constructor
  · obtain ⟨k1, k2⟩ := prest_no (num_first' h)
    unfold pout; rw [k1, k2, h1]
  · obtain ⟨k1, k2⟩ := prest_yes a
    unfold pout; rw [k1, k2, h1]
theorem txt_not0 {V : Nat} (h : V ≠ 0) : txt V ≠ ⟨#[48]⟩ := fun e => h (by rw [← txt_numv V]; exact (num_zero (txt_num V)).2 e)
theorem pres_txt {n : Bool} {A B : Nat} (hB : B ≠ 0) (hA : n = true → A ≠ 0) (l1 : (txt A).size ≤ 200) (l2 : (txt B).size ≤ 200) : pres n (txt A) (txt B) = (0, ((if n then -((A : Nat) : Int) else ((A : Nat) : Int) : Int) : Rat) / (((B : Nat) : Int) : Rat)) := by
  unfold pres
  rw [if_pos ⟨txt_num A, txt_num B, txt_not0 hB, by cases n; exact .inl rfl; exact .inr (txt_not0 (hA rfl))⟩, if_pos ⟨l1, l2⟩, txt_numv, txt_numv]
theorem txt_one : txt 1 = ⟨#[49]⟩ := by apply ext_lit; unfold txt; rw [low]; rfl
/-- a fraction's text is read as it, if its digits are not too many -/
theorem pout_rtxt {Z : Rat} (h1 : (txt Z.num.natAbs).size ≤ 200) (h2 : (txt Z.den).size ≤ 200) : pout (rtxt Z) = (0, Z) := by
  have hZ : ((Z.num : Int) : Rat) / (((Z.den : Nat) : Int) : Rat) = Z := by rw [Rat.intCast_natCast]; exact rat_frac Z
  have key : ∀ n : Bool, n = decide (Z.num < 0) → pres n (txt Z.num.natAbs) (txt Z.den) = (0, Z) := by
    intro n hn
    rw [pres_txt Z.den_nz (fun e => by rw [e] at hn; have := of_decide_eq_true hn.symm; omega) h1 h2]
    have e : (if n = true then -((Z.num.natAbs : Nat) : Int) else ((Z.num.natAbs : Nat) : Int)) = Z.num := by
      by_cases h : Z.num < 0
      · rw [hn, decide_eq_true h]; simp; omega
      · rw [hn, decide_eq_false h]; simp; omega
    rw [e, hZ]
  by_cases hd : Z.den = 1
  · have hb : (⟨#[49]⟩ : ByteArray) = txt Z.den := by rw [hd, txt_one]
    obtain ⟨k1, k2⟩ := pout_num (txt_num Z.num.natAbs)
    rw [hb] at k1 k2
    unfold rtxt itxt
    rw [if_pos hd]
    by_cases h : Z.num < 0
    · rw [if_pos h, k2]; exact key true (by simp [h])
    · rw [if_neg h, k1]; exact key false (by simp [h])
  · unfold rtxt itxt
    rw [if_neg hd]
    obtain ⟨k1, k2⟩ := pout_up (b := txt Z.den) (txt_num Z.num.natAbs) rfl
    by_cases h : Z.num < 0
    · rw [if_pos h]
      rw [show (⟨#[45]⟩ ++ txt Z.num.natAbs ++ ⟨#[47]⟩ ++ txt Z.den : ByteArray) = ⟨#[45]⟩ ++ (txt Z.num.natAbs ++ ⟨#[47]⟩ ++ txt Z.den) by apply ext_lit; simp]
      rw [k2]; exact key true (by simp [h])
    · rw [if_neg h, k1]; exact key false (by simp [h])
theorem pout_cases (s : ByteArray) : (pout s).1 = 0 ∨ (pout s).1 = 3 ∨ (pout s).1 = 4 := by
  unfold pout pres
  split
  · split
    · exact .inl rfl
    · exact .inr (.inl rfl)
  · exact .inr (.inr rfl)
theorem num_lt {s : ByteArray} (h : isNum s) (hl : s.size ≤ 200) : numv s s.size < 10 ^ (199 + 1) :=
  Nat.lt_of_lt_of_le (numv_lt s s.size fun j hj => (h.1 j hj).2) (Nat.pow_le_pow_right (by decide) hl)
/-- what is read has few digits -/
theorem pres_small {n : Bool} {p q : ByteArray} (h : (pres n p q).1 = 0) : (txt (pres n p q).2.num.natAbs).size ≤ 200 ∧ (txt (pres n p q).2.den).size ≤ 200 := by
  unfold pres at h ⊢
  by_cases h1 : isNum p ∧ isNum q ∧ q ≠ ⟨#[48]⟩ ∧ (n = false ∨ p ≠ ⟨#[48]⟩)
  · rw [if_pos h1] at h ⊢
    by_cases h2 : p.size ≤ 200 ∧ q.size ≤ 200
    · rw [if_pos h2]
      have l1 := num_lt h1.1 h2.1
      have l2 := num_lt h1.2.1 h2.2
      have d0 : numv q q.size ≠ 0 := fun e => h1.2.2.1 ((num_zero h1.2.1).1 e)
      obtain ⟨P, hP⟩ : ∃ P, P = numv p p.size := ⟨_, rfl⟩
      obtain ⟨Q, hQ⟩ : ∃ Q, Q = numv q q.size := ⟨_, rfl⟩
      rw [← hP] at l1 ⊢
      rw [← hQ] at l2 d0 ⊢
      obtain ⟨N, hN⟩ : ∃ N : Int, N = (if n = true then -((P : Nat) : Int) else ((P : Nat) : Int)) := ⟨_, rfl⟩
      rw [← hN]
      have hN2 : N.natAbs = P := by rw [hN]; split <;> simp
      have hz := rnz d0
      obtain ⟨r1, r2⟩ := rat_small (Z := (N : Rat) / (((Q : Nat) : Int) : Rat)) (n := N) d0 (by rw [Rat.intCast_natCast]; grind)
      rw [hN2] at r1
      rw [txt_size, txt_size]
      exact ⟨low_len _ _ (Nat.lt_of_le_of_lt r1 l1), low_len _ _ (Nat.lt_of_le_of_lt r2 l2)⟩
    · rw [if_neg h2] at h; cases h
  · rw [if_neg h1] at h; cases h
theorem pout_small {s : ByteArray} (h : (pout s).1 = 0) : (txt (pout s).2.num.natAbs).size ≤ 200 ∧ (txt (pout s).2.den).size ≤ 200 := pres_small h

end Go.Proofs.YthnlmjnfdokdbaaGreatDoor
