/- Fractions: digits as bytes, noughts ahead and behind, a point among them. -/
import Derived.Test.YthnlmjnfdokdbaaGreatDoorGRatPm
set_option linter.unusedSimpArgs false
set_option linter.unusedVariables false
namespace Go.Proofs.YthnlmjnfdokdbaaGreatDoor
open Go Go.Proofs Go.RowKit Go.Shelf Nu

/-- the number of digits, as bytes -/
def dval (l : List UInt8) : Nat := l.foldl (fun a c => 10 * a + (c.toNat - 48)) 0
/-- digits alone? -/
def dall (l : List UInt8) : Prop := ∀ c ∈ l, 48 ≤ c.toNat ∧ c.toNat ≤ 57
theorem dfold (l : List UInt8) : ∀ a : Nat, l.foldl (fun a c => 10 * a + (c.toNat - 48)) a = a * 10 ^ l.length + dval l := by
  unfold dval
  induction l with
  | nil => intro a; simp
  | cons c l ih =>
    intro a
    rw [List.foldl_cons, ih, List.foldl_cons, ih (10 * 0 + (c.toNat - 48)), List.length_cons, Nat.pow_succ]
    rw [Nat.add_mul]
    have : 10 * a * 10 ^ l.length = a * (10 ^ l.length * 10) := by rw [Nat.mul_comm (10 ^ l.length) 10, ← Nat.mul_assoc, Nat.mul_comm a 10]
    rw [this, Nat.mul_zero, Nat.zero_add, Nat.add_assoc]
theorem dval_app (l m : List UInt8) : dval (l ++ m) = dval l * 10 ^ m.length + dval m := by
  show (l ++ m).foldl _ 0 = _
  rw [List.foldl_append, dfold]; rfl
theorem dval_cons (c : UInt8) (m : List UInt8) : dval (c :: m) = (c.toNat - 48) * 10 ^ m.length + dval m := by
  have := dval_app [c] m
  rw [List.singleton_append] at this
  rw [this]
  show (10 * 0 + (c.toNat - 48)) * _ + _ = _
  rw [Nat.mul_zero, Nat.zero_add]
theorem zlen (n : Nat) : (Lib.repeatL [48] n).length = n := by
  induction n with
  | zero => rfl
  | succ n ih => show ([48] ++ Lib.repeatL [48] n).length = _; rw [List.length_append, ih]; simp; omega
theorem zdval (n : Nat) : dval (Lib.repeatL [48] n) = 0 := by
  induction n with
  | zero => rfl
  | succ n ih =>
    show dval ([48] ++ Lib.repeatL [48] n) = 0
    rw [dval_app, ih, show dval [48] = 0 from rfl]; simp
theorem zall (n : Nat) : dall (Lib.repeatL [48] n) := by
  induction n with
  | zero => intro c h; cases h
  | succ n ih =>
    intro c h
    rcases List.mem_append.1 (show c ∈ [48] ++ Lib.repeatL [48] n from h) with h | h
    · obtain rfl : c = 48 := by simpa using h
      decide
    · exact ih c h
theorem trim_dval (l : List UInt8) : dval (Lib.trimLeftB l 48) = dval l := by
  induction l with
  | nil => rfl
  | cons c l ih =>
    show dval (List.dropWhile _ (c :: l)) = _
    rw [List.dropWhile_cons]
    split
    · rename_i h
      obtain rfl : c = 48 := by simpa using h
      rw [dval_cons]
      show dval (Lib.trimLeftB l 48) = _
      rw [ih]; simp
    · rfl
theorem lead_head {l : List UInt8} {c : UInt8} {t : List UInt8} (h : Lib.trimLeftB l 48 = c :: t) : c ≠ 48 := by
  induction l with
  | nil => cases h
  | cons x l ih =>
    have h : List.dropWhile (· == 48) (x :: l) = c :: t := h
    rw [List.dropWhile_cons] at h
    split at h
    · exact ih h
    · rename_i hx
      injection h with h1 _
      rw [← h1]
      simpa using hx
theorem lead_all {l : List UInt8} (h : dall l) : dall (Lib.trimLeftB l 48) := fun c hc => h c ((List.dropWhile_suffix _).subset hc)
theorem lead_all' {l : List UInt8} (h : dall (Lib.trimLeftB l 48)) : dall l := by
  induction l with
  | nil => exact h
  | cons x l ih =>
    have h' : dall (List.dropWhile (· == 48) (x :: l)) := h
    rw [List.dropWhile_cons] at h'
    split at h'
    · rename_i hx
      obtain rfl : x = 48 := by simpa using hx
      intro c hc
      rcases List.mem_cons.1 hc with rfl | hc
      · decide
      · exact ih h' c hc
    · exact h'
theorem lead_nil {l : List UInt8} : Lib.trimLeftB l 48 = [] ↔ ∀ c ∈ l, c = 48 := by
  induction l with
  | nil => exact ⟨fun _ c h => (by cases h), fun _ => rfl⟩
  | cons x l ih =>
    have e : Lib.trimLeftB (x :: l) 48 = if (x == 48) = true then Lib.trimLeftB l 48 else x :: l := List.dropWhile_cons ..
    rw [e]
    by_cases hx : x = 48
    · subst hx
      rw [if_pos (by rfl), ih]
      exact ⟨fun h c hc => (List.mem_cons.1 hc).elim (fun e => e) (fun hc => h c hc), fun h c hc => h c (List.mem_cons_of_mem _ hc)⟩
    · rw [if_neg (by simpa using hx)]
      exact ⟨fun h => (by cases h), fun h => absurd (h x (by simp)) hx⟩
theorem dpos {c : UInt8} {t : List UInt8} (h : 48 ≤ c.toNat) (h0 : c ≠ 48) : 0 < dval (c :: t) := by
  rw [dval_cons]
  have h1 : c.toNat ≠ 48 := fun e => h0 (UInt8.toNat_inj.1 e)
  have h2 : 0 < 10 ^ t.length := Nat.pow_pos (by decide)
  have h3 : 1 * 10 ^ t.length ≤ (c.toNat - 48) * 10 ^ t.length := Nat.mul_le_mul_right _ (by omega)
  omega
theorem bt_list (s : ByteArray) {k : Nat} (hk : k < s.data.toList.length) : bt s k = (s.data.toList[k]).toNat := by
  unfold bt; rw [List.getD_eq_getElem?_getD, List.getElem?_eq_getElem hk]; rfl
theorem numv_dval (s : ByteArray) (k : Nat) (hk : k ≤ s.data.toList.length) : numv s k = dval (s.data.toList.take k) := by
  induction k with
  | zero => rfl
  | succ k ih =>
    rw [numv, ih (by omega), List.take_succ_eq_append_getElem (by omega), dval_app, bt_list s (by omega)]
    show _ = _ * 10 ^ 1 + (10 * 0 + (_ - 48))
    omega
theorem numv_all (s : ByteArray) : numv s s.size = dval s.data.toList := by rw [size_list, numv_dval s _ (Nat.le_refl _), List.take_length]
theorem dall_bt {s : ByteArray} : dall s.data.toList ↔ ∀ j, j < s.size → 48 ≤ bt s j ∧ bt s j ≤ 57 := by
  rw [size_list]
  constructor
  · intro h j hj; rw [bt_list s hj]; exact h _ (List.getElem_mem hj)
  · intro h c hc
    obtain ⟨j, hj, rfl⟩ := List.mem_iff_getElem.1 hc
    have := h j hj
    rwa [bt_list s hj] at this
theorem isNum_dall {s : ByteArray} (h : isNum s) : dall s.data.toList := dall_bt.2 h.1
theorem isNum_cons {c : UInt8} {t : List UInt8} (h : dall (c :: t)) (h0 : t = [] ∨ c ≠ 48) : isNum ⟨(c :: t).toArray⟩ := by
  have e : (⟨(c :: t).toArray⟩ : ByteArray).data.toList = c :: t := rfl
  refine ⟨dall_bt.1 (by rw [e]; exact h), ?_⟩
  rw [size_list, e]
  rcases h0 with rfl | h0
  · exact .inl rfl
  · cases t with
    | nil => exact .inl rfl
    | cons d t =>
      refine .inr ⟨by simp, ?_⟩
      rw [bt_list _ (by rw [e]; simp)]
      exact fun e => h0 (UInt8.toNat_inj.1 e)
theorem ptrim_num {l : List UInt8} (h : dall l) : isNum (ptrim l) := by
  unfold ptrim
  cases e : Lib.trimLeftB l 48 with
  | nil => rw [if_pos rfl]; decide
  | cons c t =>
    rw [if_neg (by simp)]
    exact isNum_cons (e ▸ lead_all h) (.inr (lead_head e))
theorem ptrim_not {l : List UInt8} (h : isNum (ptrim l)) : dall l := by
  unfold ptrim at h
  by_cases e : Lib.trimLeftB l 48 = []
  · have := lead_nil.1 e
    intro c hc; rw [this c hc]; decide
  · rw [if_neg e] at h
    exact lead_all' (isNum_dall h)
theorem ptrim_val {l : List UInt8} : numv (ptrim l) (ptrim l).size = dval l := by
  rw [numv_all, ← trim_dval l]
  unfold ptrim
  split
  · rename_i h; rw [h]; rfl
  · rfl
theorem one_zeros (n : Nat) : (⟨#[49]⟩ ++ zeros n : ByteArray).data.toList = 49 :: Lib.repeatL [48] n := by rw [data_app]; rfl
theorem den_num (n : Nat) : isNum (⟨#[49]⟩ ++ zeros n) := by
  have : (⟨#[49]⟩ ++ zeros n : ByteArray) = ⟨(49 :: Lib.repeatL [48] n).toArray⟩ := ext_lit _ _ (one_zeros n)
  rw [this]
  refine isNum_cons ?_ (.inr (by decide))
  intro c hc
  rcases List.mem_cons.1 hc with rfl | hc
  · decide
  · exact zall n c hc
theorem den_val (n : Nat) : numv (⟨#[49]⟩ ++ zeros n) (⟨#[49]⟩ ++ zeros n : ByteArray).size = 10 ^ n := by
  rw [numv_all, one_zeros, dval_cons, zdval, zlen]; simp
theorem den_size (n : Nat) : (⟨#[49]⟩ ++ zeros n : ByteArray).size = n + 1 := by rw [size_list, one_zeros, List.length_cons, zlen]
theorem den_not (n : Nat) : (⟨#[49]⟩ ++ zeros n : ByteArray) ≠ ⟨#[48]⟩ := fun e => by
  have := congrArg (fun s : ByteArray => s.data.toList) e
  simp only [one_zeros] at this
  cases this
/-- the sizes around a point -/
theorem point_sizes {a b : ByteArray} (ha : isNum a) : ((ptrim (a ++ b).data.toList).size ≤ 200 ∧ (⟨#[49]⟩ ++ zeros b.size : ByteArray).size ≤ 200) ↔ a.size + b.size ≤ 200 := by
  rw [den_size]
  have h1 := num_pos ha
  have hz : (ptrim (a ++ b).data.toList).size ≤ a.size + b.size ∧ (a.size ≠ 1 → (ptrim (a ++ b).data.toList).size = a.size + b.size) := by
    unfold ptrim
    have hl : (Lib.trimLeftB (a ++ b).data.toList 48).length ≤ a.size + b.size := by
      have := (List.dropWhile_suffix (· == 48) (l := (a ++ b).data.toList)).length_le
      rw [data_app, List.length_append, ← size_list, ← size_list] at this
      rw [data_app]; exact this
    split
    · rename_i h
      refine ⟨by show 1 ≤ _; omega, fun h2 => ?_⟩
      have hn := ha.2
      rcases hn with hn | hn
      · exact absurd hn h2
      · exfalso
        have h0 := lead_nil.1 h
        rw [data_app] at h0
        have hk : 0 < a.data.toList.length := by rw [← size_list]; exact h1
        have := h0 (a.data.toList[0]) (List.mem_append_left _ (List.getElem_mem hk))
        apply hn.2
        rw [bt_list a hk, this]; rfl
    · refine ⟨by show (Lib.trimLeftB _ 48).toArray.size ≤ _; rw [List.size_toArray]; exact hl, fun h2 => ?_⟩
      rcases ha.2 with hn | hn
      · exact absurd hn h2
      · show (Lib.trimLeftB _ 48).toArray.size = _
        rw [List.size_toArray, data_app]
        have hk : 0 < a.data.toList.length := by rw [← size_list]; exact h1
        cases e : a.data.toList with
        | nil => rw [e] at hk; cases hk
        | cons c t =>
          have hc : c ≠ 48 := fun e2 => hn.2 (by rw [bt_list a hk]; simp only [e]; rw [List.getElem_cons_zero, e2]; rfl)
          have e3 : Lib.trimLeftB (c :: t ++ b.data.toList) 48 = c :: t ++ b.data.toList := by
            show List.dropWhile _ (c :: (t ++ b.data.toList)) = _
            rw [List.dropWhile_cons, if_neg (by simpa using hc)]; rfl
          rw [e3, ← e, List.length_append, ← size_list, ← size_list]
  constructor
  · rintro ⟨k1, k2⟩
    by_cases h2 : a.size = 1
    · omega
    · rw [hz.2 h2] at k1; omega
  · intro h
    omega
theorem ptrim_zero {l : List UInt8} (h : dall l) : ptrim l = ⟨#[48]⟩ ↔ dval l = 0 := by
  rw [← num_zero (ptrim_num h), ptrim_val]
/-- what a text with a point is read as -/
theorem pres_point {n : Bool} {a b : ByteArray} (ha : isNum a) (hd : dall b.data.toList) :
    pres n (ptrim (a ++ b).data.toList) (⟨#[49]⟩ ++ zeros b.size) =
      if n = true ∧ dval (a.data.toList ++ b.data.toList) = 0 then (4, 0) else if a.size + b.size ≤ 200 then (0, ((if n then -((dval (a.data.toList ++ b.data.toList) : Nat) : Int) else ((dval (a.data.toList ++ b.data.toList) : Nat) : Int) : Int) : Rat) / (((10 ^ b.size : Nat) : Int) : Rat)) else (3, 0) := by
  have hall : dall (a ++ b).data.toList := by
    rw [data_app]
    intro c hc
    rcases List.mem_append.1 hc with h | h
    · exact isNum_dall ha c h
    · exact hd c h
  have hs := point_sizes (b := b) ha
  unfold pres
  rw [ptrim_val, den_val, data_app]
  rw [data_app] at hall hs
  by_cases h1 : n = true ∧ dval (a.data.toList ++ b.data.toList) = 0
  · rw [if_pos h1, if_neg]
    rintro ⟨_, _, _, h⟩
    rcases h with h | h
    · rw [h1.1] at h; cases h
    · exact h ((ptrim_zero hall).2 h1.2)
  · have hx : n = false ∨ ptrim (a.data.toList ++ b.data.toList) ≠ ⟨#[48]⟩ := by
      cases n with
      | false => exact .inl rfl
      | true => exact .inr (fun e => h1 ⟨rfl, (ptrim_zero hall).1 e⟩)
    rw [if_neg h1, if_pos ⟨ptrim_num hall, den_num _, den_not _, hx⟩]
    by_cases h2 : a.size + b.size ≤ 200
    · rw [if_pos h2, if_pos (hs.2 h2)]
    · rw [if_neg h2, if_neg (fun h => h2 (hs.1 h))]
theorem dall_not {l : List UInt8} (h : dall l) (c : UInt8) (hc : c.toNat < 48 ∨ 57 < c.toNat) : ∀ x ∈ l, x ≠ c := by
  rintro x hx rfl
  have := h x hx
  omega
theorem psplit_point {a b s : ByteArray} (ha : isNum a) (hb : b.size ≠ 0) (hd : dall b.data.toList) (e : s.data.toList = a.data.toList ++ 46 :: b.data.toList) : psplit s = (ptrim (a ++ b).data.toList, ⟨#[49]⟩ ++ zeros b.size) := by
  have h47 : Lib.indexByte s.data.toList 47 = -1 := by
    rw [e]
    refine ix_none (fun x hx => ?_)
    rcases List.mem_append.1 hx with h | h
    · exact num_not ha 47 (by decide) x h
    · rcases List.mem_cons.1 h with rfl | h
      · decide
      · exact dall_not hd 47 (by decide) x h
  have h46 : Lib.indexByte s.data.toList 46 = (a.size : Nat) := by rw [e, size_list]; exact ix_at (num_not ha 46 (by decide))
  unfold psplit
  rw [if_pos h47, if_neg (by rw [h46]; omega), h46]
  obtain ⟨e1, e2⟩ := cut_at e
  simp only [Int.toNat_natCast]
  rw [e1, e2]
  unfold ppt
  rw [if_pos ⟨ha, hb⟩]
theorem pout_point {a b s : ByteArray} (ha : isNum a) (hb : b.size ≠ 0) (hd : dall b.data.toList) (e : s.data.toList = a.data.toList ++ 46 :: b.data.toList) :
    pout s = pres false (ptrim (a ++ b).data.toList) (⟨#[49]⟩ ++ zeros b.size) ∧ pout (⟨#[45]⟩ ++ s) = pres true (ptrim (a ++ b).data.toList) (⟨#[49]⟩ ++ zeros b.size) := by
  have h1 := psplit_point ha hb hd e
  constructor
  · obtain ⟨k1, k2⟩ := prest_no (s := s) (by rw [e]; exact num_first ha)
    unfold pout; rw [k1, k2, h1]
  · obtain ⟨k1, k2⟩ := prest_yes s
    unfold pout; rw [k1, k2, h1]

end Go.Proofs.YthnlmjnfdokdbaaGreatDoor
