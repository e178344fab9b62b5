/- Fractions: a text's first sign among a stroke and a point; what is read of it (mathematics). -/
import Derived.Test.YtimdinmhphihkaaGreatDoorGRmk
import Derived.Test.YtimdinmhphihkaaGreatDoorGGreatP
set_option linter.unusedSimpArgs false
set_option linter.unusedVariables false
namespace Go.Proofs.YtimdinmhphihkaaGreatDoor
open Go Go.Proofs Go.RowKit Go.Shelf Nu

/-- no stroke and no point ahead of K -/
def Clear (s : ByteArray) (K : Nat) : Prop := ∀ j, j < K → bt s j ≠ 47 ∧ bt s j ≠ 46
theorem first_at (s : ByteArray) : ∃ K, K ≤ s.size ∧ Clear s K ∧ (K = s.size ∨ (K < s.size ∧ bt s K = 47) ∨ (K < s.size ∧ bt s K = 46)) := by
  have h : ∀ n, n ≤ s.size → (∃ K, K < n ∧ Clear s K ∧ (bt s K = 47 ∨ bt s K = 46)) ∨ Clear s n := by
    intro n
    induction n with
    | zero => exact fun _ => .inr fun j hj => absurd hj (Nat.not_lt_zero j)
    | succ n ih =>
      intro hn
      rcases ih (by omega) with ⟨K, hK, hc, hb⟩ | hc
      · exact .inl ⟨K, by omega, hc, hb⟩
      · by_cases hb : bt s n = 47 ∨ bt s n = 46
        · exact .inl ⟨n, by omega, hc, hb⟩
        · refine .inr fun j hj => ?_
          rcases Nat.lt_or_ge j n with h | h
          · exact hc j h
          · obtain rfl : j = n := by omega
            exact ⟨fun e => hb (.inl e), fun e => hb (.inr e)⟩
  rcases h s.size (Nat.le_refl _) with ⟨K, hK, hc, hb⟩ | hc
  · rcases hb with hb | hb
    · exact ⟨K, by omega, hc, .inr (.inl ⟨hK, hb⟩)⟩
    · exact ⟨K, by omega, hc, .inr (.inr ⟨hK, hb⟩)⟩
  · exact ⟨s.size, Nat.le_refl _, hc, .inl rfl⟩
theorem list_at {s : ByteArray} {K : Nat} {c : UInt8} (h : K < s.size) (hb : bt s K = c.toNat) : s.data.toList = (s.extract 0 K).data.toList ++ c :: (s.extract (K + 1) s.size).data.toList := by
  have hl : K < s.data.toList.length := by rw [← size_list]; exact h
  rw [ext_take, ext_drop]
  have e : s.data.toList[K] = c := by
    rw [bt_list s hl] at hb
    exact UInt8.toNat_inj.1 hb
  rw [← e]
  rw [List.getElem_cons_drop, List.take_append_drop]
theorem clear_ne {s : ByteArray} {K : Nat} (h : Clear s K) (hK : K ≤ s.size) (c : UInt8) (hc : c = 47 ∨ c = 46) : ∀ x ∈ (s.extract 0 K).data.toList, x ≠ c := by
  intro x hx e
  rw [ext_take] at hx
  obtain ⟨j, hj, rfl⟩ := List.mem_iff_getElem.1 hx
  rw [List.length_take, ← size_list] at hj
  have hl : j < s.data.toList.length := by rw [← size_list]; omega
  have h1 := h j (by omega)
  rw [bt_list s hl] at h1
  rw [List.getElem_take] at e
  rw [e] at h1
  rcases hc with rfl | rfl
  · exact h1.1 rfl
  · exact h1.2 rfl
theorem ext_size0 {s : ByteArray} {K : Nat} (hK : K ≤ s.size) : (s.extract 0 K).size = K := by rw [ByteArray.size_extract]; omega
theorem ext_sizeN (s : ByteArray) (K : Nat) : (s.extract (K + 1) s.size).size = s.size - (K + 1) := by rw [ByteArray.size_extract]; omega
theorem ext_all (s : ByteArray) : s.extract 0 s.size = s := by
  apply ext_lit
  rw [ext_take, size_list, List.take_length]
theorem psplit_A {s : ByteArray} (h : Clear s s.size) : psplit s = (s, ⟨#[49]⟩) := by
  have h1 := clear_ne h (Nat.le_refl _) 47 (.inl rfl)
  have h2 := clear_ne h (Nat.le_refl _) 46 (.inr rfl)
  rw [ext_all] at h1 h2
  unfold psplit
  rw [if_pos (ix_none h1), if_pos (ix_none h2)]
theorem psplit_B {s : ByteArray} {K : Nat} (hc : Clear s K) (hK : K < s.size) (hb : bt s K = 47) : psplit s = (s.extract 0 K, s.extract (K + 1) s.size) := by
  have e := list_at (c := 47) hK hb
  have h1 : Lib.indexByte s.data.toList 47 = (K : Nat) := by
    have := ix_at (m := (s.extract (K + 1) s.size).data.toList) (clear_ne hc (by omega) 47 (.inl rfl))
    rw [← e, ← size_list, ext_size0 (by omega)] at this
    exact this
  unfold psplit
  rw [if_neg (by rw [h1]; omega), h1]
  simp only [Int.toNat_natCast]
theorem ix_mem : ∀ {l : List UInt8} {c : UInt8} {i : Nat}, Lib.indexByte l c = (i : Nat) → l[i]? = some c
  | [], c, i, h => by
    have h : (-1 : Int) = (i : Nat) := h
    omega
  | b :: l, c, i, h => by
    unfold Lib.indexByte at h
    by_cases e : (b == c) = true
    · rw [if_pos e] at h
      obtain rfl : i = 0 := by omega
      simp at e
      simp [e]
    · rw [if_neg e] at h
      by_cases e2 : (Lib.indexByte l c == -1) = true
      · rw [if_pos e2] at h; omega
      · rw [if_neg e2] at h
        obtain ⟨k, hk, hl⟩ := ix_lt (l := l) (c := c) (by simpa using e2)
        rw [hk] at h
        obtain rfl : i = k + 1 := by omega
        rw [List.getElem?_cons_succ]
        exact ix_mem hk
theorem pres_not1 {n : Bool} {p q : ByteArray} (h : ¬ isNum p) : pres n p q = (4, 0) := by unfold pres; rw [if_neg (fun k => h k.1)]
theorem pres_not2 {n : Bool} {p q : ByteArray} (h : ¬ isNum q) : pres n p q = (4, 0) := by unfold pres; rw [if_neg (fun k => h k.2.1)]
theorem pres_not3 {n : Bool} {p : ByteArray} : pres n p ⟨#[48]⟩ = (4, 0) := by unfold pres; rw [if_neg (fun k => k.2.2.1 rfl)]
theorem pres_not4 {q : ByteArray} : pres true ⟨#[48]⟩ q = (4, 0) := by unfold pres; rw [if_neg (fun k => by rcases k.2.2.2 with h | h; cases h; exact h rfl)]
theorem empty_num : ¬ isNum ⟨#[]⟩ := by
  intro h
  have := num_pos h
  exact absurd this (by decide)
/-- a text with a point first, that is none of a fraction -/
theorem psplit_C_not {s : ByteArray} {K : Nat} (hc : Clear s K) (hK : K < s.size) (hb : bt s K = 46) (n : Bool) (h : ¬ (isNum (s.extract 0 K) ∧ allDig (s.extract (K + 1) s.size))) : pres n (psplit s).1 (psplit s).2 = (4, 0) := by
  have e := list_at (c := 46) hK hb
  have h46 : Lib.indexByte s.data.toList 46 = (K : Nat) := by
    have := ix_at (m := (s.extract (K + 1) s.size).data.toList) (clear_ne hc (by omega) 46 (.inr rfl))
    rw [← e, ← size_list, ext_size0 (by omega)] at this
    exact this
  by_cases h47 : Lib.indexByte s.data.toList 47 = -1
  · have e2 : psplit s = ppt (s.extract 0 K) (s.extract (K + 1) s.size) := by
      unfold psplit
      rw [if_pos h47, if_neg (by rw [h46]; omega), h46]
      simp only [Int.toNat_natCast]
    rw [e2]
    unfold ppt
    by_cases h1 : isNum (s.extract 0 K) ∧ (s.extract (K + 1) s.size).size ≠ 0
    · rw [if_pos h1]
      refine pres_not1 fun hn => h ⟨h1.1, ?_⟩
      have := ptrim_not hn
      rw [data_app] at this
      exact ⟨dall_bt.1 (fun c hc => this c (List.mem_append_right _ hc)), Nat.pos_of_ne_zero h1.2⟩
    · rw [if_neg h1]
      exact pres_not1 empty_num
  · obtain ⟨j, hj, hl⟩ := ix_lt h47
    have e2 : (psplit s).1 = s.extract 0 j := by
      unfold psplit
      rw [if_neg h47, hj]
      simp only [Int.toNat_natCast]
    refine pres_not1 fun hn => ?_
    rw [e2] at hn
    rw [← size_list] at hl
    have hm := ix_mem hj
    have hjl : j < s.data.toList.length := by rw [← size_list]; exact hl
    rw [List.getElem?_eq_getElem hjl] at hm
    have hbj : bt s j = 47 := by rw [bt_list s hjl, Option.some.inj hm]; rfl
    have hlt : K < j := by
      rcases Nat.lt_trichotomy j K with h | h | h
      · exact absurd hbj (hc j h).1
      · rw [h, hb] at hbj; cases hbj
      · exact h
    have := hn.1 K (by rw [ext_size0 (by omega)]; exact hlt)
    have hb2 : bt (s.extract 0 j) K = 46 := by
      have hl2 : K < (s.extract 0 j).data.toList.length := by rw [← size_list, ext_size0 (by omega)]; exact hlt
      rw [bt_list _ hl2]
      simp only [ext_take]
      rw [List.getElem_take, ← bt_list s (by rw [← size_list]; exact hK)]
      exact hb
    omega
theorem psplit_C {s : ByteArray} {K : Nat} (hK : K < s.size) (hb : bt s K = 46) (h1 : isNum (s.extract 0 K)) (h2 : allDig (s.extract (K + 1) s.size)) : psplit s = (ptrim (s.extract 0 K ++ s.extract (K + 1) s.size).data.toList, ⟨#[49]⟩ ++ zeros (s.extract (K + 1) s.size).size) :=
  psplit_point h1 (by have := h2.2; omega) (dall_bt.2 h2.1) (list_at (c := 46) hK hb)
/-- all bytes are noughts -/
def allNought (s : ByteArray) : Prop := ∀ j, j < s.size → bt s j = 48
theorem nought_list {s : ByteArray} : allNought s ↔ ∀ c ∈ s.data.toList, c = 48 := by
  unfold allNought
  rw [size_list]
  constructor
  · intro h c hc
    obtain ⟨j, hj, rfl⟩ := List.mem_iff_getElem.1 hc
    have := h j hj
    rw [bt_list s hj] at this
    exact UInt8.toNat_inj.1 this
  · intro h j hj
    rw [bt_list s hj, h _ (List.getElem_mem hj)]; rfl
theorem dval_noughts {l : List UInt8} (h : dall l) : dval l = 0 ↔ ∀ c ∈ l, c = 48 := by
  rw [← lead_nil]
  constructor
  · intro e
    cases k : Lib.trimLeftB l 48 with
    | nil => rfl
    | cons c t =>
      have h0 := lead_head k
      have h1 := lead_all h
      rw [k] at h1
      have := dpos (t := t) (h1 c (List.mem_cons_self ..)).1 h0
      rw [← k, trim_dval, e] at this
      omega
  · intro e
    rw [← trim_dval, e]; rfl
theorem noughts_dval {a b : ByteArray} (ha : isNum a) (hb : allDig b) : (allNought a ∧ allNought b) ↔ dval (a.data.toList ++ b.data.toList) = 0 := by
  rw [dval_noughts (fun c hc => by
    rcases List.mem_append.1 hc with h | h
    · exact isNum_dall ha c h
    · exact dall_bt.2 hb.1 c h), nought_list, nought_list]
  exact ⟨fun h c hc => (List.mem_append.1 hc).elim (h.1 c) (h.2 c), fun h => ⟨fun c hc => h c (List.mem_append_left _ hc), fun c hc => h c (List.mem_append_right _ hc)⟩⟩
theorem zeros_succ (n : Nat) : zeros n ++ ⟨#[48]⟩ = zeros (n + 1) := by
  apply ext_lit
  rw [data_app]
  show Lib.repeatL [48] n ++ [48] = [48] ++ Lib.repeatL [48] n
  induction n with
  | zero => rfl
  | succ n ih =>
    show ([48] ++ Lib.repeatL [48] n) ++ [48] = [48] ++ ([48] ++ Lib.repeatL [48] n)
    rw [List.append_assoc, ih]
theorem den_succ (n : Nat) : (⟨#[49]⟩ ++ zeros n) ++ ⟨#[48]⟩ = (⟨#[49]⟩ ++ zeros (n + 1) : ByteArray) := by
  rw [← zeros_succ]; apply ext_lit; simp
theorem den_zero : (⟨#[49]⟩ ++ zeros 0 : ByteArray) = ⟨#[49]⟩ := by apply ext_lit; rw [one_zeros]; rfl
theorem hyphen_no {s : ByteArray} (h : s.size = 0 ∨ bt s 0 ≠ 45) : pneg s = false ∧ prest s = s := by
  refine prest_no ?_
  cases e : s.data.toList with
  | nil => rfl
  | cons c t =>
    rcases h with h | h
    · rw [size_list, e] at h; simp at h
    · rw [bt_list s (by rw [e]; simp)] at h
      simp only [e] at h
      rw [List.getElem_cons_zero] at h
      have h2 : (45 == c) = false := beq_eq_false_iff_ne.2 (fun k => h (by rw [← k]; rfl))
      simp [Lib.hasPrefix, List.isPrefixOf, h2]
theorem hyphen_yes {s : ByteArray} (h0 : 0 < s.size) (h : bt s 0 = 45) : pneg s = true ∧ prest s = s.extract 1 s.size := by
  have e := list_at (c := 45) h0 h
  have e2 : s = ⟨#[45]⟩ ++ s.extract (0 + 1) s.size := by
    apply ext_lit
    rw [data_app]
    rw [ext_take] at e
    exact e
  obtain ⟨h1, h2⟩ := prest_yes (s.extract (0 + 1) s.size)
  rw [← e2] at h1 h2
  exact ⟨h1, h2⟩

end Go.Proofs.YtimdinmhphihkaaGreatDoor
