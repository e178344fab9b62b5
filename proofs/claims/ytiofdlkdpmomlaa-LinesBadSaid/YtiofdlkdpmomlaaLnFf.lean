/- Lines: what stands between blanks, rune by rune and byte by byte: mathematics alone. -/
import Derived.Test.YtiofdlkdpmomlaaLnM
import Derived.Lib.FieldsP
namespace Go.Proofs.Ytiofdlkdpmomlaa
open Go Go.Proofs Go.RowKit Go.Shelf
set_option linter.unusedVariables false
set_option linter.unusedSimpArgs false
set_option linter.unnecessarySimpa false

namespace Ln
/-- is a rune a blank? -/
def rblank (r : Nat) : Bool := r == 32 || r == 9
theorem decN (n b0 b1 b2 b3 : Nat) (hn : 1 ≤ n) : ((Lib.decodeN n b0 b1 b2 b3).1 < 128 → (Lib.decodeN n b0 b1 b2 b3).2 = 1 ∧ b0 = (Lib.decodeN n b0 b1 b2 b3).1) ∧
    (128 ≤ (Lib.decodeN n b0 b1 b2 b3).1 → 128 ≤ b0 ∧ (2 ≤ (Lib.decodeN n b0 b1 b2 b3).2 → 128 ≤ b1) ∧ (3 ≤ (Lib.decodeN n b0 b1 b2 b3).2 → 128 ≤ b2) ∧ (4 ≤ (Lib.decodeN n b0 b1 b2 b3).2 → 128 ≤ b3) ∧ (Lib.decodeN n b0 b1 b2 b3).2 ≤ 4) ∧
    1 ≤ (Lib.decodeN n b0 b1 b2 b3).2 ∧ (Lib.decodeN n b0 b1 b2 b3).2 ≤ n := by
  by_cases hb : b0 < 128
  · rw [Lib.decodeN_ascii _ _ _ _ _ hb]
    exact ⟨fun _ => ⟨rfl, rfl⟩, fun h => absurd h (by show ¬ 128 ≤ b0; omega), Nat.le_refl _, hn⟩
  · unfold Lib.decodeN
    rw [if_neg hb]
    repeat' split
    all_goals
      refine ⟨fun h => ?_, fun _ => ⟨?_, fun h => ?_, fun h => ?_, fun h => ?_, ?_⟩, ?_, ?_⟩ <;> simp only at * <;> omega
theorem blank_big {c : UInt8} (h : 128 ≤ c.toNat) : blank c = false := by
  unfold blank
  rw [Bool.or_eq_false_iff]
  constructor <;> · rw [beq_eq_false_iff_ne]; rintro rfl; revert h; decide
theorem blank_of (c : UInt8) : blank c = rblank c.toNat := by
  have h : ∀ n, n < 256 → blank (UInt8.ofNat n) = rblank n := by decide +kernel
  have := h c.toNat c.toNat_lt
  rwa [UInt8.ofNat_toNat] at this
/-- what a rune says of its bytes -/
theorem dec_bytes (s : ByteArray) (pos : Nat) (hp : pos < s.size) :
    (rblank (Utf8.decode s pos).1 = true → (Utf8.decode s pos).2 = 1 ∧ blank (s.data.toList.getD pos 0) = true) ∧
    (rblank (Utf8.decode s pos).1 = false → ∀ j, pos ≤ j → j < pos + (Utf8.decode s pos).2 → blank (s.data.toList.getD j 0) = false) ∧
    1 ≤ (Utf8.decode s pos).2 ∧ pos + (Utf8.decode s pos).2 ≤ s.data.toList.length := by
  have hl : s.data.toList.length = s.size := by simp
  have e := Lib.decode_N s pos
  obtain ⟨h1, h2, h3, h4⟩ := decN (s.data.toList.length - pos) (s.data.toList.getD pos 0).toNat (s.data.toList.getD (pos + 1) 0).toNat (s.data.toList.getD (pos + 2) 0).toNat (s.data.toList.getD (pos + 3) 0).toNat (by omega)
  rw [← e] at h1 h2 h3 h4
  clear e
  generalize Utf8.decode s pos = x at *
  obtain ⟨r, k⟩ := x
  simp only at h1 h2 h3 h4 ⊢
  refine ⟨fun h => ?_, fun h j hj hjk => ?_, h3, by omega⟩
  · have hr : r < 128 := by
      unfold rblank at h
      rw [Bool.or_eq_true, beq_iff_eq, beq_iff_eq] at h
      omega
    obtain ⟨a, b⟩ := h1 hr
    exact ⟨a, by rw [blank_of, b]; exact h⟩
  · by_cases hr : r < 128
    · obtain ⟨a, b⟩ := h1 hr
      obtain rfl : j = pos := by omega
      rw [blank_of, b]; exact h
    · obtain ⟨a, b, c, d, f⟩ := h2 (by omega)
      have hc : j = pos ∨ j = pos + 1 ∨ j = pos + 2 ∨ j = pos + 3 := by omega
      rcases hc with rfl | rfl | rfl | rfl
      · exact blank_big a
      · exact blank_big (b (by omega))
      · exact blank_big (c (by omega))
      · exact blank_big (d (by omega))
/-- bytes that are no blanks go on -/
theorem wgo_more : ∀ (a cur t : List UInt8), (∀ c ∈ a, blank c = false) → wgo cur (a ++ t) = wgo (cur ++ a) t
  | [], cur, t, _ => by simp
  | c :: a, cur, t, h => by
    rw [List.cons_append]
    conv => lhs; unfold wgo
    rw [if_neg (by rw [h c (List.mem_cons_self ..)]; simp), wgo_more a (cur ++ [c]) t (fun x hx => h x (List.mem_cons_of_mem _ hx))]
    simp
theorem wend_piece {l : List UInt8} {a pos : Nat} (h : a < pos) (hp : pos ≤ l.length) : wend (Lib.pieceU l a pos) = [Lib.pieceU l a pos] := by
  unfold wend
  rw [if_neg (Lib.pieceU_ne l a pos h hp)]
/-- the pass over the runes -/
theorem spans_words (s : ByteArray) : ∀ (f pos : Nat) (st : Option Nat) (acc : List (Nat × Nat)), s.size ≤ pos + f → pos ≤ s.size → (∀ a, st = some a → a < pos) →
    acc.map (fun p => Lib.pieceU s.data.toList p.1 p.2) ++ wgo (Lib.openPiece s.data.toList st pos) (s.data.toList.drop pos) = (Lib.closeSpans s (Lib.spansFromP rblank s f pos st acc)).map (fun p => Lib.pieceU s.data.toList p.1 p.2) := by
  have hl : s.data.toList.length = s.size := by simp
  have fin : ∀ (pos : Nat) (st : Option Nat) (acc : List (Nat × Nat)), pos = s.size → (∀ a, st = some a → a < pos) → acc.map (fun p => Lib.pieceU s.data.toList p.1 p.2) ++ wgo (Lib.openPiece s.data.toList st pos) (s.data.toList.drop pos) = (Lib.closeSpans s (acc, st)).map (fun p => Lib.pieceU s.data.toList p.1 p.2) := by
    intro pos st acc hp hst
    subst hp
    rw [List.drop_eq_nil_of_le (by rw [hl]; exact Nat.le_refl _)]
    unfold wgo Lib.closeSpans Lib.openPiece
    cases st with
    | none => simp [wend]
    | some a =>
      simp only [List.map_append, List.map_cons, List.map_nil]
      rw [wend_piece (hst a rfl) (by rw [hl]; exact Nat.le_refl _)]
  intro f
  induction f with
  | zero => intro pos st acc h hp hst; exact fin pos st acc (by omega) hst
  | succ f ih =>
    intro pos st acc h hp hst
    by_cases hlt : pos < s.size
    · obtain ⟨d1, d2, d3, d4⟩ := dec_bytes s pos hlt
      unfold Lib.spansFromP
      rw [if_pos hlt]
      obtain ⟨k, hk⟩ : ∃ k, k = (Utf8.decode s pos).2 := ⟨_, rfl⟩
      rw [← hk] at d1 d2 d3 d4 ⊢
      cases hr : rblank (Utf8.decode s pos).1 with
      | true =>
        obtain ⟨k1, hb⟩ := d1 hr
        rw [k1] at d4 ⊢
        have hg : s.data.toList[pos]? = some (s.data.toList.getD pos 0) := by
          rw [List.getD_eq_getElem?_getD, List.getElem?_eq_getElem (by omega)]
          rfl
        have hd : s.data.toList.drop pos = s.data.toList.getD pos 0 :: s.data.toList.drop (pos + 1) := by
          rw [List.drop_eq_getElem_cons (by omega)]
          congr 1
          have := (List.getElem?_eq_some_iff.1 hg).2
          exact this
        rw [hd]
        simp only [if_true]
        conv => lhs; unfold wgo
        rw [if_pos hb]
        cases st with
        | none =>
          have := ih (pos + 1) none acc (by omega) (by omega) (fun a e => by cases e)
          rw [← this]
          simp [Lib.openPiece, wend]
        | some a =>
          have := ih (pos + 1) none (acc ++ [(a, pos)]) (by omega) (by omega) (fun a e => by cases e)
          simp only
          rw [← this]
          unfold Lib.openPiece
          rw [wend_piece (hst a rfl) (by omega)]
          simp
      | false =>
        have hno := d2 hr
        have hsp : s.data.toList.drop pos = (s.data.toList.drop pos).take k ++ s.data.toList.drop (pos + k) := by
          rw [← List.drop_drop, List.take_append_drop]
        have hall : ∀ c ∈ (s.data.toList.drop pos).take k, blank c = false := by
          intro c hc
          obtain ⟨j, hj, rfl⟩ := List.mem_iff_getElem.1 hc
          rw [List.length_take] at hj
          have := hno (pos + j) (by omega) (by omega)
          rw [List.getElem_take, List.getElem_drop]
          rw [List.getD_eq_getElem?_getD, List.getElem?_eq_getElem (by omega)] at this
          exact this
        rw [hsp, wgo_more _ _ _ hall]
        simp only [Bool.false_eq_true, if_false]
        cases st with
        | none =>
          have := ih (pos + k) (some pos) acc (by omega) (by omega) (fun a e => by cases e; omega)
          simp only
          rw [← this]
          simp only [Lib.openPiece, List.nil_append]
          congr 2
          unfold Lib.pieceU
          rw [show pos + k - pos = k by omega]
        | some a =>
          have ha := hst a rfl
          have := ih (pos + k) (some a) acc (by omega) (by omega) (fun a' e => by cases e; omega)
          simp only
          rw [← this]
          unfold Lib.openPiece
          rw [Lib.pieceU_grow _ _ _ _ (by omega)]
    · rw [Lib.spansFromP_end _ _ _ _ _ _ hlt]
      exact fin pos st acc (by omega) hst
/-- what strings.FieldsFunc tells -/
theorem fields_words (s : ByteArray) : (Lib.goFieldsP rblank s).map Value.string = scells (words s.data.toList) := by
  have h := spans_words s s.size 0 none [] (by omega) (by omega) (fun a e => by cases e)
  unfold Lib.goFieldsP Lib.spansOfP
  have e : words s.data.toList = (Lib.closeSpans s (Lib.spansFromP rblank s s.size 0 none [])).map (fun p => Lib.pieceU s.data.toList p.1 p.2) := by
    rw [← h]
    simp [Lib.openPiece, words]
  rw [e]
  unfold scells
  rw [List.map_map, List.map_map]
  congr 1
  funext p
  show Value.string (s.extract p.1 p.2) = scell (Lib.pieceU s.data.toList p.1 p.2)
  rw [lcut]
  rfl
end Ln
end Go.Proofs.Ytiofdlkdpmomlaa
