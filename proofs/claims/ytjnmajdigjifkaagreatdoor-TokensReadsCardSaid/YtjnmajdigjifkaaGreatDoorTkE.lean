/- Tokens: tokens in memory. -/
import Derived.Test.YtjnmajdigjifkaaGreatDoorTkD
import Derived.Deep.LoopGhost
import Derived.Deep.RegionHeld3
import Derived.Deep.AppendLies
import Derived.Laws.EntriesVeiled
import Derived.IntWalk
namespace Go.Proofs.YtjnmajdigjifkaaGreatDoor
open Go Go.Proofs Go.RowKit Go.Shelf

def tcell (t : Tk.Tok) : List Value := [.int .u8 (t.kind : Int), .string ⟨t.text.toArray⟩, .int .i64 (t.pos : Int)]
def tcells (ts : List Tk.Tok) : List Value := ts.flatMap tcell
theorem tcells_snoc (ts : List Tk.Tok) (t : Tk.Tok) : tcells (ts ++ [t]) = tcells ts ++ tcell t := by simp [tcells]
theorem tcells_len : ∀ ts : List Tk.Tok, (tcells ts).length = ts.length * 3
  | [] => rfl
  | t :: ts => by
    have := tcells_len ts
    simp [tcells, tcell] at *
    omega
theorem tcells_at : ∀ (ts : List Tk.Tok) (j : Nat) (t : Tk.Tok), ts[j]? = some t → ∀ i, i < 3 → (tcells ts)[j * 3 + i]? = (tcell t)[i]?
  | [], j, t, h, i, hi => by simp at h
  | u :: ts, 0, t, h, i, hi => by
    simp at h; subst h
    simp only [tcells, List.flatMap_cons]
    rw [List.getElem?_append_left (by simp [tcell]; omega)]
    simp
  | u :: ts, j + 1, t, h, i, hi => by
    simp only [tcells, List.flatMap_cons]
    rw [List.getElem?_append_right (by simp [tcell]; omega)]
    have e : (j + 1) * 3 + i - (tcell u).length = j * 3 + i := by simp [tcell]; omega
    rw [e]
    exact tcells_at ts j t (by simpa using h) i hi
theorem info_tok : (Tryz.prog.info? 51).map (fun i => (i.zero, i.size, i.bytes)) = some (some (.agg #[.int .u8 0, .string ⟨#[]⟩, .int .i64 0]), 3, 32) := by kernel_rfl
theorem size_piece : (Tryz.prog.info? 46).map (·.size) = some 2 := by kernel_rfl

/-- v is a slice of the call's own that holds these tokens -/
def TFresh (W : World) (base : Nat) (v : Value) (ts : List Tk.Tok) : Prop := W.ownsRow base 51 3 v ts.length (tcells ts)
theorem TFresh.nil (W : World) (base : Nat) : TFresh W base (.slice none 0 0) [] := World.ownsRow_nil W base _ 3
theorem TFresh.mono {W : World} {base base' : Nat} {v : Value} {l : List Tk.Tok} (h : TFresh W base v l) (hb : base' ≤ base) : TFresh W base' v l := by
  refine ⟨h.1, ?_⟩
  rcases h.2 with h | ⟨g, cap, cur, e, hb', hr⟩
  · exact .inl h
  · exact .inr ⟨g, cap, cur, e, Nat.le_trans hb hb', hr⟩
theorem TFresh.below {W W' : World} {base : Nat} {v : Value} {l : List Tk.Tok} (h : TFresh W base v l) (hb : Below W.heap.size W W') : TFresh W' base v l := by
  refine ⟨h.1, ?_⟩
  rcases h.2 with h | ⟨g, cap, cur, e, hb', hg, hr⟩
  · exact .inl h
  · exact .inr ⟨g, cap, cur, e, hb', (hb.block g (Array.getElem?_eq_some_iff.1 hg).1).trans hg, hr⟩

/-- Block B holds these cells. -/
def BoxN (W : World) (B : Nat) (t : TypeId) (cs : Array Value) : Prop := W.heap[B]? = some (.cells cs t (0, 0))
theorem BoxN.lt {W : World} {B : Nat} {t : TypeId} {cs : Array Value} (h : BoxN W B t cs) : B < W.heap.size := (Array.getElem?_eq_some_iff.1 h).1
theorem BoxN.below {W W' : World} {B n : Nat} {t : TypeId} {cs : Array Value} (h : BoxN W B t cs) (hb : Below n W W') (hn : B < n) : BoxN W' B t cs := (hb.block B hn).trans h

/-- what Read answers -/
def ReadAns (w : World) (ts : List Tk.Tok) (x : Option Nat) (en : Ending) (w' : World) : Prop :=
  match x with
  | none => ∃ v, en = .returned (.tuple #[v, .int .i64 0, .int .i64 0]) ∧ TFresh w' w.heap.size v ts ∧ Below w.heap.size w w'
  | some k => en = .returned (.tuple #[.slice none 0 0, .int .i64 (k : Int), .int .i64 4]) ∧ Below w.heap.size w w'

theorem HasTab.below {w w' : World} {n : Nat} (h : HasTab w) (hb : Below n w w') (hn : 0 < n) : HasTab w' := by
  obtain ⟨t, fr, h⟩ := h
  exact ⟨t, fr, (hb.block _ hn).trans h⟩
theorem HasTab.lt {w : World} (h : HasTab w) : 0 < w.heap.size := by
  obtain ⟨t, fr, h⟩ := h
  exact (Array.getElem?_eq_some_iff.1 h).1

/-! ### which piece stands there -/
theorem word_letter {c : UInt8} {l : List UInt8} (h : wordN (c :: l) ≠ 0) : Tk.letter c = true := by
  simp only [wordN] at h
  by_cases hc : Tk.letter c = true
  · exact hc
  · rw [if_neg hc] at h; exact (h rfl).elim
theorem word_no {c : UInt8} {l : List UInt8} (h : wordN (c :: l) = 0) : Tk.letter c = false := by
  simp only [wordN] at h
  by_cases hc : Tk.letter c = true
  · rw [if_pos hc, Tk.run_pos (by simp [Tk.ofWord, hc])] at h; omega
  · simpa using hc
theorem num_digit {c : UInt8} {l : List UInt8} (h : Tk.numN (c :: l) ≠ 0) : Tk.digit c = true := by
  by_cases hc : Tk.digit c = true
  · exact hc
  · exfalso; apply h
    unfold Tk.numN
    rw [if_pos (Tk.run_zero (by simpa using hc))]
theorem num_no {c : UInt8} {l : List UInt8} (h : Tk.numN (c :: l) = 0) : Tk.digit c = false := by
  by_cases hc : Tk.digit c = true
  · have := Tk.numN_pos (l := l) hc; omega
  · simpa using hc
theorem digit_letter {c : UInt8} (h : Tk.digit c = true) : Tk.letter c = false := by
  have h1 := Tk.digit_lo h
  by_cases hc : Tk.letter c = true
  · have := Tk.letter_lo hc; omega
  · simpa using hc
theorem comm_no {c : UInt8} {l : List UInt8} (h : commN (c :: l) = 0) : c ≠ 35 := by
  rintro rfl
  simp only [commN, if_true] at h
  rw [Tk.run_pos (by decide)] at h; omega
theorem comm_yes {c : UInt8} {l : List UInt8} (h : commN (c :: l) ≠ 0) : c = 35 := by
  simp only [commN] at h
  by_cases hc : c = 35
  · exact hc
  · rw [if_neg hc] at h; exact (h rfl).elim
/-- the sizes of the pieces -/
def pz : Nat → List UInt8 → Nat
  | 0 => Tk.run Tk.blank | 1 => commN | 2 => wordN | 3 => Tk.numN | _ => Tk.signN
theorem pz_le (i : Nat) (l : List UInt8) : pz i l ≤ l.length := by
  match i with
  | 0 => exact Tk.run_le _ _
  | 1 =>
    cases l with
    | nil => exact Nat.le_refl _
    | cons c l =>
      show (if c = 35 then Tk.run Tk.noEnd (c :: l) else 0) ≤ _
      split
      · exact Tk.run_le _ _
      · omega
  | 2 =>
    cases l with
    | nil => exact Nat.le_refl _
    | cons c l =>
      show (if Tk.letter c then Tk.run Tk.ofWord (c :: l) else 0) ≤ _
      split
      · exact Tk.run_le _ _
      · omega
  | 3 => exact Tk.numN_le _
  | _ + 4 => exact Tk.signN_le _
theorem hit_none {i : Nat} {l : List UInt8} {k : Nat} {ts : List Tk.Tok} {x : Option Nat} (hi : i < 2) (hn : pz i l ≠ 0) (h : Tk.Rd l k ts x) : Tk.Rd (l.drop (pz i l)) (k + pz i l) ts x := by
  match i with
  | 0 => exact h.blanks
  | 1 =>
    cases l with
    | nil => exact (hn rfl).elim
    | cons c l =>
      obtain rfl := comm_yes hn
      exact h.of_comment
  | _ + 2 => omega
theorem hit_tok {i : Nat} {l : List UInt8} {k : Nat} {ts : List Tk.Tok} {x : Option Nat} (hi : 2 ≤ i) (h5 : i < 5) (hn : pz i l ≠ 0) (hz : ∀ j, j < i → pz j l = 0) (h : Tk.Rd l k ts x) :
    ∃ ts', ts = ⟨i - 1, l.take (pz i l), k⟩ :: ts' ∧ Tk.Rd (l.drop (pz i l)) (k + pz i l) ts' x := by
  cases l with
  | nil =>
    have := pz_le i ([] : List UInt8)
    simp at this
    exact (hn this).elim
  | cons c l =>
    refine Tk.Rd.of_tok ?_ h
    match i with
    | 0 | 1 => omega
    | 2 =>
      have hl := word_letter (l := l) hn
      show Tk.tokN (c :: l) = some (1, wordN (c :: l))
      simp only [Tk.tokN, wordN, hl, if_true]
    | 3 =>
      have hd := num_digit (l := l) hn
      show Tk.tokN (c :: l) = some (2, Tk.numN (c :: l))
      simp [Tk.tokN, digit_letter hd, hd]
    | 4 =>
      have hl := word_no (l := l) (hz 2 (by omega))
      have hd := num_no (l := l) (hz 3 (by omega))
      show Tk.tokN (c :: l) = some (3, Tk.signN (c :: l))
      have hs : Tk.signN (c :: l) ≠ 0 := hn
      simp [Tk.tokN, hl, hd, hs]
    | _ + 5 => omega
theorem hit_no {l : List UInt8} {k : Nat} {ts : List Tk.Tok} {x : Option Nat} (hl : l ≠ []) (hz : ∀ j, j < 5 → pz j l = 0) (h : Tk.Rd l k ts x) : ts = [] ∧ x = some k := by
  cases l with
  | nil => exact (hl rfl).elim
  | cons c l =>
    refine Tk.Rd.of_bad ?_ ?_ ?_ h
    · have h0 : Tk.run Tk.blank (c :: l) = 0 := hz 0 (by omega)
      by_cases hb : Tk.blank c = true
      · rw [Tk.run_pos hb] at h0; omega
      · simpa using hb
    · exact comm_no (l := l) (hz 1 (by omega))
    · have hw := word_no (l := l) (hz 2 (by omega))
      have hd := num_no (l := l) (hz 3 (by omega))
      have hs : Tk.signN (c :: l) = 0 := hz 4 (by omega)
      simp [Tk.tokN, hw, hd, hs]
end Go.Proofs.YtjnmajdigjifkaaGreatDoor
