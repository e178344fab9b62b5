/- Lines: words of a text; lists of texts. -/
import Derived.Test.YthpbcfoaabacgaaGreatDoorBkB
import Derived.Lib.Strings
import Derived.IntWalk
import Derived.Laws.Strings3
import Derived.Laws.DeepStrings4
namespace Go.Proofs.YthpbcfoaabacgaaGreatDoor
open Go Go.Proofs Go.RowKit Go.Shelf
namespace Ln
def blank (c : UInt8) : Bool := c == 32 || c == 9
def wend (cur : List UInt8) : List (List UInt8) := if cur = [] then [] else [cur]
/-- the words of what stands in cur and behind it -/
def wgo : List UInt8 → List UInt8 → List (List UInt8)
  | cur, [] => wend cur
  | cur, c :: t => if blank c then wend cur ++ wgo [] t else wgo (cur ++ [c]) t
def words (l : List UInt8) : List (List UInt8) := wgo [] l
theorem wend_few (cur : List UInt8) : (wend cur).length ≤ 1 := by unfold wend; split <;> simp
theorem wgo_few : ∀ (l cur : List UInt8), (wgo cur l).length ≤ l.length + 1
  | [], cur => by simpa [wgo] using wend_few cur
  | c :: t, cur => by
    have h0 := wend_few cur
    unfold wgo
    split
    · have := wgo_few t []
      simp only [List.length_append, List.length_cons]
      omega
    · have := wgo_few t (cur ++ [c])
      simp only [List.length_cons]
      omega
theorem words_few (l : List UInt8) : (words l).length ≤ l.length + 1 := wgo_few l []
/-- one byte on, within a word -/
theorem go_on {l : List UInt8} {f i : Nat} {c : UInt8} (hf : f ≤ i) (hc : l[i]? = some c) (hb : blank c = false) : wgo ((l.drop f).take (i - f)) (l.drop i) = wgo ((l.drop f).take (i + 1 - f)) (l.drop (i + 1)) := by
  have hlt := (List.getElem?_eq_some_iff.1 hc).1
  have hg := (List.getElem?_eq_some_iff.1 hc).2
  rw [List.drop_eq_getElem_cons hlt, hg]
  have e : (l.drop f).take (i + 1 - f) = (l.drop f).take (i - f) ++ [c] := by
    rw [show i + 1 - f = (i - f) + 1 by omega, List.take_add_one, List.getElem?_drop, show f + (i - f) = i by omega, hc]
    rfl
  rw [e]
  conv => lhs; unfold wgo
  simp [hb]
/-- a blank ends what stands ahead of it -/
theorem go_end {l : List UInt8} {f i : Nat} {c : UInt8} (hc : l[i]? = some c) (hb : blank c = true) : wgo ((l.drop f).take (i - f)) (l.drop i) = wend ((l.drop f).take (i - f)) ++ wgo ((l.drop (i + 1)).take (i + 1 - (i + 1))) (l.drop (i + 1)) := by
  have hlt := (List.getElem?_eq_some_iff.1 hc).1
  have hg := (List.getElem?_eq_some_iff.1 hc).2
  rw [List.drop_eq_getElem_cons hlt, hg]
  conv => lhs; unfold wgo
  simp [hb]
theorem go_last {l : List UInt8} {cur : List UInt8} {i : Nat} (hi : i = l.length) : wgo cur (l.drop i) = wend cur := by
  subst hi
  simp [wgo]
theorem wend_some {l : List UInt8} {f i : Nat} (hf : f < i) (hi : i ≤ l.length) : wend ((l.drop f).take (i - f)) = [(l.drop f).take (i - f)] := by
  unfold wend
  rw [if_neg]
  intro h
  have := congrArg List.length h
  simp at this
  omega
theorem wend_none {l : List UInt8} {f i : Nat} (hf : i ≤ f) : wend ((l.drop f).take (i - f)) = [] := by
  rw [show i - f = 0 by omega]; simp [wend]
end Ln
def scell (b : List UInt8) : Value := .string ⟨b.toArray⟩
def scells (ws : List (List UInt8)) : List Value := ws.map scell
/-- v is a list of texts of the call's own -/
def SFresh (W : World) (base : Nat) (v : Value) (ws : List (List UInt8)) : Prop := W.ownsRow base 9 1 v ws.length (scells ws)
theorem SFresh.nil (W : World) (base : Nat) : SFresh W base (.slice none 0 0) [] := World.ownsRow_nil W base _ 1
theorem SFresh.snoc {W : World} {base : Nat} {v : Value} {ws : List (List UInt8)} {b : List UInt8} (h : W.ownsRow base 9 1 v (ws.length + 1) (scells ws ++ [scell b])) : SFresh W base v (ws ++ [b]) := by
  unfold SFresh scells
  rw [List.length_append, List.map_append]
  exact h
theorem SFresh.mono {W : World} {base base' : Nat} {v : Value} {ws : List (List UInt8)} (h : SFresh W base v ws) (hb : base' ≤ base) : SFresh W base' v ws := by
  refine ⟨h.1, ?_⟩
  rcases h.2 with h | ⟨g, cap, cur, e, hb', hr⟩
  · exact .inl h
  · exact .inr ⟨g, cap, cur, e, Nat.le_trans hb hb', hr⟩
theorem SFresh.below {W W' : World} {base : Nat} {v : Value} {ws : List (List UInt8)} (h : SFresh W base v ws) (hb : Below W.heap.size W W') : SFresh W' base v ws := by
  refine ⟨h.1, ?_⟩
  rcases h.2 with h | ⟨g, cap, cur, e, hb', hg, hr⟩
  · exact .inl h
  · exact .inr ⟨g, cap, cur, e, hb', (hb.block g (Array.getElem?_eq_some_iff.1 hg).1).trans hg, hr⟩
theorem SFresh.form {W : World} {base : Nat} {v : Value} {ws : List (List UInt8)} (h : SFresh W base v ws) : ∃ a c, v = .slice a ws.length c := by
  obtain ⟨a, c, e, _⟩ := own_rdc h; exact ⟨a, c, e⟩
theorem below_drewN {B : Nat} {w W : World} (h : Below B w W) (n : Nat) : Below B w (W.drewN n) := ⟨h.os, h.tape, h.output, h.size, h.block⟩
theorem below_undrewN {B : Nat} {w W : World} {n : Nat} (h : Below B (w.drewN n) W) : Below B w W := ⟨h.os, h.tape, h.output, h.size, h.block⟩
theorem sbelow_or {w W w3 : World} {T sz n : Nat} {v v' : Value} {xs : List Value} (o : Obj) (hb : Below w.heap.size w W) (hO : W.ownsRow w.heap.size T sz v n xs) (hor : (v'.ownBlock = v.ownBlock ∧ (W.alloc o).grownBy w3 v.ownBlock) ∨ (v'.ownBlock = some (W.alloc o).heap.size ∧ (W.alloc o).grownBy w3 none)) : Below w.heap.size w w3 := by
  have hb1 := hb.alloc hb.size o
  rcases hor with ⟨_, h⟩ | ⟨_, h⟩
  · exact hb1.grown h hb1.size (fun k e => (World.ownsRow.lt hO k e).1)
  · exact hb1.grown h hb1.size (fun k e => by cases e)
theorem lsize_list (s : ByteArray) : s.size = s.data.toList.length := by simp
theorem lget_list (s : ByteArray) (k : Nat) (h : k < s.size) : s.data.toList[k]? = some s[k] := by
  rw [List.getElem?_eq_getElem (by simpa using h)]; rfl
theorem lstr_at (s : ByteArray) (k : Nat) (hk : k < s.size) (W : World) : (Instr.index 9 (.string s) (.int .i64 (k : Int))).run Tryz.prog W = .ok (.int .u8 (s[k].toNat : Int)) W := by
  rw [run_index_string _ _ _ _ _ Tryz.underlying9]
  simp [hk]
theorem lcut (s : ByteArray) (p q : Nat) : s.extract p q = ⟨((s.data.toList.drop p).take (q - p)).toArray⟩ := by
  apply ByteArray.ext
  apply Array.toList_inj.1
  have := Lib.extract_toList s p q
  rw [Lib.toList_data] at this
  rw [this]
theorem lslice (s : ByteArray) (p q : Nat) (h : p ≤ q) (hq : q ≤ s.size) (W : World) : (Instr.slice 9 (.string s) (some (.int .i64 (p : Int))) (some (.int .i64 (q : Int))) none).run Tryz.prog W = .ok (.string (s.extract p q)) W := by
  rw [run_slice_string_if W _ _ _ _ _ _ Tryz.underlying9, if_pos ⟨by omega, by omega⟩, if_pos ⟨by omega, by omega⟩, show (p : Int).toNat = p by omega, show (q : Int).toNat = q by omega]
theorem lsliceAt (s : ByteArray) (p q : Nat) (h : p ≤ q) (hq : q ≤ s.size) (W : World) : (Instr.sliceAt 9 (.string s) (some (.int .i64 (p : Int))) (some (.int .i64 (q : Int))) none).run Tryz.prog W = .ok (.string (s.extract p q)) W := by
  rw [run_sliceAt_string W _ _ _ _ _ Tryz.underlying9, run_slice_string_if W _ _ _ _ _ _ Tryz.underlying9, if_pos ⟨by omega, by omega⟩, if_pos ⟨by omega, by omega⟩, show (p : Int).toNat = p by omega, show (q : Int).toNat = q by omega]
end Go.Proofs.YthpbcfoaabacgaaGreatDoor
