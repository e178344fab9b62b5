/- Lines: the document's Put. -/
import Derived.Test.YthpbcfoaabacgaaGreatDoorLnBd
namespace Go.Proofs.YthpbcfoaabacgaaGreatDoor
open Go Go.Proofs Go.RowKit Go.Shelf

attribute [local go_sem] Oper.semAt_some
set_option maxRecDepth 100000
/-- what holds between two bytes that came -/
structure PS (w : World) (P base : Nat) (rb0 : Value) (W : World) (rb : Value) (cur : List UInt8) (vl : Value) (ls : List (List UInt8)) (vb : Value) (bs : List Bool) : Prop where
  rd : DR W P base rb cur
  tl : SFresh W w.heap.size vl ls
  tb : BFresh W w.heap.size vb bs
  kp : Kp w W (fun b => b = P ∨ rb0.ownBlock = some b)
  lo : Below base w W
  rk : ∀ g, rb.ownBlock = some g → rb0.ownBlock = some g ∨ w.heap.size ≤ g
  n1 : ∀ g, vl.ownBlock = some g → rb.ownBlock = some g → False
  n2 : ∀ g, vl.ownBlock = some g → vb.ownBlock = some g → False
  n3 : ∀ g, vb.ownBlock = some g → rb.ownBlock = some g → False
  pw : P < w.heap.size
  bp : base ≤ P
section
variable {w W w3 : World} {P base : Nat} {rb0 rb rb' : Value} {cur : List UInt8} {vl vl' vb vb' : Value} {ls : List (List UInt8)} {bs : List Bool}
theorem PS.start (h : DR w P base rb0 cur) (hp : base ≤ P) : PS w P base rb0 w rb0 cur (.slice none 0 0) [] (.slice none 0 0) [] :=
  ⟨h, SFresh.nil _ _, BFresh.nil _ _, Kp.refl, Below.refl _ _, fun g e => .inl e, fun g e => (by cases e), fun g e => (by cases e), fun g e => (by cases e), (Array.getElem?_eq_some_iff.1 h.box).1, hp⟩
theorem PS.c0 (h : PS w P base rb0 W rb cur vl ls vb bs) : W.cell? ⟨P, 0, none⟩ = some rb := by rw [cell_of_row W P 0 _ _ _ h.rd.box]; rfl
theorem PS.fr (h : PS w P base rb0 W rb cur vl ls vb bs) : W.frozen? ⟨P, 0, none⟩ = false := frozen_of_row W P 0 _ _ h.rd.box
theorem PS.size (h : PS w P base rb0 W rb cur vl ls vb bs) : w.heap.size ≤ W.heap.size := h.kp.1
/-- a row of the call's own stays where another block is turned -/
theorem row_kept {base e size n : Nat} {W W' : World} {v : Value} {xs : List Value} {row : Option Nat} (h : W.ownsRow base e size v n xs) (hg : W.grownBy W' row) (hn : ∀ g, v.ownBlock = some g → row = some g → False) : W'.ownsRow base e size v n xs := by
  refine World.ownsRow.kept h hg ?_
  cases hv : v.ownBlock with
  | none => exact .inl rfl
  | some g => exact .inr (fun e => hn g hv e.symm)
theorem PS.grownP (h : PS w P base rb0 W rb cur vl ls vb bs) {row : Option Nat} (hg : W.grownBy w3 row) (hr : ∀ g, row = some g → P ≠ g) : w3.heap[P]? = W.heap[P]? := hg.block P (Nat.lt_of_lt_of_le h.pw h.size) (fun e => hr P e.symm rfl)
/-- a text is put behind -/
theorem PS.text {b : List UInt8} (o : Obj) (h : PS w P base rb0 W rb cur vl ls vb bs) (hown : w3.ownsRow w.heap.size 9 1 vl' (ls.length + 1) (scells ls ++ [scell b]))
    (hor : (vl'.ownBlock = vl.ownBlock ∧ (W.alloc o).grownBy w3 vl.ownBlock) ∨ (vl'.ownBlock = some (W.alloc o).heap.size ∧ (W.alloc o).grownBy w3 none)) : PS w P base rb0 w3 rb cur vl' (ls ++ [b]) vb bs := by
  obtain ⟨row, hg, hr, hv⟩ : ∃ row, (W.alloc o).grownBy w3 row ∧ (∀ g, row = some g → vl.ownBlock = some g) ∧ ∀ g, vl'.ownBlock = some g → vl.ownBlock = some g ∨ W.heap.size < g := by
    rcases hor with ⟨e, hg⟩ | ⟨e, hg⟩
    · exact ⟨_, hg, fun g e => e, fun g e2 => .inl (by rw [← e]; exact e2)⟩
    · exact ⟨none, hg, fun g e => (by cases e), fun g e2 => .inr (by rw [e] at e2; simp at e2; omega)⟩
  have hlo : ∀ g, row = some g → w.heap.size ≤ g := fun g e => (World.ownsRow.lt h.tl g (hr g e)).1
  have hpw := h.pw
  have hsz := h.size
  have hbp := h.bp
  refine ⟨⟨?_, row_kept (World.ownsRow.alloc h.rd.row o) hg (fun g e e2 => h.n1 g (hr g e2) e), h.rd.ne⟩, SFresh.snoc hown, row_kept (World.ownsRow.alloc h.tb o) hg (fun g e e2 => h.n2 g (hr g e2) e), (h.kp.alloc o).grown hg (fun g e => .inr (hlo g e)), (h.lo.alloc (by omega) o).grown hg (by simp; omega) (fun g e => by have := hlo g e; omega), h.rk, fun g e e2 => ?_, fun g e e2 => ?_, h.n3, h.pw, h.bp⟩
  · rw [hg.block P (by simp; omega) (fun e => by have := hlo P e.symm; omega)]
    exact (Below.heap_alloc W o P (by omega)).trans h.rd.box
  · rcases hv g e with e3 | e3
    · exact h.n1 g e3 e2
    · have := (World.ownsRow.lt h.rd.row g e2).2; omega
  · rcases hv g e with e3 | e3
    · exact h.n2 g e3 e2
    · have := (World.ownsRow.lt h.tb g e2).2; omega
/-- a truth is put behind -/
theorem PS.truth {b : Bool} (o : Obj) (h : PS w P base rb0 W rb cur vl ls vb bs) (hown : w3.ownsRow w.heap.size 4 1 vb' (bs.length + 1) (bs.map tcellB ++ [tcellB b]))
    (hor : (vb'.ownBlock = vb.ownBlock ∧ (W.alloc o).grownBy w3 vb.ownBlock) ∨ (vb'.ownBlock = some (W.alloc o).heap.size ∧ (W.alloc o).grownBy w3 none)) : PS w P base rb0 w3 rb cur vl ls vb' (bs ++ [b]) := by
  obtain ⟨row, hg, hr, hv⟩ : ∃ row, (W.alloc o).grownBy w3 row ∧ (∀ g, row = some g → vb.ownBlock = some g) ∧ ∀ g, vb'.ownBlock = some g → vb.ownBlock = some g ∨ W.heap.size < g := by
    rcases hor with ⟨e, hg⟩ | ⟨e, hg⟩
    · exact ⟨_, hg, fun g e => e, fun g e2 => .inl (by rw [← e]; exact e2)⟩
    · exact ⟨none, hg, fun g e => (by cases e), fun g e2 => .inr (by rw [e] at e2; simp at e2; omega)⟩
  have hlo : ∀ g, row = some g → w.heap.size ≤ g := fun g e => (World.ownsRow.lt h.tb g (hr g e)).1
  have hpw := h.pw
  have hsz := h.size
  have hbp := h.bp
  refine ⟨⟨?_, row_kept (World.ownsRow.alloc h.rd.row o) hg (fun g e e2 => h.n3 g (hr g e2) e), h.rd.ne⟩, row_kept (World.ownsRow.alloc h.tl o) hg (fun g e e2 => h.n2 g e (hr g e2)), BFresh.snoc hown, (h.kp.alloc o).grown hg (fun g e => .inr (hlo g e)), (h.lo.alloc (by omega) o).grown hg (by simp; omega) (fun g e => by have := hlo g e; omega), h.rk, h.n1, fun g e e2 => ?_, fun g e e2 => ?_, h.pw, h.bp⟩
  · rw [hg.block P (by simp; omega) (fun e => by have := hlo P e.symm; omega)]
    exact (Below.heap_alloc W o P (by omega)).trans h.rd.box
  · rcases hv g e2 with e3 | e3
    · exact h.n2 g e e3
    · have := (World.ownsRow.lt h.tl g e).2; omega
  · rcases hv g e with e3 | e3
    · exact h.n3 g e3 e2
    · have := (World.ownsRow.lt h.rd.row g e2).2; omega
/-- a byte is put behind what is left -/
theorem PS.byte {c : UInt8} (o : Obj) (h : PS w P base rb0 W rb cur vl ls vb bs) (hown : w3.ownsRow base 5 1 rb' (cur.length + 1) (bcells cur ++ [bcell c])) (hg : (W.alloc o).grownBy w3 rb.ownBlock) (hv : ∀ g, rb'.ownBlock = some g → rb.ownBlock = some g ∨ W.heap.size < g) :
    PS w P base rb0 (w3.setCell ⟨P, 0, none⟩ rb') rb' (cur ++ [c]) vl ls vb bs ∧ w3.cell? ⟨P, 0, none⟩ = some rb ∧ w3.frozen? ⟨P, 0, none⟩ = false := by
  have hpw := h.pw
  have hsz := h.size
  have hbp := h.bp
  have hlo : ∀ g, rb.ownBlock = some g → base ≤ g := fun g e => (World.ownsRow.lt h.rd.row g e).1
  have hP : w3.heap[P]? = some (.cells #[rb] 60 (0, 0)) := by
    rw [hg.block P (by simp; omega) (fun e => h.rd.ne e.symm)]
    exact (Below.heap_alloc W o P (by omega)).trans h.rd.box
  have hg2 : w3.grownBy (w3.setCell ⟨P, 0, none⟩ rb') (some P) := kp_set w3 P 0 rb'
  have hr' : rb'.ownBlock ≠ some P := fun e => by
    rcases hv P e with e2 | e2
    · exact h.rd.ne e2
    · omega
  have hown' : w3.ownsRow base 5 1 rb' (cur ++ [c]).length (bcells (cur ++ [c])) := by
    unfold bcells at *
    rw [List.length_append, List.map_append]
    exact hown
  refine ⟨⟨⟨?_, row_kept hown' hg2 (fun g e e2 => hr' (by rw [e, e2])), hr'⟩, row_kept (row_kept (World.ownsRow.alloc h.tl o) hg (fun g e e2 => h.n1 g e e2)) hg2 (fun g e e2 => by have := (World.ownsRow.lt h.tl g e).1; simp at e2; omega), row_kept (row_kept (World.ownsRow.alloc h.tb o) hg (fun g e e2 => h.n3 g e e2)) hg2 (fun g e e2 => by have := (World.ownsRow.lt h.tb g e).1; simp at e2; omega), ((h.kp.alloc o).grown hg (fun g e => ?_)).grown hg2 (fun g e => .inl (.inl (by simpa using e.symm))), ((h.lo.alloc (by omega) o).grown hg (by simp; omega) hlo).grown hg2 (by have := hg.size; simp at this; omega) (fun g e => by simp at e; omega), fun g e => ?_, fun g e e2 => ?_, h.n2, fun g e e2 => ?_, h.pw, h.bp⟩, ?_, ?_⟩
  · have := heap_setCell_same w3 P 0 _ _ rb' hP
    exact this
  · rcases h.rk g e with e2 | e2
    · exact .inl (.inr e2)
    · exact .inr e2
  · rcases hv g e with e2 | e2
    · exact h.rk g e2
    · exact .inr (by omega)
  · rcases hv g e2 with e3 | e3
    · exact h.n1 g e e3
    · have := (World.ownsRow.lt h.tl g e).2; omega
  · rcases hv g e2 with e3 | e3
    · exact h.n3 g e e3
    · have := (World.ownsRow.lt h.tb g e).2; omega
  · rw [cell_of_row w3 P 0 _ _ _ hP]; rfl
  · exact frozen_of_row w3 P 0 _ _ hP
/-- nothing is left -/
theorem PS.reset (h : PS w P base rb0 W rb cur vl ls vb bs) : PS w P base rb0 (W.setCell ⟨P, 0, none⟩ (.slice none 0 0)) (.slice none 0 0) [] vl ls vb bs ∧ RdC (W.setCell ⟨P, 0, none⟩ (.slice none 0 0)) rb cur.length (bcells cur) := by
  have hpw := h.pw
  have hsz := h.size
  have hbp := h.bp
  have hg2 : W.grownBy (W.setCell ⟨P, 0, none⟩ (.slice none 0 0)) (some P) := kp_set W P 0 _
  refine ⟨⟨⟨heap_setCell_same W P 0 _ _ _ h.rd.box, World.ownsRow_nil _ base _ 1, by simp [Value.ownBlock]⟩, row_kept h.tl hg2 (fun g e e2 => by have := (World.ownsRow.lt h.tl g e).1; simp at e2; omega), row_kept h.tb hg2 (fun g e e2 => by have := (World.ownsRow.lt h.tb g e).1; simp at e2; omega), h.kp.grown hg2 (fun g e => .inl (.inl (by simpa using e.symm))), h.lo.grown hg2 (by omega) (fun g e => by simp at e; omega), fun g e => (by cases e), fun g e e2 => (by cases e2), h.n2, fun g e e2 => (by cases e2), h.pw, h.bp⟩, (own_rdc h.rd.row).keptr hg2 ?_⟩
  cases hv : rb.ownBlock with
  | none => exact .inl rfl
  | some g => exact .inr (fun e => h.rd.ne (by rw [hv]; exact e))
end
end Go.Proofs.YthpbcfoaabacgaaGreatDoor
