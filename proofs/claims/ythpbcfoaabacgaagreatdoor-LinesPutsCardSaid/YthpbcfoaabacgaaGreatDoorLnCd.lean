/- Lines: the program's reader: what holds between two lines. -/
import Derived.Test.YthpbcfoaabacgaaGreatDoorLnCc
namespace Go.Proofs.YthpbcfoaabacgaaGreatDoor
open Go Go.Proofs Go.RowKit Go.Shelf
set_option linter.unusedVariables false
set_option linter.unusedSimpArgs false
set_option linter.unnecessarySimpa false

attribute [local go_sem] Oper.semAt_some
set_option maxRecDepth 100000
/-- what holds between two lines: all but what is still to come -/
structure PQ (w : World) (P base : Nat) (kb0 : Value) (W : World) (kb : Value) (cur : List UInt8) (vl : Value) (ls : List (List UInt8)) (vb : Value) (bs : List Bool) : Prop where
  rd : PR W P base kb cur
  tl : SFresh W w.heap.size vl ls
  tb : BFresh W w.heap.size vb bs
  kp : Kp w W (fun b => b = P ∨ kb0.ownBlock = some b)
  lo : Below base w W
  rk : ∀ g, kb.ownBlock = some g → kb0.ownBlock = some g ∨ w.heap.size ≤ g
  n1 : ∀ g, vl.ownBlock = some g → kb.ownBlock = some g → False
  n2 : ∀ g, vl.ownBlock = some g → vb.ownBlock = some g → False
  n3 : ∀ g, vb.ownBlock = some g → kb.ownBlock = some g → False
  pw : P < w.heap.size
  bp : base ≤ P
section
variable {w W w3 : World} {P base : Nat} {kb0 kb kb' : Value} {cur cur' : List UInt8} {vl vl' vb vb' : Value} {ls : List (List UInt8)} {bs : List Bool}
theorem PQ.start (h : PR w P base kb0 cur) (hp : base ≤ P) : PQ w P base kb0 w kb0 cur (.slice none 0 0) [] (.slice none 0 0) [] :=
  ⟨h, SFresh.nil _ _, BFresh.nil _ _, Kp.refl, Below.refl _ _, fun g e => .inl e, fun g e => (by cases e), fun g e => (by cases e), fun g e => (by cases e), h.lt, hp⟩
theorem PQ.size (h : PQ w P base kb0 W kb cur vl ls vb bs) : w.heap.size ≤ W.heap.size := h.kp.1
/-- a call of the reader's -/
theorem PQ.chg (h : PQ w P base kb0 W kb cur vl ls vb bs) (hr : PR w3 P base kb' cur') (hc : Chg W w3 P kb kb') : PQ w P base kb0 w3 kb' cur' vl ls vb bs := by
  have hpw := h.pw
  have hsz := h.size
  have hbp := h.bp
  have hl := World.ownsRow.lt h.tl
  have hb := World.ownsRow.lt h.tb
  have hk := World.ownsRow.lt h.rd.row
  refine ⟨hr, ?_, ?_, ⟨Nat.le_trans hsz hc.size, fun b hb hn => ?_⟩, ⟨hc.os.trans h.lo.os, hc.tape.trans h.lo.tape, hc.output.trans h.lo.output, Nat.le_trans h.lo.size hc.size, fun b hb => ?_⟩, fun g e => ?_, fun g e e2 => ?_, h.n2, fun g e e2 => ?_, h.pw, h.bp⟩
  · refine ⟨h.tl.1, ?_⟩
    rcases h.tl.2 with h2 | ⟨g, cap, cu, e2, hb', hg, hr⟩
    · exact .inl h2
    · refine .inr ⟨g, cap, cu, e2, hb', ?_, hr⟩
      rw [hc.block g (Array.getElem?_eq_some_iff.1 hg).1 (by omega) (fun e => h.n1 g (by rw [e2]; rfl) e)]
      exact hg
  · refine ⟨h.tb.1, ?_⟩
    rcases h.tb.2 with h2 | ⟨g, cap, cu, e2, hb', hg, hr⟩
    · exact .inl h2
    · refine .inr ⟨g, cap, cu, e2, hb', ?_, hr⟩
      rw [hc.block g (Array.getElem?_eq_some_iff.1 hg).1 (by omega) (fun e => h.n3 g (by rw [e2]; rfl) e)]
      exact hg
  · have hn1 : b ≠ P := fun e => hn (.inl e)
    rw [hc.block b (by omega) hn1 (fun e => by
      rcases h.rk b e with h1 | h1
      · exact hn (.inr h1)
      · omega)]
    exact h.kp.2 b hb hn
  · have hbw : b < W.heap.size := by omega
    rw [hc.block b hbw (by omega) (fun e => by have := (hk b e).1; omega)]
    exact h.lo.block b hb
  · rcases hc.own g e with h1 | h1
    · exact h.rk g h1
    · exact .inr (by omega)
  · rcases hc.own g e2 with h1 | h1
    · exact h.n1 g e h1
    · have := (hl g e).2; omega
  · rcases hc.own g e2 with h1 | h1
    · exact h.n3 g e h1
    · have := (hb g e).2; omega
/-- new blocks -/
theorem PQ.below (h : PQ w P base kb0 W kb cur vl ls vb bs) (hb : Below W.heap.size W w3) : PQ w P base kb0 w3 kb cur vl ls vb bs := by
  have hk := hb.block
  refine h.chg ⟨(hk P h.rd.lt).trans h.rd.box, ?_, h.rd.ne⟩ ⟨hb.os, hb.tape, hb.output, hb.size, fun b hlt _ _ => hk b hlt, fun g e => .inl e⟩
  refine ⟨h.rd.row.1, ?_⟩
  rcases h.rd.row.2 with h2 | ⟨g, cap, cu, e2, hb', hg, hr⟩
  · exact .inl h2
  · exact .inr ⟨g, cap, cu, e2, hb', (hk g (Array.getElem?_eq_some_iff.1 hg).1).trans hg, hr⟩
theorem PQ.grownP (h : PQ w P base kb0 W kb cur vl ls vb bs) {row : Option Nat} (hg : W.grownBy w3 row) (hr : ∀ g, row = some g → P ≠ g) : w3.heap[P]? = W.heap[P]? := hg.block P (Nat.lt_of_lt_of_le h.pw h.size) (fun e => hr P e.symm rfl)
/-- a text is put behind -/
theorem PQ.text {b : List UInt8} (o : Obj) (h : PQ w P base kb0 W kb cur vl ls vb bs) (hown : w3.ownsRow w.heap.size 9 1 vl' (ls.length + 1) (scells ls ++ [scell b]))
    (hor : (vl'.ownBlock = vl.ownBlock ∧ (W.alloc o).grownBy w3 vl.ownBlock) ∨ (vl'.ownBlock = some (W.alloc o).heap.size ∧ (W.alloc o).grownBy w3 none)) : PQ w P base kb0 w3 kb cur vl' (ls ++ [b]) vb bs := by
  obtain ⟨row, hg, hr, hv⟩ : ∃ row, (W.alloc o).grownBy w3 row ∧ (∀ g, row = some g → vl.ownBlock = some g) ∧ ∀ g, vl'.ownBlock = some g → vl.ownBlock = some g ∨ W.heap.size < g := by
    rcases hor with ⟨e, hg⟩ | ⟨e, hg⟩
    · exact ⟨_, hg, fun g e => e, fun g e2 => .inl (by rw [← e]; exact e2)⟩
    · exact ⟨none, hg, fun g e => (by cases e), fun g e2 => .inr (by rw [e] at e2; simp at e2; omega)⟩
  have hlo : ∀ g, row = some g → w.heap.size ≤ g := fun g e => (World.ownsRow.lt h.tl g (hr g e)).1
  have hpw := h.pw
  have hsz := h.size
  have hbp := h.bp
  refine ⟨⟨?_, lrow_kept (World.ownsRow.alloc h.rd.row o) hg (fun g e e2 => h.n1 g (hr g e2) e), h.rd.ne⟩, SFresh.snoc hown, lrow_kept (World.ownsRow.alloc h.tb o) hg (fun g e e2 => h.n2 g (hr g e2) e), (h.kp.alloc o).grown hg (fun g e => .inr (hlo g e)), (h.lo.alloc (by omega) o).grown hg (by simp; omega) (fun g e => by have := hlo g e; omega), h.rk, fun g e e2 => ?_, fun g e e2 => ?_, h.n3, h.pw, h.bp⟩
  · rw [hg.block P (by simp; omega) (fun e => by have := hlo P e.symm; omega)]
    exact (Below.heap_alloc W o P (by omega)).trans h.rd.box
  · rcases hv g e with e3 | e3
    · exact h.n1 g e3 e2
    · have := (World.ownsRow.lt h.rd.row g e2).2; omega
  · rcases hv g e with e3 | e3
    · exact h.n2 g e3 e2
    · have := (World.ownsRow.lt h.tb g e2).2; omega
/-- a truth is put behind -/
theorem PQ.truth {b : Bool} (o : Obj) (h : PQ w P base kb0 W kb cur vl ls vb bs) (hown : w3.ownsRow w.heap.size 4 1 vb' (bs.length + 1) (bs.map tcellB ++ [tcellB b]))
    (hor : (vb'.ownBlock = vb.ownBlock ∧ (W.alloc o).grownBy w3 vb.ownBlock) ∨ (vb'.ownBlock = some (W.alloc o).heap.size ∧ (W.alloc o).grownBy w3 none)) : PQ w P base kb0 w3 kb cur vl ls vb' (bs ++ [b]) := by
  obtain ⟨row, hg, hr, hv⟩ : ∃ row, (W.alloc o).grownBy w3 row ∧ (∀ g, row = some g → vb.ownBlock = some g) ∧ ∀ g, vb'.ownBlock = some g → vb.ownBlock = some g ∨ W.heap.size < g := by
    rcases hor with ⟨e, hg⟩ | ⟨e, hg⟩
    · exact ⟨_, hg, fun g e => e, fun g e2 => .inl (by rw [← e]; exact e2)⟩
    · exact ⟨none, hg, fun g e => (by cases e), fun g e2 => .inr (by rw [e] at e2; simp at e2; omega)⟩
  have hlo : ∀ g, row = some g → w.heap.size ≤ g := fun g e => (World.ownsRow.lt h.tb g (hr g e)).1
  have hpw := h.pw
  have hsz := h.size
  have hbp := h.bp
  refine ⟨⟨?_, lrow_kept (World.ownsRow.alloc h.rd.row o) hg (fun g e e2 => h.n3 g (hr g e2) e), h.rd.ne⟩, lrow_kept (World.ownsRow.alloc h.tl o) hg (fun g e e2 => h.n2 g e (hr g e2)), BFresh.snoc hown, (h.kp.alloc o).grown hg (fun g e => .inr (hlo g e)), (h.lo.alloc (by omega) o).grown hg (by simp; omega) (fun g e => by have := hlo g e; omega), h.rk, h.n1, fun g e e2 => ?_, fun g e e2 => ?_, h.pw, h.bp⟩
  · rw [hg.block P (by simp; omega) (fun e => by have := hlo P e.symm; omega)]
    exact (Below.heap_alloc W o P (by omega)).trans h.rd.box
  · rcases hv g e2 with e3 | e3
    · exact h.n2 g e e3
    · have := (World.ownsRow.lt h.tl g e).2; omega
  · rcases hv g e with e3 | e3
    · exact h.n3 g e3 e2
    · have := (World.ownsRow.lt h.rd.row g e2).2; omega
end
/-- the last m of a slice, as the program cuts it -/
theorem back_run (W : World) (a : Option Addr) (n c k : Nat) (hk : k ≤ n) (hc : n ≤ c) : (Instr.slice 42 (.slice a n c) (some (.int .i64 (k : Int))) none none).run Tryz.prog W = .ok (.slice (if c = k then a else a.map (·.add (k * 1))) (n - k) (c - k)) W := by
  rw [run_slice_l W _ a n c Tryz.underlying42 .i64 (k : Int) (by omega) (by omega)]
  obtain ⟨i0, hi0, _, hz1, _⟩ := q_info info_u8L
  have he : Tryz.prog.elem 42 = 5 := by kernel_rfl
  simp [he, sizeOf, typeInfo, hi0, hz1, sliced, Addr.add, Result.andThen]
theorem back_runAt (W : World) (a : Option Addr) (n c k : Nat) (hk : k ≤ n) (hc : n ≤ c) : (Instr.sliceAt 42 (.slice a n c) (some (.int .i64 (k : Int))) none none).run Tryz.prog W = .ok (.slice (if c = k then a else a.map (·.add (k * 1))) (n - k) (c - k)) W := by
  rw [run_sliceAt_slice W _ _ _ _ _ Tryz.underlying42]
  exact back_run W a n c k hk hc
theorem back_rdc {W : World} {a : Option Addr} {c : Nat} {l : List UInt8} (h : RdC W (.slice a l.length c) l.length (bcells l)) (k : Nat) (hk : k ≤ l.length) : RdC W (.slice (if c = k then a else a.map (·.add (k * 1))) (l.length - k) (c - k)) (l.drop k).length (bcells (l.drop k)) := by
  obtain ⟨a0, c0, e, hc, h⟩ := h
  cases e
  have hl : (l.drop k).length = l.length - k := List.length_drop ..
  refine ⟨_, _, by rw [hl], by rw [hl]; omega, fun h0 => ?_⟩
  rw [hl] at h0
  obtain ⟨b, off, rfl, hb, hx⟩ := h (by omega)
  refine ⟨b, off + k, ?_, hb, fun o u hu => ?_⟩
  · rw [if_neg (by omega)]; simp [Addr.add]
  · unfold bcells at *
    rw [List.getElem?_map, List.getElem?_drop] at hu
    have := hx (k + o) u (by rw [List.getElem?_map]; exact hu)
    rw [← this]; congr 2; omega
/-- what has been told, what stands in the box, what is still to come -/
def Told2 (cur0 l : List UInt8) (d : Nat) (cur : List UInt8) (D : List (List UInt8 × Bool)) : Prop :=
  D.length ≤ d ∧ cur.length ≤ cur0.length + d ∧ Ln.lgo cur0 l = (D ++ (Ln.lgo cur (l.drop d)).1, (Ln.lgo cur (l.drop d)).2)
theorem Told2.start (cur0 l : List UInt8) : Told2 cur0 l 0 cur0 [] := ⟨Nat.le_refl _, Nat.le_refl _, by simp⟩
/-- a line is whole at i -/
theorem Told2.line {cur0 l cur : List UInt8} {d i : Nat} {c : UInt8} {D : List (List UInt8 × Bool)} (h : Told2 cur0 l d cur D) (hno : ∀ j x, j < i → (l.drop d)[j]? = some x → (x == 10) = false) (hc : (l.drop d)[i]? = some c) (h10 : (c == 10) = true) :
    Told2 cur0 l (d + (i + 1)) [] (D ++ [Ln.line (cur ++ (l.drop d).take i)]) := by
  obtain ⟨h1, h2, h3⟩ := h
  refine ⟨by rw [List.length_append, List.length_singleton]; omega, by simp, ?_⟩
  have hlt := (List.getElem?_eq_some_iff.1 hc).1
  have hg := (List.getElem?_eq_some_iff.1 hc).2
  have e : l.drop d = (l.drop d).take i ++ c :: l.drop (d + (i + 1)) := by
    conv => lhs; rw [← List.take_append_drop i (l.drop d), List.drop_eq_getElem_cons hlt, hg]
    rw [List.drop_drop]
  rw [h3]
  conv => lhs; rw [e]
  rw [Ln.lgo_append, Ln.lgo_plain _ cur (fun x hx => by
    obtain ⟨j, hj, rfl⟩ := List.mem_iff_getElem.1 hx
    rw [List.length_take] at hj
    refine hno j _ (by omega) ?_
    rw [List.getElem_take, List.getElem?_eq_getElem])]
  simp [Ln.lgo, h10]
/-- no more lines -/
theorem Told2.rest {cur0 l cur : List UInt8} {d : Nat} {D : List (List UInt8 × Bool)} (h : Told2 cur0 l d cur D) (hno : ∀ j x, j < (l.drop d).length → (l.drop d)[j]? = some x → (x == 10) = false) : Ln.lgo cur0 l = (D, cur ++ l.drop d) := by
  obtain ⟨h1, h2, h3⟩ := h
  rw [h3, Ln.lgo_plain _ cur (fun x hx => by
    obtain ⟨j, hj, rfl⟩ := List.mem_iff_getElem.1 hx
    exact hno j _ hj (List.getElem?_eq_getElem hj))]
  simp
end Go.Proofs.YthpbcfoaabacgaaGreatDoor
