/- Parts in a block that is written: what stands ahead of them and behind them stays. -/
import Derived.Test.YtmbnojkciikobaaGreatDoorKeep
namespace Go.Proofs.YtmbnojkciikobaaGreatDoor
open Go Go.Proofs Go.RowKit Go.Shelf Nu

/-- Block g holds pre, then the parts l, then post. -/
def Blk (W : World) (g : Nat) (pre : List Value) (l : List Nat) (post : List Value) : Prop := W.heap[g]? = some (.cells (pre ++ l.map u32v ++ post).toArray 78 (0, 0))

theorem Blk.lt {W : World} {g : Nat} {pre post : List Value} {l : List Nat} (h : Blk W g pre l post) : g < W.heap.size := (Array.getElem?_eq_some_iff.1 h).1
theorem Blk.cell {W : World} {g : Nat} {pre post : List Value} {l : List Nat} (h : Blk W g pre l post) {o : Nat} (ho : pre.length = o) (j : Nat) (hj : j < l.length) : W.cell? ⟨g, o + j, none⟩ = some (.int .u32 (l.getD j 0 : Nat)) := by
  subst ho
  have e : (pre ++ l.map u32v ++ post).toArray[pre.length + j]? = some (.int .u32 (l.getD j 0 : Nat)) := by
    rw [List.getElem?_toArray, List.append_assoc, List.getElem?_append_right (by omega), Nat.add_sub_cancel_left, List.getElem?_append_left (by simpa using hj), List.getElem?_map, List.getElem?_eq_getElem hj]
    simp [u32v, List.getD_eq_getElem?_getD, List.getElem?_eq_getElem hj]
  unfold World.cell?
  rw [show W.heap[g]? = _ from h]
  simpa using e
theorem Blk.frozen {W : World} {g : Nat} {pre post : List Value} {l : List Nat} (h : Blk W g pre l post) (o : Nat) : W.frozen? ⟨g, o, none⟩ = false := by
  unfold World.frozen?
  rw [show W.heap[g]? = _ from h]
  simp
theorem Blk.set {W : World} {g : Nat} {pre post : List Value} {l : List Nat} (h : Blk W g pre l post) {o : Nat} (ho : pre.length = o) (j x : Nat) (hj : j < l.length) : Blk (W.setCell ⟨g, o + j, none⟩ (.int .u32 (x : Int))) g pre (l.set j x) post := by
  subst ho
  obtain ⟨hlt, hk⟩ := Array.getElem?_eq_some_iff.1 h
  show (W.heap.modify g _)[g]? = _
  rw [Array.getElem?_eq_getElem (by rw [Array.size_modify]; exact hlt), Array.getElem_modify_self, hk]
  simp only [Option.isSome_none, Bool.false_eq_true, if_false, List.setIfInBounds_toArray, Option.some.injEq, Obj.cells.injEq, and_true]
  congr 1
  rw [List.append_assoc, List.set_append_right _ _ (by omega), Nat.add_sub_cancel_left, List.set_append_left _ _ (by simpa using hj), List.append_assoc, List.map_set]
  rfl
theorem Blk.kept {W W' : World} {g : Nat} {pre post : List Value} {l : List Nat} {row : Option Nat} (h : Blk W g pre l post) (hg : W.grownBy W' row) (hne : some g ≠ row) : Blk W' g pre l post := (hg.block g h.lt hne).trans h
theorem Blk.box {W : World} {g B : Nat} {pre post : List Value} {l : List Nat} (h : Blk W g pre l post) (hne : g ≠ B) (u : Value) : Blk (W.setCell ⟨B, 0, none⟩ u) g pre l post := h.kept (grownBy_setCell' W B u) (fun e => hne (by cases e; rfl))
theorem Blk.alloc {W : World} {g : Nat} {pre post : List Value} {l : List Nat} (h : Blk W g pre l post) (o : Obj) : Blk (W.alloc o) g pre l post := h.kept (World.grownBy_alloc W o none) (by simp)
theorem Blk.keep {W W' : World} {M g : Nat} {row : Option Nat} {pre post : List Value} {l : List Nat} (h : Blk W g pre l post) (hg : W.grownBy W' row) (hr : OffCells M row W) : Blk W' g pre l post :=
  h.kept hg fun e => by
    obtain ⟨_, o, ho, hc⟩ := hr g e.symm
    rw [show W.heap[g]? = _ from h] at ho; cases ho; cases hc
theorem Blk.split {W : World} {g : Nat} {pre post : List Value} {a b c : List Nat} : Blk W g pre (a ++ b ++ c) post ↔ Blk W g (pre ++ a.map u32v) b (c.map u32v ++ post) := by
  unfold Blk; simp [List.append_assoc]
theorem Blk.reads {W : World} {g : Nat} {pre post : List Value} {l : List Nat} (h : Blk W g pre l post) {o cap : Nat} (ho : pre.length = o) (hc : l.length ≤ cap) : Reads W (.slice (some ⟨g, o, none⟩) l.length cap) l :=
  .inr (.inl ⟨g, o, cap, rfl, h.lt, hc, fun j hj => h.cell ho j hj⟩)

/-- a world that is another one but for new blocks and block g -/
theorem grown_setCell {w W : World} {g : Nat} (h : w.grownBy W (some g)) (o : Nat) (v : Value) : w.grownBy (W.setCell ⟨g, o, none⟩ v) (some g) :=
  ⟨h.os, h.tape, h.output, by simpa using h.size, fun k hk hne => (Below.heap_setCell W ⟨g, o, none⟩ v k (fun e => hne (by rw [e]))).trans (h.block k hk hne)⟩
theorem grown_box {w W : World} {g B : Nat} (h : w.grownBy W (some g)) (hB : w.heap.size ≤ B) (v : Value) : w.grownBy (W.setCell ⟨B, 0, none⟩ v) (some g) :=
  ⟨h.os, h.tape, h.output, by simpa using h.size, fun k hk hne => (Below.heap_setCell W ⟨B, 0, none⟩ v k (by simp; omega)).trans (h.block k hk hne)⟩
theorem grown_alloc {w W : World} {g : Nat} (h : w.grownBy W (some g)) (o : Obj) : w.grownBy (W.alloc o) (some g) :=
  ⟨h.os, h.tape, h.output, by have := h.size; simp; omega, fun k hk hne => (Below.heap_alloc W o k (Nat.lt_of_lt_of_le hk h.size)).trans (h.block k hk hne)⟩
theorem grown_keep {w W W' : World} {g M : Nat} {row : Option Nat} (h : w.grownBy W (some g)) (hM : w.heap.size ≤ M) (hg : W.grownBy W' row) (hr : OffCells M row W) : w.grownBy W' (some g) :=
  ⟨hg.os.trans h.os, hg.tape.trans h.tape, hg.output.trans h.output, Nat.le_trans h.size hg.size, fun k hk hne => (hg.block k (Nat.lt_of_lt_of_le hk h.size) (fun e => by have := (hr k e.symm).1; omega)).trans (h.block k hk hne)⟩
theorem grown_below {w W W' : World} {g : Nat} (h : w.grownBy W (some g)) (hb : Below W.heap.size W W') : w.grownBy W' (some g) :=
  ⟨hb.os.trans h.os, hb.tape.trans h.tape, hb.output.trans h.output, Nat.le_trans h.size hb.size, fun k hk hne => (hb.block k (Nat.lt_of_lt_of_le hk h.size)).trans (h.block k hk hne)⟩
theorem grown_drew {w W : World} {g : Nat} (h : w.grownBy W (some g)) : w.grownBy W.drew (some g) := ⟨h.os, h.tape, h.output, h.size, h.block⟩
theorem grown_refl (w : World) (row : Option Nat) : w.grownBy w row := ⟨rfl, rfl, rfl, Nat.le_refl _, fun _ _ _ => rfl⟩
theorem grown_left {w W : World} {g D : Nat} {o : Obj} (o' : Obj) (h : w.grownBy W (some g)) (hw : w.heap.size ≤ D) (hD : W.heap[D]? = some o) (ho : o.isCells = false) : w.grownBy (W.putObj D o') (some g) :=
  grown_keep h hw (grownBy_putObj' W D o') (offCells_putObj (Nat.le_refl _) hD ho)
theorem Blk.left {W : World} {g D : Nat} {pre post : List Value} {l : List Nat} {o : Obj} (o' : Obj) (h : Blk W g pre l post) (hD : W.heap[D]? = some o) (ho : o.isCells = false) : Blk (W.putObj D o') g pre l post :=
  h.keep (M := 0) (grownBy_putObj' W D o') (offCells_putObj (Nat.zero_le _) hD ho)
/-- a slice in another block reads as it did -/
theorem Reads.grown {w W : World} {g : Nat} {v : Value} {l : List Nat} (h : Reads w v l) (hg : w.grownBy W (some g)) (hne : v.ownBlock ≠ some g) : Reads W v l := by
  rcases h with h | ⟨b, off, cap, rfl, hb', hc, hl⟩ | h
  rotate_right
  · exact .inr (.inr h)
  · exact .inl h
  · have hb : b ≠ g := fun e => hne (by simp [Value.ownBlock, e])
    exact .inr (.inl ⟨b, off, cap, rfl, Nat.lt_of_lt_of_le hb' hg.size, hc, fun j hj => (World.cell?_of_block (w := w) (hg.block b hb' (fun e => hb (by cases e; rfl)))).trans (hl j hj)⟩)

theorem boxed_row {W : World} {B g o : Nat} {t : TypeId} {v : Value} (h : Boxed W B t v) (hne : B ≠ g) (u : Value) : Boxed (W.setCell ⟨g, o, none⟩ u) B t v :=
  (Below.heap_setCell W ⟨g, o, none⟩ u B hne).trans h
theorem heap_row {W : World} {D g o : Nat} {ob : Obj} (h : W.heap[D]? = some ob) (hne : D ≠ g) (u : Value) : (W.setCell ⟨g, o, none⟩ u).heap[D]? = some ob :=
  (Below.heap_setCell W ⟨g, o, none⟩ u D hne).trans h
theorem Fresh.blk {W : World} {base g n cap : Nat} {l : List Nat} (h : Fresh W base (.slice (some ⟨g, 0, none⟩) n cap) l) (hn : n = l.length) : ∃ post, Blk W g [] l post ∧ base ≤ g ∧ l.length + post.length = cap ∧ cap ≤ maxLen := by
  subst hn
  rcases h.2 with ⟨h1, _⟩ | ⟨g', cap', cur, e1, hb, hg, hn, hc, hs, ht⟩
  · cases h1
  · simp only [Value.slice.injEq, Option.some.injEq, Addr.mk.injEq, and_true, true_and] at e1
    obtain ⟨rfl, rfl⟩ := e1
    rw [Nat.mul_one] at hs ht
    refine ⟨cur.toList.drop l.length, ?_, hb, by simp; omega, hc⟩
    unfold Blk
    rw [hg, List.nil_append, ← ht, List.take_append_drop]
theorem Blk.fresh {W : World} {base g cap : Nat} {l : List Nat} {post : List Value} (h : Blk W g [] l post) (hb : base ≤ g) (hc : l.length + post.length = cap) (hm : cap ≤ maxLen) : Fresh W base (.slice (some ⟨g, 0, none⟩) l.length cap) l :=
  ⟨by simp, .inr ⟨g, cap, _, rfl, hb, h, by omega, hm, by simp; omega, by simp⟩⟩

end Go.Proofs.YtmbnojkciikobaaGreatDoor
