/- What stays as it is: boxes and rows of the call's own, beside a loop's record; rows without noughts at their end. -/
import Derived.Test.YtmbnojkciikobaaGreatDoorIter
import Derived.Maps.AppendAt
namespace Go.Proofs.YtmbnojkciikobaaGreatDoor
open Go Go.Proofs Go.RowKit Go.Shelf Nu

def u32v (n : Nat) : Value := .int .u32 (n : Int)

/-- The slice value v owns the parts l, in a block from base on. -/
def Fresh (W : World) (base : Nat) (v : Value) (l : List Nat) : Prop := W.ownsRow base 78 1 v l.length (l.map u32v)

theorem Fresh.nil (W : World) (base : Nat) : Fresh W base (.slice none 0 0) [] := World.ownsRow_nil W base _ 1
theorem Fresh.form {W : World} {base : Nat} {v : Value} {l : List Nat} (h : Fresh W base v l) : (v = .slice none 0 0 ∧ l = []) ∨ ∃ g cap, v = .slice (some ⟨g, 0, none⟩) l.length cap ∧ base ≤ g ∧ g < W.heap.size ∧ l.length ≤ cap ∧ ∀ j, j < l.length → W.cell? ⟨g, 0 + j, none⟩ = some (.int .u32 (l.getD j 0 : Nat)) := by
  have hc := fun (g : Nat) (hg : v.ownBlock = some g) => World.ownsRow.cells h hg
  rcases h.2 with ⟨rfl, h0⟩ | ⟨g, cap, cur, rfl, hb, hg, hn, _⟩
  · exact .inl ⟨rfl, List.eq_nil_of_length_eq_zero h0⟩
  · refine .inr ⟨g, cap, rfl, hb, (Array.getElem?_eq_some_iff.1 hg).1, hn, fun j hj => ?_⟩
    have := hc g rfl j (u32v (l.getD j 0)) (by simp [List.getD_eq_getElem?_getD, List.getElem?_eq_getElem hj])
    rw [Addr.add_lit] at this
    exact this
theorem Fresh.reads {W : World} {base : Nat} {v : Value} {l : List Nat} (h : Fresh W base v l) : Reads W v l := by
  rcases h.form with h | ⟨g, cap, e, _, hg, hn, hc⟩
  · exact .inl h
  · exact .inr (.inl ⟨g, 0, cap, e, hg, hn, hc⟩)
theorem Fresh.mono {W : World} {base base' : Nat} {v : Value} {l : List Nat} (h : Fresh W base v l) (hb : base' ≤ base) : Fresh W base' v l := by
  refine ⟨h.1, ?_⟩
  rcases h.2 with h | ⟨g, cap, cur, e, hg, r⟩
  · exact .inl h
  · exact .inr ⟨g, cap, cur, e, Nat.le_trans hb hg, r⟩
theorem Fresh.below {W W' : World} {base : Nat} {v : Value} {l : List Nat} (h : Fresh W base v l) (hb : Below W.heap.size W W') : Fresh W' base v l := by
  refine ⟨h.1, ?_⟩
  rcases h.2 with h | ⟨g, cap, cur, e, hg, hgb, r⟩
  · exact .inl h
  · exact .inr ⟨g, cap, cur, e, hg, (hb.block g (Array.getElem?_eq_some_iff.1 hgb).1).trans hgb, r⟩

theorem cut_take (l : List Nat) : ∃ m, m ≤ l.length ∧ cut l = l.take m := by
  induction l with
  | nil => exact ⟨0, by simp, rfl⟩
  | cons x l ih =>
    obtain ⟨m, hm, e⟩ := ih
    simp only [cut]
    split
    · exact ⟨0, by simp, by simp⟩
    · exact ⟨m + 1, by simp; omega, by simp [e]⟩

theorem Fresh.trim {W : World} {base g cap : Nat} {l : List Nat} (h : Fresh W base (.slice (some ⟨g, 0, none⟩) l.length cap) l) : Fresh W base (trimV g 0 cap l) (cut l) := by
  obtain ⟨m, hm, e⟩ := cut_take l
  have hl : (l.take m).length = m := by rw [List.length_take]; omega
  unfold trimV
  rw [e, hl]
  by_cases h0 : m = 0
  · subst h0; simpa using Fresh.nil W base
  · rw [if_neg h0]
    refine ⟨by simp, .inr ?_⟩
    rcases h.2 with ⟨h1, _⟩ | ⟨g', cap', cur, e1, hb, hg, hn, hc, hs, ht⟩
    · cases h1
    · simp only [Value.slice.injEq, Option.some.injEq, Addr.mk.injEq, and_true, true_and] at e1
      obtain ⟨rfl, rfl⟩ := e1
      refine ⟨g, cap, cur, by rw [hl], hb, hg, by rw [hl]; omega, hc, hs, ?_⟩
      rw [hl, List.map_take, ← ht, List.take_take]
      congr 1
      omega

theorem Reads.addr {W : World} {a : Option Addr} {n cap : Nat} {l : List Nat} (h : Reads W (.slice a n cap) l) : ∃ b off, (0 < l.length → a = some ⟨b, off, none⟩ ∧ b < W.heap.size) ∧ ∀ j, j < l.length → W.cell? ⟨b, off + j, none⟩ = some (.int .u32 (l.getD j 0 : Nat)) := by
  rcases h with ⟨_, rfl⟩ | ⟨b, off, cap', e, hb, hc, hl⟩ | ⟨_, _, rfl⟩
  rotate_right
  · exact ⟨0, 0, by simp, by simp⟩
  · exact ⟨0, 0, by simp, by simp⟩
  · cases e; exact ⟨b, off, fun _ => ⟨rfl, hb⟩, hl⟩
theorem Reads.block_lt {W : World} {v : Value} {l : List Nat} {g : Nat} (h : Reads W v l) (hg : v.ownBlock = some g) (hl : 0 < l.length) : g < W.heap.size := by
  rcases h with ⟨rfl, _⟩ | ⟨b, off, cap', rfl, hb, _⟩ | ⟨_, _, rfl⟩
  rotate_right
  · simp at hl
  · simp [Value.ownBlock] at hg
  · obtain rfl : b = g := by simpa [Value.ownBlock] using hg
    exact hb
theorem unflip {P : Program} {f : FuncId} {args : Array Value} {w : World} {v : Ending} (h : Calls P f args w fun e w' => e = v ∧ w = w') : Calls P f args w fun e w' => e = v ∧ w' = w := h.mono fun _ _ h => ⟨h.1, h.2.symm⟩
theorem one_new (W : World) (t : TypeId) (x : Value) (n : Nat) (hn : n = W.heap.size) : ∀ j u, [x][j]? = some u → (W.alloc (.cells #[x] t)).cell? ((⟨n, 0, none⟩ : Addr).add j) = some u := by
  subst hn; exact cell_one_new W _ _
theorem small_max {n : Nat} (h : n ≤ 10000000) : n ≤ maxLen := by unfold maxLen; omega
theorem flip {P : Program} {f : FuncId} {args : Array Value} {w : World} {v : Ending} (h : Calls P f args w fun e w' => e = v ∧ w' = w) : Calls P f args w fun e w' => e = v ∧ w = w' := h.mono fun _ _ h => ⟨h.1, h.2.symm⟩

section
variable {W W' : World} {M : Nat} {row : Option Nat}
abbrev OffCells (M : Nat) (row : Option Nat) (W : World) : Prop := ∀ r, row = some r → M ≤ r ∧ ∃ o : Obj, W.heap[r]? = some o ∧ o.isCells = false
theorem keepBox {B : Nat} {t : TypeId} {v : Value} (h : Boxed W B t v) (hg : W.grownBy W' row) (hr : OffCells M row W) : Boxed W' B t v :=
  h.kept hg fun e => by
    obtain ⟨_, o, ho, hc⟩ := hr B e.symm
    rw [show W.heap[B]? = _ from h] at ho; cases ho; cases hc
theorem keepFresh {base : Nat} {v : Value} {l : List Nat} (h : Fresh W base v l) (hg : W.grownBy W' row) (hr : OffCells M row W) : Fresh W' base v l := by
  refine World.ownsRow.kept h hg ?_
  rcases h.2 with ⟨rfl, _⟩ | ⟨g, cap, cur, rfl, _, hgb, _⟩
  · exact .inl rfl
  · refine .inr fun e' => ?_
    obtain ⟨_, o, ho, hc⟩ := hr g (by simpa [Value.ownBlock] using e'.symm)
    rw [hgb] at ho; cases ho; cases hc
theorem keepBelow {w : World} {n₀ : Nat} (h : Below n₀ w W) (hn : n₀ ≤ w.heap.size) (hM : n₀ ≤ M) (hg : W.grownBy W' row) (hr : OffCells M row W) : Below n₀ w W' :=
  h.grown hg (Nat.le_trans hn h.size) fun k e => Nat.le_trans hM (hr k e).1
theorem offCells_putObj {D : Nat} {o : Obj} (hD : M ≤ D) (h : W.heap[D]? = some o) (ho : o.isCells = false) : OffCells M (some D) W := fun r e => by cases e; exact ⟨hD, o, h, ho⟩
end

theorem Fresh.ne_block {W : World} {base : Nat} {v : Value} {l : List Nat} (h : Fresh W base v l) {D : Nat} {o : Obj} (hD : W.heap[D]? = some o) (ho : o.isCells = false) : some D ≠ v.ownBlock := by
  rcases h.2 with ⟨rfl, _⟩ | ⟨g, cap, cur, rfl, _, hgb, _⟩
  · simp [Value.ownBlock]
  · intro e
    obtain rfl : D = g := by simpa [Value.ownBlock] using e
    rw [hgb] at hD; cases hD; cases ho

/-- Behind an append of one part to a slice of the call's own. -/
theorem fresh_append {W w3 : World} {base : Nat} {v v' : Value} {out : List Nat} {z : Int} (d : Nat) {tmp : Obj} (hrow : Fresh W base v out) (hb : base ≤ W.heap.size)
    (hown' : w3.ownsRow base 78 1 v' (out.length + 1) (out.map u32v ++ [.int .u32 z])) (hgrow : (W.alloc tmp).grownBy w3 v.ownBlock) (hz : z = (d : Int)) :
    Fresh w3 base v' (out ++ [d]) ∧ KeepsOthers W w3 ∧ Below base W w3 ∧ (∀ B t u, t ≠ 78 → Boxed W B t u → Boxed w3 B t u) ∧ (∀ (D : Nat) (o : Obj), W.heap[D]? = some o → o.isCells = false → w3.heap[D]? = some o) := by
  have hrow1 : Fresh (W.alloc tmp) base v out := World.ownsRow.alloc hrow tmp
  have hD : ∀ (D : Nat) (o : Obj), W.heap[D]? = some o → o.isCells = false → w3.heap[D]? = some o := fun D o hD ho => by
    have hlt := (Array.getElem?_eq_some_iff.1 hD).1
    have h1 : (W.alloc tmp).heap[D]? = some o := (Below.heap_alloc W tmp D hlt).trans hD
    exact (hgrow.block D (by simp; omega) (hrow1.ne_block h1 ho)).trans h1
  refine ⟨?_, ⟨by have := hgrow.size; simp at this; omega, hD⟩, ?_, ?_, hD⟩
  · unfold Fresh
    rw [List.length_append, List.map_append, List.length_singleton, List.map_singleton, u32v, ← hz]
    exact hown'
  · refine ((Below.refl base W).alloc hb tmp).grown hgrow (by simp; omega) fun j ej => ?_
    rcases hrow.2 with ⟨rfl, _⟩ | ⟨g, cap, cur, rfl, hb', _, _⟩
    · simp [Value.ownBlock] at ej
    · obtain rfl : g = j := by simpa [Value.ownBlock] using ej
      exact hb'
  · intro B t u ht hB
    exact (hB.alloc tmp).kept hgrow (hB.not_row ht hrow)

/-- A store into a box leaves a row as it was. -/
theorem Fresh.box {W : World} {base B : Nat} {v : Value} {l : List Nat} {t : TypeId} {u : Value} (h : Fresh W base v l) (hB : Boxed W B t u) (ht : t ≠ 78) (u' : Value) : Fresh (W.setCell ⟨B, 0, none⟩ u') base v l :=
  World.ownsRow.kept h (grownBy_setCell' W B u') (.inr (hB.not_row ht h).symm)
theorem below_box {B b : Nat} {W W' : World} {t : TypeId} {v : Value} (h : Below B W W') (hb : b < B) (hx : Boxed W b t v) : Boxed W' b t v := (h.block b hb).trans hx
theorem heap_box {W : World} {B D : Nat} {t : TypeId} {u : Value} (hB : Boxed W B t u) (u' : Value) {o : Obj} (h : W.heap[D]? = some o) (ho : o.isCells = false) : (W.setCell ⟨B, 0, none⟩ u').heap[D]? = some o := by
  refine (Below.heap_setCell W ⟨B, 0, none⟩ u' D ?_).trans h
  intro e
  subst e
  rw [show W.heap[_]? = _ from hB] at h; cases h; cases ho

theorem boxed_new1 (w : World) (o : Obj) (t : TypeId) (v : Value) : Boxed ((w.alloc o).alloc (.cells #[v] t)) (w.heap.size + 1) t v := by
  have := Boxed.new (w.alloc o) t v; rwa [World.size_alloc] at this
theorem boxed_new2 (w : World) (o o1 : Obj) (t : TypeId) (v : Value) : Boxed (((w.alloc o).alloc o1).alloc (.cells #[v] t)) (w.heap.size + 1 + 1) t v := by
  have := boxed_new1 (w.alloc o) o1 t v; rwa [World.size_alloc] at this
theorem boxed_new3 (w : World) (o o1 o2 : Obj) (t : TypeId) (v : Value) : Boxed ((((w.alloc o).alloc o1).alloc o2).alloc (.cells #[v] t)) (w.heap.size + 1 + 1 + 1) t v := by
  have := boxed_new2 (w.alloc o) o1 o2 t v; rwa [World.size_alloc] at this
theorem boxed_new4 (w : World) (o o1 o2 o3 : Obj) (t : TypeId) (v : Value) : Boxed (((((w.alloc o).alloc o1).alloc o2).alloc o3).alloc (.cells #[v] t)) (w.heap.size + 1 + 1 + 1 + 1) t v := by
  have := boxed_new3 (w.alloc o) o1 o2 o3 t v; rwa [World.size_alloc] at this
theorem boxed_new5 (w : World) (o o1 o2 o3 o4 : Obj) (t : TypeId) (v : Value) : Boxed ((((((w.alloc o).alloc o1).alloc o2).alloc o3).alloc o4).alloc (.cells #[v] t)) (w.heap.size + 1 + 1 + 1 + 1 + 1) t v := by
  have := boxed_new4 (w.alloc o) o1 o2 o3 o4 t v; rwa [World.size_alloc] at this
theorem Fresh.alloc {W : World} {base : Nat} {v : Value} {l : List Nat} (h : Fresh W base v l) (o : Obj) : Fresh (W.alloc o) base v l := World.ownsRow.alloc h o

theorem trim_fresh {W : World} {base g cap n : Nat} {l : List Nat} (h : Fresh W base (.slice (some ⟨g, 0, none⟩) n cap) l) (hn : n = l.length) (hl : l.length ≤ 1000000) :
    Calls Tryz.prog 66 #[.slice (some ⟨g, 0, none⟩) n cap] W fun e w' => e = .returned (trimV g 0 cap l) ∧ W = w' := by
  subst hn
  rcases h.form with ⟨h1, _⟩ | ⟨g', cap', e1, _, _, hc, hcell⟩
  · cases h1
  · simp only [Value.slice.injEq, Option.some.injEq, Addr.mk.injEq, and_true, true_and] at e1
    obtain ⟨rfl, rfl⟩ := e1
    exact trim_some g 0 cap hl hc hcell
theorem Fresh.trim' {W : World} {base g cap n : Nat} {l : List Nat} (h : Fresh W base (.slice (some ⟨g, 0, none⟩) n cap) l) (hn : n = l.length) (hs : Sm l) : Fresh W base (trimV g 0 cap l) (digs (val l)) := by
  subst hn
  rw [← cut_eq hs]
  exact h.trim
theorem trim_nil (W : World) : Calls Tryz.prog 66 #[.slice none 0 0] W fun e w' => e = .returned (.slice none 0 0) ∧ W = w' := by
  go_enter Tryz.func66, Tryz.ntmps66
  go_wp2
  go_loop [3] (fun s => s = .int .i64 0) (fun _ => 0)
  case atStart => rfl
  case round =>
    subst hrel
    go_wp2
    go_ret
    exact ⟨rfl, rfl⟩
theorem trim_any {W : World} {base : Nat} {v : Value} {l : List Nat} (h : Fresh W base v l) (hl : l.length ≤ 1000000) (hs : Sm l) :
    ∃ a cap v', v = .slice a l.length cap ∧ Fresh W base v' (digs (val l)) ∧ Calls Tryz.prog 66 #[.slice a l.length cap] W fun e w' => e = .returned v' ∧ W = w' := by
  have h0 := h
  rcases h.form with ⟨rfl, rfl⟩ | ⟨g, cap, rfl, _⟩
  · exact ⟨none, 0, .slice none 0 0, rfl, by simpa [val, digs_zero] using Fresh.nil W base, trim_nil W⟩
  · exact ⟨_, cap, _, rfl, h0.trim' rfl hs, trim_fresh h0 rfl hl⟩
/-- .. behind the book-keeping at a function's return -/
theorem Fresh.left {W : World} {base D : Nat} {v : Value} {l : List Nat} {o : Obj} (o' : Obj) (h : Fresh W base v l) (hD : W.heap[D]? = some o) (ho : o.isCells = false) : Fresh (W.putObj D o') base v l :=
  keepFresh (M := 0) h (grownBy_putObj' W D o') (offCells_putObj (Nat.zero_le _) hD ho)
theorem below_left {w W : World} {D : Nat} {o : Obj} (o' : Obj) (h : Below w.heap.size w W) (hw : w.heap.size ≤ D) (hD : W.heap[D]? = some o) (ho : o.isCells = false) : Below w.heap.size w (W.putObj D o') :=
  keepBelow h (Nat.le_refl _) hw (grownBy_putObj' W D o') (offCells_putObj (Nat.le_refl _) hD ho)

theorem info_u32 : (Tryz.prog.info? 78).map (fun i => (i.zero, i.size, i.bytes)) = some (some (.int .u32 0), 1, 4) := by kernel_rfl

set_option maxHeartbeats 400000 in
theorem pairs_any (a b : Option Addr) (n m ca cb : Nat) (w : World) :
    Calls Tryz.prog 65 #[.slice a n ca, .slice b m cb] w fun e w' => e = .returned (.func (.func 137) #[] #[.pointer (some ⟨w.heap.size, 0, none⟩), .pointer (some ⟨w.heap.size + 1, 0, none⟩)]) ∧ w' = (w.alloc (.cells #[.slice a n ca] 23)).alloc (.cells #[.slice b m cb] 23) := by
  go_enter Tryz.func65, Tryz.ntmps65
  go_wp2
  go_ret
  exact ⟨rfl, rfl⟩
theorem all_any (a : Option Addr) (n ca : Nat) (w : World) :
    Calls Tryz.prog 68 #[.slice a n ca] w fun e w' => e = .returned (.func (.func 139) #[] #[.pointer (some ⟨w.heap.size, 0, none⟩)]) ∧ w' = w.alloc (.cells #[.slice a n ca] 23) := by
  go_enter Tryz.func68, Tryz.ntmps68
  go_wp2
  go_ret
  exact ⟨rfl, rfl⟩
theorem back_any (a : Option Addr) (n ca : Nat) (w : World) :
    Calls Tryz.prog 72 #[.slice a n ca] w fun e w' => e = .returned (.func (.func 141) #[] #[.pointer (some ⟨w.heap.size, 0, none⟩)]) ∧ w' = w.alloc (.cells #[.slice a n ca] 23) := by
  go_enter Tryz.func72, Tryz.ntmps72
  go_wp2
  go_ret
  exact ⟨rfl, rfl⟩

theorem then_below {w a b : World} (h : Below w.heap.size w a) (k : Below a.heap.size a b) : Below w.heap.size w b := h.trans (k.mono h.size)

end Go.Proofs.YtmbnojkciikobaaGreatDoor
