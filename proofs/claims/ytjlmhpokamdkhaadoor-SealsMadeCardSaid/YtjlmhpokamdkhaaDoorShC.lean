/- Sums: three numbers taken against each other; rows of values in blocks. -/
import Derived.Test.YtjlmhpokamdkhaaDoorShB
import Derived.Laws.CopyOwn
namespace Go.Proofs.YtjlmhpokamdkhaaDoor
open Go Go.Proofs Go.RowKit Go.Shelf

/-- Block g holds the cells l. -/
def Row (W : World) (g : Nat) (t : TypeId) (l : List Value) : Prop := W.heap[g]? = some (.cells l.toArray t (0, 0))
theorem Row.lt {W : World} {g : Nat} {t : TypeId} {l : List Value} (h : Row W g t l) : g < W.heap.size := (Array.getElem?_eq_some_iff.1 h).1
theorem Row.cell {W : World} {g : Nat} {t : TypeId} {l : List Value} (h : Row W g t l) (j : Nat) (v : Value) (hj : l[j]? = some v) : W.cell? ⟨g, j, none⟩ = some v := by
  unfold World.cell?
  rw [show W.heap[g]? = _ from h]
  simpa using hj
theorem Row.cell' {W : World} {g : Nat} {t : TypeId} {l : List Value} (h : Row W g t l) (j : Nat) (v : Value) (hj : l[j]? = some v) : W.cell? ⟨g, 0 + j, none⟩ = some v := by
  rw [Nat.zero_add]; exact h.cell j v hj
theorem Row.frozen {W : World} {g : Nat} {t : TypeId} {l : List Value} (h : Row W g t l) (o : Nat) : W.frozen? ⟨g, o, none⟩ = false := by
  unfold World.frozen?
  rw [show W.heap[g]? = _ from h]
  simp
theorem Row.below {W W' : World} {B g : Nat} {t : TypeId} {l : List Value} (h : Row W g t l) (hb : Below B W W') (hg : g < B) : Row W' g t l := (hb.block g hg).trans h
theorem Row.alloc {W : World} {g : Nat} {t : TypeId} {l : List Value} (h : Row W g t l) (o : Obj) : Row (W.alloc o) g t l := (Below.heap_alloc W o g h.lt).trans h
theorem Row.drew {W : World} {g : Nat} {t : TypeId} {l : List Value} (h : Row W g t l) : Row W.drew g t l := h
theorem Row.new (W : World) (t : TypeId) (l : List Value) : Row (W.alloc (.cells l.toArray t)) W.heap.size t l := by
  show (W.heap.push _)[W.heap.size]? = _
  simp
theorem Row.new1 (W : World) (o : Obj) (t : TypeId) (l : List Value) : Row ((W.alloc o).alloc (.cells l.toArray t)) (W.heap.size + 1) t l := by
  have := Row.new (W.alloc o) t l; rwa [World.size_alloc] at this
theorem Row.new2 (W : World) (o o1 : Obj) (t : TypeId) (l : List Value) : Row (((W.alloc o).alloc o1).alloc (.cells l.toArray t)) (W.heap.size + 1 + 1) t l := by
  have := Row.new1 (W.alloc o) o1 t l; rwa [World.size_alloc] at this
theorem Row.other {W : World} {g b o : Nat} {t : TypeId} {l : List Value} (h : Row W g t l) (hne : g ≠ b) (v : Value) : Row (W.setCell ⟨b, o, none⟩ v) g t l := (Below.heap_setCell W ⟨b, o, none⟩ v g hne).trans h
theorem heap_n0 (W : World) (c : Array Value) (t : TypeId) : (W.alloc (.cells c t)).heap[W.heap.size]? = some (.cells c t (0, 0)) := by
  show (W.heap.push _)[W.heap.size]? = _
  simp
theorem heap_n1 (W : World) (o : Obj) (c : Array Value) (t : TypeId) : ((W.alloc o).alloc (.cells c t)).heap[W.heap.size + 1]? = some (.cells c t (0, 0)) := by
  have := heap_n0 (W.alloc o) c t; rwa [World.size_alloc] at this
theorem heap_old {W : World} {g : Nat} {x : Obj} (o : Obj) (h : W.heap[g]? = some x) : (W.alloc o).heap[g]? = some x := (Below.heap_alloc W o g (Array.getElem?_eq_some_iff.1 h).1).trans h
theorem heap_b {W W' : World} {B g : Nat} {x : Obj} (h : W.heap[g]? = some x) (hg : g < B) (hb : Below B W W') : W'.heap[g]? = some x := (hb.block g hg).trans h
theorem Row.setRow {W : World} {g : Nat} {t : TypeId} {l : List Value} (h : Row W g t l) (m : List Value) : Row (W.setRow g m.toArray) g t m := by
  obtain ⟨hlt, hk⟩ := Array.getElem?_eq_some_iff.1 h
  show (W.heap.modify g _)[g]? = _
  rw [Array.getElem?_eq_getElem (by rw [Array.size_modify]; exact hlt), Array.getElem_modify_self, hk]
theorem Row.aside {W : World} {g b : Nat} {t : TypeId} {l : List Value} (h : Row W g t l) (hne : g ≠ b) (m : Array Value) : Row (W.setRow b m) g t l := (_root_.Go.setRow_other W b g m hne).trans h
theorem Row.set {W : World} {g : Nat} {t : TypeId} {l : List Value} (h : Row W g t l) (j : Nat) (v : Value) : Row (W.setCell ⟨g, j, none⟩ v) g t (l.set j v) := by
  obtain ⟨hlt, hk⟩ := Array.getElem?_eq_some_iff.1 h
  show (W.heap.modify g _)[g]? = _
  rw [Array.getElem?_eq_getElem (by rw [Array.size_modify]; exact hlt), Array.getElem_modify_self, hk]
  simp only [Option.isSome_none, Bool.false_eq_true, if_false, List.setIfInBounds_toArray]

set_option maxHeartbeats 4000000 in
theorem against3 (a b c : UInt32) (g : Nat) (t : TypeId) (w : World) (h : Row w g t [uv a, uv b, uv c]) :
    Calls Tryd.prog 33 #[.slice (some ⟨g, 0, none⟩) 3 3] w fun e w' => e = .returned (.int .u32 (iu (Sh.x3 a b c))) ∧ w = w' := by
  have c0 := h.cell 0 (uv a) rfl
  have c1 := h.cell 1 (uv b) rfl
  have c2 := h.cell 2 (uv c) rfl
  have f1 : bits .xor .u32 0 (iu a) = iu a := by
    have := iu_xor 0 a
    rwa [show iu 0 = 0 from rfl, UInt32.zero_xor] at this
  have f2 := iu_xor a b
  have f3 := iu_xor (a ^^^ b) c
  clear h
  unfold uv at c0 c1 c2
  unfold Sh.x3
  generalize hA : iu a = A at *
  generalize hB : iu b = B at *
  generalize hC : iu c = C at *
  generalize hD : iu (a ^^^ b) = D at *
  generalize hE : iu (a ^^^ b ^^^ c) = E at *
  clear hA hB hC hD hE
  go_enter Tryd.func33, Tryd.ntmps33
  go_wp2
  go_loop [3, 5, 8] (fun s _ i => (i = .int .i64 0 ∧ s = .int .u32 0) ∨ (i = .int .i64 1 ∧ s = .int .u32 A) ∨ (i = .int .i64 2 ∧ s = .int .u32 D) ∨ (i = .int .i64 3 ∧ s = .int .u32 E)) (fun _ _ i => 3 - (intOf i).toNat)
  case atStart => exact .inl ⟨rfl, rfl⟩
  case round =>
    rcases hrel with ⟨rfl, rfl⟩ | ⟨rfl, rfl⟩ | ⟨rfl, rfl⟩ | ⟨rfl, rfl⟩
    · go_wp2
      go_round
      case rel => exact .inr (.inl ⟨rfl, rfl⟩)
      case measure => simp [intOf]
    · go_wp2
      go_round
      case rel => exact .inr (.inr (.inl ⟨rfl, rfl⟩))
      case measure => simp [intOf]
    · go_wp2
      go_round
      case rel => exact .inr (.inr (.inr ⟨rfl, rfl⟩))
      case measure => simp [intOf]
    · go_wp2
      go_ret
      exact ⟨rfl, rfl⟩
theorem against3_new (a b c : UInt32) (t : TypeId) (W : World) (g : Nat) (hg : g = W.heap.size) :
    Calls Tryd.prog 33 #[.slice (some ⟨g, 0, none⟩) 3 3] (W.alloc (.cells #[.int .u32 (iu a), .int .u32 (iu b), .int .u32 (iu c)] t)) fun e w' => e = .returned (.int .u32 (iu (Sh.x3 a b c))) ∧ W.alloc (.cells #[.int .u32 (iu a), .int .u32 (iu b), .int .u32 (iu c)] t) = w' := by
  subst hg
  exact against3 a b c _ t _ (Row.new W t [uv a, uv b, uv c])

theorem al_cell {W : World} {g i : Nat} {v : Value} (o : Obj) (h : W.cell? ⟨g, i, none⟩ = some v) (hg : g < W.heap.size) : (W.alloc o).cell? ⟨g, i, none⟩ = some v :=
  (World.cell?_of_block (w := W) (Below.heap_alloc W o g hg)).trans h
theorem al_frozen {W : World} {g i : Nat} (o : Obj) (h : W.frozen? ⟨g, i, none⟩ = false) (hg : g < W.heap.size) : (W.alloc o).frozen? ⟨g, i, none⟩ = false := by
  unfold World.frozen? at *
  rw [show (W.alloc o).heap[(⟨g, i, none⟩ : Addr).block]? = W.heap[(⟨g, i, none⟩ : Addr).block]? from Below.heap_alloc W o g hg]
  exact h
theorem lt_alloc {W : World} {g : Nat} (o : Obj) (h : g < W.heap.size) : g < (W.alloc o).heap.size := by simp; omega
theorem getD_some {l : List UInt8} {j : Nat} (h : j < l.length) : (l.map bv)[j]? = some (.int .u8 (ib (l.getD j 0))) := by
  rw [List.getElem?_map, List.getElem?_eq_getElem h, List.getD_eq_getElem?_getD, List.getElem?_eq_getElem h]; rfl
theorem getD_some32 {l : List UInt32} {j : Nat} (h : j < l.length) : (l.map uv)[j]? = some (.int .u32 (iu (l.getD j 0))) := by
  rw [List.getElem?_map, List.getElem?_eq_getElem h, List.getD_eq_getElem?_getD, List.getElem?_eq_getElem h]; rfl
theorem fill_set {l : List Value} {m : Nat} {z v : Value} : (l ++ List.replicate (m + 1) z).set l.length v = (l ++ [v]) ++ List.replicate m z := by
  rw [List.replicate_succ, List.set_append_right _ _ (Nat.le_refl _), Nat.sub_self, List.set_cons_zero, List.append_assoc]; rfl
theorem fill_get {l : List Value} {n m : Nat} {z : Value} (hl : l.length = n) (hm : 0 < m) : (l ++ List.replicate m z)[n]? = some z := by
  rw [List.getElem?_append_right (by omega), hl, Nat.sub_self, List.getElem?_replicate, if_pos hm]
theorem get_left {l r : List Value} {j : Nat} {v : Value} (h : l[j]? = some v) : (l ++ r)[j]? = some v := by
  rw [List.getElem?_append_left (List.getElem?_eq_some_iff.1 h).1]; exact h
theorem heap_cell {W W' : World} {p : Addr} {v : Value} (h : W'.heap = W.heap) (hc : W.cell? p = some v) : W'.cell? p = some v := by
  unfold World.cell? at *; rw [h]; exact hc
theorem heap_frozen {W W' : World} {p : Addr} (h : W'.heap = W.heap) (hc : W.frozen? p = false) : W'.frozen? p = false := by
  unfold World.frozen? at *; rw [h]; exact hc
theorem cell_set {W : World} {g i j : Nat} {x : Value} (v : Value) (hne : i ≠ j) (h : W.cell? ⟨g, i, none⟩ = some x) : (W.setCell ⟨g, j, none⟩ v).cell? ⟨g, i, none⟩ = some x := by
  exact (World.cell?_setCell_other (w := W) (a := ⟨g, j, none⟩) (b := ⟨g, i, none⟩) (v := v) (by intro e; cases e; exact hne rfl)).trans h
/-- the number in a cell -/
def ci (W : World) (g i : Nat) : Int := match W.cell? ⟨g, i, none⟩ with | some (.int .u32 x) => x | _ => 0
theorem ci_of {W : World} {g i : Nat} {x : Int} (h : W.cell? ⟨g, i, none⟩ = some (.int .u32 x)) : W.cell? ⟨g, i, none⟩ = some (.int .u32 (ci W g i)) := by
  unfold ci; rw [h]
theorem frozen_set {W : World} {g i j : Nat} {v : Value} (h : W.frozen? ⟨g, i, none⟩ = false) : (W.setCell ⟨g, j, none⟩ v).frozen? ⟨g, i, none⟩ = false := by
  rw [World.frozen?_setCell]; exact h
/-- what a round reads and writes: two cells of a block, a third one's place -/
def Two3 (W : World) (g i j k : Nat) (x y : Value) : Prop :=
  W.cell? ⟨g, i, none⟩ = some x ∧ W.cell? ⟨g, j, none⟩ = some y ∧ W.cell? ⟨g, k, none⟩ = some (.int .u32 (ci W g k)) ∧ W.frozen? ⟨g, k, none⟩ = false ∧ Hid (g < W.heap.size)
theorem Two3.un {W : World} {g i j k : Nat} {x y : Value} (h : Two3 W g i j k x y) : W.cell? ⟨g, i, none⟩ = some x ∧ W.cell? ⟨g, j, none⟩ = some y ∧ W.cell? ⟨g, k, none⟩ = some (.int .u32 (ci W g k)) ∧ W.frozen? ⟨g, k, none⟩ = false ∧ Hid (g < W.heap.size) := h
theorem Two3.of {W : World} {g i j k : Nat} {x y : Value} (h : W.cell? ⟨g, i, none⟩ = some x ∧ W.cell? ⟨g, j, none⟩ = some y ∧ W.cell? ⟨g, k, none⟩ = some (.int .u32 (ci W g k)) ∧ W.frozen? ⟨g, k, none⟩ = false ∧ Hid (g < W.heap.size)) : Two3 W g i j k x y := h
theorem keepA {W : World} {g i j k : Nat} {x y : Value} (o : Obj) (h : Two3 W g i j k x y) : Two3 (W.alloc o) g i j k x y :=
  ⟨al_cell o h.1 h.2.2.2.2.out, al_cell o h.2.1 h.2.2.2.2.out, ci_of (al_cell o h.2.2.1 h.2.2.2.2.out), al_frozen o h.2.2.2.1 h.2.2.2.2.out, Lib.hid (lt_alloc o h.2.2.2.2.out)⟩
theorem keepB {W : World} {g i j k : Nat} {x y : Value} (v : Int) (hik : i ≠ k) (hjk : j ≠ k) (h : Two3 W g i j k x y) : Two3 (W.setCell ⟨g, k, none⟩ (.int .u32 v)) g i j k x y :=
  ⟨cell_set _ hik h.1, cell_set _ hjk h.2.1, ci_of (World.cell?_setCell_same W _ _ h.2.2.1), frozen_set h.2.2.2.1, Lib.hid (by simpa using h.2.2.2.2.out)⟩
theorem below_drewN {B : Nat} {w W : World} (h : Below B w W) (n : Nat) : Below B w (W.drewN n) := ⟨h.os, h.tape, h.output, h.size, h.block⟩
theorem i64n (n : Nat) (h : n < 9223372036854775808) : IntKind.i64.wrap (n : Int) = (n : Int) := IntWalk.i64_in _ (by omega)
theorem info_w : (Tryd.prog.info? 57).map (·.size) = some 64 := by kernel_rfl
theorem info_n : (Tryd.prog.info? 42).map (·.size) = some 8 := by kernel_rfl
theorem info_b : (Tryd.prog.info? 44).map (·.size) = some 64 := by kernel_rfl
theorem info_s : (Tryd.prog.info? 24).map (·.size) = some 32 := by kernel_rfl
theorem one_uv (l : List UInt32) : ((l.map uv).toArray).all (·.oneCell') = true := by simp [uv, Value.oneCell']
theorem one_bv (l : List UInt8) : ((l.map bv).toArray).all (·.oneCell') = true := by simp [bv, Value.oneCell']
theorem one_bv' (l : List UInt8) : ∀ v ∈ l.map bv, v.oneCell' = true := by simp [bv, Value.oneCell']
end Go.Proofs.YtjlmhpokamdkhaaDoor
