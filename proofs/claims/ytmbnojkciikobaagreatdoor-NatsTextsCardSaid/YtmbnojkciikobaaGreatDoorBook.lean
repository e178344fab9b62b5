/- A book of slices of parts: what it holds, and memory of its own. -/
import Derived.Test.YtmbnojkciikobaaGreatDoorBlk
import Derived.Laws.OwnMore
import Derived.Laws.Rows
import Derived.OneCell
import Derived.Maps.AppendAt
namespace Go.Proofs.YtmbnojkciikobaaGreatDoor
open Go Go.Proofs Go.RowKit Go.Shelf Nu

section
variable {P : Program} (w : World)
/-- append to a slice of the call's own: it stays in its row, or it moves, and then what was there stays. -/
theorem run_append_or (base : Nat) (t ty e : TypeId) (i : TypeInfo) (z : Value) (size bytes : Nat) (ht : P.underlying t = some (.slice e)) (hi : P.info? e = some i) (hz : i.zero = some z)
    (hsize : i.size = size) (hby : i.bytes = bytes) (hzs : z.cells.size = size) (hsz : 0 < size)
    (v : Value) (n : Nat) (xs : List Value) (hown : w.ownsRow base e size v n xs)
    (a : Addr) (m c : Nat) (news : List Value) (hl : news.length = m * size) (hnews : ∀ j u, news[j]? = some u → w.cell? (a.add j) = some u) (h1 : ∀ u ∈ news, u.oneCell' = true)
    (h63 : n + m ≤ maxLen) (hbytes : (n + m) * bytes ≤ 140737488355328) (hbase : base ≤ w.heap.size) :
    ∃ v' w', (Builtin.append_ #[t, t] ty #[v, .slice (some a) m c]).run P w = .ok v' w' ∧ w'.ownsRow base e size v' (n + m) (xs ++ news) ∧
      ((v'.ownBlock = v.ownBlock ∧ w.grownBy w' v.ownBlock) ∨ (v'.ownBlock = some w.heap.size ∧ w.grownBy w' none)) := by
  obtain ⟨v1, w1, hr1, h2, h3, _, h5⟩ := run_append_own_at (P := P) w base t ty e i z size bytes ht hi hz hsize hby hzs hsz v n xs hown a m c news hl hnews h1 h63 hbytes hbase
  have hcase := hown.2
  rcases hcase with ⟨rfl, _⟩ | ⟨g, cap, cur, rfl, _, hg, hnc, _⟩
  · rcases h5 with h5 | h5
    · exact ⟨v1, w1, hr1, h2, .inl ⟨h5, h3⟩⟩
    · exact ⟨v1, w1, hr1, h2, .inr ⟨h5, h3⟩⟩
  · by_cases hroom : n + m ≤ cap
    · obtain ⟨w2, hr2, o2, g2⟩ := run_append_fits (P := P) w base t ty e i size ht hi hsize g n cap xs hown a m c news hl hnews h1 hroom
      exact ⟨_, w2, hr2, o2, .inl ⟨rfl, g2⟩⟩
    · have holds : ∀ j u, xs[j]? = some u → w.cell? ((⟨g, 0, none⟩ : Addr).add j) = some u := hown.cells (g := g) rfl
      have hr := run_append_grow (P := P) w t ty e i z ht hi hz ⟨g, 0, none⟩ n cap xs (by rw [hown.1, hsize]) holds a m c news (by rw [hl, hsize]) hnews (by omega) (by simp only [maxLen] at h63; omega) (growslice_fits (by omega) (by rw [hby]; exact hbytes))
      rw [hr] at hr1
      simp only [Result.ok.injEq] at hr1
      obtain ⟨e1, e2⟩ := hr1
      subst e1
      subst e2
      exact ⟨_, _, hr, h2, .inr ⟨rfl, ⟨rfl, rfl, rfl, by simp, fun k hk _ => heap_alloc_old w.drew _ k hk⟩⟩⟩

theorem wpList_append_or {ops : Array Oper} {rest : List Oper} {o : Oper} {a : Act} {Q : Exit → Act → World → Prop} (hgd : o.guard = none) (s x : Operand) (t : TypeId)
    (ho : o.op = .call { callee := .builtin .append, args := #[s, x], argTypes := #[t, t] })
    (base : Nat) (e : TypeId) (i : TypeInfo) (z : Value) (size bytes : Nat) (ht : P.underlying t = some (.slice e)) (hi : P.info? e = some i) (hz : i.zero = some z)
    (hsize : i.size = size) (hby : i.bytes = bytes) (hzs : z.cells.size = size) (hsz : 0 < size)
    (v : Value) (n : Nat) (xs : List Value) (hs : a.eval s = v) (hown : w.ownsRow base e size v n xs)
    (ad : Addr) (m c : Nat) (news : List Value) (hx : a.eval x = .slice (some ad) m c) (hl : news.length = m * size) (hnews : ∀ j u, news[j]? = some u → w.cell? (ad.add j) = some u) (h1 : ∀ u ∈ news, u.oneCell' = true)
    (h63 : n + m ≤ maxLen) (hbytes : (n + m) * bytes ≤ 140737488355328) (hbase : base ≤ w.heap.size)
    (h : ∀ v' w', w'.ownsRow base e size v' (n + m) (xs ++ news) → ((v'.ownBlock = v.ownBlock ∧ w.grownBy w' v.ownBlock) ∨ (v'.ownBlock = some w.heap.size ∧ w.grownBy w' none)) → wpList P ops Q rest (a.put o.dst v') w') :
    wpList P ops Q (o :: rest) a w := by
  refine wpList_plain hgd fun K hK => ?_
  obtain ⟨v', w', hr, h2, h3⟩ := run_append_or (P := P) w base t o.type e i z size bytes ht hi hz hsize hby hzs hsz v n xs hown ad m c news hl hnews h1 h63 hbytes hbase
  unfold Oper.wp execOp
  simp only [ho, resolve, invoke, builtin, Sem.run_bind, Sem.run_pure, Result.andThen_ok, List.map_toArray, List.map_cons, List.map_nil, hs, hx, hr]
  exact hK _ _ (h v' w' h2 h3)
end

/-- the cells of a book that was told n lists, all of parts, which v holds -/
def bcells (n : Nat) (v : Value) : Array Value := #[.int .i64 (n : Int), .slice none 0 0, v, .slice none 0 0, .slice none 0 0, .slice none 0 0, .slice none 0 0, .slice none 0 0, .slice none 0 0, .slice none 0 0, .slice none 0 0, .slice none 0 0, .slice none 0 0]
def BookAt (W : World) (B n : Nat) (v : Value) : Prop := W.heap[B]? = some (.cells (bcells n v) 45 (0, 0))
section
variable {W W' : World} {B n : Nat} {v : Value}
theorem BookAt.lt (h : BookAt W B n v) : B < W.heap.size := (Array.getElem?_eq_some_iff.1 h).1
theorem BookAt.cell (h : BookAt W B n v) (o : Nat) (u : Value) (hu : (bcells n v)[o]? = some u) : W.cell? ⟨B, o, none⟩ = some u := by
  unfold World.cell?; rw [show W.heap[B]? = _ from h]; exact hu
theorem BookAt.fr (h : BookAt W B n v) (o : Nat) : W.frozen? ⟨B, o, none⟩ = false := by
  unfold World.frozen?; rw [show W.heap[B]? = _ from h]; simp
theorem BookAt.kept {row : Option Nat} (h : BookAt W B n v) (hg : W.grownBy W' row) (hne : some B ≠ row) : BookAt W' B n v := (hg.block B h.lt hne).trans h
theorem BookAt.below {N : Nat} (h : BookAt W B n v) (hb : Below N W W') (hN : B < N) : BookAt W' B n v := (hb.block B hN).trans h
theorem BookAt.alloc (h : BookAt W B n v) (o : Obj) : BookAt (W.alloc o) B n v := (Below.heap_alloc W o B h.lt).trans h
theorem BookAt.set (h : BookAt W B n v) (o : Nat) (u : Value) {n' : Nat} {v' : Value} (e : (bcells n v).setIfInBounds o u = bcells n' v') : BookAt (W.setCell ⟨B, o, none⟩ u) B n' v' := by
  obtain ⟨hlt, hk⟩ := Array.getElem?_eq_some_iff.1 h
  show (W.heap.modify B _)[B]? = _
  rw [Array.getElem?_eq_getElem (by rw [Array.size_modify]; exact hlt), Array.getElem_modify_self, hk, ← e]
  rfl
theorem BookAt.setn (h : BookAt W B n v) (n' : Nat) : BookAt (W.setCell ⟨B, 0, none⟩ (.int .i64 (n' : Int))) B n' v := h.set 0 _ rfl
theorem BookAt.setv (h : BookAt W B n v) (v' : Value) : BookAt (W.setCell ⟨B, 2, none⟩ v') B n v' := h.set 2 _ rfl
theorem BookAt.other (h : BookAt W B n v) {B' o : Nat} (hne : B ≠ B') (u : Value) : BookAt (W.setCell ⟨B', o, none⟩ u) B n v := (Below.heap_setCell W ⟨B', o, none⟩ u B hne).trans h
theorem BookAt.new (W : World) : BookAt (W.alloc (.cells (bcells 0 (.slice none 0 0)) 45)) W.heap.size 0 (.slice none 0 0) := World.alloc_heap_new W _
theorem BookAt.c0 (h : BookAt W B n v) : W.cell? ⟨B, 0, none⟩ = some (.int .i64 (n : Int)) := h.cell 0 _ rfl
theorem BookAt.c2 (h : BookAt W B n v) : W.cell? ⟨B, 2, none⟩ = some v := h.cell 2 _ rfl
end

/-- a list with its number, as it is held -/
def hcell (e : Value × Nat) : List Value := [e.1, .slice none 0 0, .int .i64 (e.2 : Int)]
def hcells (es : List (Value × Nat)) : List Value := es.flatMap hcell
theorem hcells_length (es : List (Value × Nat)) : (hcells es).length = es.length * 3 := by
  induction es with
  | nil => rfl
  | cons e es ih => simp only [hcells, List.flatMap_cons, List.length_append, List.length_cons] at ih ⊢; rw [ih]; simp [hcell]; omega
theorem hcells_snoc (es : List (Value × Nat)) (e : Value × Nat) : hcells (es ++ [e]) = hcells es ++ hcell e := by simp [hcells]
theorem hcells_at (es : List (Value × Nat)) (j : Nat) (e : Value × Nat) (h : es[j]? = some e) : (hcells es)[j * 3]? = some e.1 ∧ (hcells es)[j * 3 + 1]? = some (.slice none 0 0) ∧ (hcells es)[j * 3 + 2]? = some (.int .i64 (e.2 : Int)) := by
  induction es generalizing j with
  | nil => simp at h
  | cons x es ih =>
    have e0 : hcells (x :: es) = x.1 :: .slice none 0 0 :: .int .i64 (x.2 : Int) :: hcells es := rfl
    rw [e0]
    cases j with
    | zero => simp at h; subst h; exact ⟨rfl, rfl, rfl⟩
    | succ j =>
      have := ih j (by simpa using h)
      rw [show (j + 1) * 3 = j * 3 + 3 by omega, show j * 3 + 3 + 1 = (j * 3 + 1) + 3 by omega, show j * 3 + 3 + 2 = (j * 3 + 2) + 3 by omega]
      simpa using this
/-- v owns them, from base on -/
def HRow (W : World) (base : Nat) (v : Value) (es : List (Value × Nat)) : Prop := W.ownsRow base 125 3 v es.length (hcells es)
theorem HRow.nil (W : World) (base : Nat) : HRow W base (.slice none 0 0) [] := World.ownsRow_nil W base _ 3

/-- Block h holds the lists V, what was put behind them, G, and their numbers, M. -/
def HAt (W : World) (h N : Nat) (V G : Nat → Value) (M : Nat → Nat) : Prop :=
  (∃ cur e, W.heap[h]? = some (.cells cur e (0, 0))) ∧ ∀ j, j < N → W.cell? ⟨h, j * 3, none⟩ = some (V j) ∧ W.cell? ⟨h, j * 3 + 1, none⟩ = some (G j) ∧ W.cell? ⟨h, j * 3 + 2, none⟩ = some (.int .i64 (M j : Int))
section
variable {W W' : World} {h N : Nat} {V G : Nat → Value} {M : Nat → Nat}
theorem HAt.lt (H : HAt W h N V G M) : h < W.heap.size := by obtain ⟨⟨_, _, e⟩, _⟩ := H; exact (Array.getElem?_eq_some_iff.1 e).1
theorem HAt.fr (H : HAt W h N V G M) (o : Nat) : W.frozen? ⟨h, o, none⟩ = false := by
  obtain ⟨⟨cur, t, e⟩, _⟩ := H
  exact frozen_of_row W h o cur t e
theorem HAt.kept {row : Option Nat} (H : HAt W h N V G M) (hg : W.grownBy W' row) (hne : some h ≠ row) : HAt W' h N V G M := by
  have hlt := H.lt
  have e := hg.block h hlt hne
  refine ⟨?_, fun j hj => ?_⟩
  · obtain ⟨⟨cur, t, e1⟩, _⟩ := H; exact ⟨cur, t, e.trans e1⟩
  · have c : ∀ o, W'.cell? ⟨h, o, none⟩ = W.cell? ⟨h, o, none⟩ := fun o => World.cell?_of_block e
    rw [c, c, c]; exact H.2 j hj
theorem HAt.other (H : HAt W h N V G M) {g o : Nat} (hne : h ≠ g) (u : Value) : HAt (W.setCell ⟨g, o, none⟩ u) h N V G M :=
  H.kept (row := some g) ⟨rfl, rfl, rfl, by simp, fun k _ hk => heap_setCell_other W ⟨g, o, none⟩ k u (fun e => hk (by simp [e]))⟩ (by simpa using hne)
theorem HAt.put (H : HAt W h N V G M) {i : Nat} (hi : i < N) (u : Value) : HAt (W.setCell ⟨h, i * 3 + 1, none⟩ u) h N V (fun j => if j = i then u else G j) M := by
  have H0 := H
  obtain ⟨⟨cur, t, e⟩, H2⟩ := H
  refine ⟨⟨_, _, heap_setCell_same W h (i * 3 + 1) cur t u e⟩, fun j hj => ?_⟩
  have off : ∀ o, o ≠ i * 3 + 1 → (W.setCell ⟨h, i * 3 + 1, none⟩ u).cell? ⟨h, o, none⟩ = W.cell? ⟨h, o, none⟩ := fun o ho => World.cell?_setCell_other W _ _ _ (by intro e; cases e; exact ho rfl)
  refine ⟨(off _ (by omega)).trans (H2 j hj).1, ?_, (off _ (by omega)).trans (H2 j hj).2.2⟩
  show _ = some (if j = i then u else G j)
  by_cases hji : j = i
  · subst hji
    rw [if_pos rfl]
    exact World.cell?_setCell_same W _ _ (H2 j hj).2.1
  · rw [if_neg hji]
    exact (off _ (by omega)).trans (H2 j hj).2.1
end
theorem HRow.at {W : World} {base : Nat} {v : Value} {es : List (Value × Nat)} (H : HRow W base v es) (hne : es ≠ []) :
    ∃ h cap, v = .slice (some ⟨h, 0, none⟩) es.length cap ∧ base ≤ h ∧ es.length ≤ cap ∧ HAt W h es.length (fun j => (es.getD j (.slice none 0 0, 0)).1) (fun _ => .slice none 0 0) (fun j => (es.getD j (.slice none 0 0, 0)).2) := by
  have H0 := H
  rcases H.2 with ⟨_, h0⟩ | ⟨h, cap, cur, rfl, hb, hg, hn, _⟩
  · exact absurd (List.eq_nil_of_length_eq_zero h0) hne
  · refine ⟨h, cap, rfl, hb, hn, ⟨_, _, hg⟩, fun j hj => ?_⟩
    have k := hcells_at es j es[j] (List.getElem?_eq_getElem hj)
    have e : es.getD j (.slice none 0 0, 0) = es[j] := by rw [List.getD_eq_getElem?_getD, List.getElem?_eq_getElem hj]; rfl
    simp only [e]
    refine ⟨?_, ?_, ?_⟩
    · rw [World.ownsRow.cellAt H0 (j * 3) (by omega)]; exact k.1
    · rw [World.ownsRow.cellAt H0 (j * 3 + 1) (by omega)]; exact k.2.1
    · rw [World.ownsRow.cellAt H0 (j * 3 + 2) (by omega)]; exact k.2.2

/-- a slice with a store into its row: the call's own still -/
theorem Fresh.put {W : World} {base g n cap : Nat} {l : List Nat} (h : Fresh W base (.slice (some ⟨g, 0, none⟩) n cap) l) (hn : n = l.length) (j x : Nat) :
    Fresh (W.setCell ⟨g, j, none⟩ (.int .u32 (x : Int))) base (.slice (some ⟨g, 0, none⟩) n cap) (l.set j x) ∧ W.grownBy (W.setCell ⟨g, j, none⟩ (.int .u32 (x : Int))) (some g) := by
  subst hn
  have k := World.ownsRow.stored h j (.int .u32 (x : Int))
  refine ⟨?_, k.2⟩
  unfold Fresh
  rw [List.length_set, List.map_set]
  exact k.1
theorem Fresh.keptr {W W' : World} {base : Nat} {v : Value} {l : List Nat} {row : Option Nat} (h : Fresh W base v l) (hg : W.grownBy W' row) (hne : v.ownBlock = none ∨ v.ownBlock ≠ row) : Fresh W' base v l := World.ownsRow.kept h hg hne
theorem Fresh.lt' {W : World} {base g : Nat} {v : Value} {l : List Nat} (h : Fresh W base v l) (hg : v.ownBlock = some g) : base ≤ g ∧ g < W.heap.size := World.ownsRow.lt h g hg

end Go.Proofs.YtmbnojkciikobaaGreatDoor
