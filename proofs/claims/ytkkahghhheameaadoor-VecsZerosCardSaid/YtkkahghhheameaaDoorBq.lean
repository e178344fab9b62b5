/- A book of lists of any kind: what it holds, and memory of its own. -/
import Derived.Test.YtkkahghhheameaaDoorProg
import Derived.WalkKit
import Derived.Below
import Derived.Shelf.Abstract
import Derived.Lib.Hide
import Derived.Laws.OwnMore
import Derived.Laws.Rows
import Derived.OneCell
import Derived.OwnWalk
import Derived.Maps.AppendAt
namespace Go.Proofs.YtkkahghhheameaaDoor
open Go Go.Proofs Go.RowKit Go.Shelf

theorem q_new (W : World) (o : Obj) : (W.alloc o).heap[W.heap.size]? = some o := by
  show (W.heap.push o)[W.heap.size]? = some o
  simp
section
variable {P : Program} (w : World)
/-- append to a slice of the call's own: it stays in its row, or it moves, and then what was there stays. -/
theorem qrun_append_or (base : Nat) (t ty e : TypeId) (i : TypeInfo) (z : Value) (size bytes : Nat) (ht : P.underlying t = some (.slice e)) (hi : P.info? e = some i) (hz : i.zero = some z)
    (hsize : i.size = size) (hby : i.bytes = bytes) (hzs : z.cells.size = size) (hsz : 0 < size)
    (v : Value) (n : Nat) (xs : List Value) (hown : w.ownsRow base e size v n xs)
    (a : Addr) (m c : Nat) (news : List Value) (hl : news.length = m * size) (hnews : ∀ j u, news[j]? = some u → w.cell? (a.add j) = some u) (h1 : ∀ u ∈ news, u.oneCell' = true)
    (h63 : n + m ≤ maxLen) (hbytes : (n + m) * bytes ≤ 140737488355328) (hbase : base ≤ w.heap.size) :
    ∃ v' w', (Builtin.append_ #[t, t] ty #[v, .slice (some a) m c]).run P w = .ok v' w' ∧ w'.ownsRow base e size v' (n + m) (xs ++ news) ∧
      ((v'.ownBlock = v.ownBlock ∧ w.grownBy w' v.ownBlock) ∨ (v'.ownBlock = some w.heap.size ∧ w.grownBy w' none)) := by
  obtain ⟨v1, w1, hr1, h2, h3, _, h5⟩ := run_append_own_at (P := P) w base t ty e i z size bytes ht hi hz hsize hby hzs hsz v n xs hown a m c news hl hnews h1 h63 hbytes hbase
  have hcase := hown.2
  rcases hcase with ⟨rfl, _⟩ | ⟨g, cap, cur, rfl, _, hg, hnc, _⟩
  · rcases h5 with h5 | h5
    · exact ⟨v1, w1, hr1, h2, .inl ⟨h5, h3⟩⟩
    · exact ⟨v1, w1, hr1, h2, .inr ⟨h5, h3⟩⟩
  · by_cases hroom : n + m ≤ cap
    · obtain ⟨w2, hr2, o2, g2⟩ := run_append_fits (P := P) w base t ty e i size ht hi hsize g n cap xs hown a m c news hl hnews h1 hroom
      exact ⟨_, w2, hr2, o2, .inl ⟨rfl, g2⟩⟩
    · have holds : ∀ j u, xs[j]? = some u → w.cell? ((⟨g, 0, none⟩ : Addr).add j) = some u := hown.cells (g := g) rfl
      have hr := run_append_grow (P := P) w t ty e i z ht hi hz ⟨g, 0, none⟩ n cap xs (by rw [hown.1, hsize]) holds a m c news (by rw [hl, hsize]) hnews (by omega) (by simp only [maxLen] at h63; omega) (growslice_fits (by omega) (by rw [hby]; exact hbytes))
      rw [hr] at hr1
      simp only [Result.ok.injEq] at hr1
      obtain ⟨e1, e2⟩ := hr1
      subst e1
      subst e2
      exact ⟨_, _, hr, h2, .inr ⟨rfl, ⟨rfl, rfl, rfl, by simp, fun k hk _ => by first | exact heap_alloc_old w.drew _ k hk | exact heap_alloc_old w.drew _ hk⟩⟩⟩
theorem qwpList_append_or {ops : Array Oper} {rest : List Oper} {o : Oper} {a : Act} {Q : Exit → Act → World → Prop} (hgd : o.guard = none) (s x : Operand) (t : TypeId)
    (ho : o.op = .call { callee := .builtin .append, args := #[s, x], argTypes := #[t, t] })
    (base : Nat) (e : TypeId) (i : TypeInfo) (z : Value) (size bytes : Nat) (ht : P.underlying t = some (.slice e)) (hi : P.info? e = some i) (hz : i.zero = some z)
    (hsize : i.size = size) (hby : i.bytes = bytes) (hzs : z.cells.size = size) (hsz : 0 < size)
    (v : Value) (n : Nat) (xs : List Value) (hs : a.eval s = v) (hown : w.ownsRow base e size v n xs)
    (ad : Addr) (m c : Nat) (news : List Value) (hx : a.eval x = .slice (some ad) m c) (hl : news.length = m * size) (hnews : ∀ j u, news[j]? = some u → w.cell? (ad.add j) = some u) (h1 : ∀ u ∈ news, u.oneCell' = true)
    (h63 : n + m ≤ maxLen) (hbytes : (n + m) * bytes ≤ 140737488355328) (hbase : base ≤ w.heap.size)
    (h : ∀ v' w', w'.ownsRow base e size v' (n + m) (xs ++ news) → ((v'.ownBlock = v.ownBlock ∧ w.grownBy w' v.ownBlock) ∨ (v'.ownBlock = some w.heap.size ∧ w.grownBy w' none)) → wpList P ops Q rest (a.put o.dst v') w') :
    wpList P ops Q (o :: rest) a w := by
  refine wpList_plain hgd fun K hK => ?_
  obtain ⟨v', w', hr, h2, h3⟩ := qrun_append_or (P := P) w base t o.type e i z size bytes ht hi hz hsize hby hzs hsz v n xs hown ad m c news hl hnews h1 h63 hbytes hbase
  unfold Oper.wp execOp
  simp only [ho, resolve, invoke, builtin, Sem.run_bind, Sem.run_pure, Result.andThen_ok, List.map_toArray, List.map_cons, List.map_nil, hs, hx, hr]
  exact hK _ _ (h v' w' h2 h3)
end

/-- the cells of a book that was told n lists; f tells what lies in each of its own lists -/
def qcells (n : Nat) (f : Nat → Value) : Array Value := #[.int .i64 (n : Int), f 1, f 2, f 3, f 4, f 5, f 6, f 7, f 8, f 9, f 10, f 11, f 12]
def upd (f : Nat → Value) (o : Nat) (u : Value) : Nat → Value := fun j => if j = o then u else f j
def none12 : Nat → Value := fun _ => .slice none 0 0
def QBook (W : World) (B n : Nat) (f : Nat → Value) : Prop := W.heap[B]? = some (.cells (qcells n f) 38 (0, 0))
section
variable {W W' : World} {B n : Nat} {f : Nat → Value}
theorem QBook.lt (h : QBook W B n f) : B < W.heap.size := (Array.getElem?_eq_some_iff.1 h).1
theorem QBook.cell (h : QBook W B n f) (o : Nat) (u : Value) (hu : (qcells n f)[o]? = some u) : W.cell? ⟨B, o, none⟩ = some u := by
  unfold World.cell?; rw [show W.heap[B]? = _ from h]; exact hu
theorem QBook.fr (h : QBook W B n f) (o : Nat) : W.frozen? ⟨B, o, none⟩ = false := by
  unfold World.frozen?; rw [show W.heap[B]? = _ from h]; simp
theorem QBook.kept {row : Option Nat} (h : QBook W B n f) (hg : W.grownBy W' row) (hne : some B ≠ row) : QBook W' B n f := (hg.block B h.lt hne).trans h
theorem QBook.below {N : Nat} (h : QBook W B n f) (hb : Below N W W') (hN : B < N) : QBook W' B n f := (hb.block B hN).trans h
theorem QBook.alloc (h : QBook W B n f) (o : Obj) : QBook (W.alloc o) B n f := (Below.heap_alloc W o B h.lt).trans h
theorem QBook.set (h : QBook W B n f) (o : Nat) (u : Value) {n' : Nat} {f' : Nat → Value} (e : (qcells n f).setIfInBounds o u = qcells n' f') : QBook (W.setCell ⟨B, o, none⟩ u) B n' f' := by
  obtain ⟨hlt, hk⟩ := Array.getElem?_eq_some_iff.1 h
  show (W.heap.modify B _)[B]? = _
  rw [Array.getElem?_eq_getElem (by rw [Array.size_modify]; exact hlt), Array.getElem_modify_self, hk, ← e]
  rfl
theorem QBook.setn (h : QBook W B n f) (n' : Nat) : QBook (W.setCell ⟨B, 0, none⟩ (.int .i64 (n' : Int))) B n' f := h.set 0 _ rfl
theorem QBook.other (h : QBook W B n f) {B' o : Nat} (hne : B ≠ B') (u : Value) : QBook (W.setCell ⟨B', o, none⟩ u) B n f := (Below.heap_setCell W ⟨B', o, none⟩ u B hne).trans h
theorem QBook.new (W : World) : QBook (W.alloc (.cells (qcells 0 none12) 38)) W.heap.size 0 none12 := q_new W _
theorem QBook.c0 (h : QBook W B n f) : W.cell? ⟨B, 0, none⟩ = some (.int .i64 (n : Int)) := h.cell 0 _ rfl
end

/-- a list with its number, as it is held -/
def qcell (e : Value × Nat) : List Value := [e.1, .slice none 0 0, .int .i64 (e.2 : Int)]
def qheld (es : List (Value × Nat)) : List Value := es.flatMap qcell
theorem qheld_length (es : List (Value × Nat)) : (qheld es).length = es.length * 3 := by
  induction es with
  | nil => rfl
  | cons e es ih => simp only [qheld, List.flatMap_cons, List.length_append, List.length_cons] at ih ⊢; rw [ih]; simp [qcell]; omega
theorem qheld_snoc (es : List (Value × Nat)) (e : Value × Nat) : qheld (es ++ [e]) = qheld es ++ qcell e := by simp [qheld]
theorem qheld_at (es : List (Value × Nat)) (j : Nat) (e : Value × Nat) (h : es[j]? = some e) : (qheld es)[j * 3]? = some e.1 ∧ (qheld es)[j * 3 + 1]? = some (.slice none 0 0) ∧ (qheld es)[j * 3 + 2]? = some (.int .i64 (e.2 : Int)) := by
  induction es generalizing j with
  | nil => simp at h
  | cons x es ih =>
    have e0 : qheld (x :: es) = x.1 :: .slice none 0 0 :: .int .i64 (x.2 : Int) :: qheld es := rfl
    rw [e0]
    cases j with
    | zero => simp at h; subst h; exact ⟨rfl, rfl, rfl⟩
    | succ j =>
      have := ih j (by simpa using h)
      rw [show (j + 1) * 3 = j * 3 + 3 by omega, show j * 3 + 3 + 1 = (j * 3 + 1) + 3 by omega, show j * 3 + 3 + 2 = (j * 3 + 2) + 3 by omega]
      simpa using this
/-- Block h holds the lists V, what was put behind them, G, and their numbers, M. -/
def QAt (W : World) (h N : Nat) (V G : Nat → Value) (M : Nat → Nat) : Prop :=
  (∃ cur e, W.heap[h]? = some (.cells cur e (0, 0))) ∧ ∀ j, j < N → W.cell? ⟨h, j * 3, none⟩ = some (V j) ∧ W.cell? ⟨h, j * 3 + 1, none⟩ = some (G j) ∧ W.cell? ⟨h, j * 3 + 2, none⟩ = some (.int .i64 (M j : Int))
section
variable {W W' : World} {h N : Nat} {V G : Nat → Value} {M : Nat → Nat}
theorem QAt.lt (H : QAt W h N V G M) : h < W.heap.size := by obtain ⟨⟨_, _, e⟩, _⟩ := H; exact (Array.getElem?_eq_some_iff.1 e).1
theorem QAt.fr (H : QAt W h N V G M) (o : Nat) : W.frozen? ⟨h, o, none⟩ = false := by
  obtain ⟨⟨cur, t, e⟩, _⟩ := H
  exact frozen_of_row W h o cur t e
theorem QAt.kept {row : Option Nat} (H : QAt W h N V G M) (hg : W.grownBy W' row) (hne : some h ≠ row) : QAt W' h N V G M := by
  have hlt := H.lt
  have e := hg.block h hlt hne
  refine ⟨?_, fun j hj => ?_⟩
  · obtain ⟨⟨cur, t, e1⟩, _⟩ := H; exact ⟨cur, t, e.trans e1⟩
  · have c : ∀ o, W'.cell? ⟨h, o, none⟩ = W.cell? ⟨h, o, none⟩ := fun o => World.cell?_of_block e
    rw [c, c, c]; exact H.2 j hj
theorem QAt.put (H : QAt W h N V G M) {i : Nat} (hi : i < N) (u : Value) : QAt (W.setCell ⟨h, i * 3 + 1, none⟩ u) h N V (fun j => if j = i then u else G j) M := by
  obtain ⟨⟨cur, t, e⟩, H2⟩ := H
  refine ⟨⟨_, _, heap_setCell_same W h (i * 3 + 1) cur t u e⟩, fun j hj => ?_⟩
  have off : ∀ o, o ≠ i * 3 + 1 → (W.setCell ⟨h, i * 3 + 1, none⟩ u).cell? ⟨h, o, none⟩ = W.cell? ⟨h, o, none⟩ := fun o ho => World.cell?_setCell_other W _ _ _ (by intro e; cases e; exact ho rfl)
  refine ⟨(off _ (by omega)).trans (H2 j hj).1, ?_, (off _ (by omega)).trans (H2 j hj).2.2⟩
  show _ = some (if j = i then u else G j)
  by_cases hji : j = i
  · subst hji
    rw [if_pos rfl]
    exact World.cell?_setCell_same W _ _ (H2 j hj).2.1
  · rw [if_neg hji]
    exact (off _ (by omega)).trans (H2 j hj).2.1
end
/-- v owns them, from base on; HT is the type of one of them -/
def QRow (HT : TypeId) (W : World) (base : Nat) (v : Value) (es : List (Value × Nat)) : Prop := W.ownsRow base HT 3 v es.length (qheld es)
theorem QRow.at {HT : TypeId} {W : World} {base : Nat} {v : Value} {es : List (Value × Nat)} (H : QRow HT W base v es) (hne : es ≠ []) :
    ∃ h cap, v = .slice (some ⟨h, 0, none⟩) es.length cap ∧ base ≤ h ∧ es.length ≤ cap ∧ QAt W h es.length (fun j => (es.getD j (.slice none 0 0, 0)).1) (fun _ => .slice none 0 0) (fun j => (es.getD j (.slice none 0 0, 0)).2) := by
  have H0 := H
  rcases H.2 with ⟨_, h0⟩ | ⟨h, cap, cur, rfl, hb, hg, hn, _⟩
  · exact absurd (List.eq_nil_of_length_eq_zero h0) hne
  · refine ⟨h, cap, rfl, hb, hn, ⟨_, _, hg⟩, fun j hj => ?_⟩
    have k := qheld_at es j es[j] (List.getElem?_eq_getElem hj)
    have e : es.getD j (.slice none 0 0, 0) = es[j] := by rw [List.getD_eq_getElem?_getD, List.getElem?_eq_getElem hj]; rfl
    simp only [e]
    refine ⟨?_, ?_, ?_⟩
    · rw [World.ownsRow.cellAt H0 (j * 3) (by omega)]; exact k.1
    · rw [World.ownsRow.cellAt H0 (j * 3 + 1) (by omega)]; exact k.2.1
    · rw [World.ownsRow.cellAt H0 (j * 3 + 2) (by omega)]; exact k.2.2
theorem q_setCell_other {W : World} {base e size B o : Nat} {v : Value} {n : Nat} {xs : List Value} (h : W.ownsRow base e size v n xs) (hne : v.ownBlock ≠ some B) (u : Value) : (W.setCell ⟨B, o, none⟩ u).ownsRow base e size v n xs := by
  refine World.ownsRow.kept h (row := some B) ⟨rfl, rfl, rfl, by simp, fun k _ hk => heap_setCell_other W ⟨B, o, none⟩ k u (fun e => hk (by simp [e]))⟩ (.inr hne)
theorem q_undrew {W W' : World} {row : Option Nat} (h : W.drew.grownBy W' row) : W.grownBy W' row := ⟨h.os, h.tape, h.output, h.size, h.block⟩
theorem QRow.snoc {HT : TypeId} {W : World} {B : Nat} {v : Value} {es : List (Value × Nat)} (x : Value) (m : Nat) (h : W.ownsRow (B + 1) HT 3 v (es.length + 1) (qheld es ++ [x, .slice none 0 0, .int .i64 (m : Int)])) : QRow HT W (B + 1) v (es ++ [(x, m)]) := by
  unfold QRow
  rw [List.length_append, qheld_snoc]
  exact h
theorem q_info {i : Option TypeInfo} {z : Value} {s b : Nat} (h : i.map (fun i => (i.zero, i.size, i.bytes)) = some (some z, s, b)) : ∃ j, i = some j ∧ j.zero = some z ∧ j.size = s ∧ j.bytes = b := by
  cases i with
  | none => simp at h
  | some j =>
    simp only [Option.map_some, Option.some.injEq, Prod.mk.injEq] at h
    exact ⟨j, rfl, h.1, h.2.1, h.2.2⟩
/-- a list in a box of its own -/
def QBox (HT : TypeId) (W : World) (b : Nat) (v u : Value) (m : Nat) : Prop := W.heap[b]? = some (.cells #[v, u, .int .i64 (m : Int)] HT (0, 0))
section
variable {HT : TypeId} {W W' : World} {b m : Nat} {v u : Value}
theorem QBox.lt (h : QBox HT W b v u m) : b < W.heap.size := (Array.getElem?_eq_some_iff.1 h).1
theorem QBox.c0 (h : QBox HT W b v u m) : W.cell? ⟨b, 0, none⟩ = some v := by rw [cell_of_row W b 0 _ _ _ h]; rfl
theorem QBox.c1 (h : QBox HT W b v u m) : W.cell? ⟨b, 1, none⟩ = some u := by rw [cell_of_row W b 1 _ _ _ h]; rfl
theorem QBox.c2 (h : QBox HT W b v u m) : W.cell? ⟨b, 2, none⟩ = some (.int .i64 (m : Int)) := by rw [cell_of_row W b 2 _ _ _ h]; rfl
theorem QBox.kept {row : Option Nat} (h : QBox HT W b v u m) (hg : W.grownBy W' row) (hne : some b ≠ row) : QBox HT W' b v u m := (hg.block b h.lt hne).trans h
theorem QBox.alloc (h : QBox HT W b v u m) (o : Obj) : QBox HT (W.alloc o) b v u m := (Below.heap_alloc W o b h.lt).trans h
theorem QBox.new (HT : TypeId) (W : World) (v u : Value) (m : Nat) : QBox HT (W.alloc (.cells #[v, u, .int .i64 (m : Int)] HT)) W.heap.size v u m := q_new W _
end

/-! marks -/
/-- so many marks, cell behind cell -/
def rep (mk : Nat → List Value) (n m : Nat) : List Value := (List.replicate n (mk m)).flatten
structure Marks (sz : Nat) (mk : Nat → List Value) : Prop where
  len : ∀ m, (mk m).length = sz
  one : ∀ m, ∀ v ∈ mk m, v.oneCell' = true
  pos : 0 < sz
section
variable {sz : Nat} {mk : Nat → List Value}
theorem rep_length (K : Marks sz mk) (n m : Nat) : (rep mk n m).length = n * sz := by
  unfold rep
  induction n with
  | zero => simp
  | succ n ih => rw [List.replicate_succ, List.flatten_cons, List.length_append, ih, K.len, Nat.succ_mul]; omega
theorem rep_succ (n m : Nat) : rep mk (n + 1) m = rep mk n m ++ mk m := by unfold rep; rw [List.replicate_succ']; simp
theorem rep_get (K : Marks sz mk) (n m j o : Nat) (hj : j < n) (ho : o < sz) : (rep mk n m)[j * sz + o]? = (mk m)[o]? := by
  induction n with
  | zero => omega
  | succ n ih =>
    rw [rep_succ]
    by_cases h : j < n
    · have h1 : j * sz + o < n * sz := by
        have : (j + 1) * sz ≤ n * sz := Nat.mul_le_mul_right sz h
        rw [Nat.succ_mul] at this
        omega
      rw [List.getElem?_append_left (by rw [rep_length K]; exact h1)]
      exact ih h
    · obtain rfl : j = n := by omega
      rw [List.getElem?_append_right (by rw [rep_length K]; omega), rep_length K, Nat.add_sub_cancel_left]
end
/-- cells put into a list, one behind the other -/
def setL' (xs : List Value) (o : Nat) : List Value → List Value
  | [] => xs
  | v :: r => setL' (xs.set o v) (o + 1) r
theorem setL'_length (vs : List Value) : ∀ (xs : List Value) (o : Nat), (setL' xs o vs).length = xs.length := by
  induction vs with
  | nil => intro _ _; rfl
  | cons v r ih => intro xs o; rw [setL', ih, List.length_set]
theorem setL'_take (vs : List Value) : ∀ (xs : List Value) (o : Nat), o + vs.length ≤ xs.length → (setL' xs o vs).take (o + vs.length) = xs.take o ++ vs := by
  induction vs with
  | nil => intro xs o _; simp [setL']
  | cons v r ih =>
    intro xs o h
    rw [List.length_cons] at h
    rw [setL', List.length_cons, show o + (r.length + 1) = (o + 1) + r.length by omega, ih _ _ (by rw [List.length_set]; omega)]
    rw [List.take_add_one, List.getElem?_set_self (by omega)]
    rw [List.take_set_of_le (by omega)]
    simp
theorem q_setCells {base e size g cap : Nat} (vs : List Value) : ∀ {W : World} {n : Nat} {xs : List Value} (o : Nat), W.ownsRow base e size (.slice (some ⟨g, 0, none⟩) n cap) n xs →
    (W.setCells g o vs).ownsRow base e size (.slice (some ⟨g, 0, none⟩) n cap) n (setL' xs o vs) ∧ W.grownBy (W.setCells g o vs) (some g) := by
  induction vs with
  | nil => intro W n xs o h; exact ⟨h, ⟨rfl, rfl, rfl, Nat.le_refl _, fun _ _ _ => rfl⟩⟩
  | cons v r ih =>
    intro W n xs o h
    have h1 := World.ownsRow.stored h o v
    obtain ⟨h2, h3⟩ := ih (o + 1) h1.1
    refine ⟨h2, ⟨h3.os.trans h1.2.os, h3.tape.trans h1.2.tape, h3.output.trans h1.2.output, Nat.le_trans h1.2.size h3.size, fun k hk hne => (h3.block k (Nat.lt_of_lt_of_le hk h1.2.size) hne).trans (h1.2.block k hk hne)⟩⟩
end Go.Proofs.YtkkahghhheameaaDoor
