/- A book of lists of any kind: what it holds, and memory of its own. A book of lists of any kind: filled, grown, looked at: what stays. A book of .. -/
import Derived.Test.YtdjfooflhpkcbaaGreatDoorGLoop
import Derived.WalkKit
import Derived.Below
import Derived.Shelf.Abstract
import Derived.Lib.Hide
import Derived.Laws.OwnMore
import Derived.Laws.Rows
import Derived.OneCell
import Derived.OwnWalk
import Derived.Maps.AppendAt
import Derived.Deep.Draws
import Derived.Deep.RegionHeld3
import Derived.Deep.RegionLaw
import Derived.Deep.AppendLies
import Derived.Deep.LoopGhost
import Derived.BigQuiet
import Derived.Deep.QuietTactic
import Derived.Laws.Strings
import Derived.Laws.Concat
import Derived.Laws.ResultCell
import Derived.LoopTactic
import Derived.Test.YtdjfooflhpkcbaaGreatDoorProg
set_option maxHeartbeats 8000000
set_option linter.unusedSimpArgs false
set_option linter.unusedVariables false
namespace Go.Proofs.YtdjfooflhpkcbaaGreatDoor
section
open Go Go.Proofs Go.RowKit Go.Shelf
theorem q_new (W : World) (o : Obj) : (W.alloc o).heap[W.heap.size]? = some o := by
 show (W.heap.push o)[W.heap.size]? = some o
 simp
section
variable {P : Program} (w : World)
theorem qrun_append_or (base : Nat) (t ty e : TypeId) (i : TypeInfo) (z : Value) (size bytes : Nat) (ht : P.underlying t = some (.slice e)) (hi : P.info? e = some i) (hz : i.zero = some z)
   (hsize : i.size = size) (hby : i.bytes = bytes) (hzs : z.cells.size = size) (hsz : 0 < size)
   (v : Value) (n : Nat) (xs : List Value) (hown : w.ownsRow base e size v n xs)
   (a : Addr) (m c : Nat) (news : List Value) (hl : news.length = m * size) (hnews : ∀ j u, news[j]? = some u → w.cell? (a.add j) = some u) (h1 : ∀ u ∈ news, u.oneCell' = true)
   (h63 : n + m ≤ maxLen) (hbytes : (n + m) * bytes ≤ 140737488355328) (hbase : base ≤ w.heap.size) :
   ∃ v' w', (Builtin.append_ #[t, t] ty #[v, .slice (some a) m c]).run P w = .ok v' w' ∧ w'.ownsRow base e size v' (n + m) (xs ++ news) ∧
     ((v'.ownBlock = v.ownBlock ∧ w.grownBy w' v.ownBlock) ∨ (v'.ownBlock = some w.heap.size ∧ w.grownBy w' none)) := by
 obtain ⟨v1, w1, hr1, h2, h3, _, h5⟩ := run_append_own_at (P := P) w base t ty e i z size bytes ht hi hz hsize hby hzs hsz v n xs hown a m c news hl hnews h1 h63 hbytes hbase
 have hcase := hown.2
 rcases hcase with ⟨rfl, _⟩ | ⟨g, cap, cur, rfl, _, hg, hnc, _⟩
 · rcases h5 with h5 | h5
   · exact ⟨v1, w1, hr1, h2, .inl ⟨h5, h3⟩⟩
   · exact ⟨v1, w1, hr1, h2, .inr ⟨h5, h3⟩⟩
 · by_cases hroom : n + m ≤ cap
   · obtain ⟨w2, hr2, o2, g2⟩ := run_append_fits (P := P) w base t ty e i size ht hi hsize g n cap xs hown a m c news hl hnews h1 hroom
     exact ⟨_, w2, hr2, o2, .inl ⟨rfl, g2⟩⟩
   · have holds : ∀ j u, xs[j]? = some u → w.cell? ((⟨g, 0, none⟩ : Addr).add j) = some u := hown.cells (g := g) rfl
     have hr := run_append_grow (P := P) w t ty e i z ht hi hz ⟨g, 0, none⟩ n cap xs (by rw [hown.1, hsize]) holds a m c news (by rw [hl, hsize]) hnews (by omega) (by simp only [maxLen] at h63; omega) (growslice_fits (by omega) (by rw [hby]; exact hbytes))
     rw [hr] at hr1
     simp only [Result.ok.injEq] at hr1
     obtain ⟨e1, e2⟩ := hr1
     subst e1
     subst e2
     exact ⟨_, _, hr, h2, .inr ⟨rfl, ⟨rfl, rfl, rfl, by simp, fun k hk _ => by first | exact heap_alloc_old w.drew _ k hk | exact heap_alloc_old w.drew _ hk⟩⟩⟩
theorem qwpList_append_or {ops : Array Oper} {rest : List Oper} {o : Oper} {a : Act} {Q : Exit → Act → World → Prop} (hgd : o.guard = none) (s x : Operand) (t : TypeId)
  (ho : o.op = .call { callee := .builtin .append, args := #[s, x], argTypes := #[t, t] })
  (base : Nat) (e : TypeId) (i : TypeInfo) (z : Value) (size bytes : Nat) (ht : P.underlying t = some (.slice e)) (hi : P.info? e = some i) (hz : i.zero = some z)
  (hsize : i.size = size) (hby : i.bytes = bytes) (hzs : z.cells.size = size) (hsz : 0 < size)
  (v : Value) (n : Nat) (xs : List Value) (hs : a.eval s = v) (hown : w.ownsRow base e size v n xs)
  (ad : Addr) (m c : Nat) (news : List Value) (hx : a.eval x = .slice (some ad) m c) (hl : news.length = m * size) (hnews : ∀ j u, news[j]? = some u → w.cell? (ad.add j) = some u) (h1 : ∀ u ∈ news, u.oneCell' = true)
  (h63 : n + m ≤ maxLen) (hbytes : (n + m) * bytes ≤ 140737488355328) (hbase : base ≤ w.heap.size)
  (h : ∀ v' w', w'.ownsRow base e size v' (n + m) (xs ++ news) → ((v'.ownBlock = v.ownBlock ∧ w.grownBy w' v.ownBlock) ∨ (v'.ownBlock = some w.heap.size ∧ w.grownBy w' none)) → wpList P ops Q rest (a.put o.dst v') w') :
  wpList P ops Q (o :: rest) a w := by
 refine wpList_plain hgd fun K hK => ?_
 obtain ⟨v', w', hr, h2, h3⟩ := qrun_append_or (P := P) w base t o.type e i z size bytes ht hi hz hsize hby hzs hsz v n xs hown ad m c news hl hnews h1 h63 hbytes hbase
 unfold Oper.wp execOp
 simp only [ho, resolve, invoke, builtin, Sem.run_bind, Sem.run_pure, Result.andThen_ok, List.map_toArray, List.map_cons, List.map_nil, hs, hx, hr]
 exact hK _ _ (h v' w' h2 h3)
end
def qcells (n : Nat) (f : Nat → Value) : Array Value := #[.int .i64 (n : Int), f 1, f 2, f 3, f 4, f 5, f 6, f 7, f 8, f 9, f 10, f 11, f 12]
def upd (f : Nat → Value) (o : Nat) (u : Value) : Nat → Value := fun j => if j = o then u else f j
def none12 : Nat → Value := fun _ => .slice none 0 0
def QBook (W : World) (B n : Nat) (f : Nat → Value) : Prop := W.heap[B]? = some (.cells (qcells n f) 50 (0, 0))
section
variable {W W' : World} {B n : Nat} {f : Nat → Value}
theorem QBook.lt (h : QBook W B n f) : B < W.heap.size := (Array.getElem?_eq_some_iff.1 h).1
theorem QBook.cell (h : QBook W B n f) (o : Nat) (u : Value) (hu : (qcells n f)[o]? = some u) : W.cell? ⟨B, o, none⟩ = some u := by
 unfold World.cell?; rw [show W.heap[B]? = _ from h]; exact hu
theorem QBook.fr (h : QBook W B n f) (o : Nat) : W.frozen? ⟨B, o, none⟩ = false := by
 unfold World.frozen?; rw [show W.heap[B]? = _ from h]; simp
theorem QBook.kept {row : Option Nat} (h : QBook W B n f) (hg : W.grownBy W' row) (hne : some B ≠ row) : QBook W' B n f := (hg.block B h.lt hne).trans h
theorem QBook.below {N : Nat} (h : QBook W B n f) (hb : Below N W W') (hN : B < N) : QBook W' B n f := (hb.block B hN).trans h
theorem QBook.alloc (h : QBook W B n f) (o : Obj) : QBook (W.alloc o) B n f := (Below.heap_alloc W o B h.lt).trans h
theorem QBook.set (h : QBook W B n f) (o : Nat) (u : Value) {n' : Nat} {f' : Nat → Value} (e : (qcells n f).setIfInBounds o u = qcells n' f') : QBook (W.setCell ⟨B, o, none⟩ u) B n' f' := by
 obtain ⟨hlt, hk⟩ := Array.getElem?_eq_some_iff.1 h
 show (W.heap.modify B _)[B]? = _
 rw [Array.getElem?_eq_getElem (by rw [Array.size_modify]; exact hlt), Array.getElem_modify_self, hk, ← e]
 rfl
theorem QBook.setn (h : QBook W B n f) (n' : Nat) : QBook (W.setCell ⟨B, 0, none⟩ (.int .i64 (n' : Int))) B n' f := h.set 0 _ rfl
theorem QBook.other (h : QBook W B n f) {B' o : Nat} (hne : B ≠ B') (u : Value) : QBook (W.setCell ⟨B', o, none⟩ u) B n f := (Below.heap_setCell W ⟨B', o, none⟩ u B hne).trans h
theorem QBook.new (W : World) : QBook (W.alloc (.cells (qcells 0 none12) 50)) W.heap.size 0 none12 := q_new W _
theorem QBook.c0 (h : QBook W B n f) : W.cell? ⟨B, 0, none⟩ = some (.int .i64 (n : Int)) := h.cell 0 _ rfl
end
def qcell (e : Value × Nat) : List Value := [e.1, .slice none 0 0, .int .i64 (e.2 : Int)]
def qheld (es : List (Value × Nat)) : List Value := es.flatMap qcell
theorem qheld_snoc (es : List (Value × Nat)) (e : Value × Nat) : qheld (es ++ [e]) = qheld es ++ qcell e := by simp [qheld]
theorem qheld_at (es : List (Value × Nat)) (j : Nat) (e : Value × Nat) (h : es[j]? = some e) : (qheld es)[j * 3]? = some e.1 ∧ (qheld es)[j * 3 + 1]? = some (.slice none 0 0) ∧ (qheld es)[j * 3 + 2]? = some (.int .i64 (e.2 : Int)) := by
 induction es generalizing j with
 | nil => simp at h
 | cons x es ih =>
  have e0 : qheld (x :: es) = x.1 :: .slice none 0 0 :: .int .i64 (x.2 : Int) :: qheld es := rfl
  rw [e0]
  cases j with
  | zero => simp at h; subst h; exact ⟨rfl, rfl, rfl⟩
  | succ j =>
   have := ih j (by simpa using h)
   rw [show (j + 1) * 3 = j * 3 + 3 by omega, show j * 3 + 3 + 1 = (j * 3 + 1) + 3 by omega, show j * 3 + 3 + 2 = (j * 3 + 2) + 3 by omega]
   simpa using this
def QAt (W : World) (h N : Nat) (V G : Nat → Value) (M : Nat → Nat) : Prop :=
 (∃ cur e, W.heap[h]? = some (.cells cur e (0, 0))) ∧ ∀ j, j < N → W.cell? ⟨h, j * 3, none⟩ = some (V j) ∧ W.cell? ⟨h, j * 3 + 1, none⟩ = some (G j) ∧ W.cell? ⟨h, j * 3 + 2, none⟩ = some (.int .i64 (M j : Int))
section
variable {W W' : World} {h N : Nat} {V G : Nat → Value} {M : Nat → Nat}
theorem QAt.lt (H : QAt W h N V G M) : h < W.heap.size := by obtain ⟨⟨_, _, e⟩, _⟩ := H; exact (Array.getElem?_eq_some_iff.1 e).1
theorem QAt.fr (H : QAt W h N V G M) (o : Nat) : W.frozen? ⟨h, o, none⟩ = false := by
 obtain ⟨⟨cur, t, e⟩, _⟩ := H
 exact frozen_of_row W h o cur t e
theorem QAt.kept {row : Option Nat} (H : QAt W h N V G M) (hg : W.grownBy W' row) (hne : some h ≠ row) : QAt W' h N V G M := by
 have hlt := H.lt
 have e := hg.block h hlt hne
 refine ⟨?_, fun j hj => ?_⟩
 · obtain ⟨⟨cur, t, e1⟩, _⟩ := H; exact ⟨cur, t, e.trans e1⟩
 · have c : ∀ o, W'.cell? ⟨h, o, none⟩ = W.cell? ⟨h, o, none⟩ := fun o => World.cell?_of_block e
   rw [c, c, c]; exact H.2 j hj
theorem QAt.put (H : QAt W h N V G M) {i : Nat} (hi : i < N) (u : Value) : QAt (W.setCell ⟨h, i * 3 + 1, none⟩ u) h N V (fun j => if j = i then u else G j) M := by
 obtain ⟨⟨cur, t, e⟩, H2⟩ := H
 refine ⟨⟨_, _, heap_setCell_same W h (i * 3 + 1) cur t u e⟩, fun j hj => ?_⟩
 have off : ∀ o, o ≠ i * 3 + 1 → (W.setCell ⟨h, i * 3 + 1, none⟩ u).cell? ⟨h, o, none⟩ = W.cell? ⟨h, o, none⟩ := fun o ho => World.cell?_setCell_other W _ _ _ (by intro e; cases e; exact ho rfl)
 refine ⟨(off _ (by omega)).trans (H2 j hj).1, ?_, (off _ (by omega)).trans (H2 j hj).2.2⟩
 show _ = some (if j = i then u else G j)
 by_cases hji : j = i
 · subst hji
   rw [if_pos rfl]
   exact World.cell?_setCell_same W _ _ (H2 j hj).2.1
 · rw [if_neg hji]
   exact (off _ (by omega)).trans (H2 j hj).2.1
end
def QRow (HT : TypeId) (W : World) (base : Nat) (v : Value) (es : List (Value × Nat)) : Prop := W.ownsRow base HT 3 v es.length (qheld es)
theorem QRow.at {HT : TypeId} {W : World} {base : Nat} {v : Value} {es : List (Value × Nat)} (H : QRow HT W base v es) (hne : es ≠ []) :
   ∃ h cap, v = .slice (some ⟨h, 0, none⟩) es.length cap ∧ base ≤ h ∧ es.length ≤ cap ∧ QAt W h es.length (fun j => (es.getD j (.slice none 0 0, 0)).1) (fun _ => .slice none 0 0) (fun j => (es.getD j (.slice none 0 0, 0)).2) := by
 have H0 := H
 rcases H.2 with ⟨_, h0⟩ | ⟨h, cap, cur, rfl, hb, hg, hn, _⟩
 · exact absurd (List.eq_nil_of_length_eq_zero h0) hne
 · refine ⟨h, cap, rfl, hb, hn, ⟨_, _, hg⟩, fun j hj => ?_⟩
   have k := qheld_at es j es[j] (List.getElem?_eq_getElem hj)
   have e : es.getD j (.slice none 0 0, 0) = es[j] := by rw [List.getD_eq_getElem?_getD, List.getElem?_eq_getElem hj]; rfl
   simp only [e]
   refine ⟨?_, ?_, ?_⟩
   · rw [World.ownsRow.cellAt H0 (j * 3) (by omega)]; exact k.1
   · rw [World.ownsRow.cellAt H0 (j * 3 + 1) (by omega)]; exact k.2.1
   · rw [World.ownsRow.cellAt H0 (j * 3 + 2) (by omega)]; exact k.2.2
theorem q_setCell_other {W : World} {base e size B o : Nat} {v : Value} {n : Nat} {xs : List Value} (h : W.ownsRow base e size v n xs) (hne : v.ownBlock ≠ some B) (u : Value) : (W.setCell ⟨B, o, none⟩ u).ownsRow base e size v n xs := by
 refine World.ownsRow.kept h (row := some B) ⟨rfl, rfl, rfl, by simp, fun k _ hk => heap_setCell_other W ⟨B, o, none⟩ k u (fun e => hk (by simp [e]))⟩ (.inr hne)
theorem q_undrew {W W' : World} {row : Option Nat} (h : W.drew.grownBy W' row) : W.grownBy W' row := ⟨h.os, h.tape, h.output, h.size, h.block⟩
theorem QRow.snoc {HT : TypeId} {W : World} {B : Nat} {v : Value} {es : List (Value × Nat)} (x : Value) (m : Nat) (h : W.ownsRow (B + 1) HT 3 v (es.length + 1) (qheld es ++ [x, .slice none 0 0, .int .i64 (m : Int)])) : QRow HT W (B + 1) v (es ++ [(x, m)]) := by
 unfold QRow
 rw [List.length_append, qheld_snoc]
 exact h
theorem q_info {i : Option TypeInfo} {z : Value} {s b : Nat} (h : i.map (fun i => (i.zero, i.size, i.bytes)) = some (some z, s, b)) : ∃ j, i = some j ∧ j.zero = some z ∧ j.size = s ∧ j.bytes = b := by
 cases i with
 | none => simp at h
 | some j =>
  simp only [Option.map_some, Option.some.injEq, Prod.mk.injEq] at h
  exact ⟨j, rfl, h.1, h.2.1, h.2.2⟩
def QBox (HT : TypeId) (W : World) (b : Nat) (v u : Value) (m : Nat) : Prop := W.heap[b]? = some (.cells #[v, u, .int .i64 (m : Int)] HT (0, 0))
section
variable {HT : TypeId} {W W' : World} {b m : Nat} {v u : Value}
theorem QBox.lt (h : QBox HT W b v u m) : b < W.heap.size := (Array.getElem?_eq_some_iff.1 h).1
theorem QBox.c0 (h : QBox HT W b v u m) : W.cell? ⟨b, 0, none⟩ = some v := by rw [cell_of_row W b 0 _ _ _ h]; rfl
theorem QBox.c1 (h : QBox HT W b v u m) : W.cell? ⟨b, 1, none⟩ = some u := by rw [cell_of_row W b 1 _ _ _ h]; rfl
theorem QBox.c2 (h : QBox HT W b v u m) : W.cell? ⟨b, 2, none⟩ = some (.int .i64 (m : Int)) := by rw [cell_of_row W b 2 _ _ _ h]; rfl
theorem QBox.kept {row : Option Nat} (h : QBox HT W b v u m) (hg : W.grownBy W' row) (hne : some b ≠ row) : QBox HT W' b v u m := (hg.block b h.lt hne).trans h
theorem QBox.alloc (h : QBox HT W b v u m) (o : Obj) : QBox HT (W.alloc o) b v u m := (Below.heap_alloc W o b h.lt).trans h
theorem QBox.new (HT : TypeId) (W : World) (v u : Value) (m : Nat) : QBox HT (W.alloc (.cells #[v, u, .int .i64 (m : Int)] HT)) W.heap.size v u m := q_new W _
end
/-! marks -/
def rep (mk : Nat → List Value) (n m : Nat) : List Value := (List.replicate n (mk m)).flatten
structure Marks (sz : Nat) (mk : Nat → List Value) : Prop where
 len : ∀ m, (mk m).length = sz
 one : ∀ m, ∀ v ∈ mk m, v.oneCell' = true
 pos : 0 < sz
section
variable {sz : Nat} {mk : Nat → List Value}
theorem rep_length (K : Marks sz mk) (n m : Nat) : (rep mk n m).length = n * sz := by
 unfold rep
 induction n with
 | zero => simp
 | succ n ih => rw [List.replicate_succ, List.flatten_cons, List.length_append, ih, K.len, Nat.succ_mul]; omega
theorem rep_succ (n m : Nat) : rep mk (n + 1) m = rep mk n m ++ mk m := by unfold rep; rw [List.replicate_succ']; simp
theorem rep_get (K : Marks sz mk) (n m j o : Nat) (hj : j < n) (ho : o < sz) : (rep mk n m)[j * sz + o]? = (mk m)[o]? := by
 induction n with
 | zero => omega
 | succ n ih =>
  rw [rep_succ]
  by_cases h : j < n
  · have h1 : j * sz + o < n * sz := by
     have : (j + 1) * sz ≤ n * sz := Nat.mul_le_mul_right sz h
     rw [Nat.succ_mul] at this
     omega
    rw [List.getElem?_append_left (by rw [rep_length K]; exact h1)]
    exact ih h
  · obtain rfl : j = n := by omega
    rw [List.getElem?_append_right (by rw [rep_length K]; omega), rep_length K, Nat.add_sub_cancel_left]
end
def setL' (xs : List Value) (o : Nat) : List Value → List Value
 | [] => xs
 | v :: r => setL' (xs.set o v) (o + 1) r
theorem setL'_take (vs : List Value) : ∀ (xs : List Value) (o : Nat), o + vs.length ≤ xs.length → (setL' xs o vs).take (o + vs.length) = xs.take o ++ vs := by
 induction vs with
 | nil => intro xs o _; simp [setL']
 | cons v r ih =>
  intro xs o h
  rw [List.length_cons] at h
  rw [setL', List.length_cons, show o + (r.length + 1) = (o + 1) + r.length by omega, ih _ _ (by rw [List.length_set]; omega)]
  rw [List.take_add_one, List.getElem?_set_self (by omega)]
  rw [List.take_set_of_le (by omega)]
  simp
theorem q_setCells {base e size g cap : Nat} (vs : List Value) : ∀ {W : World} {n : Nat} {xs : List Value} (o : Nat), W.ownsRow base e size (.slice (some ⟨g, 0, none⟩) n cap) n xs →
  (W.setCells g o vs).ownsRow base e size (.slice (some ⟨g, 0, none⟩) n cap) n (setL' xs o vs) ∧ W.grownBy (W.setCells g o vs) (some g) := by
 induction vs with
 | nil => intro W n xs o h; exact ⟨h, ⟨rfl, rfl, rfl, Nat.le_refl _, fun _ _ _ => rfl⟩⟩
 | cons v r ih =>
  intro W n xs o h
  have h1 := World.ownsRow.stored h o v
  obtain ⟨h2, h3⟩ := ih (o + 1) h1.1
  refine ⟨h2, ⟨h3.os.trans h1.2.os, h3.tape.trans h1.2.tape, h3.output.trans h1.2.output, Nat.le_trans h1.2.size h3.size, fun k hk hne => (h3.block k (Nat.lt_of_lt_of_le hk h1.2.size) hne).trans (h1.2.block k hk hne)⟩⟩
def Kp (W0 W : World) (R : Nat → Prop) : Prop := W0.heap.size ≤ W.heap.size ∧ ∀ b, b < W0.heap.size → ¬ R b → W.heap[b]? = W0.heap[b]?
section
variable {W0 W W' : World} {R : Nat → Prop}
theorem Kp.refl : Kp W W R := ⟨Nat.le_refl _, fun _ _ _ => rfl⟩
theorem Kp.grown {row : Option Nat} (h : Kp W0 W R) (hg : W.grownBy W' row) (hr : ∀ g, row = some g → R g ∨ W0.heap.size ≤ g) : Kp W0 W' R :=
 ⟨Nat.le_trans h.1 hg.size, fun b hb hn => (hg.block b (Nat.lt_of_lt_of_le hb h.1) (fun e => by rcases hr b e.symm with h' | h'; exact hn h'; omega)).trans (h.2 b hb hn)⟩
theorem Kp.alloc (h : Kp W0 W R) (o : Obj) : Kp W0 (W.alloc o) R := h.grown (World.grownBy_alloc W o none) (fun _ e => by cases e)
end
def RdC (W : World) (v : Value) (n : Nat) (xs : List Value) : Prop := ∃ a cap, v = .slice a n cap ∧ n ≤ cap ∧ (0 < n → ∃ b off, a = some ⟨b, off, none⟩ ∧ b < W.heap.size ∧ ∀ o u, xs[o]? = some u → W.cell? ⟨b, off + o, none⟩ = some u)
theorem RdC.keptr {W W' : World} {v : Value} {n : Nat} {xs : List Value} {row : Option Nat} (h : RdC W v n xs) (hg : W.grownBy W' row) (hne : v.ownBlock = none ∨ v.ownBlock ≠ row) : RdC W' v n xs := by
 obtain ⟨a, cap, rfl, hc, h⟩ := h
 refine ⟨a, cap, rfl, hc, fun h0 => ?_⟩
 obtain ⟨b, off, rfl, hb, hcell⟩ := h h0
 have hbr : some b ≠ row := by
  rcases hne with h | h
  · simp [Value.ownBlock] at h
  · simpa [Value.ownBlock] using h
 exact ⟨b, off, rfl, Nat.lt_of_lt_of_le hb hg.size, fun o u ho => (World.cell?_of_block (w := W) (hg.block b hb hbr)).trans (hcell o u ho)⟩
theorem RdC.below {W W' : World} {v : Value} {n : Nat} {xs : List Value} (h : RdC W v n xs) (hb : Below W.heap.size W W') : RdC W' v n xs := by
 obtain ⟨a, cap, rfl, hc, h⟩ := h
 refine ⟨a, cap, rfl, hc, fun h0 => ?_⟩
 obtain ⟨b, off, rfl, hlt, hcell⟩ := h h0
 exact ⟨b, off, rfl, Nat.lt_of_lt_of_le hlt hb.size, fun o u ho => (hb.cell (p := ⟨b, off + o, none⟩) hlt).trans (hcell o u ho)⟩
theorem own_rdc {W : World} {base e size : Nat} {v : Value} {n : Nat} {xs : List Value} (h : W.ownsRow base e size v n xs) : RdC W v n xs := by
 have h0 := h
 rcases h.2 with ⟨rfl, rfl⟩ | ⟨g, cap, cur, rfl, _, hg, hn, _⟩
 · exact ⟨none, 0, rfl, Nat.le_refl _, fun h => by omega⟩
 · refine ⟨_, cap, rfl, hn, fun _ => ⟨g, 0, rfl, (Array.getElem?_eq_some_iff.1 hg).1, fun o u ho => ?_⟩⟩
   have hlt : o < n * size := by have := (List.getElem?_eq_some_iff.1 ho).1; rw [h0.1] at this; exact this
   rw [Nat.zero_add, World.ownsRow.cellAt h0 o hlt]; exact ho
theorem own_form {W : World} {base e size : Nat} {a : Option Addr} {n cap : Nat} {xs : List Value} (h : W.ownsRow base e size (.slice a n cap) n xs) : (a = none ∧ n = 0 ∧ cap = 0) ∨ ∃ g, a = some ⟨g, 0, none⟩ ∧ base ≤ g ∧ g < W.heap.size ∧ n ≤ cap := by
 rcases h.2 with ⟨e, h0⟩ | ⟨g, c, cur, e, hb, hg, hn, _⟩
 · simp only [Value.slice.injEq] at e; exact .inl ⟨e.1, h0, e.2.2⟩
 · simp only [Value.slice.injEq] at e
   exact .inr ⟨g, e.1, hb, (Array.getElem?_eq_some_iff.1 hg).1, by omega⟩
theorem rdc_append {W W' : World} {T sz : Nat} {mk : Nat → List Value} {base L K m c : Nat} {a : Option Addr} {u u' : Value} (hmk : Marks sz mk) (form : (a = none ∧ L = 0 ∧ c = 0) ∨ ∃ g, a = some ⟨g, 0, none⟩) (hv : RdC W (.slice a L c) L (rep mk L m)) (hK : L ≤ K)
   (hu : W'.ownsRow base T sz u' K (rep mk K m)) (hor : (u'.ownBlock = u.ownBlock ∧ W.grownBy W' u.ownBlock) ∨ (u'.ownBlock = some W.heap.size ∧ W.grownBy W' none)) : RdC W' (.slice a L c) L (rep mk L m) := by
 rcases form with ⟨rfl, rfl, rfl⟩ | ⟨g, rfl⟩
 · exact ⟨none, 0, rfl, Nat.le_refl _, fun h => by omega⟩
 · rcases hor with ⟨e, hg⟩ | ⟨_, hg⟩
   · by_cases hgu : some g = u.ownBlock
     · rcases hu.2 with ⟨e1, e2⟩ | ⟨g', cap, cur, rfl, _, hlt, hn, _⟩
       · obtain rfl : L = 0 := by omega
         subst e1
         rw [← hgu] at e
         cases e
       · rw [← hgu] at e
         have eg : g' = g := by simpa [Value.ownBlock] using e
         subst eg
         obtain ⟨a', cp, e3, hcp, _⟩ := hv
         simp only [Value.slice.injEq] at e3
         obtain ⟨_, _, rfl⟩ := e3
         refine ⟨_, c, rfl, hcp, fun _ => ⟨g', 0, rfl, (Array.getElem?_eq_some_iff.1 hlt).1, fun o v ho => ?_⟩⟩
         have ho' : o < L * sz := by have := (List.getElem?_eq_some_iff.1 ho).1; rwa [rep_length hmk] at this
         have hLK : L * sz ≤ K * sz := Nat.mul_le_mul_right sz hK
         rw [Nat.zero_add, World.ownsRow.cellAt hu o (by omega)]
         have hs := hmk.pos
         have e1 : o = (o / sz) * sz + o % sz := by rw [Nat.mul_comm]; exact (Nat.div_add_mod o sz).symm
         have h1 : o / sz < L := by rw [Nat.div_lt_iff_lt_mul hs]; exact ho'
         have h2 : o % sz < sz := Nat.mod_lt _ hs
         rw [e1, rep_get hmk L m _ _ h1 h2] at ho
         rw [e1, rep_get hmk K m _ _ (by omega) h2]
         exact ho
     · exact hv.keptr hg (.inr (by simpa [Value.ownBlock] using hgu))
   · exact hv.keptr hg (.inr (by simp [Value.ownBlock]))
section
variable (W0 w : World) (T sz : Nat) (mk : Nat → List Value) (base B h n N cap : Nat) (f : Nat → Value) (A : Nat → Option Addr) (L C M : Nat → Nat)
structure QLies : Prop where
 base : base ≤ B
 up : B < h
 blk : ∀ j g, j < N → (Value.slice (A j) (L j) (C j)).ownBlock = some g → g ≠ B ∧ g ≠ h ∧ g < W0.heap.size
 dis : ∀ j k, j < N → k < N → j ≠ k → (Value.slice (A j) (L j) (C j)).ownBlock = none ∨ (Value.slice (A j) (L j) (C j)).ownBlock ≠ (Value.slice (A k) (L k) (C k)).ownBlock
 len : ∀ j, j < N → L j ≤ 2000000
 num : ∀ j, j < N → M j ≤ 100000
 few : N ≤ 100000
def QR (b : Nat) : Prop := b = h ∨ ∃ j, j < N ∧ (Value.slice (A j) (L j) (C j)).ownBlock = some b
def QFill (i k : Nat) (W : World) : Prop :=
 QBook W B n f ∧ QAt W h N (fun j => .slice (A j) (L j) (C j)) (fun _ => .slice none 0 0) M ∧ Below base w W ∧ Kp W0 W (QR h N A L C) ∧
 ∀ j, j < N → ∃ xs, W.ownsRow base T sz (.slice (A j) (L j) (C j)) (L j) xs ∧ (j < i → xs = rep mk (L j) (M j)) ∧ (j = i → xs.take (k * sz) = rep mk k (M j))
end
section
variable {W0 w W : World} {T sz : Nat} {mk : Nat → List Value} {base B h n N cap i k : Nat} {f : Nat → Value} {A : Nat → Option Addr} {L C M : Nat → Nat}
theorem QFill.alloc (D : QLies W0 base B h N A L C M) (F : QFill W0 w T sz mk base B h n N f A L C M i k W) (o : Obj) : QFill W0 w T sz mk base B h n N f A L C M i k (W.alloc o) := by
 obtain ⟨h1, h2, h3, hk, h4⟩ := F
 have hs : base ≤ W.heap.size := Nat.le_trans D.base (Nat.le_of_lt h1.lt)
 refine ⟨h1.alloc o, h2.kept (World.grownBy_alloc W o none) (by simp), h3.alloc hs o, hk.alloc o, fun j hj => ?_⟩
 obtain ⟨l, e, g⟩ := h4 j hj
 exact ⟨l, e.alloc o, g⟩
theorem QFill.on {W' : World} (D : QLies W0 base B h N A L C M) (F : QFill W0 w T sz mk base B h n N f A L C M i k W) (hg : W.grownBy W' none) : QFill W0 w T sz mk base B h n N f A L C M i k W' := by
 obtain ⟨h1, h2, h3, hk, h4⟩ := F
 have hs : base ≤ W.heap.size := Nat.le_trans D.base (Nat.le_of_lt h1.lt)
 refine ⟨h1.kept hg (by simp), h2.kept hg (by simp), h3.grown hg hs (fun _ e => by cases e), hk.grown hg (fun _ e => by cases e), fun j hj => ?_⟩
 obtain ⟨l, e, g⟩ := h4 j hj
 refine ⟨l, World.ownsRow.kept e hg ?_, g⟩
 cases hv : (Value.slice (A j) (L j) (C j)).ownBlock with
 | none => exact .inl rfl
 | some b => exact .inr (by simp)
theorem QFill.drew (F : QFill W0 w T sz mk base B h n N f A L C M i k W) : QFill W0 w T sz mk base B h n N f A L C M i k W.drew := ⟨F.1, F.2.1, F.2.2.1.drew, F.2.2.2.1, F.2.2.2.2⟩
theorem QFill.next (F : QFill W0 w T sz mk base B h n N f A L C M i (L i) W) : QFill W0 w T sz mk base B h n N f A L C M (i + 1) 0 W := by
 refine ⟨F.1, F.2.1, F.2.2.1, F.2.2.2.1, fun j hj => ?_⟩
 obtain ⟨l, e, g1, g2⟩ := F.2.2.2.2 j hj
 refine ⟨l, e, fun hji => ?_, fun _ => by simp [rep]⟩
 by_cases hj' : j = i
 · have := g2 hj'
   subst hj'
   rwa [List.take_of_length_le (by rw [e.1]; exact Nat.le_refl _)] at this
 · exact g1 (by omega)
theorem QFill.put (hmk : Marks sz mk) (D : QLies W0 base B h N A L C M) {g : Nat} (hA : A i = some ⟨g, 0, none⟩) (hi : i < N) (hk : k < L i) (F : QFill W0 w T sz mk base B h n N f A L C M i k W) : QFill W0 w T sz mk base B h n N f A L C M i (k + 1) (W.setCells g (k * sz) (mk (M i))) := by
 obtain ⟨h1, h2, h3, hkp, h4⟩ := F
 have eo : (Value.slice (A i) (L i) (C i)).ownBlock = some g := by rw [hA]; rfl
 have hgB := D.blk i g hi eo
 have hup := D.up
 obtain ⟨xi, ei, gi1, gi2⟩ := h4 i hi
 have hb : base ≤ g ∧ g < W.heap.size := World.ownsRow.lt ei g eo
 rw [hA] at ei
 obtain ⟨ei2, hgr⟩ := q_setCells (W := W) (mk (M i)) (k * sz) ei
 refine ⟨h1.kept hgr (by simp; omega), h2.kept hgr (by simp; omega), h3.grown hgr (by omega) (fun k e => by simp only [Option.some.injEq] at e; omega), hkp.grown hgr (fun b e => .inl (.inr ⟨i, hi, by rw [eo]; exact e⟩)), fun j hj => ?_⟩
 by_cases hji : j = i
 · subst hji
   refine ⟨_, by rw [hA]; exact ei2, fun hlt => absurd hlt (Nat.lt_irrefl _), fun _ => ?_⟩
   have hle : k * sz + (mk (M j)).length ≤ xi.length := by
     rw [hmk.len, ei.1, ← Nat.succ_mul]
     exact Nat.mul_le_mul_right sz hk
   have := setL'_take (mk (M j)) xi (k * sz) hle
   rw [hmk.len, ← Nat.succ_mul] at this
   rw [rep_succ, ← gi2 rfl]
   exact this
 · obtain ⟨l, e, g1, g2⟩ := h4 j hj
   refine ⟨l, World.ownsRow.kept e hgr ?_, g1, fun e2 => absurd e2 hji⟩
   rcases D.dis j i hj hi hji with h5 | h5
   · exact .inl h5
   · rw [eo] at h5; exact .inr h5
theorem QFill.form (F : QFill W0 w T sz mk base B h n N f A L C M i k W) (j : Nat) (hj : j < N) (h0 : 0 < L j) : ∃ g, A j = some ⟨g, 0, none⟩ ∧ g < W.heap.size ∧ L j ≤ C j ∧ (∀ o, o < L j * sz → ∃ x, W.cell? ⟨g, o, none⟩ = some x) ∧ ∀ o, W.frozen? ⟨g, o, none⟩ = false := by
 obtain ⟨l, e, _⟩ := F.2.2.2.2 j hj
 have e0 := e
 rcases own_form e with ⟨_, h1, _⟩ | ⟨g, ea, _, hlt, hn⟩
 · omega
 · rw [ea] at e0
   refine ⟨g, ea, hlt, hn, fun o ho => ⟨l[o]'(by rw [e.1]; exact ho), ?_⟩, fun o => World.ownsRow.frozenAt e0 o⟩
   rw [World.ownsRow.cellAt e0 o ho]
   exact List.getElem?_eq_getElem _
end
section
variable (W0 w : World) (T sz : Nat) (mk : Nat → List Value) (base B h n N cap : Nat) (f : Nat → Value) (A : Nat → Option Addr) (L C M : Nat → Nat) (S0 : Nat)
def QBlkC (j : Nat) (u : Value) : Prop := ∀ g, u.ownBlock = some g → (Value.slice (A j) (L j) (C j)).ownBlock = some g ∨ S0 ≤ g
def QForms : Prop := ∀ j, j < N → (A j = none ∧ L j = 0 ∧ C j = 0) ∨ ∃ g, A j = some ⟨g, 0, none⟩
def QGrowO (i : Nat) (W : World) : Prop :=
 ∃ G : Nat → Value, (∀ j, i ≤ j → G j = .slice none 0 0) ∧ QBook W B n f ∧ QAt W h N (fun j => .slice (A j) (L j) (C j)) G M ∧ Below base w W ∧ S0 ≤ W.heap.size ∧ Kp W0 W (QR h N A L C) ∧
  (∀ j, j < N → RdC W (.slice (A j) (L j) (C j)) (L j) (rep mk (L j) (M j))) ∧ (∀ j, j < N → i ≤ j → W.ownsRow base T sz (.slice (A j) (L j) (C j)) (L j) (rep mk (L j) (M j))) ∧
  ∀ j, j < N → j < i → W.ownsRow base T sz (G j) (L j + 40) (rep mk (L j + 40) (M j)) ∧ QBlkC A L C S0 j (G j)
def QGrowI (S1 : Nat) (G : Nat → Value) (i k : Nat) (u : Value) (W : World) : Prop :=
 (∀ j, i ≤ j → G j = .slice none 0 0) ∧ QBook W B n f ∧ QAt W h N (fun j => .slice (A j) (L j) (C j)) G M ∧ Below base w W ∧ S1 ≤ W.heap.size ∧ Kp W0 W (QR h N A L C) ∧
  (∀ j, j < N → RdC W (.slice (A j) (L j) (C j)) (L j) (rep mk (L j) (M j))) ∧ (∀ j, j < N → i < j → W.ownsRow base T sz (.slice (A j) (L j) (C j)) (L j) (rep mk (L j) (M j))) ∧
  (∀ j, j < N → j < i → W.ownsRow base T sz (G j) (L j + 40) (rep mk (L j + 40) (M j)) ∧ QBlkC A L C S0 j (G j) ∧ ∀ g, (G j).ownBlock = some g → g < S1) ∧
  W.ownsRow base T sz u (L i + k) (rep mk (L i + k) (M i)) ∧ QBlkC A L C S1 i u
end
section
variable {W0 w W : World} {T sz : Nat} {mk : Nat → List Value} {base B h n N cap S0 S1 i k : Nat} {f : Nat → Value} {A : Nat → Option Addr} {L C M : Nat → Nat} {G : Nat → Value} {u : Value}
theorem QGrowO.start (F : QFill W0 w T sz mk base B h n N f A L C M N 0 W) : QGrowO W0 w T sz mk base B h n N f A L C M W.heap.size 0 W := by
 refine ⟨fun _ => .slice none 0 0, fun _ _ => rfl, F.1, F.2.1, F.2.2.1, Nat.le_refl _, F.2.2.2.1, fun j hj => ?_, fun j hj _ => ?_, fun j _ hj => absurd hj (Nat.not_lt_zero _)⟩
 · obtain ⟨l, e, g, _⟩ := F.2.2.2.2 j hj
   have := own_rdc e
   rwa [g hj] at this
 · obtain ⟨l, e, g, _⟩ := F.2.2.2.2 j hj
   rwa [g hj] at e
theorem QFill.forms (F : QFill W0 w T sz mk base B h n N f A L C M i k W) : QForms N A L C := by
 intro j hj
 obtain ⟨l, e, _⟩ := F.2.2.2.2 j hj
 rcases own_form e with h | ⟨g, h, _⟩
 · exact .inl h
 · exact .inr ⟨g, h⟩
theorem QGrowO.inner (D : QLies W0 base B h N A L C M) (F : QGrowO W0 w T sz mk base B h n N f A L C M S0 i W) (hi : i < N) (o : Obj) :
  ∃ G, QGrowI W0 w T sz mk base B h n N f A L C M S0 (W.heap.size + 1) G i 0 (.slice (A i) (L i) (C i)) (W.alloc o) := by
 obtain ⟨G, h0, h1, h2, h3, h4, hkp, h5, h6, h7⟩ := F
 have hs : base ≤ W.heap.size := Nat.le_trans D.base (Nat.le_of_lt h1.lt)
 have hb : Below W.heap.size W (W.alloc o) := (Below.refl _ _).alloc (Nat.le_refl _) o
 refine ⟨G, h0, h1.alloc o, h2.kept (World.grownBy_alloc W o none) (by simp), h3.alloc hs o, by simp, hkp.alloc o, fun j hj => (h5 j hj).below hb, fun j hj hji => World.ownsRow.alloc (h6 j hj (by omega)) o, fun j hj hji => ?_, World.ownsRow.alloc (h6 i hi (Nat.le_refl _)) o, fun g e => .inl e⟩
 obtain ⟨f, c⟩ := h7 j hj hji
 exact ⟨World.ownsRow.alloc f o, c, fun g e => by have := (World.ownsRow.lt f g e).2; omega⟩
theorem QGrowI.on (D : QLies W0 base B h N A L C M) (F : QGrowI W0 w T sz mk base B h n N f A L C M S0 S1 G i k u W) {W' : World} (hg : W.grownBy W' none) : QGrowI W0 w T sz mk base B h n N f A L C M S0 S1 G i k u W' := by
 obtain ⟨h0, h1, h2, h3, h4, hkp, h5, h6, h7, h8, h9⟩ := F
 have hs : base ≤ W.heap.size := Nat.le_trans D.base (Nat.le_of_lt h1.lt)
 have hn : ∀ v : Value, v.ownBlock = none ∨ v.ownBlock ≠ none := fun v => by cases v.ownBlock with
  | none => exact .inl rfl
  | some b => exact .inr (by simp)
 refine ⟨h0, h1.kept hg (by simp), h2.kept hg (by simp), h3.grown hg hs (fun _ e => by cases e), Nat.le_trans h4 hg.size, hkp.grown hg (fun _ e => by cases e), fun j hj => (h5 j hj).keptr hg (hn _), fun j hj hji => World.ownsRow.kept (h6 j hj hji) hg (hn _), fun j hj hji => ?_, World.ownsRow.kept h8 hg (hn _), h9⟩
 obtain ⟨f, c, l⟩ := h7 j hj hji
 exact ⟨World.ownsRow.kept f hg (hn _), c, l⟩
theorem QGrowI.step {w3 : World} {u' : Value} {o : Obj} (hmk : Marks sz mk) (D : QLies W0 base B h N A L C M) (hf : QForms N A L C) (hi : i < N) (hS : S1 ≤ W.heap.size) (hhS : h < S0) (hSS : S0 ≤ S1) (hS0 : W0.heap.size ≤ S0) (F : QGrowI W0 w T sz mk base B h n N f A L C M S0 S1 G i k u W)
   (hown : w3.ownsRow base T sz u' (L i + k + 1) (rep mk (L i + k) (M i) ++ mk (M i)))
   (hor : (u'.ownBlock = u.ownBlock ∧ (W.alloc o).grownBy w3 u.ownBlock) ∨ (u'.ownBlock = some (W.alloc o).heap.size ∧ (W.alloc o).grownBy w3 none)) :
   QGrowI W0 w T sz mk base B h n N f A L C M S0 S1 G i (k + 1) u' w3 ∧ ∃ row, (W.alloc o).grownBy w3 row ∧ ∀ g, row = some g → (g ≠ B ∧ g ≠ h ∧ g < W0.heap.size) ∨ S1 ≤ g := by
 obtain ⟨h0, h1, h2, h3, h4, hkp, h5, h6, h7, h8, h9⟩ := F
 have hs : base ≤ W.heap.size := Nat.le_trans D.base (Nat.le_of_lt h1.lt)
 have hb : Below W.heap.size W (W.alloc o) := (Below.refl _ _).alloc (Nat.le_refl _) o
 have hup := D.up
 have hfu : w3.ownsRow base T sz u' (L i + (k + 1)) (rep mk (L i + (k + 1)) (M i)) := by
   rw [show L i + (k + 1) = (L i + k) + 1 by omega, rep_succ]
   exact hown
 obtain ⟨row, hrow, hr1, hr2⟩ : ∃ row, (W.alloc o).grownBy w3 row ∧ (row = none ∨ row = u.ownBlock) ∧ ∀ g, row = some g → (Value.slice (A i) (L i) (C i)).ownBlock = some g ∨ S1 ≤ g := by
   rcases hor with ⟨_, hg⟩ | ⟨_, hg⟩
   · exact ⟨_, hg, .inr rfl, fun g e => h9 g e⟩
   · exact ⟨none, hg, .inl rfl, fun g e => by cases e⟩
 have hlow : ∀ g, row = some g → (g ≠ B ∧ g ≠ h ∧ g < W0.heap.size) ∨ S1 ≤ g := fun g e => by
   rcases hr2 g e with h | h
   · exact .inl (D.blk i g hi h)
   · exact .inr h
 have hV : ∀ j, j < N → j ≠ i → (Value.slice (A j) (L j) (C j)).ownBlock = none ∨ (Value.slice (A j) (L j) (C j)).ownBlock ≠ row := by
   intro j hj hji
   cases hv : (Value.slice (A j) (L j) (C j)).ownBlock with
   | none => exact .inl rfl
   | some g =>
     refine .inr (fun e => ?_)
     have hgB := D.blk j g hj hv
     rcases hr2 g e.symm with h | h
     · rcases D.dis j i hj hi hji with h' | h'
       · rw [hv] at h'; cases h'
       · exact h' (hv.trans h.symm)
     · omega
 have hbB : some B ≠ row := fun e => by rcases hlow B e.symm with h | h <;> omega
 have hhB : some h ≠ row := fun e => by rcases hlow h e.symm with h | h <;> omega
 refine ⟨⟨h0, (h1.alloc o).kept hrow hbB, (h2.kept (World.grownBy_alloc W o none) (by simp)).kept hrow hhB, (h3.alloc hs o).grown hrow (by simp; omega) (fun g e => ?_), ?_, (hkp.alloc o).grown hrow (fun g e => ?_), fun j hj => ?_, fun j hj hji => ?_, fun j hj hji => ?_, hfu, fun g e => ?_⟩, row, hrow, hlow⟩
 · rcases hr1 with h | h
   · rw [h] at e; cases e
   · rw [h] at e; exact (World.ownsRow.lt h8 g e).1
 · have := hrow.size; simp at this; omega
 · rcases hr2 g e with h | h
   · exact .inl (.inr ⟨i, hi, h⟩)
   · exact .inr (by omega)
 · by_cases hji : j = i
   · subst hji
     exact rdc_append hmk (hf j hj) ((h5 j hj).below hb) (by omega) hfu hor
   · exact ((h5 j hj).below hb).keptr hrow (hV j hj hji)
 · exact World.ownsRow.kept (World.ownsRow.alloc (h6 j hj hji) o) hrow (hV j hj (by omega))
 · obtain ⟨f, c, l⟩ := h7 j hj hji
   refine ⟨World.ownsRow.kept (World.ownsRow.alloc f o) hrow ?_, c, l⟩
   cases hg : (G j).ownBlock with
   | none => exact .inl rfl
   | some g =>
     refine .inr (fun e => ?_)
     have hl := l g hg
     rcases hr2 g e.symm with h | h
     · rcases c g hg with h' | h'
       · rcases D.dis j i hj hi (by omega) with h'' | h''
         · rw [h'] at h''; cases h''
         · exact h'' (h'.trans h.symm)
       · have := D.blk i g hi h; omega
     · omega
 · rcases hor with ⟨e1, _⟩ | ⟨e1, _⟩
   · rw [e1] at e; exact h9 g e
   · rw [e1] at e
     simp only [World.size_alloc, Option.some.injEq] at e
     exact .inr (by omega)
theorem QGrowI.next (D : QLies W0 base B h N A L C M) (hi : i < N) (hhS : h < S0) (hSS : S0 ≤ S1) (F : QGrowI W0 w T sz mk base B h n N f A L C M S0 S1 G i 40 u W) :
   QGrowO W0 w T sz mk base B h n N f A L C M S0 (i + 1) (W.setCell ⟨h, i * 3 + 1, none⟩ u) := by
 obtain ⟨h0, h1, h2, h3, h4, hkp, h5, h6, h7, h8, h9⟩ := F
 have hup := D.up
 have hbb := D.base
 have hg : W.grownBy (W.setCell ⟨h, i * 3 + 1, none⟩ u) (some h) := ⟨rfl, rfl, rfl, by simp, fun k _ hk => heap_setCell_other W ⟨h, i * 3 + 1, none⟩ k u (fun e => hk (by simp [e]))⟩
 have off : ∀ j, j < N → (Value.slice (A j) (L j) (C j)).ownBlock = none ∨ (Value.slice (A j) (L j) (C j)).ownBlock ≠ some h := fun j hj => .inr (fun e => by have := D.blk j h hj e; omega)
 refine ⟨fun j => if j = i then u else G j, fun j hj => by show (if j = i then u else G j) = _; rw [if_neg (by omega)]; exact h0 j (by omega), h1.other (by omega) _, h2.put hi u, h3.setCell (p := ⟨h, i * 3 + 1, none⟩) (show base ≤ h by omega) _, by simp; omega, hkp.grown hg (fun g e => .inl (.inl (by simpa using e.symm))), fun j hj => (h5 j hj).keptr hg (off j hj), fun j hj hji => World.ownsRow.kept (h6 j hj (by omega)) hg (off j hj), fun j hj hji => ?_⟩
 by_cases e : j = i
 · subst e
   simp only [if_true]
   refine ⟨World.ownsRow.kept h8 hg (.inr fun e => ?_), fun g e => ?_⟩
   · rcases h9 h e with h' | h'
     · have := D.blk j h hj h'; omega
     · omega
   · rcases h9 g e with h' | h'
     · exact .inl h'
     · exact .inr (by omega)
 · simp only [if_neg e]
   obtain ⟨f, c, l⟩ := h7 j hj (by omega)
   refine ⟨World.ownsRow.kept f hg (.inr fun e => ?_), c⟩
   rcases c h e with h' | h'
   · have := D.blk j h hj h'; omega
   · omega
end
section
variable (W0 w : World) (mk : Nat → List Value) (base B h n N : Nat) (f : Nat → Value) (A : Nat → Option Addr) (L C M : Nat → Nat)
def QLook (G : Nat → Value) (W : World) : Prop :=
 QBook W B n f ∧ QAt W h N (fun j => .slice (A j) (L j) (C j)) G M ∧ Below base w W ∧ base ≤ W.heap.size ∧ Kp W0 W (QR h N A L C) ∧ ∀ j, j < N → RdC W (.slice (A j) (L j) (C j)) (L j) (rep mk (L j) (M j)) ∧ RdC W (G j) (L j + 40) (rep mk (L j + 40) (M j))
end
section
variable {W0 w W : World} {T sz : Nat} {mk : Nat → List Value} {base B h n N S0 : Nat} {f : Nat → Value} {A : Nat → Option Addr} {L C M : Nat → Nat} {G : Nat → Value}
theorem QLook.of (D : QLies W0 base B h N A L C M) (F : QGrowO W0 w T sz mk base B h n N f A L C M S0 N W) : ∃ G, QLook W0 w mk base B h n N f A L C M G W := by
 obtain ⟨G, _, h1, h2, h3, h4, hkp, h5, _, h7⟩ := F
 have hs : base ≤ W.heap.size := Nat.le_trans D.base (Nat.le_of_lt h1.lt)
 exact ⟨G, h1, h2, h3, hs, hkp, fun j hj => ⟨h5 j hj, own_rdc (h7 j hj hj).1⟩⟩
theorem QLook.on {W' : World} (F : QLook W0 w mk base B h n N f A L C M G W) (hg : W.grownBy W' none) : QLook W0 w mk base B h n N f A L C M G W' := by
 obtain ⟨h1, h2, h3, h4, hkp, h5⟩ := F
 have hn : ∀ v : Value, v.ownBlock = none ∨ v.ownBlock ≠ none := fun v => by cases v.ownBlock with
  | none => exact .inl rfl
  | some b => exact .inr (by simp)
 exact ⟨h1.kept hg (by simp), h2.kept hg (by simp), h3.grown hg h4 (fun _ e => by cases e), Nat.le_trans h4 hg.size, hkp.grown hg (fun _ e => by cases e), fun j hj => ⟨(h5 j hj).1.keptr hg (hn _), (h5 j hj).2.keptr hg (hn _)⟩⟩
theorem QLook.alloc (F : QLook W0 w mk base B h n N f A L C M G W) (o : Obj) : QLook W0 w mk base B h n N f A L C M G (W.alloc o) := by
 obtain ⟨h1, h2, h3, h4, hkp, h5⟩ := F
 have hb : Below W.heap.size W (W.alloc o) := (Below.refl _ _).alloc (Nat.le_refl _) o
 exact ⟨h1.alloc o, h2.kept (World.grownBy_alloc W o none) (by simp), h3.alloc h4 o, by simp; omega, hkp.alloc o, fun j hj => ⟨(h5 j hj).1.below hb, (h5 j hj).2.below hb⟩⟩
theorem QLook.drewN (F : QLook W0 w mk base B h n N f A L C M G W) (m : Nat) : QLook W0 w mk base B h n N f A L C M G (W.drewN m) := by
 obtain ⟨h1, h2, h3, h4, hkp, h5⟩ := F
 exact ⟨h1, h2, ⟨h3.os, h3.tape, h3.output, h3.size, h3.block⟩, h4, hkp, h5⟩
end
section
variable {W0 w W W' : World} {T sz : Nat} {mk : Nat → List Value} {base B h n N i k S0 : Nat} {f : Nat → Value} {A : Nat → Option Addr} {L C M : Nat → Nat} {G : Nat → Value} {R : Nat → Prop}
theorem kp_cells {W W' : World} {R : Nat → Prop} (h : Kp W W' R) {b : Nat} (hb : b < W.heap.size) (hn : ¬ R b) (o : Nat) : W'.cell? ⟨b, o, none⟩ = W.cell? ⟨b, o, none⟩ := World.cell?_of_block (h.2 b hb hn)
theorem kp_set (W : World) (B o : Nat) (u : Value) : W.grownBy (W.setCell ⟨B, o, none⟩ u) (some B) := ⟨rfl, rfl, rfl, by simp, fun k _ hk => heap_setCell_other W ⟨B, o, none⟩ k u (fun e => hk (by simp [e]))⟩
theorem kp_row {W W' : World} {R : Nat → Prop} (h : Kp W W' R) {base e size : Nat} {v : Value} {n : Nat} {xs : List Value} (ho : W.ownsRow base e size v n xs) (hn : ∀ g, v.ownBlock = some g → ¬ R g) : W'.ownsRow base e size v n xs := by
 refine ⟨ho.1, ?_⟩
 rcases ho.2 with h' | ⟨g, cap, cur, e1, hb, hg, hr⟩
 · exact .inl h'
 · refine .inr ⟨g, cap, cur, e1, hb, ?_, hr⟩
   rw [h.2 g (Array.getElem?_eq_some_iff.1 hg).1 (hn g (by rw [e1]; rfl))]
   exact hg
theorem kp_rdc {W W' : World} {R : Nat → Prop} (h : Kp W W' R) {v : Value} {n : Nat} {xs : List Value} (ho : RdC W v n xs) (hn : ∀ g, v.ownBlock = some g → ¬ R g) : RdC W' v n xs := by
 obtain ⟨a, cap, rfl, hc, h5⟩ := ho
 refine ⟨a, cap, rfl, hc, fun h0 => ?_⟩
 obtain ⟨b, off, rfl, hb, hcell⟩ := h5 h0
 exact ⟨b, off, rfl, Nat.lt_of_lt_of_le hb h.1, fun o u ho => (kp_cells h hb (hn b rfl) (off + o)).trans (hcell o u ho)⟩
theorem kp_at {W W' : World} {R : Nat → Prop} {V : Nat → Value} (h : Kp W W' R) {b N : Nat} {G : Nat → Value} {M : Nat → Nat} (H : QAt W b N V G M) (hn : ¬ R b) : QAt W' b N V G M := by
 have hlt := H.lt
 obtain ⟨⟨cur, e, e1⟩, H2⟩ := H
 refine ⟨⟨cur, e, (h.2 b hlt hn).trans e1⟩, fun j hj => ?_⟩
 have c := kp_cells h hlt hn
 rw [c, c, c]; exact H2 j hj
theorem QFill.far (F : QFill W0 w T sz mk base B h n N f A L C M i k W) (hk : Kp W W' R) (hB : QBook W' B n f) (hw : Below base w W') (hh : ¬ R h) (hA : ∀ j g, j < N → (Value.slice (A j) (L j) (C j)).ownBlock = some g → ¬ R g) : QFill W' w T sz mk base B h n N f A L C M i k W' := by
 obtain ⟨_, h2, _, _, h4⟩ := F
 refine ⟨hB, kp_at hk h2 hh, hw, Kp.refl, fun j hj => ?_⟩
 obtain ⟨xs, e, g1, g2⟩ := h4 j hj
 exact ⟨xs, kp_row hk e (fun g e => hA j g hj e), g1, g2⟩
theorem QGrowO.far (F : QGrowO W0 w T sz mk base B h n N f A L C M S0 i W) (hk : Kp W W' R) (hB : QBook W' B n f) (hw : Below base w W') (hh : ¬ R h) (hA : ∀ j g, j < N → (Value.slice (A j) (L j) (C j)).ownBlock = some g → ¬ R g) (hS : ∀ g, S0 ≤ g → g < W.heap.size → ¬ R g) : QGrowO W' w T sz mk base B h n N f A L C M S0 i W' := by
 obtain ⟨G, h0, _, h2, _, h4, _, h5, h6, h7⟩ := F
 refine ⟨G, h0, hB, kp_at hk h2 hh, hw, Nat.le_trans h4 hk.1, Kp.refl, fun j hj => kp_rdc hk (h5 j hj) (fun g e => hA j g hj e), fun j hj hji => kp_row hk (h6 j hj hji) (fun g e => hA j g hj e), fun j hj hji => ?_⟩
 obtain ⟨r, c⟩ := h7 j hj hji
 refine ⟨kp_row hk r (fun g e => ?_), c⟩
 rcases c g e with h' | h'
 · exact hA j g hj h'
 · exact hS g h' (World.ownsRow.lt r g e).2
theorem QLook.far {R : Nat → Prop} (F : QLook W0 w mk base B h n N f A L C M G W) (hk : Kp W W' R) (hB : QBook W' B n f) (hw : Below base w W') (hh : ¬ R h) (hA : ∀ j g, j < N → (Value.slice (A j) (L j) (C j)).ownBlock = some g → ¬ R g) (hG : ∀ j g, j < N → (G j).ownBlock = some g → ¬ R g) : QLook W' w mk base B h n N f A L C M G W' := by
 obtain ⟨_, h2, _, h4, _, h5⟩ := F
 exact ⟨hB, kp_at hk h2 hh, hw, Nat.le_trans h4 hk.1, Kp.refl, fun j hj => ⟨kp_rdc hk (h5 j hj).1 (fun g e => hA j g hj e), kp_rdc hk (h5 j hj).2 (fun g e => hG j g hj e)⟩⟩
end
def K32 (W W' : World) : Prop := ∀ (g : Nat) (cur : Array Value) (fr : Nat × Nat), W.heap[g]? = some (.cells cur 71 fr) → W'.heap[g]? = some (.cells cur 71 fr)
section
variable {W W' V : World}
theorem K32.refl : K32 W W := fun _ _ _ h => h
theorem K32.trans (h : K32 W W') (k : K32 W' V) : K32 W V := fun g c f e => k g c f (h g c f e)
theorem K32.alloc (W : World) (o : Obj) : K32 W (W.alloc o) := fun g _ _ e => (Below.heap_alloc W o g (Array.getElem?_eq_some_iff.1 e).1).trans e
theorem K32.grown {row : Option Nat} (hg : W.grownBy W' row) (hr : ∀ g, row = some g → ∃ cur u fr, W.heap[g]? = some (.cells cur u fr) ∧ u ≠ 71) : K32 W W' := by
 intro g cur fr e
 refine (hg.block g (Array.getElem?_eq_some_iff.1 e).1 fun e1 => ?_).trans e
 obtain ⟨c, u, f, e2, hu⟩ := hr g e1.symm
 rw [e2] at e
 cases e
 exact hu rfl
theorem K32.none (hg : W.grownBy W' none) : K32 W W' := K32.grown hg (fun _ e => by cases e)
theorem K32.own {base T sz n : Nat} {v : Value} {xs : List Value} (hT : T ≠ 71) (ho : W.ownsRow base T sz v n xs) (hg : W.grownBy W' v.ownBlock) : K32 W W' := K32.grown hg fun g e => by
 rcases ho.2 with ⟨rfl, _⟩ | ⟨g', cap, cur, rfl, _, hgb, _⟩
 · cases e
 · have e2 : g' = g := by simpa [Value.ownBlock] using e
   exact ⟨cur, T, _, e2 ▸ hgb, hT⟩
end
structure PMarks (sz : Nat) (PM : World → Nat → Nat → List Value → Prop) : Prop where
 pos : 0 < sz
 len : ∀ {W m n xs}, PM W m n xs → xs.length = n * sz
 nil : ∀ {W m}, PM W m 0 []
 snoc : ∀ {W m n xs cs}, PM W m n xs → PM W m 1 cs → PM W m (n + 1) (xs ++ cs)
 keep : ∀ {W W' m n xs}, PM W m n xs → K32 W W' → PM W' m n xs
section
variable (W0 w : World) (T HT sz : Nat) (PM : World → Nat → Nat → List Value → Prop) (base B h n N cap : Nat) (f : Nat → Value) (A : Nat → Option Addr) (L C M : Nat → Nat)
structure WLies : Prop where
 base : base ≤ B
 up : B < h
 blk : ∀ j g, j < N → (Value.slice (A j) (L j) (C j)).ownBlock = some g → g ≠ B ∧ g ≠ h ∧ g < W0.heap.size
 dis : ∀ j k, j < N → k < N → j ≠ k → (Value.slice (A j) (L j) (C j)).ownBlock = none ∨ (Value.slice (A j) (L j) (C j)).ownBlock ≠ (Value.slice (A k) (L k) (C k)).ownBlock
 len : ∀ j, j < N → L j ≤ 2000000
 num : ∀ j, j < N → M j ≤ 100000
 few : N ≤ 100000
def HTag (W : World) : Prop := ∃ cur, W.heap[h]? = some (.cells cur HT (0, 0))
def WFill (i k : Nat) (W : World) : Prop :=
 QBook W B n f ∧ QAt W h N (fun j => .slice (A j) (L j) (C j)) (fun _ => .slice none 0 0) M ∧ Below base w W ∧ Kp W0 W (QR h N A L C) ∧ HTag HT h W ∧
 ∀ j, j < N → ∃ xs, W.ownsRow base T sz (.slice (A j) (L j) (C j)) (L j) xs ∧ (j < i → PM W (M j) (L j) xs) ∧ (j = i → PM W (M j) k (xs.take (k * sz)))
end
section
variable {W0 w W W' : World} {T HT sz : Nat} {PM : World → Nat → Nat → List Value → Prop} {base B h n N cap i k : Nat} {f : Nat → Value} {A : Nat → Option Addr} {L C M : Nat → Nat}
theorem HTag.kept {row : Option Nat} (H : HTag HT h W) (hg : W.grownBy W' row) (hr : some h ≠ row) : HTag HT h W' := by
 obtain ⟨cur, e⟩ := H
 exact ⟨cur, (hg.block h (Array.getElem?_eq_some_iff.1 e).1 hr).trans e⟩
theorem own_none {v : Value} : v.ownBlock = none ∨ v.ownBlock ≠ none := by
 cases v.ownBlock with
 | none => exact .inl rfl
 | some b => exact .inr (by simp)
theorem WFill.on (K : PMarks sz PM) (D : WLies W0 base B h N A L C M) (F : WFill W0 w T HT sz PM base B h n N f A L C M i k W) (hg : W.grownBy W' none) : WFill W0 w T HT sz PM base B h n N f A L C M i k W' := by
 obtain ⟨h1, h2, h3, hk, ht, h4⟩ := F
 have hs : base ≤ W.heap.size := Nat.le_trans D.base (Nat.le_of_lt h1.lt)
 have k32 := K32.none hg
 refine ⟨h1.kept hg (by simp), h2.kept hg (by simp), h3.grown hg hs (fun _ e => by cases e), hk.grown hg (fun _ e => by cases e), ht.kept hg (by simp), fun j hj => ?_⟩
 obtain ⟨l, e, g1, g2⟩ := h4 j hj
 exact ⟨l, World.ownsRow.kept e hg own_none, fun x => K.keep (g1 x) k32, fun x => K.keep (g2 x) k32⟩
theorem WFill.alloc (K : PMarks sz PM) (D : WLies W0 base B h N A L C M) (F : WFill W0 w T HT sz PM base B h n N f A L C M i k W) (o : Obj) : WFill W0 w T HT sz PM base B h n N f A L C M i k (W.alloc o) := F.on K D (World.grownBy_alloc W o none)
theorem WFill.next (K : PMarks sz PM) (F : WFill W0 w T HT sz PM base B h n N f A L C M i (L i) W) : WFill W0 w T HT sz PM base B h n N f A L C M (i + 1) 0 W := by
 refine ⟨F.1, F.2.1, F.2.2.1, F.2.2.2.1, F.2.2.2.2.1, fun j hj => ?_⟩
 obtain ⟨l, e, g1, g2⟩ := F.2.2.2.2.2 j hj
 refine ⟨l, e, fun hji => ?_, fun _ => by rw [Nat.zero_mul, List.take_zero]; exact K.nil⟩
 by_cases hj' : j = i
 · have := g2 hj'
   subst hj'
   rwa [List.take_of_length_le (by rw [e.1]; exact Nat.le_refl _)] at this
 · exact g1 (by omega)
theorem WFill.put (K : PMarks sz PM) (hT : T ≠ 71) (D : WLies W0 base B h N A L C M) {g : Nat} (hA : A i = some ⟨g, 0, none⟩) (hi : i < N) (hk : k < L i) {cs : List Value} (hcs : PM W (M i) 1 cs) (F : WFill W0 w T HT sz PM base B h n N f A L C M i k W) :
   WFill W0 w T HT sz PM base B h n N f A L C M i (k + 1) (W.setCells g (k * sz) cs) := by
 obtain ⟨h1, h2, h3, hkp, ht, h4⟩ := F
 have eo : (Value.slice (A i) (L i) (C i)).ownBlock = some g := by rw [hA]; rfl
 have hgB := D.blk i g hi eo
 have hup := D.up
 obtain ⟨xi, ei, gi1, gi2⟩ := h4 i hi
 have hb : base ≤ g ∧ g < W.heap.size := World.ownsRow.lt ei g eo
 have ei0 := ei
 rw [hA] at ei
 obtain ⟨ei2, hgr⟩ := q_setCells (W := W) cs (k * sz) ei
 have k32 : K32 W (W.setCells g (k * sz) cs) := K32.own hT ei (by rw [show (Value.slice (some ⟨g, 0, none⟩) (L i) (C i)).ownBlock = some g from rfl]; exact hgr)
 have hlc := K.len hcs
 rw [Nat.one_mul] at hlc
 refine ⟨h1.kept hgr (by simp; omega), h2.kept hgr (by simp; omega), h3.grown hgr (by omega) (fun k e => by simp only [Option.some.injEq] at e; omega), hkp.grown hgr (fun b e => .inl (.inr ⟨i, hi, by rw [eo]; exact e⟩)), ht.kept hgr (by simp; omega), fun j hj => ?_⟩
 by_cases hji : j = i
 · subst hji
   refine ⟨_, by rw [hA]; exact ei2, fun hlt => absurd hlt (Nat.lt_irrefl _), fun _ => ?_⟩
   have hle : k * sz + cs.length ≤ xi.length := by
     rw [hlc, ei.1, ← Nat.succ_mul]
     exact Nat.mul_le_mul_right sz hk
   have := setL'_take cs xi (k * sz) hle
   rw [hlc, ← Nat.succ_mul] at this
   rw [this]
   exact K.keep (K.snoc (gi2 rfl) hcs) k32
 · obtain ⟨l, e, g1, g2⟩ := h4 j hj
   refine ⟨l, World.ownsRow.kept e hgr ?_, fun x => K.keep (g1 x) k32, fun e2 => absurd e2 hji⟩
   rcases D.dis j i hj hi hji with h5 | h5
   · exact .inl h5
   · rw [eo] at h5; exact .inr h5
theorem WFill.form (F : WFill W0 w T HT sz PM base B h n N f A L C M i k W) (j : Nat) (hj : j < N) (h0 : 0 < L j) : ∃ g, A j = some ⟨g, 0, none⟩ ∧ g < W.heap.size ∧ L j ≤ C j ∧ (∀ o, o < L j * sz → ∃ x, W.cell? ⟨g, o, none⟩ = some x) ∧ ∀ o, W.frozen? ⟨g, o, none⟩ = false := by
 obtain ⟨l, e, _⟩ := F.2.2.2.2.2 j hj
 have e0 := e
 rcases own_form e with ⟨_, h1, _⟩ | ⟨g, ea, _, hlt, hn⟩
 · omega
 · rw [ea] at e0
   refine ⟨g, ea, hlt, hn, fun o ho => ⟨l[o]'(by rw [e.1]; exact ho), ?_⟩, fun o => World.ownsRow.frozenAt e0 o⟩
   rw [World.ownsRow.cellAt e0 o ho]
   exact List.getElem?_eq_getElem _
theorem WFill.forms (F : WFill W0 w T HT sz PM base B h n N f A L C M i k W) : QForms N A L C := by
 intro j hj
 obtain ⟨l, e, _⟩ := F.2.2.2.2.2 j hj
 rcases own_form e with h | ⟨g, h, _⟩
 · exact .inl h
 · exact .inr ⟨g, h⟩
end
section
variable (W0 w : World) (T HT sz : Nat) (PM : World → Nat → Nat → List Value → Prop) (base B h n N cap : Nat) (f : Nat → Value) (A : Nat → Option Addr) (L C M : Nat → Nat) (S0 : Nat)
def WGrowO (i : Nat) (W : World) : Prop :=
 ∃ (G : Nat → Value) (X Y : Nat → List Value), (∀ j, i ≤ j → G j = .slice none 0 0) ∧ QBook W B n f ∧ QAt W h N (fun j => .slice (A j) (L j) (C j)) G M ∧ Below base w W ∧ S0 ≤ W.heap.size ∧ Kp W0 W (QR h N A L C) ∧ HTag HT h W ∧
  (∀ j, j < N → RdC W (.slice (A j) (L j) (C j)) (L j) (X j) ∧ PM W (M j) (L j) (X j)) ∧ (∀ j, j < N → i ≤ j → W.ownsRow base T sz (.slice (A j) (L j) (C j)) (L j) (X j)) ∧
  ∀ j, j < N → j < i → W.ownsRow base T sz (G j) (L j + 40) (Y j) ∧ PM W (M j) (L j + 40) (Y j) ∧ QBlkC A L C S0 j (G j)
def WGrowI (S1 : Nat) (G : Nat → Value) (X Y : Nat → List Value) (i k : Nat) (u : Value) (U : List Value) (W : World) : Prop :=
 (∀ j, i ≤ j → G j = .slice none 0 0) ∧ QBook W B n f ∧ QAt W h N (fun j => .slice (A j) (L j) (C j)) G M ∧ Below base w W ∧ S1 ≤ W.heap.size ∧ Kp W0 W (QR h N A L C) ∧ HTag HT h W ∧
  (∀ j, j < N → RdC W (.slice (A j) (L j) (C j)) (L j) (X j) ∧ PM W (M j) (L j) (X j)) ∧ (∀ j, j < N → i < j → W.ownsRow base T sz (.slice (A j) (L j) (C j)) (L j) (X j)) ∧
  (∀ j, j < N → j < i → W.ownsRow base T sz (G j) (L j + 40) (Y j) ∧ PM W (M j) (L j + 40) (Y j) ∧ QBlkC A L C S0 j (G j) ∧ ∀ g, (G j).ownBlock = some g → g < S1) ∧
  W.ownsRow base T sz u (L i + k) U ∧ PM W (M i) (L i + k) U ∧ (∃ Z, U = X i ++ Z) ∧ QBlkC A L C S1 i u
def WLook (G : Nat → Value) (X Y : Nat → List Value) (W : World) : Prop :=
 QBook W B n f ∧ QAt W h N (fun j => .slice (A j) (L j) (C j)) G M ∧ Below base w W ∧ base ≤ W.heap.size ∧ Kp W0 W (QR h N A L C) ∧ ∀ j, j < N → (RdC W (.slice (A j) (L j) (C j)) (L j) (X j) ∧ PM W (M j) (L j) (X j)) ∧ RdC W (G j) (L j + 40) (Y j) ∧ PM W (M j) (L j + 40) (Y j)
end
theorem rdw_append {W W' : World} {T sz : Nat} {base L K c : Nat} {X Z : List Value} {a : Option Addr} {u u' : Value} (form : (a = none ∧ L = 0 ∧ c = 0) ∨ ∃ g, a = some ⟨g, 0, none⟩) (hX : X.length = L * sz) (hv : RdC W (.slice a L c) L X) (hK : L ≤ K)
   (hu : W'.ownsRow base T sz u' K (X ++ Z)) (hor : (u'.ownBlock = u.ownBlock ∧ W.grownBy W' u.ownBlock) ∨ (u'.ownBlock = some W.heap.size ∧ W.grownBy W' none)) : RdC W' (.slice a L c) L X := by
 rcases form with ⟨rfl, rfl, rfl⟩ | ⟨g, rfl⟩
 · exact ⟨none, 0, rfl, Nat.le_refl _, fun h => by omega⟩
 · rcases hor with ⟨e, hg⟩ | ⟨_, hg⟩
   · by_cases hgu : some g = u.ownBlock
     · rcases hu.2 with ⟨e1, e2⟩ | ⟨g', cap, cur, rfl, _, hlt, hn, _⟩
       · obtain rfl : L = 0 := by omega
         subst e1
         rw [← hgu] at e
         cases e
       · rw [← hgu] at e
         have eg : g' = g := by simpa [Value.ownBlock] using e
         subst eg
         obtain ⟨a', cp, e3, hcp, _⟩ := hv
         simp only [Value.slice.injEq] at e3
         obtain ⟨_, _, rfl⟩ := e3
         refine ⟨_, c, rfl, hcp, fun _ => ⟨g', 0, rfl, (Array.getElem?_eq_some_iff.1 hlt).1, fun o v ho => ?_⟩⟩
         have ho' : o < L * sz := by have := (List.getElem?_eq_some_iff.1 ho).1; rwa [hX] at this
         have hLK : L * sz ≤ K * sz := Nat.mul_le_mul_right sz hK
         rw [Nat.zero_add, World.ownsRow.cellAt hu o (by omega), List.getElem?_append_left (by omega)]
         exact ho
     · exact hv.keptr hg (.inr (by simpa [Value.ownBlock] using hgu))
   · exact hv.keptr hg (.inr (by simp [Value.ownBlock]))
section
variable {W0 w W W' : World} {T HT sz : Nat} {PM : World → Nat → Nat → List Value → Prop} {base B h n N cap S0 S1 i k : Nat} {f : Nat → Value} {A : Nat → Option Addr} {L C M : Nat → Nat} {G : Nat → Value} {X Y : Nat → List Value} {u : Value} {U : List Value}
theorem WGrowO.start (F : WFill W0 w T HT sz PM base B h n N f A L C M N 0 W) : WGrowO W0 w T HT sz PM base B h n N f A L C M W.heap.size 0 W := by
 have hx : ∀ j, ∃ xs : List Value, j < N → W.ownsRow base T sz (.slice (A j) (L j) (C j)) (L j) xs ∧ PM W (M j) (L j) xs := fun j => by
   by_cases hj : j < N
   · obtain ⟨l, e, g, _⟩ := F.2.2.2.2.2 j hj
     exact ⟨l, fun _ => ⟨e, g hj⟩⟩
   · exact ⟨[], fun h => absurd h hj⟩
 refine ⟨fun _ => .slice none 0 0, fun j => Classical.choose (hx j), fun _ => [], fun _ _ => rfl, F.1, F.2.1, F.2.2.1, Nat.le_refl _, F.2.2.2.1, F.2.2.2.2.1, fun j hj => ?_, fun j hj _ => ?_, fun j _ hj => absurd hj (Nat.not_lt_zero _)⟩
 · have := Classical.choose_spec (hx j) hj
   exact ⟨own_rdc this.1, this.2⟩
 · exact (Classical.choose_spec (hx j) hj).1
theorem WGrowO.inner (K : PMarks sz PM) (D : WLies W0 base B h N A L C M) (F : WGrowO W0 w T HT sz PM base B h n N f A L C M S0 i W) (hi : i < N) (o : Obj) :
  ∃ G X Y, WGrowI W0 w T HT sz PM base B h n N f A L C M S0 (W.heap.size + 1) G X Y i 0 (.slice (A i) (L i) (C i)) (X i) (W.alloc o) := by
 obtain ⟨G, X, Y, h0, h1, h2, h3, h4, hkp, ht, h5, h6, h7⟩ := F
 have hs : base ≤ W.heap.size := Nat.le_trans D.base (Nat.le_of_lt h1.lt)
 have hb : Below W.heap.size W (W.alloc o) := (Below.refl _ _).alloc (Nat.le_refl _) o
 have k32 := K32.alloc W o
 refine ⟨G, X, Y, h0, h1.alloc o, h2.kept (World.grownBy_alloc W o none) (by simp), h3.alloc hs o, by simp, hkp.alloc o, ht.kept (World.grownBy_alloc W o none) (by simp), fun j hj => ⟨(h5 j hj).1.below hb, K.keep (h5 j hj).2 k32⟩, fun j hj hji => World.ownsRow.alloc (h6 j hj (by omega)) o, fun j hj hji => ?_, World.ownsRow.alloc (h6 i hi (Nat.le_refl _)) o, K.keep (h5 i hi).2 k32, ⟨[], by simp⟩, fun g e => .inl e⟩
 obtain ⟨f, p, c⟩ := h7 j hj hji
 exact ⟨World.ownsRow.alloc f o, K.keep p k32, c, fun g e => by have := (World.ownsRow.lt f g e).2; omega⟩
theorem WGrowI.on (K : PMarks sz PM) (D : WLies W0 base B h N A L C M) (F : WGrowI W0 w T HT sz PM base B h n N f A L C M S0 S1 G X Y i k u U W) (hg : W.grownBy W' none) : WGrowI W0 w T HT sz PM base B h n N f A L C M S0 S1 G X Y i k u U W' := by
 obtain ⟨h0, h1, h2, h3, h4, hkp, ht, h5, h6, h7, h8, hp, hz, h9⟩ := F
 have hs : base ≤ W.heap.size := Nat.le_trans D.base (Nat.le_of_lt h1.lt)
 have k32 := K32.none hg
 refine ⟨h0, h1.kept hg (by simp), h2.kept hg (by simp), h3.grown hg hs (fun _ e => by cases e), Nat.le_trans h4 hg.size, hkp.grown hg (fun _ e => by cases e), ht.kept hg (by simp), fun j hj => ⟨(h5 j hj).1.keptr hg own_none, K.keep (h5 j hj).2 k32⟩, fun j hj hji => World.ownsRow.kept (h6 j hj hji) hg own_none, fun j hj hji => ?_, World.ownsRow.kept h8 hg own_none, K.keep hp k32, hz, h9⟩
 obtain ⟨f, p, c, l⟩ := h7 j hj hji
 exact ⟨World.ownsRow.kept f hg own_none, K.keep p k32, c, l⟩
theorem WGrowI.step (K : PMarks sz PM) (hT : T ≠ 71) {w3 : World} {u' : Value} {o : Obj} {cs : List Value} (hcs : PM W (M i) 1 cs) (D : WLies W0 base B h N A L C M) (hf : QForms N A L C) (hi : i < N) (hS : S1 ≤ W.heap.size) (hhS : h < S0) (hSS : S0 ≤ S1) (hS0 : W0.heap.size ≤ S0) (F : WGrowI W0 w T HT sz PM base B h n N f A L C M S0 S1 G X Y i k u U W)
   (hown : w3.ownsRow base T sz u' (L i + k + 1) (U ++ cs))
   (hor : (u'.ownBlock = u.ownBlock ∧ (W.alloc o).grownBy w3 u.ownBlock) ∨ (u'.ownBlock = some (W.alloc o).heap.size ∧ (W.alloc o).grownBy w3 none)) :
   WGrowI W0 w T HT sz PM base B h n N f A L C M S0 S1 G X Y i (k + 1) u' (U ++ cs) w3 ∧ ∃ row, (W.alloc o).grownBy w3 row ∧ ∀ g, row = some g → (g ≠ B ∧ g ≠ h ∧ g < W0.heap.size) ∨ S1 ≤ g := by
 obtain ⟨h0, h1, h2, h3, h4, hkp, ht, h5, h6, h7, h8, hp, hz, h9⟩ := F
 have hs : base ≤ W.heap.size := Nat.le_trans D.base (Nat.le_of_lt h1.lt)
 have hb : Below W.heap.size W (W.alloc o) := (Below.refl _ _).alloc (Nat.le_refl _) o
 have hup := D.up
 have k32 : K32 W w3 := (K32.alloc W o).trans (by
   rcases hor with ⟨_, hg⟩ | ⟨_, hg⟩
   · exact K32.own hT (World.ownsRow.alloc h8 o) hg
   · exact K32.none hg)
 obtain ⟨row, hrow, hr1, hr2⟩ : ∃ row, (W.alloc o).grownBy w3 row ∧ (row = none ∨ row = u.ownBlock) ∧ ∀ g, row = some g → (Value.slice (A i) (L i) (C i)).ownBlock = some g ∨ S1 ≤ g := by
   rcases hor with ⟨_, hg⟩ | ⟨_, hg⟩
   · exact ⟨_, hg, .inr rfl, fun g e => h9 g e⟩
   · exact ⟨none, hg, .inl rfl, fun g e => by cases e⟩
 have hlow : ∀ g, row = some g → (g ≠ B ∧ g ≠ h ∧ g < W0.heap.size) ∨ S1 ≤ g := fun g e => by
   rcases hr2 g e with h | h
   · exact .inl (D.blk i g hi h)
   · exact .inr h
 have hV : ∀ j, j < N → j ≠ i → (Value.slice (A j) (L j) (C j)).ownBlock = none ∨ (Value.slice (A j) (L j) (C j)).ownBlock ≠ row := by
   intro j hj hji
   cases hv : (Value.slice (A j) (L j) (C j)).ownBlock with
   | none => exact .inl rfl
   | some g =>
     refine .inr (fun e => ?_)
     have hgB := D.blk j g hj hv
     rcases hr2 g e.symm with h | h
     · rcases D.dis j i hj hi hji with h' | h'
       · rw [hv] at h'; cases h'
       · exact h' (hv.trans h.symm)
     · omega
 have hbB : some B ≠ row := fun e => by rcases hlow B e.symm with h | h <;> omega
 have hhB : some h ≠ row := fun e => by rcases hlow h e.symm with h | h <;> omega
 refine ⟨⟨h0, (h1.alloc o).kept hrow hbB, (h2.kept (World.grownBy_alloc W o none) (by simp)).kept hrow hhB, (h3.alloc hs o).grown hrow (by simp; omega) (fun g e => ?_), ?_, (hkp.alloc o).grown hrow (fun g e => ?_), (ht.kept (World.grownBy_alloc W o none) (by simp)).kept hrow hhB, fun j hj => ⟨?_, K.keep (h5 j hj).2 k32⟩, fun j hj hji => ?_, fun j hj hji => ?_, by rw [show L i + (k + 1) = L i + k + 1 by omega]; exact hown, by rw [show L i + (k + 1) = L i + k + 1 by omega]; exact K.keep (K.snoc hp hcs) k32, ?_, fun g e => ?_⟩, row, hrow, hlow⟩
 · rcases hr1 with h | h
   · rw [h] at e; cases e
   · rw [h] at e; exact (World.ownsRow.lt h8 g e).1
 · have := hrow.size; simp at this; omega
 · rcases hr2 g e with h | h
   · exact .inl (.inr ⟨i, hi, h⟩)
   · exact .inr (by omega)
 · by_cases hji : j = i
   · subst hji
     obtain ⟨Z, rfl⟩ := hz
     rw [List.append_assoc] at hown
     exact rdw_append (hf j hj) (K.len (h5 j hj).2) ((h5 j hj).1.below hb) (by omega) hown hor
   · exact ((h5 j hj).1.below hb).keptr hrow (hV j hj hji)
 · exact World.ownsRow.kept (World.ownsRow.alloc (h6 j hj hji) o) hrow (hV j hj (by omega))
 · obtain ⟨f, p, c, l⟩ := h7 j hj hji
   refine ⟨World.ownsRow.kept (World.ownsRow.alloc f o) hrow ?_, K.keep p k32, c, l⟩
   cases hg : (G j).ownBlock with
   | none => exact .inl rfl
   | some g =>
     refine .inr (fun e => ?_)
     have hl := l g hg
     rcases hr2 g e.symm with h | h
     · rcases c g hg with h' | h'
       · rcases D.dis j i hj hi (by omega) with h'' | h''
         · rw [h'] at h''; cases h''
         · exact h'' (h'.trans h.symm)
       · have := D.blk i g hi h; omega
     · omega
 · obtain ⟨Z, rfl⟩ := hz
   exact ⟨Z ++ cs, List.append_assoc ..⟩
 · rcases hor with ⟨e1, _⟩ | ⟨e1, _⟩
   · rw [e1] at e; exact h9 g e
   · rw [e1] at e
     simp only [World.size_alloc, Option.some.injEq] at e
     exact .inr (by omega)
theorem WGrowI.next (K : PMarks sz PM) (hHT : HT ≠ 71) (D : WLies W0 base B h N A L C M) (hi : i < N) (hhS : h < S0) (hSS : S0 ≤ S1) (F : WGrowI W0 w T HT sz PM base B h n N f A L C M S0 S1 G X Y i 40 u U W) :
   WGrowO W0 w T HT sz PM base B h n N f A L C M S0 (i + 1) (W.setCell ⟨h, i * 3 + 1, none⟩ u) := by
 obtain ⟨h0, h1, h2, h3, h4, hkp, ht, h5, h6, h7, h8, hp, hz, h9⟩ := F
 have hup := D.up
 have hbb := D.base
 have hg : W.grownBy (W.setCell ⟨h, i * 3 + 1, none⟩ u) (some h) := kp_set W h (i * 3 + 1) u
 obtain ⟨cur, hcur⟩ := ht
 have k32 : K32 W (W.setCell ⟨h, i * 3 + 1, none⟩ u) := K32.grown hg (fun g e => by cases e; exact ⟨cur, HT, _, hcur, hHT⟩)
 have off : ∀ j, j < N → (Value.slice (A j) (L j) (C j)).ownBlock = none ∨ (Value.slice (A j) (L j) (C j)).ownBlock ≠ some h := fun j hj => .inr (fun e => by have := D.blk j h hj e; omega)
 refine ⟨fun j => if j = i then u else G j, X, fun j => if j = i then U else Y j, fun j hj => by show (if j = i then u else G j) = _; rw [if_neg (by omega)]; exact h0 j (by omega), h1.other (by omega) _, h2.put hi u, h3.setCell (p := ⟨h, i * 3 + 1, none⟩) (show base ≤ h by omega) _, by simp; omega, hkp.grown hg (fun g e => .inl (.inl (by simpa using e.symm))), ⟨_, heap_setCell_same W h (i * 3 + 1) cur HT u hcur⟩, fun j hj => ⟨(h5 j hj).1.keptr hg (off j hj), K.keep (h5 j hj).2 k32⟩, fun j hj hji => World.ownsRow.kept (h6 j hj (by omega)) hg (off j hj), fun j hj hji => ?_⟩
 by_cases e : j = i
 · subst e
   simp only [if_true]
   refine ⟨World.ownsRow.kept h8 hg (.inr fun e => ?_), K.keep hp k32, fun g e => ?_⟩
   · rcases h9 h e with h' | h'
     · have := D.blk j h hj h'; omega
     · omega
   · rcases h9 g e with h' | h'
     · exact .inl h'
     · exact .inr (by omega)
 · simp only [if_neg e]
   obtain ⟨f, p, c, l⟩ := h7 j hj (by omega)
   refine ⟨World.ownsRow.kept f hg (.inr fun e => ?_), K.keep p k32, c⟩
   rcases c h e with h' | h'
   · have := D.blk j h hj h'; omega
   · omega
theorem WLook.of (D : WLies W0 base B h N A L C M) (F : WGrowO W0 w T HT sz PM base B h n N f A L C M S0 N W) : ∃ G X Y, WLook W0 w PM base B h n N f A L C M G X Y W := by
 obtain ⟨G, X, Y, _, h1, h2, h3, h4, hkp, _, h5, _, h7⟩ := F
 have hs : base ≤ W.heap.size := Nat.le_trans D.base (Nat.le_of_lt h1.lt)
 exact ⟨G, X, Y, h1, h2, h3, hs, hkp, fun j hj => ⟨h5 j hj, own_rdc (h7 j hj hj).1, (h7 j hj hj).2.1⟩⟩
theorem WLook.on (K : PMarks sz PM) (F : WLook W0 w PM base B h n N f A L C M G X Y W) (hg : W.grownBy W' none) : WLook W0 w PM base B h n N f A L C M G X Y W' := by
 obtain ⟨h1, h2, h3, h4, hkp, h5⟩ := F
 have k32 := K32.none hg
 exact ⟨h1.kept hg (by simp), h2.kept hg (by simp), h3.grown hg h4 (fun _ e => by cases e), Nat.le_trans h4 hg.size, hkp.grown hg (fun _ e => by cases e), fun j hj => ⟨⟨(h5 j hj).1.1.keptr hg own_none, K.keep (h5 j hj).1.2 k32⟩, (h5 j hj).2.1.keptr hg own_none, K.keep (h5 j hj).2.2 k32⟩⟩
theorem WFill.far {R : Nat → Prop} (F : WFill W0 w T HT sz PM base B h n N f A L C M i k W) (hk : Kp W W' R) (hB : QBook W' B n f) (hw : Below base w W') (hh : ¬ R h) (hA : ∀ j g, j < N → (Value.slice (A j) (L j) (C j)).ownBlock = some g → ¬ R g) (hP : ∀ m n xs, PM W m n xs → PM W' m n xs) : WFill W' w T HT sz PM base B h n N f A L C M i k W' := by
 obtain ⟨_, h2, _, _, ⟨cur, ht⟩, h4⟩ := F
 refine ⟨hB, kp_at hk h2 hh, hw, Kp.refl, ⟨cur, (hk.2 h (Array.getElem?_eq_some_iff.1 ht).1 hh).trans ht⟩, fun j hj => ?_⟩
 obtain ⟨xs, e, g1, g2⟩ := h4 j hj
 exact ⟨xs, kp_row hk e (fun g e => hA j g hj e), fun x => hP _ _ _ (g1 x), fun x => hP _ _ _ (g2 x)⟩
theorem WLook.far {R : Nat → Prop} (F : WLook W0 w PM base B h n N f A L C M G X Y W) (hk : Kp W W' R) (hB : QBook W' B n f) (hw : Below base w W') (hh : ¬ R h) (hA : ∀ j g, j < N → (Value.slice (A j) (L j) (C j)).ownBlock = some g → ¬ R g) (hG : ∀ j g, j < N → (G j).ownBlock = some g → ¬ R g) (hP : ∀ m n xs, PM W m n xs → PM W' m n xs) : WLook W' w PM base B h n N f A L C M G X Y W' := by
 obtain ⟨_, h2, _, h4, _, h5⟩ := F
 exact ⟨hB, kp_at hk h2 hh, hw, Nat.le_trans h4 hk.1, Kp.refl, fun j hj => ⟨⟨kp_rdc hk (h5 j hj).1.1 (fun g e => hA j g hj e), hP _ _ _ (h5 j hj).1.2⟩, kp_rdc hk (h5 j hj).2.1 (fun g e => hG j g hj e), hP _ _ _ (h5 j hj).2.2⟩⟩
end
def rmark (b : Nat) : List Value := [.bool false, .slice none 0 0, .slice (some ⟨b, 0, none⟩) 1 1]
def PRat (S : Nat) (W : World) (m n : Nat) (xs : List Value) : Prop := ∃ bs : List Nat, bs.length = n ∧ xs = bs.flatMap rmark ∧ ∀ b ∈ bs, S ≤ b ∧ W.heap[b]? = some (.cells #[.int .u32 (1000 + (m : Int))] 71 (0, 0))
theorem rmarks_len : ∀ bs : List Nat, (bs.flatMap rmark).length = bs.length * 3
 | [] => rfl
 | b :: t => by rw [List.flatMap_cons, List.length_append, rmarks_len t, List.length_cons, Nat.succ_mul]; show 3 + _ = _; omega
theorem marksRat (S : Nat) : PMarks 3 (PRat S) where
 pos := by decide
 len := fun h => by obtain ⟨bs, h1, rfl, _⟩ := h; rw [rmarks_len, h1]
 nil := ⟨[], rfl, rfl, by simp⟩
 snoc := fun h k => by
  obtain ⟨bs, h1, rfl, h2⟩ := h
  obtain ⟨cs, k1, rfl, k2⟩ := k
  exact ⟨bs ++ cs, by rw [List.length_append, h1, k1], by rw [List.flatMap_append], fun b hb => by
   rcases List.mem_append.1 hb with hb | hb
   · exact h2 b hb
   · exact k2 b hb⟩
 keep := fun h k => by
  obtain ⟨bs, h1, e, h2⟩ := h
  exact ⟨bs, h1, e, fun b hb => ⟨(h2 b hb).1, k b _ _ (h2 b hb).2⟩⟩
theorem PRat.kp {S : Nat} {W W' : World} {R : Nat → Prop} {m n : Nat} {xs : List Value} (h : PRat S W m n xs) (hk : Kp W W' R) (hR : ∀ b, S ≤ b → b < W.heap.size → ¬ R b) : PRat S W' m n xs := by
 obtain ⟨bs, h1, e, h2⟩ := h
 refine ⟨bs, h1, e, fun b hb => ⟨(h2 b hb).1, ?_⟩⟩
 have hlt := (Array.getElem?_eq_some_iff.1 (h2 b hb).2).1
 exact (hk.2 b hlt (hR b (h2 b hb).1 hlt)).trans (h2 b hb).2
theorem PRat.one {S : Nat} {W : World} {m b : Nat} (hb : S ≤ b) (h : W.heap[b]? = some (.cells #[.int .u32 (1000 + (m : Int))] 71 (0, 0))) : PRat S W m 1 (rmark b) := ⟨[b], rfl, by simp, fun c hc => by obtain rfl := List.mem_singleton.1 hc; exact ⟨hb, h⟩⟩
theorem PRat.at {S : Nat} {W : World} {m n : Nat} {xs : List Value} (h : PRat S W m n xs) {j : Nat} (hj : j < n) : ∃ b, b < W.heap.size ∧ xs[j * 3]? = some (.bool false) ∧ xs[j * 3 + 1]? = some (.slice none 0 0) ∧ xs[j * 3 + 2]? = some (.slice (some ⟨b, 0, none⟩) 1 1) ∧ W.cell? ⟨b, 0, none⟩ = some (.int .u32 (1000 + (m : Int))) := by
 obtain ⟨bs, h1, rfl, h2⟩ := h
 have key : ∀ (l : List Nat) (j : Nat) (b : Nat), l[j]? = some b → ∀ i, i < 3 → (l.flatMap rmark)[j * 3 + i]? = (rmark b)[i]? := by
  intro l
  induction l with
  | nil => intro j b h; simp at h
  | cons y t ih =>
   intro j b h i hi
   rw [List.flatMap_cons]
   cases j with
   | zero =>
    simp at h; subst h
    rw [Nat.zero_mul, Nat.zero_add, List.getElem?_append_left (by exact hi)]
   | succ j =>
    rw [List.getElem?_append_right (by show 3 ≤ _; omega)]
    have e : (j + 1) * 3 + i - (rmark y).length = j * 3 + i := by show (j + 1) * 3 + i - 3 = _; omega
    rw [e]
    exact ih j b (by simpa using h) i hi
 have hb : bs[j]? = some (bs[j]'(by omega)) := List.getElem?_eq_getElem _
 have hm := h2 _ (List.getElem_mem (l := bs) (n := j) (by omega))
 refine ⟨bs[j]'(by omega), (Array.getElem?_eq_some_iff.1 hm.2).1, key bs j _ hb 0 (by omega), key bs j _ hb 1 (by omega), key bs j _ hb 2 (by omega), ?_⟩
 unfold World.cell?
 rw [hm.2]
 rfl
end
section
open Go Go.Proofs Go.RowKit Go.Shelf
attribute [local go_sem] Oper.semAt_some
set_option maxRecDepth 100000
theorem i64q (n : Nat) (h : n < 9223372036854775808) : IntKind.i64.wrap (n : Int) = (n : Int) := IntWalk.i64_in _ (by omega)
theorem q_bg {W W' : World} (h : Below W.heap.size W W') : W.grownBy W' none := ⟨h.os, h.tape, h.output, h.size, fun k hk _ => h.block k hk⟩
theorem size_ratK : (Tryz.prog.info? 30).map (·.size) = some 3 := by kernel_rfl
theorem i64w (n : Int) (h0 : 0 ≤ n) (h : n < 9223372036854775808) : IntKind.i64.wrap n = n := IntWalk.i64_in _ (by omega)
theorem u32w (n : Int) (h0 : 0 ≤ n) (h : n < 4294967296) : IntKind.u32.wrap n = n := by
 unfold IntKind.wrap
 simp [IntKind.signed, IntKind.bits]
 omega
theorem markRa_any (m : Nat) (hm : m ≤ 100000) (W : World) : Calls Tryz.prog 147 #[.int .i64 (m : Int)] W fun e w' => ∃ b, e = .returned (.agg #[.bool false, .slice none 0 0, .slice (some ⟨b, 0, none⟩) 1 1]) ∧ W.heap.size ≤ b ∧ Below W.heap.size W w' ∧ w'.heap[b]? = some (.cells #[.int .u32 (1000 + (m : Int))] 71 (0, 0)) := by
 obtain ⟨M1, hM1⟩ : ∃ M1 : Int, M1 = 1000 + (m : Int) := ⟨_, rfl⟩
 have a1 : IntKind.i64.wrap (1000 + (m : Int)) = M1 := by rw [hM1]; exact i64w _ (by omega) (by omega)
 have a2 : IntKind.u32.wrap M1 = M1 := by rw [hM1]; exact u32w _ (by omega) (by omega)
 rw [← hM1]
 clear hM1 hm
 go_enter Tryz.func147, Tryz.ntmps147
 go_wp2
 (try simp only [Exit.inBlock, Exit.then])
 obtain ⟨w2, hw2⟩ : ∃ w2, w2 = (W.alloc (.cells #[.bool false, .slice none 0 0, .slice (some ⟨W.heap.size + 1, 0, none⟩) 1 1] 30)).alloc (.cells #[.int .u32 M1] 71) := ⟨_, rfl⟩
 have h0 : w2.heap[W.heap.size]? = some (.cells #[.bool false, .slice none 0 0, .slice (some ⟨W.heap.size + 1, 0, none⟩) 1 1] 30 (0, 0)) := by rw [hw2]; exact (Below.heap_alloc _ _ _ (by simp)).trans (q_new W _)
 have h1 : w2.heap[W.heap.size + 1]? = some (.cells #[.int .u32 M1] 71 (0, 0)) := by
  rw [hw2]
  have := q_new (W.alloc (.cells #[.bool false, .slice none 0 0, .slice (some ⟨W.heap.size + 1, 0, none⟩) 1 1] 30)) (.cells #[.int .u32 M1] 71)
  simpa using this
 have h2 : Below W.heap.size W w2 := by rw [hw2]; exact ((Below.refl _ _).alloc (Nat.le_refl _) _).alloc (by simp) _
 rw [← hw2]
 clear hw2
 refine bodyPost_ret (results_cell_row rfl _ _ W.heap.size 30 #[.bool false, .slice none 0 0, .slice (some ⟨W.heap.size + 1, 0, none⟩) 1 1] (0, 0) _ rfl h0 Tryz.underlying30 rfl size_ratK) rfl ?_
 exact ⟨_, rfl, by omega, h2, h1⟩
theorem isRa_any (m : Nat) (hm : m ≤ 100000) (W : World) (b : Nat) (hb : b < W.heap.size) (hc : W.cell? ⟨b, 0, none⟩ = some (.int .u32 (1000 + (m : Int)))) : Calls Tryz.prog 159 #[.agg #[.bool false, .slice none 0 0, .slice (some ⟨b, 0, none⟩) 1 1], .int .i64 (m : Int)] W fun e w' => e = .returned (.bool true) ∧ Below W.heap.size W w' := by
 obtain ⟨M1, hM1⟩ : ∃ M1 : Int, M1 = 1000 + (m : Int) := ⟨_, rfl⟩
 have a1 : IntKind.i64.wrap (1000 + (m : Int)) = M1 := by rw [hM1]; exact i64w _ (by omega) (by omega)
 have a2 : IntKind.u32.wrap M1 = M1 := by rw [hM1]; exact u32w _ (by omega) (by omega)
 rw [← hM1] at hc
 clear hM1 hm
 have hbl := Lib.hid (show Below W.heap.size W (W.alloc (.cells #[.bool false, .slice none 0 0, .slice (some ⟨b, 0, none⟩) 1 1] 30)) from (Below.refl _ _).alloc (Nat.le_refl _) _)
 have c1 : (W.alloc (.cells #[.bool false, .slice none 0 0, .slice (some ⟨b, 0, none⟩) 1 1] 30)).cell? ⟨W.heap.size, 2, none⟩ = some (.slice (some ⟨b, 0, none⟩) 1 1) := by rw [World.cell?_alloc_new]; rfl
 have c2 : (W.alloc (.cells #[.bool false, .slice none 0 0, .slice (some ⟨b, 0, none⟩) 1 1] 30)).cell? ⟨b, 0, none⟩ = some (.int .u32 M1) := by rw [← hc]; exact World.cell?_of_block (Below.heap_alloc W _ b hb)
 obtain ⟨Wa, hWa⟩ : ∃ Wa, Wa = W.alloc (.cells #[.bool false, .slice none 0 0, .slice (some ⟨b, 0, none⟩) 1 1] 30) := ⟨_, rfl⟩
 go_enter Tryz.func159, Tryz.ntmps159
 go_wp2
 go_ret
 exact ⟨rfl, hbl.out⟩
section
variable {W0 w W W' : World} {T HT sz : Nat} {PM : World → Nat → Nat → List Value → Prop} {base B h n N cap i k : Nat} {f : Nat → Value} {A : Nat → Option Addr} {L C M : Nat → Nat} {G : Nat → Value} {X Y : Nat → List Value}
theorem undrewG (W : World) : W.grownBy W.drew none := ⟨rfl, rfl, rfl, Nat.le_refl _, fun _ _ _ => rfl⟩
theorem WFill.drew (K : PMarks sz PM) (D : WLies W0 base B h N A L C M) (F : WFill W0 w T HT sz PM base B h n N f A L C M i k W) : WFill W0 w T HT sz PM base B h n N f A L C M i k W.drew := F.on K D (undrewG W)
theorem WLook.alloc (K : PMarks sz PM) (F : WLook W0 w PM base B h n N f A L C M G X Y W) (o : Obj) : WLook W0 w PM base B h n N f A L C M G X Y (W.alloc o) := F.on K (World.grownBy_alloc W o none)
end
theorem fillRa_any {W0 w W : World} {base B h n N cap S : Nat} {f : Nat → Value} {A : Nat → Option Addr} {L C M : Nat → Nat} (hS : S ≤ W0.heap.size) (D : WLies W0 base B h N A L C M) (hN : N ≤ cap) (hf : f 8 = .slice (some ⟨h, 0, none⟩) N cap) (F : WFill W0 w 30 119 3 (PRat S) base B h n N f A L C M 0 0 W) :
  Calls Tryz.prog 67 #[.pointer (some ⟨B, 0, none⟩)] W fun e w' => e = .returned (.tuple #[]) ∧ WFill W0 w 30 119 3 (PRat S) base B h n N f A L C M N 0 w' := by
 have hD := Lib.hid D
 have hF := Lib.hid F
 have hfew := D.few
 have hS0 := Lib.hid hS
 have Hf := Lib.hid hf
 clear D F hf hS
 go_enter Tryz.func67, Tryz.ntmps67
 go_wp2
 go_loopg [2] N (fun g s wr => ∃ i : Nat, i + g = N ∧ s = .int .i64 (i : Int) ∧ Hid (WFill W0 w 30 119 3 (PRat S) base B h n N f A L C M i 0 wr))
 case atStart => exact ⟨0, by omega, rfl, hF⟩
 case round =>
  clear hF
  obtain ⟨i, hi, rfl, HK⟩ := hrel
  have r1 := HK.out.1.cell 8 (.slice (some ⟨h, 0, none⟩) N cap) (by rw [← Hf.out]; rfl)
  by_cases hlt : i < N
  · obtain ⟨c0, c1, c2⟩ := HK.out.2.1.2 i hlt
    have hbs := HK.out.1.lt
    have hW0 := HK.out.2.2.2.1.1
    dsimp only at c0
    have hLi := (hD.out).len i hlt
    have hMi := (hD.out).num i hlt
    have hHB := Lib.hid (QBox.new 119 wr (.slice (A i) (L i) (C i)) (.slice none 0 0) (M i))
    have hFA := Lib.hid (HK.out.alloc (marksRat S) hD.out (.cells #[.slice (A i) (L i) (C i), .slice none 0 0, .int .i64 (M i : Int)] 119))
    go_wp2
    obtain ⟨hb, hhb⟩ : ∃ hb, hb = wr.heap.size := ⟨_, rfl⟩
    rw [← hhb] at hHB hbs hW0 ⊢
    obtain ⟨wo, hwo⟩ : ∃ wo, wo = wr.alloc (.cells #[.slice (A i) (L i) (C i), .slice none 0 0, .int .i64 (M i : Int)] 119) := ⟨_, rfl⟩
    rw [← hwo] at hHB hFA ⊢
    clear hwo hhb HK r1 c0 c1 c2
    go_loopg [4] (L i) (fun g s wy => ∃ k : Nat, k + g = L i ∧ s = .int .i64 (k : Int) ∧ Hid (WFill W0 w 30 119 3 (PRat S) base B h n N f A L C M i k wy) ∧ Hid (QBox 119 wy hb (.slice (A i) (L i) (C i)) (.slice none 0 0) (M i)))
    case atStart => exact ⟨0, by omega, rfl, hFA, hHB⟩
    case round =>
     clear hFA hHB
     obtain ⟨k, hk, rfl, HF, HB⟩ := hrel
     have r1 := HB.out.c0
     have r2 := HB.out.c2
     by_cases hkl : k < L i
     · obtain ⟨g, ea, hg, hcap, hcell, hfr⟩ := HF.out.form i hlt (by omega)
       have kM := fun W => markRa_any (M i) hMi W
       have KM := Lib.hid kM
       have EA := Lib.hid ea
       have hgb : hb ≠ g := by
        have := hD.out.blk i g hlt (by rw [ea]; rfl)
        omega
       rw [ea] at r1
       have KX := Lib.hid (show ∀ (w5 : World) (b5 : Nat), wr.drew.heap.size ≤ b5 ∧ Below wr.drew.heap.size wr.drew w5 ∧ w5.heap[b5]? = some (.cells #[.int .u32 (1000 + (M i : Int))] 71 (0, 0)) → WFill W0 w 30 119 3 (PRat S) base B h n N f A L C M i k w5 ∧ QBox 119 w5 hb (.slice (A i) (L i) (C i)) (.slice none 0 0) (M i) ∧ w5.cell? ⟨hb, 0, none⟩ = some (.slice (some ⟨g, 0, none⟩) (L i) (C i)) ∧ w5.cell? ⟨hb, 2, none⟩ = some (.int .i64 (M i : Int)) ∧ (∃ x0 x1 x2, w5.cell? ⟨g, k * 3, none⟩ = some x0 ∧ w5.cell? ⟨g, k * 3 + 1, none⟩ = some x1 ∧ w5.cell? ⟨g, k * 3 + 2, none⟩ = some x2) ∧ (∀ o, w5.frozen? ⟨g, o, none⟩ = false) ∧ S ≤ b5 ∧ w5.heap[b5]? = some (.cells #[.int .u32 (1000 + (M i : Int))] 71 (0, 0)) from fun w5 b5 q5 => by
        have F5 := (HF.out.drew (marksRat S) hD.out).on (marksRat S) hD.out (q_bg q5.2.1)
        have B5 : QBox 119 w5 hb (.slice (A i) (L i) (C i)) (.slice none 0 0) (M i) := QBox.kept (W := wr.drew) HB.out (q_bg q5.2.1) (by simp)
        obtain ⟨g', ea', _, _, hc', hf'⟩ := F5.form i hlt (by omega)
        rw [ea] at ea'
        obtain rfl : g = g' := by simpa using ea'
        obtain ⟨x0, h0⟩ := hc' (k * 3) (by omega)
        obtain ⟨x1, h1⟩ := hc' (k * 3 + 1) (by omega)
        obtain ⟨x2, h2⟩ := hc' (k * 3 + 2) (by omega)
        have hc0 := B5.c0
        rw [ea] at hc0
        exact ⟨F5, B5, hc0, B5.c2, ⟨x0, x1, x2, h0, h1, h2⟩, hf', Nat.le_trans (Nat.le_trans hS0.out HF.out.2.2.2.1.1) q5.1, q5.2.2⟩)
       have KP := Lib.hid (show ∀ (w5 : World) (b5 : Nat), WFill W0 w 30 119 3 (PRat S) base B h n N f A L C M i k w5 ∧ QBox 119 w5 hb (.slice (A i) (L i) (C i)) (.slice none 0 0) (M i) ∧ S ≤ b5 ∧ w5.heap[b5]? = some (.cells #[.int .u32 (1000 + (M i : Int))] 71 (0, 0)) → WFill W0 w 30 119 3 (PRat S) base B h n N f A L C M i (k + 1) (((w5.setCell ⟨g, k * 3, none⟩ (.bool false)).setCell ⟨g, k * 3 + 1, none⟩ (.slice none 0 0)).setCell ⟨g, k * 3 + 2, none⟩ (.slice (some ⟨b5, 0, none⟩) 1 1)) ∧ QBox 119 (((w5.setCell ⟨g, k * 3, none⟩ (.bool false)).setCell ⟨g, k * 3 + 1, none⟩ (.slice none 0 0)).setCell ⟨g, k * 3 + 2, none⟩ (.slice (some ⟨b5, 0, none⟩) 1 1)) hb (.slice (A i) (L i) (C i)) (.slice none 0 0) (M i) ∧ (((w5.setCell ⟨g, k * 3, none⟩ (.bool false)).setCell ⟨g, k * 3 + 1, none⟩ (.slice none 0 0)).setCell ⟨g, k * 3 + 2, none⟩ (.slice (some ⟨b5, 0, none⟩) 1 1)).cell? ⟨hb, 0, none⟩ = some (.slice (some ⟨g, 0, none⟩) (L i) (C i)) ∧ (((w5.setCell ⟨g, k * 3, none⟩ (.bool false)).setCell ⟨g, k * 3 + 1, none⟩ (.slice none 0 0)).setCell ⟨g, k * 3 + 2, none⟩ (.slice (some ⟨b5, 0, none⟩) 1 1)).cell? ⟨hb, 2, none⟩ = some (.int .i64 (M i : Int)) from fun w5 b5 q5 => by
        have h1 := q5.1.put (marksRat S) (by decide) hD.out ea hlt hkl (PRat.one q5.2.2.1 q5.2.2.2)
        rw [rmark] at h1
        refine ⟨h1, ?_⟩
        obtain ⟨xs, hx, _⟩ := q5.1.2.2.2.2.2 i hlt
        rw [ea] at hx
        have h2 := (q_setCells (rmark b5) (k * 3) hx).2
        rw [rmark] at h2
        have hq : QBox 119 (((w5.setCell ⟨g, k * 3, none⟩ (.bool false)).setCell ⟨g, k * 3 + 1, none⟩ (.slice none 0 0)).setCell ⟨g, k * 3 + 2, none⟩ (.slice (some ⟨b5, 0, none⟩) 1 1)) hb (.slice (A i) (L i) (C i)) (.slice none 0 0) (M i) := q5.2.1.kept h2 (by simpa using hgb)
        refine ⟨hq, ?_, hq.c2⟩
        rw [← ea]; exact hq.c0)
       clear hcell hfr ea kM
       go_wp2
       go_region_held3 (fun w' => w'.cell? ⟨hb, 0, none⟩ = some (.slice (some ⟨g, 0, none⟩) (L i) (C i)) ∧ w'.cell? ⟨hb, 2, none⟩ = some (.int .i64 (M i : Int)))
        (first
         | (exact ⟨X5.out.2.2.1, X5.out.2.2.2.1⟩)
         | (exact ⟨r1, r2⟩)
         | (exact ⟨(KP.out _ _ ⟨X5.out.1, X5.out.2.1, X5.out.2.2.2.2.2.2⟩).2.2.1, (KP.out _ _ ⟨X5.out.1, X5.out.2.1, X5.out.2.2.2.2.2.2⟩).2.2.2⟩)
         | fail)
        ((first
         | (go_at_call 147; (with_reducible refine (KM.out _).mono ?_); rintro e w5 ⟨b5, rfl, q5⟩; have X5 := Lib.hid (KX.out _ _ q5); clear q5; obtain ⟨x0, x1, x2, z0, z1, z2⟩ := X5.out.2.2.2.2.1; have z3 := X5.out.2.2.2.2.2.1)))
       go_wp2
       go_roundg (L i - (k + 1))
       case measure => omega
       case rel =>
        have HP := KP.out w5 _ ⟨X5.out.1, X5.out.2.1, X5.out.2.2.2.2.2.2⟩
        exact ⟨k + 1, by omega, by simp, Lib.hid (by first | exact HP.1 | exact HP.1.drew (marksRat S) hD.out), Lib.hid (by first | exact HP.2.1 | exact (show QBox _ _ _ _ _ _ from HP.2.1))⟩
     · obtain rfl : k = L i := by omega
       have HN := Lib.hid (HF.out.next (marksRat S))
       obtain ⟨z, hz⟩ : ∃ z, z = L i := ⟨_, rfl⟩
       rw [← hz] at r1 ⊢
       clear hz HF HB
       go_wp2
       go_roundg (N - (i + 1))
       case measure => omega
       case rel => exact ⟨i + 1, by omega, by simp, HN⟩
  · obtain rfl : i = N := by omega
    go_wp2
    go_end0
    exact ⟨rfl, HK.out⟩
theorem info_ratQ : (Tryz.prog.info? 30).map (fun i => (i.zero, i.size, i.bytes)) = some (some (.agg #[.bool false, .slice none 0 0, .slice none 0 0]), 3, 56) := by kernel_rfl
theorem small_maxR {n : Nat} (h : n ≤ 10000000) : n ≤ maxLen := by unfold maxLen; omega
theorem growRa_any {W0 w W : World} {base B h n N cap S0 S : Nat} {f : Nat → Value} {A : Nat → Option Addr} {L C M : Nat → Nat} (hS : S ≤ W0.heap.size) (D : WLies W0 base B h N A L C M) (hfo : QForms N A L C) (hN : N ≤ cap) (hf : f 8 = .slice (some ⟨h, 0, none⟩) N cap) (hhS : h < S0) (hS00 : W0.heap.size ≤ S0) (F : WGrowO W0 w 30 119 3 (PRat S) base B h n N f A L C M S0 0 W) :
  Calls Tryz.prog 79 #[.pointer (some ⟨B, 0, none⟩)] W fun e w' => e = .returned (.tuple #[]) ∧ WGrowO W0 w 30 119 3 (PRat S) base B h n N f A L C M S0 N w' := by
 obtain ⟨i0, hi0, hz0, hz1, hz2⟩ := q_info info_ratQ
 have hD := Lib.hid D
 have hF := Lib.hid F
 have hFo := Lib.hid hfo
 have hfew := D.few
 have hSW := Lib.hid hS
 have Hf := Lib.hid hf
 have HI0 := Lib.hid hi0
 have HZ0 := Lib.hid hz0
 have HZ1 := Lib.hid hz1
 have HZ2 := Lib.hid hz2
 clear D F hf hfo hS hi0 hz0 hz1 hz2
 go_enter Tryz.func79, Tryz.ntmps79
 go_wp2
 go_loopg [2] N (fun g s wr => ∃ i : Nat, i + g = N ∧ s = .int .i64 (i : Int) ∧ Hid (WGrowO W0 w 30 119 3 (PRat S) base B h n N f A L C M S0 i wr))
 case atStart => exact ⟨0, by omega, rfl, hF⟩
 case round =>
  clear hF
  obtain ⟨i, hi, rfl, HK⟩ := hrel
  have r1 : wr.cell? ⟨B, 8, none⟩ = some (.slice (some ⟨h, 0, none⟩) N cap) := by
    obtain ⟨G, _, _, h0, h1, _⟩ := HK.out
    exact h1.cell 8 _ (by rw [← Hf.out]; rfl)
  by_cases hlt : i < N
  · obtain ⟨c0, c1, c2, hbs, hS0⟩ : wr.cell? ⟨h, i * 3, none⟩ = some (.slice (A i) (L i) (C i)) ∧ wr.cell? ⟨h, i * 3 + 1, none⟩ = some (.slice none 0 0) ∧ wr.cell? ⟨h, i * 3 + 2, none⟩ = some (.int .i64 (M i : Int)) ∧ B < wr.heap.size ∧ S0 ≤ wr.heap.size := by
     obtain ⟨G, _, _, h0, h1, h2, _, h4, _⟩ := HK.out
     have k := h2.2 i hlt
     rw [h0 i (Nat.le_refl _)] at k
     exact ⟨k.1, k.2.1, k.2.2, h1.lt, h4⟩
    have hLi := (hD.out).len i hlt
    have hMi := (hD.out).num i hlt
    have hHB := Lib.hid (QBox.new 119 wr (.slice (A i) (L i) (C i)) (.slice none 0 0) (M i))
    obtain ⟨G, X, Y, hFA⟩ := HK.out.inner (marksRat S) hD.out hlt (.cells #[.slice (A i) (L i) (C i), (.slice none 0 0), .int .i64 (M i : Int)] 119)
    have HFA := Lib.hid hFA
    clear hFA
    go_wp2
    obtain ⟨hb, hhb⟩ : ∃ hb, hb = wr.heap.size := ⟨_, rfl⟩
    rw [← hhb] at hHB HFA hbs hS0 ⊢
    obtain ⟨wo, hwo⟩ : ∃ wo, wo = wr.alloc (.cells #[.slice (A i) (L i) (C i), (.slice none 0 0), .int .i64 (M i : Int)] 119) := ⟨_, rfl⟩
    rw [← hwo] at hHB HFA ⊢
    have q0 := hHB.out.c0
    clear hwo hhb HK r1 c0 c1 c2
    go_wp2
    go_loopg [4, 5] 40 (fun g u s wy => ∃ (k : Nat) (U : List Value), k + g = 40 ∧ s = .int .i64 (k : Int) ∧ Hid (WGrowI W0 w 30 119 3 (PRat S) base B h n N f A L C M S0 (hb + 1) G X Y i k u U wy) ∧ Hid (QBox 119 wy hb (.slice (A i) (L i) (C i)) (.slice none 0 0) (M i)))
    case atStart => exact ⟨0, _, by omega, rfl, HFA, hHB⟩
    case round =>
     clear HFA hHB q0
     obtain ⟨k, U, hk, rfl, HF, HB⟩ := hrel
     have r2 := HB.out.c2
     by_cases hk4 : k < 40
     · have kM := fun W => markRa_any (M i) hMi W
       have KM := Lib.hid kM
       clear kM
       go_wp2_with (first
        | (go_at_call 147; (with_reducible refine (KM.out _).mono ?_); rintro e w5 ⟨b5, rfl, q5⟩; have HF5 := Lib.hid (HF.out.on (marksRat S) hD.out (q_bg q5.2.1)); have HB5 := Lib.hid (HB.out.kept (q_bg q5.2.1) (by simp)); have hcs5 := Lib.hid (PRat.one (Nat.le_trans (Nat.le_trans hSW.out HF.out.2.2.2.2.2.1.1) q5.1) q5.2.2); have hrow5 := Lib.hid (HF5.out.2.2.2.2.2.2.2.2.2.2.1); have hsz5 := Lib.hid (show base ≤ w5.heap.size ∧ hb + 1 ≤ w5.heap.size from ⟨Nat.le_trans hD.out.base (Nat.le_of_lt HF5.out.2.1.lt), HF5.out.2.2.2.2.1⟩); clear q5)
        | (at_builtin; go_loud (refine qwpList_append_or _ rfl _ _ 22 rfl base 30 i0 (.agg #[.bool false, .slice none 0 0, .slice none 0 0]) 3 56 Tryz.underlying22 HI0.out HZ0.out HZ1.out HZ2.out rfl (by decide) _ _ _ rfl (World.ownsRow.alloc hrow5.out _) ⟨w5.heap.size, 0, none⟩ 1 1 [.bool false, .slice none 0 0, .slice (some ⟨b5, 0, none⟩) 1 1] rfl rfl (World.news_of_block (cs := #[.bool false, .slice none 0 0, .slice (some ⟨b5, 0, none⟩) 1 1]) (t := 30) (fr := (0, 0)) (q_new w5 _)) (by simp [Value.oneCell']) (small_maxR (by omega)) (by omega) (by have := hsz5.out; simp; omega) ?_); intro v' w3 qown qor; have hown' := Lib.hid qown; have hor := Lib.hid qor; clear qown qor; refine Hid.out ?_))
       refine Lib.hid ?_
       have hst := WGrowI.step (o := .cells #[.bool false, .slice none 0 0, .slice (some ⟨b5, 0, none⟩) 1 1] 30) (marksRat S) (by decide) hcs5.out hD.out hFo.out hlt HF5.out.2.2.2.2.1 hhS (by omega) hS00 HF5.out hown'.out hor.out
       obtain ⟨row, hrw, hlow⟩ := hst.2
       have HG := Lib.hid hst.1
       have HB2 := Lib.hid ((HB5.out.alloc _).kept hrw (fun e => by rcases hlow hb e.symm with h | h <;> omega))
       clear hown' hor hst hrw hlow
       go_wp2
       go_roundg (40 - (k + 1))
       case measure => omega
       case rel => exact ⟨k + 1, _, by omega, by simp, HG, HB2⟩
     · obtain rfl : k = 40 := by omega
       have hr2 := HF.out.2.1.cell 8 (.slice (some ⟨h, 0, none⟩) N cap) (by rw [← Hf.out]; rfl)
       obtain ⟨_, s1, s2⟩ := HF.out.2.2.1.2 i hlt
       rw [HF.out.1 i (Nat.le_refl _)] at s1
       have s3 := HF.out.2.2.1.fr (i * 3 + 1)
       have hN1 := HF.out.next (marksRat S) (by decide) hD.out hlt hhS (by omega)
       obtain ⟨g4, c4, e4⟩ : ∃ g4 c4, u4 = .slice (some ⟨g4, 0, none⟩) (L i + 40) c4 := by
        have hown := HF.out.2.2.2.2.2.2.2.2.2.2.1
        rcases hown.2 with ⟨_, h0⟩ | ⟨g, c, cur, e, _⟩
        · omega
        · exact ⟨g, c, e⟩
       rw [e4] at hN1 ⊢
       have HN1 := Lib.hid hN1
       clear hN1 e4 HF HB s2
       go_wp2
       go_roundg (N - (i + 1))
       case measure => omega
       case rel => exact ⟨i + 1, by omega, by simp, HN1⟩
  · obtain rfl : i = N := by omega
    go_wp2
    go_end0
    exact ⟨rfl, HK.out⟩
theorem wpOp_introR {P : Program} {ops : Array Oper} {Q : Exit → Act → World → Prop} {i : Nat} {o : Oper} {K : Act → World → Prop} {a : Act} {w : World} (ho : ops[i]? = some o)
   (h : ∀ K' : Act → World → Prop, (∀ a w, K a w → K' a w) → if Region.wanted o (yielded ops a.tmps) then o.wp P a w K' Q else K' (a.put o.dst undef) w) : wpOp P ops Q i K a w := by
 have := h K (fun _ _ h => h)
 unfold wpOp
 simp only [ho]
 split
 · rename_i hw; simp only [hw, if_true] at this; exact .inl this
 · rename_i hw; simp only [hw] at this; exact this
theorem rd_markR {S : Nat} {W : World} {b off n cap m k : Nat} {xs : List Value} (h : RdC W (.slice (some ⟨b, off, none⟩) n cap) n xs) (p : PRat S W m n xs) (hk : k < n) : ∃ d, xs[k * 3 + 2]? = some (.slice (some ⟨d, 0, none⟩) 1 1) ∧ d < W.heap.size ∧ W.cell? ⟨d, 0, none⟩ = some (.int .u32 (1000 + (m : Int))) ∧
  W.cell? ⟨b, off + k * 3, none⟩ = some (.bool false) ∧ W.cell? ⟨b, off + k * 3 + 1, none⟩ = some (.slice none 0 0) ∧ W.cell? ⟨b, off + k * 3 + 2, none⟩ = some (.slice (some ⟨d, 0, none⟩) 1 1) := by
 obtain ⟨a, c, e, _, h⟩ := h
 obtain ⟨b', o', e', _, hc⟩ := h (by omega)
 simp only [Value.slice.injEq] at e
 have e2 := e.1.trans e'
 simp only [Option.some.injEq, Addr.mk.injEq, and_true] at e2
 obtain ⟨rfl, rfl⟩ := e2
 obtain ⟨d, hd, g0, g1, g2, gc⟩ := p.at hk
 exact ⟨d, g2, hd, gc, hc (k * 3) _ g0, by rw [Nat.add_assoc]; exact hc (k * 3 + 1) _ g1, by rw [Nat.add_assoc]; exact hc (k * 3 + 2) _ g2⟩
theorem rd_addrR {W : World} {a : Option Addr} {n cap : Nat} {xs : List Value} (h : RdC W (.slice a n cap) n xs) (h0 : 0 < n) : ∃ b off, a = some ⟨b, off, none⟩ ∧ n ≤ cap := by
 obtain ⟨a', c, e, hc, h⟩ := h
 simp only [Value.slice.injEq] at e
 obtain ⟨rfl, _, rfl⟩ := e
 obtain ⟨b, off, e', _⟩ := h h0
 exact ⟨b, off, e', hc⟩
theorem lookRa_any {W0 w W : World} {base B h n N cap S : Nat} {f : Nat → Value} {A : Nat → Option Addr} {L C M : Nat → Nat} {G : Nat → Value} {X Y : Nat → List Value} (D : WLies W0 base B h N A L C M) (hN : N ≤ cap) (hf : f 8 = .slice (some ⟨h, 0, none⟩) N cap) (F : WLook W0 w (PRat S) base B h n N f A L C M G X Y W) :
  Calls Tryz.prog 91 #[.pointer (some ⟨B, 0, none⟩)] W fun e w' => e = .returned (.bool true) ∧ WLook W0 w (PRat S) base B h n N f A L C M G X Y w' := by
 have hD := Lib.hid D
 have hF := Lib.hid F
 have hfew := D.few
 have Hf := Lib.hid hf
 clear D F hf
 go_enter Tryz.func91, Tryz.ntmps91
 go_wp2
 go_loopg [3] N (fun g s wr => ∃ i : Nat, i + g = N ∧ s = .int .i64 (i : Int) ∧ Hid (WLook W0 w (PRat S) base B h n N f A L C M G X Y wr))
 case atStart => exact ⟨0, by omega, rfl, hF⟩
 case round =>
  clear hF
  obtain ⟨i, hi, rfl, HK⟩ := hrel
  have r1 := HK.out.1.cell 8 (.slice (some ⟨h, 0, none⟩) N cap) (by rw [← Hf.out]; rfl)
  by_cases hlt : i < N
  · obtain ⟨c0, c1, c2⟩ := HK.out.2.1.2 i hlt
    have hbs := HK.out.1.lt
    dsimp only at c0
    have hLi := (hD.out).len i hlt
    have hMi := (hD.out).num i hlt
    obtain ⟨K1, hK1⟩ : ∃ K1, K1 = L i + 40 := ⟨_, rfl⟩
    have hK2 : (L i : Int) + 40 = (K1 : Int) := by omega
    obtain ⟨a1, p1, e1, _⟩ := (HK.out.2.2.2.2.2 i hlt).2.1
    rw [← hK1] at e1
    rw [e1] at c1
    have HK1 := Lib.hid hK1
    have E1 := Lib.hid e1
    have hHB := Lib.hid (QBox.new 119 wr (.slice (A i) (L i) (C i)) (.slice a1 K1 p1) (M i))
    have hFA := Lib.hid (HK.out.alloc (marksRat S) (.cells #[.slice (A i) (L i) (C i), .slice a1 K1 p1, .int .i64 (M i : Int)] 119))
    clear hK1 e1
    go_wp2
    obtain ⟨hb, hhb⟩ : ∃ hb, hb = wr.heap.size := ⟨_, rfl⟩
    rw [← hhb] at hHB hbs ⊢
    obtain ⟨wo, hwo⟩ : ∃ wo, wo = wr.alloc (.cells #[.slice (A i) (L i) (C i), .slice a1 K1 p1, .int .i64 (M i : Int)] 119) := ⟨_, rfl⟩
    rw [← hwo] at hHB hFA ⊢
    have q0 := hHB.out.c0
    have q1 := hHB.out.c1
    clear hwo hhb HK r1 c0 c1 c2
    go_wp2
    clear q0 q1
    go_loopg [5] K1 (fun g s wy => ∃ k : Nat, k + g = K1 ∧ s = .int .i64 (k : Int) ∧ Hid (WLook W0 w (PRat S) base B h n N f A L C M G X Y wy ∧ QBox 119 wy hb (.slice (A i) (L i) (C i)) (.slice a1 K1 p1) (M i)))
    case atStart => exact ⟨0, by omega, rfl, Lib.hid ⟨hFA.out, hHB.out⟩⟩
    case round =>
     clear hFA hHB
     obtain ⟨k, hk, rfl, HF⟩ := hrel
     have q1 := HF.out.2.c1
     by_cases hkl : k < K1
     · have KI := Lib.hid (show ∀ (W : World) (d : Nat), (d < W.heap.size ∧ W.cell? ⟨d, 0, none⟩ = some (.int .u32 (1000 + (M i : Int)))) → Calls Tryz.prog 159 #[.agg #[.bool false, .slice none 0 0, .slice (some ⟨d, 0, none⟩) 1 1], .int .i64 (M i : Int)] W fun e w' => e = .returned (.bool true) ∧ Below W.heap.size W w' from fun W d h => isRa_any (M i) hMi W d h.1 h.2)
       have hp2 := (HF.out.1.2.2.2.2.2 i hlt).2.2
       rw [← HK1.out] at hp2
       have hr2 := (HF.out.1.2.2.2.2.2 i hlt).2.1
       rw [E1.out, ← HK1.out] at hr2
       obtain ⟨b2, o2, ea2, hcp2⟩ := rd_addrR hr2 (by omega)
       subst ea2
       obtain ⟨d2, ed2, _⟩ := rd_markR hr2 hp2 hkl
       have ED2 := Lib.hid ed2
       clear ed2 hp2
       have WS0 := Lib.hid (show WLook W0 w (PRat S) base B h n N f A L C M G X Y wr.drew ∧ QBox 119 wr.drew hb (.slice (A i) (L i) (C i)) (.slice (some ⟨b2, o2, none⟩) K1 p1) (M i) from ⟨HF.out.1.on (marksRat S) ⟨rfl, rfl, rfl, Nat.le_refl _, fun _ _ _ => rfl⟩, HF.out.2⟩)
       by_cases hkL : k < L i
       · obtain ⟨b1, o1, ea1, hcp1⟩ := rd_addrR (HF.out.1.2.2.2.2.2 i hlt).1.1 (by omega)
         have EA1 := Lib.hid ea1
         have hr1 := (HF.out.1.2.2.2.2.2 i hlt).1.1
         rw [ea1] at hr1
         obtain ⟨d1, ed1, _⟩ := rd_markR hr1 (HF.out.1.2.2.2.2.2 i hlt).1.2 hkL
         have ED1 := Lib.hid ed1
         clear ed1 hr1
         have KS := Lib.hid (show ∀ w5 : World, WLook W0 w (PRat S) base B h n N f A L C M G X Y w5 ∧ QBox 119 w5 hb (.slice (A i) (L i) (C i)) (.slice (some ⟨b2, o2, none⟩) K1 p1) (M i) → (fun w' => w'.cell? ⟨hb, 0, none⟩ = some (.slice (some ⟨b1, o1, none⟩) (L i) (C i)) ∧ w'.cell? ⟨hb, 1, none⟩ = some (.slice (some ⟨b2, o2, none⟩) K1 p1) ∧ w'.cell? ⟨hb, 2, none⟩ = some (.int .i64 (M i : Int)) ∧ w'.cell? ⟨b2, o2 + k * 3, none⟩ = some (.bool false) ∧ w'.cell? ⟨b2, o2 + k * 3 + 1, none⟩ = some (.slice none 0 0) ∧ w'.cell? ⟨b2, o2 + k * 3 + 2, none⟩ = some (.slice (some ⟨d2, 0, none⟩) 1 1) ∧ w'.cell? ⟨b1, o1 + k * 3, none⟩ = some (.bool false) ∧ w'.cell? ⟨b1, o1 + k * 3 + 1, none⟩ = some (.slice none 0 0) ∧ w'.cell? ⟨b1, o1 + k * 3 + 2, none⟩ = some (.slice (some ⟨d1, 0, none⟩) 1 1)) w5 from fun w5 h5 => by
          obtain ⟨⟨x1, p1'⟩, x2, p2'⟩ := h5.1.2.2.2.2.2 i hlt
          rw [E1.out, ← HK1.out] at x2
          rw [← HK1.out] at p2'
          rw [ea1] at x1
          obtain ⟨e2, he2, _, _, y2⟩ := rd_markR x2 p2' hkl
          obtain ⟨e1, he1, _, _, y1⟩ := rd_markR x1 p1' hkL
          obtain rfl : e2 = d2 := by have := he2.symm.trans ED2.out; simpa using this
          obtain rfl : e1 = d1 := by have := he1.symm.trans ED1.out; simpa using this
          have z0 := h5.2.c0
          rw [ea1] at z0
          exact ⟨z0, h5.2.c1, h5.2.c2, y2.1, y2.2.1, y2.2.2, y1.1, y1.2.1, y1.2.2⟩)
         have KD2 := Lib.hid (show ∀ w5 : World, WLook W0 w (PRat S) base B h n N f A L C M G X Y w5 ∧ QBox 119 w5 hb (.slice (A i) (L i) (C i)) (.slice (some ⟨b2, o2, none⟩) K1 p1) (M i) → (d2 < w5.heap.size ∧ w5.cell? ⟨d2, 0, none⟩ = some (.int .u32 (1000 + (M i : Int)))) from fun w5 h5 => by
          obtain ⟨_, x2, p2'⟩ := h5.1.2.2.2.2.2 i hlt
          rw [E1.out, ← HK1.out] at x2
          rw [← HK1.out] at p2'
          obtain ⟨e2, he2, c1, c2, _⟩ := rd_markR x2 p2' hkl
          obtain rfl : e2 = d2 := by have := he2.symm.trans ED2.out; simpa using this
          exact ⟨c1, c2⟩)
         have KD1 := Lib.hid (show ∀ w5 : World, WLook W0 w (PRat S) base B h n N f A L C M G X Y w5 ∧ QBox 119 w5 hb (.slice (A i) (L i) (C i)) (.slice (some ⟨b2, o2, none⟩) K1 p1) (M i) → (d1 < w5.heap.size ∧ w5.cell? ⟨d1, 0, none⟩ = some (.int .u32 (1000 + (M i : Int)))) from fun w5 h5 => by
          obtain ⟨⟨x1, p1'⟩, _⟩ := h5.1.2.2.2.2.2 i hlt
          rw [ea1] at x1
          obtain ⟨e1, he1, c1, c2, _⟩ := rd_markR x1 p1' hkL
          obtain rfl : e1 = d1 := by have := he1.symm.trans ED1.out; simpa using this
          exact ⟨c1, c2⟩)
         have hg1 : decide ((k : Int) < (L i : Int)) = true := by simp; omega
         have i1 : (k : Int) < (L i : Int) := by omega
         clear hr2 ea1
         go_wp2
         go_region_held3 (fun w' => w'.cell? ⟨hb, 0, none⟩ = some (.slice (some ⟨b1, o1, none⟩) (L i) (C i)) ∧ w'.cell? ⟨hb, 1, none⟩ = some (.slice (some ⟨b2, o2, none⟩) K1 p1) ∧ w'.cell? ⟨hb, 2, none⟩ = some (.int .i64 (M i : Int)) ∧ w'.cell? ⟨b2, o2 + k * 3, none⟩ = some (.bool false) ∧ w'.cell? ⟨b2, o2 + k * 3 + 1, none⟩ = some (.slice none 0 0) ∧ w'.cell? ⟨b2, o2 + k * 3 + 2, none⟩ = some (.slice (some ⟨d2, 0, none⟩) 1 1) ∧ w'.cell? ⟨b1, o1 + k * 3, none⟩ = some (.bool false) ∧ w'.cell? ⟨b1, o1 + k * 3 + 1, none⟩ = some (.slice none 0 0) ∧ w'.cell? ⟨b1, o1 + k * 3 + 2, none⟩ = some (.slice (some ⟨d1, 0, none⟩) 1 1))
          (first
           | exact (KS.out _ WS2.out)
           | exact (KS.out _ WS1.out)
           | exact (KS.out _ WS0.out)
           | fail)
          (first
           | ((fail_if_success have mm := mk1); go_at_call 159; (with_reducible refine (KI.out _ _ (KD2.out _ WS0.out)).mono ?_); rintro e x1 ⟨rfl, q1⟩; have WS1 := Lib.hid (And.intro (WS0.out.1.on (marksRat S) (q_bg q1)) (WS0.out.2.kept (q_bg q1) (by simp))); have mk1 := True.intro; clear q1)
           | ((fail_if_success have mm := mk2); have mm := mk1; clear mm; go_at_call 159; (with_reducible refine (KI.out _ _ (KD1.out _ WS1.out)).mono ?_); rintro e x2 ⟨rfl, q2⟩; have WS2 := Lib.hid (And.intro (WS1.out.1.on (marksRat S) (q_bg q2)) (WS1.out.2.kept (q_bg q2) (by simp))); have mk2 := True.intro; clear q2)
           | fail)
         go_wp2
         go_roundg (K1 - (k + 1))
         case measure => omega
         case rel => exact ⟨k + 1, by omega, by simp, Lib.hid (by first | exact WS2.out | exact ⟨WS2.out.1.on (marksRat S) ⟨rfl, rfl, rfl, Nat.le_refl _, fun _ _ _ => rfl⟩, WS2.out.2⟩)⟩
       · have KS := Lib.hid (show ∀ w5 : World, WLook W0 w (PRat S) base B h n N f A L C M G X Y w5 ∧ QBox 119 w5 hb (.slice (A i) (L i) (C i)) (.slice (some ⟨b2, o2, none⟩) K1 p1) (M i) → (fun w' => w'.cell? ⟨hb, 0, none⟩ = some (.slice (A i) (L i) (C i)) ∧ w'.cell? ⟨hb, 1, none⟩ = some (.slice (some ⟨b2, o2, none⟩) K1 p1) ∧ w'.cell? ⟨hb, 2, none⟩ = some (.int .i64 (M i : Int)) ∧ w'.cell? ⟨b2, o2 + k * 3, none⟩ = some (.bool false) ∧ w'.cell? ⟨b2, o2 + k * 3 + 1, none⟩ = some (.slice none 0 0) ∧ w'.cell? ⟨b2, o2 + k * 3 + 2, none⟩ = some (.slice (some ⟨d2, 0, none⟩) 1 1)) w5 from fun w5 h5 => by
          obtain ⟨_, x2, p2'⟩ := h5.1.2.2.2.2.2 i hlt
          rw [E1.out, ← HK1.out] at x2
          rw [← HK1.out] at p2'
          obtain ⟨e2, he2, _, _, y2⟩ := rd_markR x2 p2' hkl
          obtain rfl : e2 = d2 := by have := he2.symm.trans ED2.out; simpa using this
          exact ⟨h5.2.c0, h5.2.c1, h5.2.c2, y2.1, y2.2.1, y2.2.2⟩)
         have KD2 := Lib.hid (show ∀ w5 : World, WLook W0 w (PRat S) base B h n N f A L C M G X Y w5 ∧ QBox 119 w5 hb (.slice (A i) (L i) (C i)) (.slice (some ⟨b2, o2, none⟩) K1 p1) (M i) → (d2 < w5.heap.size ∧ w5.cell? ⟨d2, 0, none⟩ = some (.int .u32 (1000 + (M i : Int)))) from fun w5 h5 => by
          obtain ⟨_, x2, p2'⟩ := h5.1.2.2.2.2.2 i hlt
          rw [E1.out, ← HK1.out] at x2
          rw [← HK1.out] at p2'
          obtain ⟨e2, he2, c1, c2, _⟩ := rd_markR x2 p2' hkl
          obtain rfl : e2 = d2 := by have := he2.symm.trans ED2.out; simpa using this
          exact ⟨c1, c2⟩)
         have hg1 : decide ((k : Int) < (L i : Int)) = false := by simp; omega
         have i1 : ¬ (k : Int) < (L i : Int) := by omega
         clear hr2
         go_wp2
         refine wp_region_held_drew (S := (fun w' => w'.cell? ⟨hb, 0, none⟩ = some (.slice (A i) (L i) (C i)) ∧ w'.cell? ⟨hb, 1, none⟩ = some (.slice (some ⟨b2, o2, none⟩) K1 p1) ∧ w'.cell? ⟨hb, 2, none⟩ = some (.int .i64 (M i : Int)) ∧ w'.cell? ⟨b2, o2 + k * 3, none⟩ = some (.bool false) ∧ w'.cell? ⟨b2, o2 + k * 3 + 1, none⟩ = some (.slice none 0 0) ∧ w'.cell? ⟨b2, o2 + k * 3 + 2, none⟩ = some (.slice (some ⟨d2, 0, none⟩) 1 1))) (by kernel_rfl) (KS.out _ WS0.out) (fun hHeld => ?_)
         refine wtp 0 (.pointer (some ⟨hb, 1, none⟩)) rfl (fun _ _ _ h => h) (Or.inl ⟨by rfl, fun W3 hS => by obtain ⟨s0, s1, s2, s3, s4, s5⟩ := hS; go_simp⟩) hHeld ?_
         simp only [List.getElem_toArray, List.getElem_cons_zero, Act.put, List.setIfInBounds_toArray, List.set_cons_zero, List.set_cons_succ]
         refine wtp 1 (.slice (some ⟨b2, o2, none⟩) K1 p1) rfl (fun _ _ _ h => h) (Or.inl ⟨by rfl, fun W3 hS => by obtain ⟨s0, s1, s2, s3, s4, s5⟩ := hS; go_simp⟩) hHeld ?_
         simp only [List.getElem_toArray, List.getElem_cons_succ, List.getElem_cons_zero, Act.put, List.setIfInBounds_toArray, List.set_cons_zero, List.set_cons_succ]
         refine wtp 2 (.int .i64 (k : Int)) rfl (fun _ _ _ h => h) (Or.inl ⟨by rfl, fun W3 hS => by obtain ⟨s0, s1, s2, s3, s4, s5⟩ := hS; go_simp⟩) hHeld ?_
         simp only [List.getElem_toArray, List.getElem_cons_succ, List.getElem_cons_zero, Act.put, List.setIfInBounds_toArray, List.set_cons_zero, List.set_cons_succ]
         refine wtp 3 (.pointer (some ⟨b2, o2 + k * 3, none⟩)) rfl (fun _ _ _ h => h) (Or.inl ⟨by rfl, fun W3 hS => by obtain ⟨s0, s1, s2, s3, s4, s5⟩ := hS; go_simp⟩) hHeld ?_
         simp only [List.getElem_toArray, List.getElem_cons_succ, List.getElem_cons_zero, Act.put, List.setIfInBounds_toArray, List.set_cons_zero, List.set_cons_succ]
         refine wtp 4 (.agg #[.bool false, .slice none 0 0, .slice (some ⟨d2, 0, none⟩) 1 1]) rfl (fun _ _ _ h => h) (Or.inl ⟨by rfl, fun W3 hS => by obtain ⟨s0, s1, s2, s3, s4, s5⟩ := hS; go_simp⟩) hHeld ?_
         simp only [List.getElem_toArray, List.getElem_cons_succ, List.getElem_cons_zero, Act.put, List.setIfInBounds_toArray, List.set_cons_zero, List.set_cons_succ]
         refine wtp 5 (.pointer (some ⟨hb, 2, none⟩)) rfl (fun _ _ _ h => h) (Or.inl ⟨by rfl, fun W3 hS => by obtain ⟨s0, s1, s2, s3, s4, s5⟩ := hS; go_simp⟩) hHeld ?_
         simp only [List.getElem_toArray, List.getElem_cons_succ, List.getElem_cons_zero, Act.put, List.setIfInBounds_toArray, List.set_cons_zero, List.set_cons_succ]
         refine wtp 6 (.int .i64 (M i : Int)) rfl (fun _ _ _ h => h) (Or.inl ⟨by rfl, fun W3 hS => by obtain ⟨s0, s1, s2, s3, s4, s5⟩ := hS; go_simp⟩) hHeld ?_
         simp only [List.getElem_toArray, List.getElem_cons_succ, List.getElem_cons_zero, Act.put, List.setIfInBounds_toArray, List.set_cons_zero, List.set_cons_succ]
         refine wpAnyH_all (rs := [7]) (by kernel_rfl) (by simp) ?_
         intro ii hii
         obtain rfl : ii = 7 := by simpa using hii
         refine wpOp_introR rfl (fun K hK => ?_)
         clear hii
         go_simp
         refine (KI.out _ _ (KD2.out _ WS0.out)).mono ?_
         rintro e x1 ⟨rfl, q1⟩
         have WS1 := Lib.hid (And.intro (WS0.out.1.on (marksRat S) (q_bg q1)) (WS0.out.2.kept (q_bg q1) (by simp)))
         have S1 := KS.out _ WS1.out
         refine hK _ _ ⟨S1, ?_⟩
         clear hK K q1 hHeld
         refine wtp 8 (.bool false) rfl (fun _ _ _ h => h) (Or.inl ⟨by rfl, fun W3 hS => by obtain ⟨s0, s1, s2, s3, s4, s5⟩ := hS; go_simp⟩) S1 ?_
         simp only [List.getElem_toArray, List.getElem_cons_succ, List.getElem_cons_zero, Act.put, List.setIfInBounds_toArray, List.set_cons_zero, List.set_cons_succ]
         refine wtp 9 (.bool false) rfl (fun _ _ _ h => h) (Or.inl ⟨by rfl, fun W3 hS => by obtain ⟨s0, s1, s2, s3, s4, s5⟩ := hS; go_simp⟩) S1 ?_
         simp only [List.getElem_toArray, List.getElem_cons_succ, List.getElem_cons_zero, Act.put, List.setIfInBounds_toArray, List.set_cons_zero, List.set_cons_succ]
         refine wtp 10 (.int .i64 (k : Int)) rfl (fun _ _ _ h => h) (Or.inl ⟨by rfl, fun W3 hS => by obtain ⟨s0, s1, s2, s3, s4, s5⟩ := hS; go_simp⟩) S1 ?_
         simp only [List.getElem_toArray, List.getElem_cons_succ, List.getElem_cons_zero, Act.put, List.setIfInBounds_toArray, List.set_cons_zero, List.set_cons_succ]
         refine wtp 11 (.pointer (some ⟨hb, 0, none⟩)) rfl (fun _ _ _ h => h) (Or.inl ⟨by rfl, fun W3 hS => by obtain ⟨s0, s1, s2, s3, s4, s5⟩ := hS; go_simp⟩) S1 ?_
         simp only [List.getElem_toArray, List.getElem_cons_succ, List.getElem_cons_zero, Act.put, List.setIfInBounds_toArray, List.set_cons_zero, List.set_cons_succ]
         refine wtp 12 (.slice (A i) (L i) (C i)) rfl (fun _ _ _ h => h) (Or.inl ⟨by rfl, fun W3 hS => by obtain ⟨s0, s1, s2, s3, s4, s5⟩ := hS; go_simp⟩) S1 ?_
         simp only [List.getElem_toArray, List.getElem_cons_succ, List.getElem_cons_zero, Act.put, List.setIfInBounds_toArray, List.set_cons_zero, List.set_cons_succ]
         refine wtp 13 (.int .i64 (L i : Int)) rfl (fun _ _ _ h => h) (Or.inl ⟨by rfl, fun W3 hS => by obtain ⟨s0, s1, s2, s3, s4, s5⟩ := hS; go_simp⟩) S1 ?_
         simp only [List.getElem_toArray, List.getElem_cons_succ, List.getElem_cons_zero, Act.put, List.setIfInBounds_toArray, List.set_cons_zero, List.set_cons_succ]
         refine wtp 14 (.bool false) rfl (fun _ _ _ h => h) (Or.inl ⟨by rfl, fun W3 hS => by obtain ⟨s0, s1, s2, s3, s4, s5⟩ := hS; go_simp⟩) S1 ?_
         simp only [List.getElem_toArray, List.getElem_cons_succ, List.getElem_cons_zero, Act.put, List.setIfInBounds_toArray, List.set_cons_zero, List.set_cons_succ]
         refine wtp 15 (.bool false) rfl (fun _ _ _ h => h) (Or.inl ⟨by rfl, fun W3 hS => by obtain ⟨s0, s1, s2, s3, s4, s5⟩ := hS; go_simp⟩) S1 ?_
         simp only [List.getElem_toArray, List.getElem_cons_succ, List.getElem_cons_zero, Act.put, List.setIfInBounds_toArray, List.set_cons_zero, List.set_cons_succ]
         refine wtp 16 (undef) rfl (fun _ _ _ h => h) (Or.inr ⟨by rfl, rfl⟩) S1 ?_
         simp only [List.getElem_toArray, List.getElem_cons_succ, List.getElem_cons_zero, Act.put, List.setIfInBounds_toArray, List.set_cons_zero, List.set_cons_succ]
         refine wtp 17 (undef) rfl (fun _ _ _ h => h) (Or.inr ⟨by rfl, rfl⟩) S1 ?_
         simp only [List.getElem_toArray, List.getElem_cons_succ, List.getElem_cons_zero, Act.put, List.setIfInBounds_toArray, List.set_cons_zero, List.set_cons_succ]
         refine wtp 18 (undef) rfl (fun _ _ _ h => h) (Or.inr ⟨by rfl, rfl⟩) S1 ?_
         simp only [List.getElem_toArray, List.getElem_cons_succ, List.getElem_cons_zero, Act.put, List.setIfInBounds_toArray, List.set_cons_zero, List.set_cons_succ]
         refine wtp 19 (undef) rfl (fun _ _ _ h => h) (Or.inr ⟨by rfl, rfl⟩) S1 ?_
         simp only [List.getElem_toArray, List.getElem_cons_succ, List.getElem_cons_zero, Act.put, List.setIfInBounds_toArray, List.set_cons_zero, List.set_cons_succ]
         refine wtp 20 (undef) rfl (fun _ _ _ h => h) (Or.inr ⟨by rfl, rfl⟩) S1 ?_
         simp only [List.getElem_toArray, List.getElem_cons_succ, List.getElem_cons_zero, Act.put, List.setIfInBounds_toArray, List.set_cons_zero, List.set_cons_succ]
         refine wtp 21 (undef) rfl (fun _ _ _ h => h) (Or.inr ⟨by rfl, rfl⟩) S1 ?_
         simp only [List.getElem_toArray, List.getElem_cons_succ, List.getElem_cons_zero, Act.put, List.setIfInBounds_toArray, List.set_cons_zero, List.set_cons_succ]
         refine wtp 22 (undef) rfl (fun _ _ _ h => h) (Or.inr ⟨by rfl, rfl⟩) S1 ?_
         simp only [List.getElem_toArray, List.getElem_cons_succ, List.getElem_cons_zero, Act.put, List.setIfInBounds_toArray, List.set_cons_zero, List.set_cons_succ]
         refine wtp 23 (undef) rfl (fun _ _ _ h => h) (Or.inr ⟨by rfl, rfl⟩) S1 ?_
         simp only [List.getElem_toArray, List.getElem_cons_succ, List.getElem_cons_zero, Act.put, List.setIfInBounds_toArray, List.set_cons_zero, List.set_cons_succ]
         refine wtp 24 (undef) rfl (fun _ _ _ h => h) (Or.inr ⟨by rfl, rfl⟩) S1 ?_
         simp only [List.getElem_toArray, List.getElem_cons_succ, List.getElem_cons_zero, Act.put, List.setIfInBounds_toArray, List.set_cons_zero, List.set_cons_succ]
         refine wtp 25 (.bool false) rfl (fun _ _ _ h => h) (Or.inl ⟨by rfl, fun W3 hS => by obtain ⟨s0, s1, s2, s3, s4, s5⟩ := hS; go_simp⟩) S1 ?_
         simp only [List.getElem_toArray, List.getElem_cons_succ, List.getElem_cons_zero, Act.put, List.setIfInBounds_toArray, List.set_cons_zero, List.set_cons_succ]
         refine wtp 26 (.bool false) rfl (fun _ _ _ h => h) (Or.inl ⟨by rfl, fun W3 hS => by obtain ⟨s0, s1, s2, s3, s4, s5⟩ := hS; go_simp⟩) S1 ?_
         simp only [List.getElem_toArray, List.getElem_cons_succ, List.getElem_cons_zero, Act.put, List.setIfInBounds_toArray, List.set_cons_zero, List.set_cons_succ]
         refine wdn ?_
         go_wp2
         go_roundg (K1 - (k + 1))
         case measure => omega
         case rel => exact ⟨k + 1, by omega, by simp, Lib.hid (by first | exact WS1.out | exact ⟨WS1.out.1.on (marksRat S) ⟨rfl, rfl, rfl, Nat.le_refl _, fun _ _ _ => rfl⟩, WS1.out.2⟩)⟩
     · obtain rfl : k = K1 := by omega
       have HF1 := Lib.hid HF.out.1
       clear HF
       go_wp2
       go_roundg (N - (i + 1))
       case measure => omega
       case rel => exact ⟨i + 1, by omega, by simp, HF1⟩
  · obtain rfl : i = N := by omega
    go_wp2
    go_ret
    exact ⟨rfl, HK.out⟩
def mkIn (m : Nat) : List Value := [.int .u32 (1000 + (m : Int))]
theorem marksIn : Marks 1 mkIn := ⟨fun _ => rfl, fun m v hv => by simp [mkIn] at hv; subst hv; rfl, by decide⟩
theorem markIn_any (m : Nat) (hm : m ≤ 100000) (W : World) : Calls Tryz.prog 141 #[.int .i64 (m : Int)] W fun e w' => e = .returned (.int .u32 (1000 + (m : Int))) ∧ Below W.heap.size W w' := by
 obtain ⟨M1, hM1⟩ : ∃ M1 : Int, M1 = 1000 + (m : Int) := ⟨_, rfl⟩
 have a1 : IntKind.i64.wrap (1000 + (m : Int)) = M1 := by rw [hM1]; exact i64w _ (by omega) (by omega)
 have a2 : IntKind.u32.wrap M1 = M1 := by rw [hM1]; exact u32w _ (by omega) (by omega)
 rw [← hM1]
 clear hM1 hm
 go_enter Tryz.func141, Tryz.ntmps141
 go_wp2
 go_ret
 exact ⟨rfl, Below.refl _ _⟩
theorem isIn_any (m : Nat) (hm : m ≤ 100000) (W : World) : Calls Tryz.prog 153 #[.int .u32 (1000 + (m : Int)), .int .i64 (m : Int)] W fun e w' => e = .returned (.bool true) ∧ Below W.heap.size W w' := by
 obtain ⟨M1, hM1⟩ : ∃ M1 : Int, M1 = 1000 + (m : Int) := ⟨_, rfl⟩
 have a1 : IntKind.i64.wrap (1000 + (m : Int)) = M1 := by rw [hM1]; exact i64w _ (by omega) (by omega)
 have a2 : IntKind.u32.wrap M1 = M1 := by rw [hM1]; exact u32w _ (by omega) (by omega)
 rw [← hM1]
 clear hM1 hm
 go_enter Tryz.func153, Tryz.ntmps153
 go_wp2
 go_ret
 exact ⟨by first | rfl | simp, Below.refl _ _⟩
theorem fillIn_any {W0 w W : World} {base B h n N cap : Nat} {f : Nat → Value} {A : Nat → Option Addr} {L C M : Nat → Nat} (D : QLies W0 base B h N A L C M) (hN : N ≤ cap) (hf : f 2 = .slice (some ⟨h, 0, none⟩) N cap) (F : QFill W0 w 71 1 mkIn base B h n N f A L C M 0 0 W) :
  Calls Tryz.prog 61 #[.pointer (some ⟨B, 0, none⟩)] W fun e w' => e = .returned (.tuple #[]) ∧ QFill W0 w 71 1 mkIn base B h n N f A L C M N 0 w' := by
 have hD := Lib.hid D
 have hF := Lib.hid F
 have hfew := D.few
 have Hf := Lib.hid hf
 clear D F hf
 go_enter Tryz.func61, Tryz.ntmps61
 go_wp2
 go_loopg [2] N (fun g s wr => ∃ i : Nat, i + g = N ∧ s = .int .i64 (i : Int) ∧ Hid (QFill W0 w 71 1 mkIn base B h n N f A L C M i 0 wr))
 case atStart => exact ⟨0, by omega, rfl, hF⟩
 case round =>
  clear hF
  obtain ⟨i, hi, rfl, HK⟩ := hrel
  have r1 := HK.out.1.cell 2 (.slice (some ⟨h, 0, none⟩) N cap) (by rw [← Hf.out]; rfl)
  by_cases hlt : i < N
  · obtain ⟨c0, c1, c2⟩ := HK.out.2.1.2 i hlt
    have hbs := HK.out.1.lt
    have hW0 := HK.out.2.2.2.1.1
    dsimp only at c0
    have hLi := (hD.out).len i hlt
    have hMi := (hD.out).num i hlt
    have hHB := Lib.hid (QBox.new 125 wr (.slice (A i) (L i) (C i)) (.slice none 0 0) (M i))
    have hFA := Lib.hid (HK.out.alloc hD.out (.cells #[.slice (A i) (L i) (C i), .slice none 0 0, .int .i64 (M i : Int)] 125))
    go_wp2
    obtain ⟨hb, hhb⟩ : ∃ hb, hb = wr.heap.size := ⟨_, rfl⟩
    rw [← hhb] at hHB hbs hW0 ⊢
    obtain ⟨wo, hwo⟩ : ∃ wo, wo = wr.alloc (.cells #[.slice (A i) (L i) (C i), .slice none 0 0, .int .i64 (M i : Int)] 125) := ⟨_, rfl⟩
    rw [← hwo] at hHB hFA ⊢
    clear hwo hhb HK r1 c0 c1 c2
    go_loopg [4] (L i) (fun g s wy => ∃ k : Nat, k + g = L i ∧ s = .int .i64 (k : Int) ∧ Hid (QFill W0 w 71 1 mkIn base B h n N f A L C M i k wy) ∧ Hid (QBox 125 wy hb (.slice (A i) (L i) (C i)) (.slice none 0 0) (M i)))
    case atStart => exact ⟨0, by omega, rfl, hFA, hHB⟩
    case round =>
     clear hFA hHB
     obtain ⟨k, hk, rfl, HF, HB⟩ := hrel
     have r1 := HB.out.c0
     have r2 := HB.out.c2
     by_cases hkl : k < L i
     · obtain ⟨g, ea, hg, hcap, hcell, hfr⟩ := HF.out.form i hlt (by omega)
       have kM := fun W => markIn_any (M i) hMi W
       obtain ⟨D1, hD1⟩ : ∃ D, D = (1000 + (M i : Int)) := ⟨_, rfl⟩
       rw [← hD1] at kM
       have HD1 := Lib.hid hD1
       have KM := Lib.hid kM
       have EA := Lib.hid ea
       have hgb : hb ≠ g := by
        have := hD.out.blk i g hlt (by rw [ea]; rfl)
        omega
       rw [ea] at r1
       have KX := Lib.hid (show ∀ w5 : World, Below wr.drew.heap.size wr.drew w5 → QFill W0 w 71 1 mkIn base B h n N f A L C M i k w5 ∧ QBox 125 w5 hb (.slice (A i) (L i) (C i)) (.slice none 0 0) (M i) ∧ w5.cell? ⟨hb, 0, none⟩ = some (.slice (some ⟨g, 0, none⟩) (L i) (C i)) ∧ w5.cell? ⟨hb, 2, none⟩ = some (.int .i64 (M i : Int)) ∧ (∃ x0, w5.cell? ⟨g, k, none⟩ = some x0) ∧ ∀ o, w5.frozen? ⟨g, o, none⟩ = false from fun w5 q5 => by
        have F5 := HF.out.drew.on hD.out (q_bg q5)
        have B5 : QBox 125 w5 hb (.slice (A i) (L i) (C i)) (.slice none 0 0) (M i) := QBox.kept (W := wr.drew) HB.out (q_bg q5) (by simp)
        obtain ⟨g', ea', _, _, hc', hf'⟩ := F5.form i hlt (by omega)
        rw [ea] at ea'
        obtain rfl : g = g' := by simpa using ea'
        obtain ⟨x0, h0⟩ := hc' (k) (by omega)
        have hc0 := B5.c0
        rw [ea] at hc0
        exact ⟨F5, B5, hc0, B5.c2, ⟨x0, h0⟩, hf'⟩)
       have KP := Lib.hid (show ∀ w5 : World, QFill W0 w 71 1 mkIn base B h n N f A L C M i k w5 ∧ QBox 125 w5 hb (.slice (A i) (L i) (C i)) (.slice none 0 0) (M i) → QFill W0 w 71 1 mkIn base B h n N f A L C M i (k + 1) (w5.setCell ⟨g, k, none⟩ (.int .u32 D1)) ∧ QBox 125 (w5.setCell ⟨g, k, none⟩ (.int .u32 D1)) hb (.slice (A i) (L i) (C i)) (.slice none 0 0) (M i) ∧ (w5.setCell ⟨g, k, none⟩ (.int .u32 D1)).cell? ⟨hb, 0, none⟩ = some (.slice (some ⟨g, 0, none⟩) (L i) (C i)) ∧ (w5.setCell ⟨g, k, none⟩ (.int .u32 D1)).cell? ⟨hb, 2, none⟩ = some (.int .i64 (M i : Int)) from fun w5 q5 => by
        have h1 := q5.1.put marksIn hD.out ea hlt hkl
        rw [Nat.mul_one, mkIn, ← hD1] at h1
        refine ⟨h1, ?_⟩
        obtain ⟨xs, hx, _⟩ := q5.1.2.2.2.2 i hlt
        rw [ea] at hx
        have h2 := (q_setCells (mkIn (M i)) k hx).2
        rw [mkIn, ← hD1] at h2
        have hq : QBox 125 (w5.setCell ⟨g, k, none⟩ (.int .u32 D1)) hb (.slice (A i) (L i) (C i)) (.slice none 0 0) (M i) := q5.2.kept h2 (by simpa using hgb)
        refine ⟨hq, ?_, hq.c2⟩
        rw [← ea]; exact hq.c0)
       clear hcell hfr ea kM hD1
       go_wp2
       go_region_held3 (fun w' => w'.cell? ⟨hb, 0, none⟩ = some (.slice (some ⟨g, 0, none⟩) (L i) (C i)) ∧ w'.cell? ⟨hb, 2, none⟩ = some (.int .i64 (M i : Int)))
        (first
         | (exact ⟨X5.out.2.2.1, X5.out.2.2.2.1⟩)
         | (exact ⟨r1, r2⟩)
         | (exact ⟨(KP.out _ ⟨X5.out.1, X5.out.2.1⟩).2.2.1, (KP.out _ ⟨X5.out.1, X5.out.2.1⟩).2.2.2⟩)
         | fail)
        ((first
         | (go_at_call 141; (with_reducible refine (KM.out _).mono ?_); rintro e w5 ⟨rfl, q5⟩; have X5 := Lib.hid (KX.out _ q5); clear q5; obtain ⟨x0, z0⟩ := X5.out.2.2.2.2.1; have z3 := X5.out.2.2.2.2.2)))
       go_wp2
       go_roundg (L i - (k + 1))
       case measure => omega
       case rel =>
        have HP := KP.out w5 ⟨X5.out.1, X5.out.2.1⟩
        exact ⟨k + 1, by omega, by simp, Lib.hid (by first | exact HP.1 | exact HP.1.drew), Lib.hid (by first | exact HP.2.1 | exact (show QBox _ _ _ _ _ _ from HP.2.1))⟩
     · obtain rfl : k = L i := by omega
       have HN := Lib.hid HF.out.next
       obtain ⟨z, hz⟩ : ∃ z, z = L i := ⟨_, rfl⟩
       rw [← hz] at r1 ⊢
       clear hz HF HB
       go_wp2
       go_roundg (N - (i + 1))
       case measure => omega
       case rel => exact ⟨i + 1, by omega, by simp, HN⟩
  · obtain rfl : i = N := by omega
    go_wp2
    go_end0
    exact ⟨rfl, HK.out⟩
theorem info_elIn : (Tryz.prog.info? 71).map (fun i => (i.zero, i.size, i.bytes)) = some (some (.int .u32 0), 1, 4) := by kernel_rfl
theorem small_maxIn {n : Nat} (h : n ≤ 10000000) : n ≤ maxLen := by unfold maxLen; omega
theorem growIn_any {W0 w W : World} {base B h n N cap S0 : Nat} {f : Nat → Value} {A : Nat → Option Addr} {L C M : Nat → Nat} (D : QLies W0 base B h N A L C M) (hfo : QForms N A L C) (hN : N ≤ cap) (hf : f 2 = .slice (some ⟨h, 0, none⟩) N cap) (hhS : h < S0) (hS00 : W0.heap.size ≤ S0) (F : QGrowO W0 w 71 1 mkIn base B h n N f A L C M S0 0 W) :
  Calls Tryz.prog 73 #[.pointer (some ⟨B, 0, none⟩)] W fun e w' => e = .returned (.tuple #[]) ∧ QGrowO W0 w 71 1 mkIn base B h n N f A L C M S0 N w' := by
 obtain ⟨i0, hi0, hz0, hz1, hz2⟩ := q_info info_elIn
 have hD := Lib.hid D
 have hF := Lib.hid F
 have hFo := Lib.hid hfo
 have hfew := D.few
 have Hf := Lib.hid hf
 have HI0 := Lib.hid hi0
 have HZ0 := Lib.hid hz0
 have HZ1 := Lib.hid hz1
 have HZ2 := Lib.hid hz2
 clear D F hf hfo hi0 hz0 hz1 hz2
 go_enter Tryz.func73, Tryz.ntmps73
 go_wp2
 go_loopg [2] N (fun g s wr => ∃ i : Nat, i + g = N ∧ s = .int .i64 (i : Int) ∧ Hid (QGrowO W0 w 71 1 mkIn base B h n N f A L C M S0 i wr))
 case atStart => exact ⟨0, by omega, rfl, hF⟩
 case round =>
  clear hF
  obtain ⟨i, hi, rfl, HK⟩ := hrel
  have r1 : wr.cell? ⟨B, 2, none⟩ = some (.slice (some ⟨h, 0, none⟩) N cap) := by
    obtain ⟨G, h0, h1, _⟩ := HK.out
    exact h1.cell 2 _ (by rw [← Hf.out]; rfl)
  by_cases hlt : i < N
  · obtain ⟨c0, c1, c2, hbs, hS0⟩ : wr.cell? ⟨h, i * 3, none⟩ = some (.slice (A i) (L i) (C i)) ∧ wr.cell? ⟨h, i * 3 + 1, none⟩ = some (.slice none 0 0) ∧ wr.cell? ⟨h, i * 3 + 2, none⟩ = some (.int .i64 (M i : Int)) ∧ B < wr.heap.size ∧ S0 ≤ wr.heap.size := by
     obtain ⟨G, h0, h1, h2, _, h4, _⟩ := HK.out
     have k := h2.2 i hlt
     rw [h0 i (Nat.le_refl _)] at k
     exact ⟨k.1, k.2.1, k.2.2, h1.lt, h4⟩
    have hLi := (hD.out).len i hlt
    have hMi := (hD.out).num i hlt
    have hHB := Lib.hid (QBox.new 125 wr (.slice (A i) (L i) (C i)) (.slice none 0 0) (M i))
    obtain ⟨G, hFA⟩ := HK.out.inner hD.out hlt (.cells #[.slice (A i) (L i) (C i), (.slice none 0 0), .int .i64 (M i : Int)] 125)
    have HFA := Lib.hid hFA
    clear hFA
    go_wp2
    obtain ⟨hb, hhb⟩ : ∃ hb, hb = wr.heap.size := ⟨_, rfl⟩
    rw [← hhb] at hHB HFA hbs hS0 ⊢
    obtain ⟨wo, hwo⟩ : ∃ wo, wo = wr.alloc (.cells #[.slice (A i) (L i) (C i), (.slice none 0 0), .int .i64 (M i : Int)] 125) := ⟨_, rfl⟩
    rw [← hwo] at hHB HFA ⊢
    have q0 := hHB.out.c0
    clear hwo hhb HK r1 c0 c1 c2
    go_wp2
    go_loopg [4, 5] 40 (fun g u s wy => ∃ k : Nat, k + g = 40 ∧ s = .int .i64 (k : Int) ∧ Hid (QGrowI W0 w 71 1 mkIn base B h n N f A L C M S0 (hb + 1) G i k u wy) ∧ Hid (QBox 125 wy hb (.slice (A i) (L i) (C i)) (.slice none 0 0) (M i)))
    case atStart => exact ⟨0, by omega, rfl, HFA, hHB⟩
    case round =>
     clear HFA hHB q0
     obtain ⟨k, hk, rfl, HF, HB⟩ := hrel
     have r2 := HB.out.c2
     by_cases hk4 : k < 40
     · have kM := fun W => markIn_any (M i) hMi W
       obtain ⟨D1, hD1⟩ : ∃ D, D = (1000 + (M i : Int)) := ⟨_, rfl⟩
       rw [← hD1] at kM
       have HD1 := Lib.hid hD1
       have KM := Lib.hid kM
       clear hD1 kM
       go_wp2_with (first
        | (go_at_call 141; (with_reducible refine (KM.out _).mono ?_); rintro e w5 ⟨rfl, q5⟩; have HF5 := Lib.hid (HF.out.on hD.out (q_bg q5)); have HB5 := Lib.hid (HB.out.kept (q_bg q5) (by simp)); have hrow5 := Lib.hid (HF5.out.2.2.2.2.2.2.2.2.2.1); have hsz5 := Lib.hid (show base ≤ w5.heap.size ∧ hb + 1 ≤ w5.heap.size from ⟨Nat.le_trans hD.out.base (Nat.le_of_lt HF5.out.2.1.lt), HF5.out.2.2.2.2.1⟩); clear q5)
        | (at_builtin; go_loud (refine qwpList_append_or _ rfl _ _ 25 rfl base 71 i0 (.int .u32 0) 1 4 Tryz.underlying25 HI0.out HZ0.out HZ1.out HZ2.out rfl (by decide) _ _ _ rfl (World.ownsRow.alloc hrow5.out _) ⟨w5.heap.size, 0, none⟩ 1 1 [.int .u32 D1] rfl rfl (World.news_of_block (cs := #[.int .u32 D1]) (t := 71) (fr := (0, 0)) (q_new w5 _)) (by simp [Value.oneCell']) (small_maxIn (by omega)) (by omega) (by have := hsz5.out; simp; omega) ?_); intro v' w3 qown qor; have hown' := Lib.hid qown; have hor := Lib.hid qor; clear qown qor; refine Hid.out ?_))
       refine Lib.hid ?_
       have hst := QGrowI.step (o := .cells #[.int .u32 D1] 71) marksIn hD.out hFo.out hlt HF5.out.2.2.2.2.1 hhS (by omega) hS00 HF5.out (by have h := hown'.out; rw [HD1.out] at h; exact h) hor.out
       obtain ⟨row, hrw, hlow⟩ := hst.2
       have HG := Lib.hid hst.1
       have HB2 := Lib.hid ((HB5.out.alloc _).kept hrw (fun e => by rcases hlow hb e.symm with h | h <;> omega))
       clear hown' hor hst hrw hlow
       go_wp2
       go_roundg (40 - (k + 1))
       case measure => omega
       case rel => exact ⟨k + 1, by omega, by simp, HG, HB2⟩
     · obtain rfl : k = 40 := by omega
       have hr2 := HF.out.2.1.cell 2 (.slice (some ⟨h, 0, none⟩) N cap) (by rw [← Hf.out]; rfl)
       obtain ⟨_, s1, s2⟩ := HF.out.2.2.1.2 i hlt
       rw [HF.out.1 i (Nat.le_refl _)] at s1
       have s3 := HF.out.2.2.1.fr (i * 3 + 1)
       have hN1 := HF.out.next hD.out hlt hhS (by omega)
       obtain ⟨g4, c4, e4⟩ : ∃ g4 c4, u4 = .slice (some ⟨g4, 0, none⟩) (L i + 40) c4 := by
        have hown := HF.out.2.2.2.2.2.2.2.2.2.1
        rcases hown.2 with ⟨_, h0⟩ | ⟨g, c, cur, e, _⟩
        · omega
        · exact ⟨g, c, e⟩
       rw [e4] at hN1 ⊢
       have HN1 := Lib.hid hN1
       clear hN1 e4 HF HB s2
       go_wp2
       go_roundg (N - (i + 1))
       case measure => omega
       case rel => exact ⟨i + 1, by omega, by simp, HN1⟩
  · obtain rfl : i = N := by omega
    go_wp2
    go_end0
    exact ⟨rfl, HK.out⟩
theorem wpOp_introIn {P : Program} {ops : Array Oper} {Q : Exit → Act → World → Prop} {i : Nat} {o : Oper} {K : Act → World → Prop} {a : Act} {w : World} (ho : ops[i]? = some o)
   (h : ∀ K' : Act → World → Prop, (∀ a w, K a w → K' a w) → if Region.wanted o (yielded ops a.tmps) then o.wp P a w K' Q else K' (a.put o.dst undef) w) : wpOp P ops Q i K a w := by
 have := h K (fun _ _ h => h)
 unfold wpOp
 simp only [ho]
 split
 · rename_i hw; simp only [hw, if_true] at this; exact .inl this
 · rename_i hw; simp only [hw] at this; exact this
theorem rd_markIn {W : World} {b off n cap m k : Nat} (h : RdC W (.slice (some ⟨b, off, none⟩) n cap) n (rep mkIn n m)) (hk : k < n) : W.cell? ⟨b, off + k, none⟩ = some (.int .u32 (1000 + (m : Int))) := by
 obtain ⟨a, c, e, _, h⟩ := h
 obtain ⟨b', o', e', _, hc⟩ := h (by omega)
 simp only [Value.slice.injEq] at e
 have e2 := e.1.trans e'
 simp only [Option.some.injEq, Addr.mk.injEq, and_true] at e2
 obtain ⟨rfl, rfl⟩ := e2
 have g := rep_get marksIn n m k 0 hk (by decide)
 rw [Nat.mul_one, Nat.add_zero] at g
 exact hc k _ g
theorem rd_addrIn {W : World} {a : Option Addr} {n cap : Nat} {xs : List Value} (h : RdC W (.slice a n cap) n xs) (h0 : 0 < n) : ∃ b off, a = some ⟨b, off, none⟩ ∧ n ≤ cap := by
 obtain ⟨a', c, e, hc, h⟩ := h
 simp only [Value.slice.injEq] at e
 obtain ⟨rfl, _, rfl⟩ := e
 obtain ⟨b, off, e', _⟩ := h h0
 exact ⟨b, off, e', hc⟩
theorem lookIn_any {W0 w W : World} {base B h n N cap : Nat} {f : Nat → Value} {A : Nat → Option Addr} {L C M : Nat → Nat} {G : Nat → Value} (D : QLies W0 base B h N A L C M) (hN : N ≤ cap) (hf : f 2 = .slice (some ⟨h, 0, none⟩) N cap) (F : QLook W0 w mkIn base B h n N f A L C M G W) :
  Calls Tryz.prog 85 #[.pointer (some ⟨B, 0, none⟩)] W fun e w' => e = .returned (.bool true) ∧ QLook W0 w mkIn base B h n N f A L C M G w' := by
 have hD := Lib.hid D
 have hF := Lib.hid F
 have hfew := D.few
 have Hf := Lib.hid hf
 clear D F hf
 go_enter Tryz.func85, Tryz.ntmps85
 go_wp2
 go_loopg [3] N (fun g s wr => ∃ i : Nat, i + g = N ∧ s = .int .i64 (i : Int) ∧ Hid (QLook W0 w mkIn base B h n N f A L C M G wr))
 case atStart => exact ⟨0, by omega, rfl, hF⟩
 case round =>
  clear hF
  obtain ⟨i, hi, rfl, HK⟩ := hrel
  have r1 := HK.out.1.cell 2 (.slice (some ⟨h, 0, none⟩) N cap) (by rw [← Hf.out]; rfl)
  by_cases hlt : i < N
  · obtain ⟨c0, c1, c2⟩ := HK.out.2.1.2 i hlt
    have hbs := HK.out.1.lt
    dsimp only at c0
    have hLi := (hD.out).len i hlt
    have hMi := (hD.out).num i hlt
    obtain ⟨K1, hK1⟩ : ∃ K1, K1 = L i + 40 := ⟨_, rfl⟩
    have hK2 : (L i : Int) + 40 = (K1 : Int) := by omega
    obtain ⟨a1, p1, e1, _⟩ := (HK.out.2.2.2.2.2 i hlt).2
    rw [← hK1] at e1
    rw [e1] at c1
    have HK1 := Lib.hid hK1
    have E1 := Lib.hid e1
    have hHB := Lib.hid (QBox.new 125 wr (.slice (A i) (L i) (C i)) (.slice a1 K1 p1) (M i))
    have hFA := Lib.hid (HK.out.alloc (.cells #[.slice (A i) (L i) (C i), .slice a1 K1 p1, .int .i64 (M i : Int)] 125))
    clear hK1 e1
    go_wp2
    obtain ⟨hb, hhb⟩ : ∃ hb, hb = wr.heap.size := ⟨_, rfl⟩
    rw [← hhb] at hHB hbs ⊢
    obtain ⟨wo, hwo⟩ : ∃ wo, wo = wr.alloc (.cells #[.slice (A i) (L i) (C i), .slice a1 K1 p1, .int .i64 (M i : Int)] 125) := ⟨_, rfl⟩
    rw [← hwo] at hHB hFA ⊢
    have q0 := hHB.out.c0
    have q1 := hHB.out.c1
    clear hwo hhb HK r1 c0 c1 c2
    go_wp2
    clear q0 q1
    go_loopg [5] K1 (fun g s wy => ∃ k : Nat, k + g = K1 ∧ s = .int .i64 (k : Int) ∧ Hid (QLook W0 w mkIn base B h n N f A L C M G wy ∧ QBox 125 wy hb (.slice (A i) (L i) (C i)) (.slice a1 K1 p1) (M i)))
    case atStart => exact ⟨0, by omega, rfl, Lib.hid ⟨hFA.out, hHB.out⟩⟩
    case round =>
     clear hFA hHB
     obtain ⟨k, hk, rfl, HF⟩ := hrel
     have q1 := HF.out.2.c1
     by_cases hkl : k < K1
     · obtain ⟨D1, hD1⟩ : ∃ D, D = (1000 + (M i : Int)) := ⟨_, rfl⟩
       have HD1 := Lib.hid hD1
       have KI := Lib.hid (show ∀ W, Calls Tryz.prog 153 #[.int .u32 D1, .int .i64 (M i : Int)] W fun e w' => e = .returned (.bool true) ∧ Below W.heap.size W w' from fun W => by rw [hD1]; exact isIn_any (M i) hMi W)
       have hr2 := (HF.out.1.2.2.2.2.2 i hlt).2
       rw [E1.out, ← HK1.out] at hr2
       obtain ⟨b2, o2, ea2, hcp2⟩ := rd_addrIn hr2 (by omega)
       subst ea2
       have WS0 := Lib.hid (show QLook W0 w mkIn base B h n N f A L C M G wr.drew ∧ QBox 125 wr.drew hb (.slice (A i) (L i) (C i)) (.slice (some ⟨b2, o2, none⟩) K1 p1) (M i) from ⟨HF.out.1.on ⟨rfl, rfl, rfl, Nat.le_refl _, fun _ _ _ => rfl⟩, HF.out.2⟩)
       by_cases hkL : k < L i
       · obtain ⟨b1, o1, ea1, hcp1⟩ := rd_addrIn (HF.out.1.2.2.2.2.2 i hlt).1 (by omega)
         have EA1 := Lib.hid ea1
         have KS := Lib.hid (show ∀ w5 : World, QLook W0 w mkIn base B h n N f A L C M G w5 ∧ QBox 125 w5 hb (.slice (A i) (L i) (C i)) (.slice (some ⟨b2, o2, none⟩) K1 p1) (M i) → (fun w' => w'.cell? ⟨hb, 0, none⟩ = some (.slice (some ⟨b1, o1, none⟩) (L i) (C i)) ∧ w'.cell? ⟨hb, 1, none⟩ = some (.slice (some ⟨b2, o2, none⟩) K1 p1) ∧ w'.cell? ⟨hb, 2, none⟩ = some (.int .i64 (M i : Int)) ∧ w'.cell? ⟨b2, o2 + k, none⟩ = some (.int .u32 D1) ∧ w'.cell? ⟨b1, o1 + k, none⟩ = some (.int .u32 D1)) w5 from fun w5 h5 => by
          have x2 := (h5.1.2.2.2.2.2 i hlt).2
          rw [E1.out, ← HK1.out] at x2
          have x1 := (h5.1.2.2.2.2.2 i hlt).1
          rw [ea1] at x1
          have y2 := rd_markIn x2 hkl
          have y1 := rd_markIn x1 hkL
          rw [← hD1] at y1 y2
          have z0 := h5.2.c0
          rw [ea1] at z0
          exact ⟨z0, h5.2.c1, h5.2.c2, y2, y1⟩)
         have hg1 : decide ((k : Int) < (L i : Int)) = true := by simp; omega
         have i1 : (k : Int) < (L i : Int) := by omega
         clear hD1 hr2 ea1
         go_wp2
         go_region_held3 (fun w' => w'.cell? ⟨hb, 0, none⟩ = some (.slice (some ⟨b1, o1, none⟩) (L i) (C i)) ∧ w'.cell? ⟨hb, 1, none⟩ = some (.slice (some ⟨b2, o2, none⟩) K1 p1) ∧ w'.cell? ⟨hb, 2, none⟩ = some (.int .i64 (M i : Int)) ∧ w'.cell? ⟨b2, o2 + k, none⟩ = some (.int .u32 D1) ∧ w'.cell? ⟨b1, o1 + k, none⟩ = some (.int .u32 D1))
          (first
           | exact (KS.out _ WS2.out)
           | exact (KS.out _ WS1.out)
           | exact (KS.out _ WS0.out)
           | fail)
          (first
           | ((fail_if_success have mm := mk1); go_at_call 153; (with_reducible refine (KI.out _).mono ?_); rintro e x1 ⟨rfl, q1⟩; have WS1 := Lib.hid (And.intro (WS0.out.1.on (q_bg q1)) (WS0.out.2.kept (q_bg q1) (by simp))); have mk1 := True.intro; clear q1)
           | ((fail_if_success have mm := mk2); have mm := mk1; clear mm; go_at_call 153; (with_reducible refine (KI.out _).mono ?_); rintro e x2 ⟨rfl, q2⟩; have WS2 := Lib.hid (And.intro (WS1.out.1.on (q_bg q2)) (WS1.out.2.kept (q_bg q2) (by simp))); have mk2 := True.intro; clear q2)
           | fail)
         go_wp2
         go_roundg (K1 - (k + 1))
         case measure => omega
         case rel => exact ⟨k + 1, by omega, by simp, Lib.hid (by first | exact WS2.out | exact ⟨WS2.out.1.on ⟨rfl, rfl, rfl, Nat.le_refl _, fun _ _ _ => rfl⟩, WS2.out.2⟩)⟩
       · have KS := Lib.hid (show ∀ w5 : World, QLook W0 w mkIn base B h n N f A L C M G w5 ∧ QBox 125 w5 hb (.slice (A i) (L i) (C i)) (.slice (some ⟨b2, o2, none⟩) K1 p1) (M i) → (fun w' => w'.cell? ⟨hb, 0, none⟩ = some (.slice (A i) (L i) (C i)) ∧ w'.cell? ⟨hb, 1, none⟩ = some (.slice (some ⟨b2, o2, none⟩) K1 p1) ∧ w'.cell? ⟨hb, 2, none⟩ = some (.int .i64 (M i : Int)) ∧ w'.cell? ⟨b2, o2 + k, none⟩ = some (.int .u32 D1)) w5 from fun w5 h5 => by
          have x2 := (h5.1.2.2.2.2.2 i hlt).2
          rw [E1.out, ← HK1.out] at x2
          have y2 := rd_markIn x2 hkl
          rw [← hD1] at y2
          exact ⟨h5.2.c0, h5.2.c1, h5.2.c2, y2⟩)
         have hg1 : decide ((k : Int) < (L i : Int)) = false := by simp; omega
         have i1 : ¬ (k : Int) < (L i : Int) := by omega
         clear hD1 hr2
         go_wp2
         refine wp_region_held_drew (S := (fun w' => w'.cell? ⟨hb, 0, none⟩ = some (.slice (A i) (L i) (C i)) ∧ w'.cell? ⟨hb, 1, none⟩ = some (.slice (some ⟨b2, o2, none⟩) K1 p1) ∧ w'.cell? ⟨hb, 2, none⟩ = some (.int .i64 (M i : Int)) ∧ w'.cell? ⟨b2, o2 + k, none⟩ = some (.int .u32 D1))) (by kernel_rfl) (KS.out _ WS0.out) (fun hHeld => ?_)
         refine wtp 0 (.pointer (some ⟨hb, 1, none⟩)) rfl (fun _ _ _ h => h) (Or.inl ⟨by rfl, fun W3 hS => by obtain ⟨s0, s1, s2, s3⟩ := hS; go_simp⟩) hHeld ?_
         simp only [List.getElem_toArray, List.getElem_cons_zero, Act.put, List.setIfInBounds_toArray, List.set_cons_zero, List.set_cons_succ]
         refine wtp 1 (.slice (some ⟨b2, o2, none⟩) K1 p1) rfl (fun _ _ _ h => h) (Or.inl ⟨by rfl, fun W3 hS => by obtain ⟨s0, s1, s2, s3⟩ := hS; go_simp⟩) hHeld ?_
         simp only [List.getElem_toArray, List.getElem_cons_succ, List.getElem_cons_zero, Act.put, List.setIfInBounds_toArray, List.set_cons_zero, List.set_cons_succ]
         refine wtp 2 (.int .i64 (k : Int)) rfl (fun _ _ _ h => h) (Or.inl ⟨by rfl, fun W3 hS => by obtain ⟨s0, s1, s2, s3⟩ := hS; go_simp⟩) hHeld ?_
         simp only [List.getElem_toArray, List.getElem_cons_succ, List.getElem_cons_zero, Act.put, List.setIfInBounds_toArray, List.set_cons_zero, List.set_cons_succ]
         refine wtp 3 (.pointer (some ⟨b2, o2 + k, none⟩)) rfl (fun _ _ _ h => h) (Or.inl ⟨by rfl, fun W3 hS => by obtain ⟨s0, s1, s2, s3⟩ := hS; go_simp⟩) hHeld ?_
         simp only [List.getElem_toArray, List.getElem_cons_succ, List.getElem_cons_zero, Act.put, List.setIfInBounds_toArray, List.set_cons_zero, List.set_cons_succ]
         refine wtp 4 (.int .u32 D1) rfl (fun _ _ _ h => h) (Or.inl ⟨by rfl, fun W3 hS => by obtain ⟨s0, s1, s2, s3⟩ := hS; go_simp⟩) hHeld ?_
         simp only [List.getElem_toArray, List.getElem_cons_succ, List.getElem_cons_zero, Act.put, List.setIfInBounds_toArray, List.set_cons_zero, List.set_cons_succ]
         refine wtp 5 (.pointer (some ⟨hb, 2, none⟩)) rfl (fun _ _ _ h => h) (Or.inl ⟨by rfl, fun W3 hS => by obtain ⟨s0, s1, s2, s3⟩ := hS; go_simp⟩) hHeld ?_
         simp only [List.getElem_toArray, List.getElem_cons_succ, List.getElem_cons_zero, Act.put, List.setIfInBounds_toArray, List.set_cons_zero, List.set_cons_succ]
         refine wtp 6 (.int .i64 (M i : Int)) rfl (fun _ _ _ h => h) (Or.inl ⟨by rfl, fun W3 hS => by obtain ⟨s0, s1, s2, s3⟩ := hS; go_simp⟩) hHeld ?_
         simp only [List.getElem_toArray, List.getElem_cons_succ, List.getElem_cons_zero, Act.put, List.setIfInBounds_toArray, List.set_cons_zero, List.set_cons_succ]
         refine wpAnyH_all (rs := [7]) (by kernel_rfl) (by simp) ?_
         intro ii hii
         obtain rfl : ii = 7 := by simpa using hii
         refine wpOp_introIn rfl (fun K hK => ?_)
         clear hii
         go_simp
         refine (KI.out _).mono ?_
         rintro e x1 ⟨rfl, q1⟩
         have WS1 := Lib.hid (And.intro (WS0.out.1.on (q_bg q1)) (WS0.out.2.kept (q_bg q1) (by simp)))
         have S1 := KS.out _ WS1.out
         refine hK _ _ ⟨S1, ?_⟩
         clear hK K q1 hHeld
         refine wtp 8 (.bool false) rfl (fun _ _ _ h => h) (Or.inl ⟨by rfl, fun W3 hS => by obtain ⟨s0, s1, s2, s3⟩ := hS; go_simp⟩) S1 ?_
         simp only [List.getElem_toArray, List.getElem_cons_succ, List.getElem_cons_zero, Act.put, List.setIfInBounds_toArray, List.set_cons_zero, List.set_cons_succ]
         refine wtp 9 (.bool false) rfl (fun _ _ _ h => h) (Or.inl ⟨by rfl, fun W3 hS => by obtain ⟨s0, s1, s2, s3⟩ := hS; go_simp⟩) S1 ?_
         simp only [List.getElem_toArray, List.getElem_cons_succ, List.getElem_cons_zero, Act.put, List.setIfInBounds_toArray, List.set_cons_zero, List.set_cons_succ]
         refine wtp 10 (.int .i64 (k : Int)) rfl (fun _ _ _ h => h) (Or.inl ⟨by rfl, fun W3 hS => by obtain ⟨s0, s1, s2, s3⟩ := hS; go_simp⟩) S1 ?_
         simp only [List.getElem_toArray, List.getElem_cons_succ, List.getElem_cons_zero, Act.put, List.setIfInBounds_toArray, List.set_cons_zero, List.set_cons_succ]
         refine wtp 11 (.pointer (some ⟨hb, 0, none⟩)) rfl (fun _ _ _ h => h) (Or.inl ⟨by rfl, fun W3 hS => by obtain ⟨s0, s1, s2, s3⟩ := hS; go_simp⟩) S1 ?_
         simp only [List.getElem_toArray, List.getElem_cons_succ, List.getElem_cons_zero, Act.put, List.setIfInBounds_toArray, List.set_cons_zero, List.set_cons_succ]
         refine wtp 12 (.slice (A i) (L i) (C i)) rfl (fun _ _ _ h => h) (Or.inl ⟨by rfl, fun W3 hS => by obtain ⟨s0, s1, s2, s3⟩ := hS; go_simp⟩) S1 ?_
         simp only [List.getElem_toArray, List.getElem_cons_succ, List.getElem_cons_zero, Act.put, List.setIfInBounds_toArray, List.set_cons_zero, List.set_cons_succ]
         refine wtp 13 (.int .i64 (L i : Int)) rfl (fun _ _ _ h => h) (Or.inl ⟨by rfl, fun W3 hS => by obtain ⟨s0, s1, s2, s3⟩ := hS; go_simp⟩) S1 ?_
         simp only [List.getElem_toArray, List.getElem_cons_succ, List.getElem_cons_zero, Act.put, List.setIfInBounds_toArray, List.set_cons_zero, List.set_cons_succ]
         refine wtp 14 (.bool false) rfl (fun _ _ _ h => h) (Or.inl ⟨by rfl, fun W3 hS => by obtain ⟨s0, s1, s2, s3⟩ := hS; go_simp⟩) S1 ?_
         simp only [List.getElem_toArray, List.getElem_cons_succ, List.getElem_cons_zero, Act.put, List.setIfInBounds_toArray, List.set_cons_zero, List.set_cons_succ]
         refine wtp 15 (.bool false) rfl (fun _ _ _ h => h) (Or.inl ⟨by rfl, fun W3 hS => by obtain ⟨s0, s1, s2, s3⟩ := hS; go_simp⟩) S1 ?_
         simp only [List.getElem_toArray, List.getElem_cons_succ, List.getElem_cons_zero, Act.put, List.setIfInBounds_toArray, List.set_cons_zero, List.set_cons_succ]
         refine wtp 16 (undef) rfl (fun _ _ _ h => h) (Or.inr ⟨by rfl, rfl⟩) S1 ?_
         simp only [List.getElem_toArray, List.getElem_cons_succ, List.getElem_cons_zero, Act.put, List.setIfInBounds_toArray, List.set_cons_zero, List.set_cons_succ]
         refine wtp 17 (undef) rfl (fun _ _ _ h => h) (Or.inr ⟨by rfl, rfl⟩) S1 ?_
         simp only [List.getElem_toArray, List.getElem_cons_succ, List.getElem_cons_zero, Act.put, List.setIfInBounds_toArray, List.set_cons_zero, List.set_cons_succ]
         refine wtp 18 (undef) rfl (fun _ _ _ h => h) (Or.inr ⟨by rfl, rfl⟩) S1 ?_
         simp only [List.getElem_toArray, List.getElem_cons_succ, List.getElem_cons_zero, Act.put, List.setIfInBounds_toArray, List.set_cons_zero, List.set_cons_succ]
         refine wtp 19 (undef) rfl (fun _ _ _ h => h) (Or.inr ⟨by rfl, rfl⟩) S1 ?_
         simp only [List.getElem_toArray, List.getElem_cons_succ, List.getElem_cons_zero, Act.put, List.setIfInBounds_toArray, List.set_cons_zero, List.set_cons_succ]
         refine wtp 20 (undef) rfl (fun _ _ _ h => h) (Or.inr ⟨by rfl, rfl⟩) S1 ?_
         simp only [List.getElem_toArray, List.getElem_cons_succ, List.getElem_cons_zero, Act.put, List.setIfInBounds_toArray, List.set_cons_zero, List.set_cons_succ]
         refine wtp 21 (undef) rfl (fun _ _ _ h => h) (Or.inr ⟨by rfl, rfl⟩) S1 ?_
         simp only [List.getElem_toArray, List.getElem_cons_succ, List.getElem_cons_zero, Act.put, List.setIfInBounds_toArray, List.set_cons_zero, List.set_cons_succ]
         refine wtp 22 (undef) rfl (fun _ _ _ h => h) (Or.inr ⟨by rfl, rfl⟩) S1 ?_
         simp only [List.getElem_toArray, List.getElem_cons_succ, List.getElem_cons_zero, Act.put, List.setIfInBounds_toArray, List.set_cons_zero, List.set_cons_succ]
         refine wtp 23 (undef) rfl (fun _ _ _ h => h) (Or.inr ⟨by rfl, rfl⟩) S1 ?_
         simp only [List.getElem_toArray, List.getElem_cons_succ, List.getElem_cons_zero, Act.put, List.setIfInBounds_toArray, List.set_cons_zero, List.set_cons_succ]
         refine wtp 24 (undef) rfl (fun _ _ _ h => h) (Or.inr ⟨by rfl, rfl⟩) S1 ?_
         simp only [List.getElem_toArray, List.getElem_cons_succ, List.getElem_cons_zero, Act.put, List.setIfInBounds_toArray, List.set_cons_zero, List.set_cons_succ]
         refine wtp 25 (.bool false) rfl (fun _ _ _ h => h) (Or.inl ⟨by rfl, fun W3 hS => by obtain ⟨s0, s1, s2, s3⟩ := hS; go_simp⟩) S1 ?_
         simp only [List.getElem_toArray, List.getElem_cons_succ, List.getElem_cons_zero, Act.put, List.setIfInBounds_toArray, List.set_cons_zero, List.set_cons_succ]
         refine wtp 26 (.bool false) rfl (fun _ _ _ h => h) (Or.inl ⟨by rfl, fun W3 hS => by obtain ⟨s0, s1, s2, s3⟩ := hS; go_simp⟩) S1 ?_
         simp only [List.getElem_toArray, List.getElem_cons_succ, List.getElem_cons_zero, Act.put, List.setIfInBounds_toArray, List.set_cons_zero, List.set_cons_succ]
         refine wdn ?_
         go_wp2
         go_roundg (K1 - (k + 1))
         case measure => omega
         case rel => exact ⟨k + 1, by omega, by simp, Lib.hid (by first | exact WS1.out | exact ⟨WS1.out.1.on ⟨rfl, rfl, rfl, Nat.le_refl _, fun _ _ _ => rfl⟩, WS1.out.2⟩)⟩
     · obtain rfl : k = K1 := by omega
       have HF1 := Lib.hid HF.out.1
       clear HF
       go_wp2
       go_roundg (N - (i + 1))
       case measure => omega
       case rel => exact ⟨i + 1, by omega, by simp, HF1⟩
  · obtain rfl : i = N := by omega
    go_wp2
    go_ret
    exact ⟨rfl, HK.out⟩
theorem info_heldRa : (Tryz.prog.info? 119).map (fun i => (i.zero, i.size, i.bytes)) = some (some (.agg #[.slice none 0 0, .slice none 0 0, .int .i64 0]), 3, 56) := by kernel_rfl
theorem QRow.otherRa {HT : TypeId} {W : World} {B o : Nat} {v : Value} {es : List (Value × Nat)} (h : QRow HT W (B + 1) v es) (u : Value) : QRow HT (W.setCell ⟨B, o, none⟩ u) (B + 1) v es :=
 q_setCell_other h (fun e => by have := (World.ownsRow.lt h B e).1; omega) u
theorem keepRa_any {W : World} {B n : Nat} {f : Nat → Value} {es : List (Value × Nat)} {a : Option Addr} {l c : Nat} (h : QBook W B n f) (hr : QRow 119 W (B + 1) (f 8) es) (hn : n ≤ 100000) (hl : es.length ≤ 100000) :
  Calls Tryz.prog 57 #[.pointer (some ⟨B, 0, none⟩), .slice a l c] W fun e w' => e = .returned (.tuple #[]) ∧ ∃ hv', QBook w' B (n + 1) (upd f 8 hv') ∧ QRow 119 w' (B + 1) hv' (es ++ [(.slice a l c, n + 1)]) ∧ Below B W w' ∧ Kp W w' (fun b => b = B ∨ (f 8).ownBlock = some b) ∧ ∀ g, hv'.ownBlock = some g → (f 8).ownBlock = some g ∨ W.heap.size ≤ g := by
 obtain ⟨i0, hi, hz0, hz1, hz2⟩ := q_info info_heldRa
 obtain ⟨N1, hN1⟩ : ∃ N1, N1 = n + 1 := ⟨_, rfl⟩
 have hnn : ((n : Int) + 1) = (N1 : Int) := by omega
 obtain ⟨hv, hhv⟩ : ∃ v, v = f 8 := ⟨_, rfl⟩
 have HV := Lib.hid hhv
 rw [← hhv] at hr
 rw [← hN1, ← hhv]
 clear hhv
 have hw1 : IntKind.i64.wrap ((n : Int) + 1) = (N1 : Int) := by rw [hN1]; exact i64q (n + 1) (by omega)
 clear hN1
 have r1 := h.c0
 have r2 := h.fr 0
 have hlt := h.lt
 have h1 := Lib.hid (h.setn N1)
 have hr1 := Lib.hid (hr.otherRa (o := 0) (.int .i64 (N1 : Int)))
 have hm1 : es.length + 1 ≤ maxLen := by unfold maxLen; omega
 have hm2 : (es.length + 1) * 56 ≤ 140737488355328 := by omega
 have hb1 := Lib.hid ((Below.refl B W).setCell (p := ⟨B, 0, none⟩) (Nat.le_refl _) (.int .i64 (N1 : Int)))
 clear h hr
 go_enter Tryz.func57, Tryz.ntmps57
 go_wp2
 obtain ⟨W1, hW1⟩ : ∃ W1, W1 = W.setCell ⟨B, 0, none⟩ (.int .i64 (N1 : Int)) := ⟨_, rfl⟩
 rw [← hW1] at h1 hr1 hb1 ⊢
 have s1 := h1.out.c0
 have s2 : W1.cell? ⟨B, 8, none⟩ = some hv := h1.out.cell 8 hv (by rw [HV.out]; rfl)
 have s3 := h1.out.lt
 have hk1 := Lib.hid (show Kp W W1 (fun b => b = B ∨ hv.ownBlock = some b) by rw [hW1]; exact Kp.refl.grown (kp_set W B 0 _) (fun g e => .inl (.inl (by simpa using e.symm))))
 clear hW1 r1 r2
 go_region_law
  ((first
   | (refine step_append_lies _ (by rfl) _ _ _ (by rfl) (B + 1) 119 i0 _ 3 56 Tryz.underlying44 hi hz0 hz1 hz2 rfl (by omega) _ es.length (qheld es) (by rfl) (World.ownsRow.alloc (World.ownsRow.drew hr1.out) _) ⟨W1.heap.size, 0, none⟩ 1 1 [.slice a l c, .slice none 0 0, .int .i64 (N1 : Int)] (by rfl) (by rfl) (World.news_of_block (cs := #[.slice a l c, .slice none 0 0, .int .i64 (N1 : Int)]) (t := 119) (fr := (0, 0)) (heap_alloc_new _ _)) (by simp [Value.oneCell']) (by omega) hm1 hm2 (by simp; omega) (W1.heap.size + 1) (by simp) ?_; intro gg cap w6 hown1 hgrow hat hlt6; have hg6 := q_undrew hgrow; have b6 : QBook w6 B N1 f := (h1.out.alloc _).kept hg6 (fun e => by have := (World.ownsRow.lt hr1.out B e.symm).1; omega); have f6 := b6.fr 8; have c6 : w6.cell? ⟨B, 8, none⟩ = some hv := b6.cell 8 hv (by rw [HV.out]; rfl))))
 all_goals
  go_end0
  have q1 := QRow.snoc (.slice a l c) N1 hown1
  exact ⟨rfl, _, b6.set 8 _ rfl, q1.otherRa _, (((hb1.out.alloc (by omega) _).grown hg6 (by simp; omega) (fun k e => by have := (World.ownsRow.lt hr1.out k e).1; omega)).setCell (p := ⟨B, 8, none⟩) (Nat.le_refl _) _), ((hk1.out.alloc _).grown hg6 (fun g e => .inl (.inr e))).grown (kp_set _ B 8 _) (fun g e => .inl (.inl (by simpa using e.symm))), fun g e => by
   obtain rfl : gg = g := by simpa [Value.ownBlock] using e
   rcases hat with h | h
   · exact .inl h
   · exact .inr (by have := hk1.out.1; omega)⟩
theorem info_heldIn : (Tryz.prog.info? 125).map (fun i => (i.zero, i.size, i.bytes)) = some (some (.agg #[.slice none 0 0, .slice none 0 0, .int .i64 0]), 3, 56) := by kernel_rfl
theorem QRow.otherIn {HT : TypeId} {W : World} {B o : Nat} {v : Value} {es : List (Value × Nat)} (h : QRow HT W (B + 1) v es) (u : Value) : QRow HT (W.setCell ⟨B, o, none⟩ u) (B + 1) v es :=
 q_setCell_other h (fun e => by have := (World.ownsRow.lt h B e).1; omega) u
theorem keepIn_any {W : World} {B n : Nat} {f : Nat → Value} {es : List (Value × Nat)} {a : Option Addr} {l c : Nat} (h : QBook W B n f) (hr : QRow 125 W (B + 1) (f 2) es) (hn : n ≤ 100000) (hl : es.length ≤ 100000) :
  Calls Tryz.prog 139 #[.pointer (some ⟨B, 0, none⟩), .slice a l c] W fun e w' => e = .returned (.tuple #[]) ∧ ∃ hv', QBook w' B (n + 1) (upd f 2 hv') ∧ QRow 125 w' (B + 1) hv' (es ++ [(.slice a l c, n + 1)]) ∧ Below B W w' ∧ Kp W w' (fun b => b = B ∨ (f 2).ownBlock = some b) ∧ ∀ g, hv'.ownBlock = some g → (f 2).ownBlock = some g ∨ W.heap.size ≤ g := by
 obtain ⟨i0, hi, hz0, hz1, hz2⟩ := q_info info_heldIn
 obtain ⟨N1, hN1⟩ : ∃ N1, N1 = n + 1 := ⟨_, rfl⟩
 have hnn : ((n : Int) + 1) = (N1 : Int) := by omega
 obtain ⟨hv, hhv⟩ : ∃ v, v = f 2 := ⟨_, rfl⟩
 have HV := Lib.hid hhv
 rw [← hhv] at hr
 rw [← hN1, ← hhv]
 clear hhv
 have hw1 : IntKind.i64.wrap ((n : Int) + 1) = (N1 : Int) := by rw [hN1]; exact i64q (n + 1) (by omega)
 clear hN1
 have r1 := h.c0
 have r2 := h.fr 0
 have hlt := h.lt
 have h1 := Lib.hid (h.setn N1)
 have hr1 := Lib.hid (hr.otherIn (o := 0) (.int .i64 (N1 : Int)))
 have hm1 : es.length + 1 ≤ maxLen := by unfold maxLen; omega
 have hm2 : (es.length + 1) * 56 ≤ 140737488355328 := by omega
 have hb1 := Lib.hid ((Below.refl B W).setCell (p := ⟨B, 0, none⟩) (Nat.le_refl _) (.int .i64 (N1 : Int)))
 clear h hr
 go_enter Tryz.func139, Tryz.ntmps139
 go_wp2
 obtain ⟨W1, hW1⟩ : ∃ W1, W1 = W.setCell ⟨B, 0, none⟩ (.int .i64 (N1 : Int)) := ⟨_, rfl⟩
 rw [← hW1] at h1 hr1 hb1 ⊢
 have s1 := h1.out.c0
 have s2 : W1.cell? ⟨B, 2, none⟩ = some hv := h1.out.cell 2 hv (by rw [HV.out]; rfl)
 have s3 := h1.out.lt
 have hk1 := Lib.hid (show Kp W W1 (fun b => b = B ∨ hv.ownBlock = some b) by rw [hW1]; exact Kp.refl.grown (kp_set W B 0 _) (fun g e => .inl (.inl (by simpa using e.symm))))
 clear hW1 r1 r2
 go_region_law
  ((first
   | (refine step_append_lies _ (by rfl) _ _ _ (by rfl) (B + 1) 125 i0 _ 3 56 Tryz.underlying38 hi hz0 hz1 hz2 rfl (by omega) _ es.length (qheld es) (by rfl) (World.ownsRow.alloc (World.ownsRow.drew hr1.out) _) ⟨W1.heap.size, 0, none⟩ 1 1 [.slice a l c, .slice none 0 0, .int .i64 (N1 : Int)] (by rfl) (by rfl) (World.news_of_block (cs := #[.slice a l c, .slice none 0 0, .int .i64 (N1 : Int)]) (t := 125) (fr := (0, 0)) (heap_alloc_new _ _)) (by simp [Value.oneCell']) (by omega) hm1 hm2 (by simp; omega) (W1.heap.size + 1) (by simp) ?_; intro gg cap w6 hown1 hgrow hat hlt6; have hg6 := q_undrew hgrow; have b6 : QBook w6 B N1 f := (h1.out.alloc _).kept hg6 (fun e => by have := (World.ownsRow.lt hr1.out B e.symm).1; omega); have f6 := b6.fr 2; have c6 : w6.cell? ⟨B, 2, none⟩ = some hv := b6.cell 2 hv (by rw [HV.out]; rfl))))
 all_goals
  go_end0
  have q1 := QRow.snoc (.slice a l c) N1 hown1
  exact ⟨rfl, _, b6.set 2 _ rfl, q1.otherIn _, (((hb1.out.alloc (by omega) _).grown hg6 (by simp; omega) (fun k e => by have := (World.ownsRow.lt hr1.out k e).1; omega)).setCell (p := ⟨B, 2, none⟩) (Nat.le_refl _) _), ((hk1.out.alloc _).grown hg6 (fun g e => .inl (.inr e))).grown (kp_set _ B 2 _) (fun g e => .inl (.inl (by simpa using e.symm))), fun g e => by
   obtain rfl : gg = g := by simpa [Value.ownBlock] using e
   rcases hat with h | h
   · exact .inl h
   · exact .inr (by have := hk1.out.1; omega)⟩
end
section
open Go Go.Proofs Go.RowKit Go.Shelf
attribute [local go_sem] Oper.semAt_some
section
variable {W : World} {B n : Nat} {f : Nat → Value}
theorem qe_fillByte (h : QBook W B n f) (hf : f 1 = .slice none 0 0) : Calls Tryz.prog 60 #[.pointer (some ⟨B, 0, none⟩)] W fun e w' => e = .returned (.tuple #[]) ∧ W = w' := by
 have r1 := h.cell 1 (.slice none 0 0) (by rw [← hf]; rfl)
 have r2 := h.lt
 clear h
 go_enter Tryz.func60, Tryz.ntmps60
 go_wp2
 go_loop [2] (fun s => s = .int .i64 0) (fun _ => 0)
 case atStart => rfl
 case round =>
  subst hrel
  go_wp2
  go_end0
  exact ⟨rfl, rfl⟩
theorem qe_growByte (h : QBook W B n f) (hf : f 1 = .slice none 0 0) : Calls Tryz.prog 72 #[.pointer (some ⟨B, 0, none⟩)] W fun e w' => e = .returned (.tuple #[]) ∧ W = w' := by
 have r1 := h.cell 1 (.slice none 0 0) (by rw [← hf]; rfl)
 have r2 := h.lt
 clear h
 go_enter Tryz.func72, Tryz.ntmps72
 go_wp2
 go_loop [2] (fun s => s = .int .i64 0) (fun _ => 0)
 case atStart => rfl
 case round =>
  subst hrel
  go_wp2
  go_end0
  exact ⟨rfl, rfl⟩
theorem qe_lookByte (h : QBook W B n f) (hf : f 1 = .slice none 0 0) : Calls Tryz.prog 84 #[.pointer (some ⟨B, 0, none⟩)] W fun e w' => e = .returned (.bool true) ∧ W = w' := by
 have r1 := h.cell 1 (.slice none 0 0) (by rw [← hf]; rfl)
 have r2 := h.lt
 clear h
 go_enter Tryz.func84, Tryz.ntmps84
 go_wp2
 go_loop [3] (fun s => s = .int .i64 0) (fun _ => 0)
 case atStart => rfl
 case round =>
  subst hrel
  go_wp2
  go_ret
  exact ⟨rfl, rfl⟩
theorem qe_fillNum (h : QBook W B n f) (hf : f 3 = .slice none 0 0) : Calls Tryz.prog 62 #[.pointer (some ⟨B, 0, none⟩)] W fun e w' => e = .returned (.tuple #[]) ∧ W = w' := by
 have r1 := h.cell 3 (.slice none 0 0) (by rw [← hf]; rfl)
 have r2 := h.lt
 clear h
 go_enter Tryz.func62, Tryz.ntmps62
 go_wp2
 go_loop [2] (fun s => s = .int .i64 0) (fun _ => 0)
 case atStart => rfl
 case round =>
  subst hrel
  go_wp2
  go_end0
  exact ⟨rfl, rfl⟩
theorem qe_growNum (h : QBook W B n f) (hf : f 3 = .slice none 0 0) : Calls Tryz.prog 74 #[.pointer (some ⟨B, 0, none⟩)] W fun e w' => e = .returned (.tuple #[]) ∧ W = w' := by
 have r1 := h.cell 3 (.slice none 0 0) (by rw [← hf]; rfl)
 have r2 := h.lt
 clear h
 go_enter Tryz.func74, Tryz.ntmps74
 go_wp2
 go_loop [2] (fun s => s = .int .i64 0) (fun _ => 0)
 case atStart => rfl
 case round =>
  subst hrel
  go_wp2
  go_end0
  exact ⟨rfl, rfl⟩
theorem qe_lookNum (h : QBook W B n f) (hf : f 3 = .slice none 0 0) : Calls Tryz.prog 86 #[.pointer (some ⟨B, 0, none⟩)] W fun e w' => e = .returned (.bool true) ∧ W = w' := by
 have r1 := h.cell 3 (.slice none 0 0) (by rw [← hf]; rfl)
 have r2 := h.lt
 clear h
 go_enter Tryz.func86, Tryz.ntmps86
 go_wp2
 go_loop [3] (fun s => s = .int .i64 0) (fun _ => 0)
 case atStart => rfl
 case round =>
  subst hrel
  go_wp2
  go_ret
  exact ⟨rfl, rfl⟩
theorem qe_fillBool (h : QBook W B n f) (hf : f 4 = .slice none 0 0) : Calls Tryz.prog 63 #[.pointer (some ⟨B, 0, none⟩)] W fun e w' => e = .returned (.tuple #[]) ∧ W = w' := by
 have r1 := h.cell 4 (.slice none 0 0) (by rw [← hf]; rfl)
 have r2 := h.lt
 clear h
 go_enter Tryz.func63, Tryz.ntmps63
 go_wp2
 go_loop [2] (fun s => s = .int .i64 0) (fun _ => 0)
 case atStart => rfl
 case round =>
  subst hrel
  go_wp2
  go_end0
  exact ⟨rfl, rfl⟩
theorem qe_growBool (h : QBook W B n f) (hf : f 4 = .slice none 0 0) : Calls Tryz.prog 75 #[.pointer (some ⟨B, 0, none⟩)] W fun e w' => e = .returned (.tuple #[]) ∧ W = w' := by
 have r1 := h.cell 4 (.slice none 0 0) (by rw [← hf]; rfl)
 have r2 := h.lt
 clear h
 go_enter Tryz.func75, Tryz.ntmps75
 go_wp2
 go_loop [2] (fun s => s = .int .i64 0) (fun _ => 0)
 case atStart => rfl
 case round =>
  subst hrel
  go_wp2
  go_end0
  exact ⟨rfl, rfl⟩
theorem qe_lookBool (h : QBook W B n f) (hf : f 4 = .slice none 0 0) : Calls Tryz.prog 87 #[.pointer (some ⟨B, 0, none⟩)] W fun e w' => e = .returned (.bool true) ∧ W = w' := by
 have r1 := h.cell 4 (.slice none 0 0) (by rw [← hf]; rfl)
 have r2 := h.lt
 clear h
 go_enter Tryz.func87, Tryz.ntmps87
 go_wp2
 go_loop [3] (fun s => s = .int .i64 0) (fun _ => 0)
 case atStart => rfl
 case round =>
  subst hrel
  go_wp2
  go_ret
  exact ⟨rfl, rfl⟩
theorem qe_fillText (h : QBook W B n f) (hf : f 5 = .slice none 0 0) : Calls Tryz.prog 64 #[.pointer (some ⟨B, 0, none⟩)] W fun e w' => e = .returned (.tuple #[]) ∧ W = w' := by
 have r1 := h.cell 5 (.slice none 0 0) (by rw [← hf]; rfl)
 have r2 := h.lt
 clear h
 go_enter Tryz.func64, Tryz.ntmps64
 go_wp2
 go_loop [2] (fun s => s = .int .i64 0) (fun _ => 0)
 case atStart => rfl
 case round =>
  subst hrel
  go_wp2
  go_end0
  exact ⟨rfl, rfl⟩
theorem qe_growText (h : QBook W B n f) (hf : f 5 = .slice none 0 0) : Calls Tryz.prog 76 #[.pointer (some ⟨B, 0, none⟩)] W fun e w' => e = .returned (.tuple #[]) ∧ W = w' := by
 have r1 := h.cell 5 (.slice none 0 0) (by rw [← hf]; rfl)
 have r2 := h.lt
 clear h
 go_enter Tryz.func76, Tryz.ntmps76
 go_wp2
 go_loop [2] (fun s => s = .int .i64 0) (fun _ => 0)
 case atStart => rfl
 case round =>
  subst hrel
  go_wp2
  go_end0
  exact ⟨rfl, rfl⟩
theorem qe_lookText (h : QBook W B n f) (hf : f 5 = .slice none 0 0) : Calls Tryz.prog 88 #[.pointer (some ⟨B, 0, none⟩)] W fun e w' => e = .returned (.bool true) ∧ W = w' := by
 have r1 := h.cell 5 (.slice none 0 0) (by rw [← hf]; rfl)
 have r2 := h.lt
 clear h
 go_enter Tryz.func88, Tryz.ntmps88
 go_wp2
 go_loop [3] (fun s => s = .int .i64 0) (fun _ => 0)
 case atStart => rfl
 case round =>
  subst hrel
  go_wp2
  go_ret
  exact ⟨rfl, rfl⟩
theorem qe_fillToken (h : QBook W B n f) (hf : f 6 = .slice none 0 0) : Calls Tryz.prog 65 #[.pointer (some ⟨B, 0, none⟩)] W fun e w' => e = .returned (.tuple #[]) ∧ W = w' := by
 have r1 := h.cell 6 (.slice none 0 0) (by rw [← hf]; rfl)
 have r2 := h.lt
 clear h
 go_enter Tryz.func65, Tryz.ntmps65
 go_wp2
 go_loop [2] (fun s => s = .int .i64 0) (fun _ => 0)
 case atStart => rfl
 case round =>
  subst hrel
  go_wp2
  go_end0
  exact ⟨rfl, rfl⟩
theorem qe_growToken (h : QBook W B n f) (hf : f 6 = .slice none 0 0) : Calls Tryz.prog 77 #[.pointer (some ⟨B, 0, none⟩)] W fun e w' => e = .returned (.tuple #[]) ∧ W = w' := by
 have r1 := h.cell 6 (.slice none 0 0) (by rw [← hf]; rfl)
 have r2 := h.lt
 clear h
 go_enter Tryz.func77, Tryz.ntmps77
 go_wp2
 go_loop [2] (fun s => s = .int .i64 0) (fun _ => 0)
 case atStart => rfl
 case round =>
  subst hrel
  go_wp2
  go_end0
  exact ⟨rfl, rfl⟩
theorem qe_lookToken (h : QBook W B n f) (hf : f 6 = .slice none 0 0) : Calls Tryz.prog 89 #[.pointer (some ⟨B, 0, none⟩)] W fun e w' => e = .returned (.bool true) ∧ W = w' := by
 have r1 := h.cell 6 (.slice none 0 0) (by rw [← hf]; rfl)
 have r2 := h.lt
 clear h
 go_enter Tryz.func89, Tryz.ntmps89
 go_wp2
 go_loop [3] (fun s => s = .int .i64 0) (fun _ => 0)
 case atStart => rfl
 case round =>
  subst hrel
  go_wp2
  go_ret
  exact ⟨rfl, rfl⟩
theorem qe_fillTenant (h : QBook W B n f) (hf : f 7 = .slice none 0 0) : Calls Tryz.prog 66 #[.pointer (some ⟨B, 0, none⟩)] W fun e w' => e = .returned (.tuple #[]) ∧ W = w' := by
 have r1 := h.cell 7 (.slice none 0 0) (by rw [← hf]; rfl)
 have r2 := h.lt
 clear h
 go_enter Tryz.func66, Tryz.ntmps66
 go_wp2
 go_loop [2] (fun s => s = .int .i64 0) (fun _ => 0)
 case atStart => rfl
 case round =>
  subst hrel
  go_wp2
  go_end0
  exact ⟨rfl, rfl⟩
theorem qe_growTenant (h : QBook W B n f) (hf : f 7 = .slice none 0 0) : Calls Tryz.prog 78 #[.pointer (some ⟨B, 0, none⟩)] W fun e w' => e = .returned (.tuple #[]) ∧ W = w' := by
 have r1 := h.cell 7 (.slice none 0 0) (by rw [← hf]; rfl)
 have r2 := h.lt
 clear h
 go_enter Tryz.func78, Tryz.ntmps78
 go_wp2
 go_loop [2] (fun s => s = .int .i64 0) (fun _ => 0)
 case atStart => rfl
 case round =>
  subst hrel
  go_wp2
  go_end0
  exact ⟨rfl, rfl⟩
theorem qe_lookTenant (h : QBook W B n f) (hf : f 7 = .slice none 0 0) : Calls Tryz.prog 90 #[.pointer (some ⟨B, 0, none⟩)] W fun e w' => e = .returned (.bool true) ∧ W = w' := by
 have r1 := h.cell 7 (.slice none 0 0) (by rw [← hf]; rfl)
 have r2 := h.lt
 clear h
 go_enter Tryz.func90, Tryz.ntmps90
 go_wp2
 go_loop [3] (fun s => s = .int .i64 0) (fun _ => 0)
 case atStart => rfl
 case round =>
  subst hrel
  go_wp2
  go_ret
  exact ⟨rfl, rfl⟩
theorem qe_fillVar (h : QBook W B n f) (hf : f 9 = .slice none 0 0) : Calls Tryz.prog 68 #[.pointer (some ⟨B, 0, none⟩)] W fun e w' => e = .returned (.tuple #[]) ∧ W = w' := by
 have r1 := h.cell 9 (.slice none 0 0) (by rw [← hf]; rfl)
 have r2 := h.lt
 clear h
 go_enter Tryz.func68, Tryz.ntmps68
 go_wp2
 go_loop [2] (fun s => s = .int .i64 0) (fun _ => 0)
 case atStart => rfl
 case round =>
  subst hrel
  go_wp2
  go_end0
  exact ⟨rfl, rfl⟩
theorem qe_growVar (h : QBook W B n f) (hf : f 9 = .slice none 0 0) : Calls Tryz.prog 80 #[.pointer (some ⟨B, 0, none⟩)] W fun e w' => e = .returned (.tuple #[]) ∧ W = w' := by
 have r1 := h.cell 9 (.slice none 0 0) (by rw [← hf]; rfl)
 have r2 := h.lt
 clear h
 go_enter Tryz.func80, Tryz.ntmps80
 go_wp2
 go_loop [2] (fun s => s = .int .i64 0) (fun _ => 0)
 case atStart => rfl
 case round =>
  subst hrel
  go_wp2
  go_end0
  exact ⟨rfl, rfl⟩
theorem qe_lookVar (h : QBook W B n f) (hf : f 9 = .slice none 0 0) : Calls Tryz.prog 92 #[.pointer (some ⟨B, 0, none⟩)] W fun e w' => e = .returned (.bool true) ∧ W = w' := by
 have r1 := h.cell 9 (.slice none 0 0) (by rw [← hf]; rfl)
 have r2 := h.lt
 clear h
 go_enter Tryz.func92, Tryz.ntmps92
 go_wp2
 go_loop [3] (fun s => s = .int .i64 0) (fun _ => 0)
 case atStart => rfl
 case round =>
  subst hrel
  go_wp2
  go_ret
  exact ⟨rfl, rfl⟩
theorem qe_fillRow (h : QBook W B n f) (hf : f 10 = .slice none 0 0) : Calls Tryz.prog 69 #[.pointer (some ⟨B, 0, none⟩)] W fun e w' => e = .returned (.tuple #[]) ∧ W = w' := by
 have r1 := h.cell 10 (.slice none 0 0) (by rw [← hf]; rfl)
 have r2 := h.lt
 clear h
 go_enter Tryz.func69, Tryz.ntmps69
 go_wp2
 go_loop [2] (fun s => s = .int .i64 0) (fun _ => 0)
 case atStart => rfl
 case round =>
  subst hrel
  go_wp2
  go_end0
  exact ⟨rfl, rfl⟩
theorem qe_growRow (h : QBook W B n f) (hf : f 10 = .slice none 0 0) : Calls Tryz.prog 81 #[.pointer (some ⟨B, 0, none⟩)] W fun e w' => e = .returned (.tuple #[]) ∧ W = w' := by
 have r1 := h.cell 10 (.slice none 0 0) (by rw [← hf]; rfl)
 have r2 := h.lt
 clear h
 go_enter Tryz.func81, Tryz.ntmps81
 go_wp2
 go_loop [2] (fun s => s = .int .i64 0) (fun _ => 0)
 case atStart => rfl
 case round =>
  subst hrel
  go_wp2
  go_end0
  exact ⟨rfl, rfl⟩
theorem qe_lookRow (h : QBook W B n f) (hf : f 10 = .slice none 0 0) : Calls Tryz.prog 93 #[.pointer (some ⟨B, 0, none⟩)] W fun e w' => e = .returned (.bool true) ∧ W = w' := by
 have r1 := h.cell 10 (.slice none 0 0) (by rw [← hf]; rfl)
 have r2 := h.lt
 clear h
 go_enter Tryz.func93, Tryz.ntmps93
 go_wp2
 go_loop [3] (fun s => s = .int .i64 0) (fun _ => 0)
 case atStart => rfl
 case round =>
  subst hrel
  go_wp2
  go_ret
  exact ⟨rfl, rfl⟩
theorem qe_fillNode (h : QBook W B n f) (hf : f 11 = .slice none 0 0) : Calls Tryz.prog 70 #[.pointer (some ⟨B, 0, none⟩)] W fun e w' => e = .returned (.tuple #[]) ∧ W = w' := by
 have r1 := h.cell 11 (.slice none 0 0) (by rw [← hf]; rfl)
 have r2 := h.lt
 clear h
 go_enter Tryz.func70, Tryz.ntmps70
 go_wp2
 go_loop [2] (fun s => s = .int .i64 0) (fun _ => 0)
 case atStart => rfl
 case round =>
  subst hrel
  go_wp2
  go_end0
  exact ⟨rfl, rfl⟩
theorem qe_growNode (h : QBook W B n f) (hf : f 11 = .slice none 0 0) : Calls Tryz.prog 82 #[.pointer (some ⟨B, 0, none⟩)] W fun e w' => e = .returned (.tuple #[]) ∧ W = w' := by
 have r1 := h.cell 11 (.slice none 0 0) (by rw [← hf]; rfl)
 have r2 := h.lt
 clear h
 go_enter Tryz.func82, Tryz.ntmps82
 go_wp2
 go_loop [2] (fun s => s = .int .i64 0) (fun _ => 0)
 case atStart => rfl
 case round =>
  subst hrel
  go_wp2
  go_end0
  exact ⟨rfl, rfl⟩
theorem qe_lookNode (h : QBook W B n f) (hf : f 11 = .slice none 0 0) : Calls Tryz.prog 94 #[.pointer (some ⟨B, 0, none⟩)] W fun e w' => e = .returned (.bool true) ∧ W = w' := by
 have r1 := h.cell 11 (.slice none 0 0) (by rw [← hf]; rfl)
 have r2 := h.lt
 clear h
 go_enter Tryz.func94, Tryz.ntmps94
 go_wp2
 go_loop [3] (fun s => s = .int .i64 0) (fun _ => 0)
 case atStart => rfl
 case round =>
  subst hrel
  go_wp2
  go_ret
  exact ⟨rfl, rfl⟩
theorem qe_fillJob (h : QBook W B n f) (hf : f 12 = .slice none 0 0) : Calls Tryz.prog 71 #[.pointer (some ⟨B, 0, none⟩)] W fun e w' => e = .returned (.tuple #[]) ∧ W = w' := by
 have r1 := h.cell 12 (.slice none 0 0) (by rw [← hf]; rfl)
 have r2 := h.lt
 clear h
 go_enter Tryz.func71, Tryz.ntmps71
 go_wp2
 go_loop [2] (fun s => s = .int .i64 0) (fun _ => 0)
 case atStart => rfl
 case round =>
  subst hrel
  go_wp2
  go_end0
  exact ⟨rfl, rfl⟩
theorem qe_growJob (h : QBook W B n f) (hf : f 12 = .slice none 0 0) : Calls Tryz.prog 83 #[.pointer (some ⟨B, 0, none⟩)] W fun e w' => e = .returned (.tuple #[]) ∧ W = w' := by
 have r1 := h.cell 12 (.slice none 0 0) (by rw [← hf]; rfl)
 have r2 := h.lt
 clear h
 go_enter Tryz.func83, Tryz.ntmps83
 go_wp2
 go_loop [2] (fun s => s = .int .i64 0) (fun _ => 0)
 case atStart => rfl
 case round =>
  subst hrel
  go_wp2
  go_end0
  exact ⟨rfl, rfl⟩
theorem qe_lookJob (h : QBook W B n f) (hf : f 12 = .slice none 0 0) : Calls Tryz.prog 95 #[.pointer (some ⟨B, 0, none⟩)] W fun e w' => e = .returned (.bool true) ∧ W = w' := by
 have r1 := h.cell 12 (.slice none 0 0) (by rw [← hf]; rfl)
 have r2 := h.lt
 clear h
 go_enter Tryz.func95, Tryz.ntmps95
 go_wp2
 go_loop [3] (fun s => s = .int .i64 0) (fun _ => 0)
 case atStart => rfl
 case round =>
  subst hrel
  go_wp2
  go_ret
  exact ⟨rfl, rfl⟩
end
end
section
open Go Go.Proofs Go.RowKit Go.Shelf
attribute [local go_sem] Oper.semAt_some
set_option maxRecDepth 100000
set_option linter.unusedVariables false
theorem QLies.later {W0 W1 : World} {base B h N : Nat} {A : Nat → Option Addr} {L C M : Nat → Nat} (D : QLies W0 base B h N A L C M) (hs : W0.heap.size ≤ W1.heap.size) : QLies W1 base B h N A L C M :=
 ⟨D.base, D.up, fun j g hj e => ⟨(D.blk j g hj e).1, (D.blk j g hj e).2.1, Nat.lt_of_lt_of_le (D.blk j g hj e).2.2 hs⟩, D.dis, D.len, D.num, D.few⟩
structure QTwo (hb Nb : Nat) (Ab : Nat → Option Addr) (Lb Cb : Nat → Nat) (ht Nt : Nat) (At : Nat → Option Addr) (Lt Ct : Nat → Nat) : Prop where
 ne : hb ≠ ht
 fb : ∀ i, i < Nb → (Value.slice (Ab i) (Lb i) (Cb i)).ownBlock ≠ some ht
 ft : ∀ j, j < Nt → (Value.slice (At j) (Lt j) (Ct j)).ownBlock ≠ some hb
 dis : ∀ i j g, i < Nb → j < Nt → (Value.slice (Ab i) (Lb i) (Cb i)).ownBlock = some g → (Value.slice (At j) (Lt j) (Ct j)).ownBlock = some g → False
theorem kp_l {a b : World} {R R' : Nat → Prop} (h : Kp a b R) : Kp a b (fun g => R g ∨ R' g) := ⟨h.1, fun g hg hn => h.2 g hg (fun e => hn (.inl e))⟩
theorem kp_r {a b : World} {R R' : Nat → Prop} (h : Kp a b R') : Kp a b (fun g => R g ∨ R' g) := ⟨h.1, fun g hg hn => h.2 g hg (fun e => hn (.inr e))⟩
theorem kp_then {a b c : World} {R : Nat → Prop} (h : Kp a b R) (k : Kp b c R) : Kp a c R := ⟨Nat.le_trans h.1 k.1, fun g hg hn => (k.2 g (Nat.lt_of_lt_of_le hg h.1) hn).trans (h.2 g hg hn)⟩
theorem kp_mono {a b : World} {R R' : Nat → Prop} (h : Kp a b R) (hr : ∀ g, R g → R' g) : Kp a b R' := ⟨h.1, fun g hg hn => h.2 g hg (fun e => hn (hr g e))⟩
section
variable {W0 : World} {base B hb Nb ht Nt S : Nat} {Ab At : Nat → Option Addr} {Lb Cb Mb Lt Ct Mt : Nat → Nat}
theorem QTwo.symm (X : QTwo hb Nb Ab Lb Cb ht Nt At Lt Ct) : QTwo ht Nt At Lt Ct hb Nb Ab Lb Cb := ⟨X.ne.symm, X.ft, X.fb, fun i j g hi hj e1 e2 => X.dis j i g hj hi e2 e1⟩
theorem QTwo.held (X : QTwo hb Nb Ab Lb Cb ht Nt At Lt Ct) (Db : QLies W0 base B hb Nb Ab Lb Cb Mb) (Dt : QLies W0 base B ht Nt At Lt Ct Mt) : ¬ QR hb Nb Ab Lb Cb ht := by
 rintro (e | ⟨j, hj, e⟩)
 · exact X.ne e.symm
 · exact X.fb j hj e
theorem QTwo.held' (X : QTwo hb Nb Ab Lb Cb ht Nt At Lt Ct) : ¬ QR hb Nb Ab Lb Cb ht := by
 rintro (e | ⟨j, hj, e⟩)
 · exact X.ne e.symm
 · exact X.fb j hj e
theorem QTwo.lists' (X : QTwo hb Nb Ab Lb Cb ht Nt At Lt Ct) : ∀ j g, j < Nt → (Value.slice (At j) (Lt j) (Ct j)).ownBlock = some g → ¬ QR hb Nb Ab Lb Cb g := by
 rintro j g hj e (rfl | ⟨i, hi, e2⟩)
 · exact X.ft j hj e
 · exact X.dis i j g hi hj e2 e
theorem WLies.later {W1 : World} (D : WLies W0 base B hb Nb Ab Lb Cb Mb) (hs : W0.heap.size ≤ W1.heap.size) : WLies W1 base B hb Nb Ab Lb Cb Mb :=
 ⟨D.base, D.up, fun j g hj e => ⟨(D.blk j g hj e).1, (D.blk j g hj e).2.1, Nat.lt_of_lt_of_le (D.blk j g hj e).2.2 hs⟩, D.dis, D.len, D.num, D.few⟩
theorem qr_lowW (D : WLies W0 base B hb Nb Ab Lb Cb Mb) (hW : W0.heap.size ≤ S) (hS : hb < S) (n : Nat) : ∀ g, S ≤ g → g < n → ¬ QR hb Nb Ab Lb Cb g := by
 rintro g hg _ (rfl | ⟨j, hj, e⟩)
 · omega
 · have := D.blk j g hj e
   have := D.up
   omega
theorem WGrowO.far {W W' w : World} {T HT sz n i S0 : Nat} {PM : World → Nat → Nat → List Value → Prop} {f : Nat → Value} {R : Nat → Prop} (F : WGrowO W0 w T HT sz PM base B hb n Nb f Ab Lb Cb Mb S0 i W) (hk : Kp W W' R) (hB : QBook W' B n f) (hw : Below base w W') (hh : ¬ R hb) (hA : ∀ j g, j < Nb → (Value.slice (Ab j) (Lb j) (Cb j)).ownBlock = some g → ¬ R g) (hS : ∀ g, S0 ≤ g → g < W.heap.size → ¬ R g) (hP : ∀ m n xs, PM W m n xs → PM W' m n xs) : WGrowO W' w T HT sz PM base B hb n Nb f Ab Lb Cb Mb S0 i W' := by
 obtain ⟨G, X, Y, h0, _, h2, _, h4, _, ⟨cur, ht⟩, h5, h6, h7⟩ := F
 refine ⟨G, X, Y, h0, hB, kp_at hk h2 hh, hw, Nat.le_trans h4 hk.1, Kp.refl, ⟨cur, (hk.2 hb (Array.getElem?_eq_some_iff.1 ht).1 hh).trans ht⟩, fun j hj => ⟨kp_rdc hk (h5 j hj).1 (fun g e => hA j g hj e), hP _ _ _ (h5 j hj).2⟩, fun j hj hji => kp_row hk (h6 j hj hji) (fun g e => hA j g hj e), fun j hj hji => ?_⟩
 obtain ⟨r, p, c⟩ := h7 j hj hji
 refine ⟨kp_row hk r (fun g e => ?_), hP _ _ _ p, c⟩
 rcases c g e with h' | h'
 · exact hA j g hj h'
 · exact hS g h' (World.ownsRow.lt r g e).2
theorem qr_low (D : QLies W0 base B hb Nb Ab Lb Cb Mb) (hW : W0.heap.size ≤ S) (hS : hb < S) (n : Nat) : ∀ g, S ≤ g → g < n → ¬ QR hb Nb Ab Lb Cb g := by
 rintro g hg _ (rfl | ⟨j, hj, e⟩)
 · omega
 · have := D.blk j g hj e
   have := D.up
   omega
end
theorem apartIR_kp {w W : World} {base B n hb Nb capb ht Nt capt : Nat} {f : Nat → Value} {Ab At : Nat → Option Addr} {Lb Cb Mb Lt Ct Mt : Nat → Nat} (Db : QLies W base B hb Nb Ab Lb Cb Mb) (Dt : WLies W base B ht Nt At Lt Ct Mt) (X : QTwo hb Nb Ab Lb Cb ht Nt At Lt Ct)
  (hNb : Nb ≤ capb) (hNt : Nt ≤ capt) (hfb : f 2 = .slice (some ⟨hb, 0, none⟩) Nb capb) (hft : f 8 = .slice (some ⟨ht, 0, none⟩) Nt capt) (h0 : ∀ o, o ≠ 2 → o ≠ 8 → f o = .slice none 0 0)
  (Fb : QFill W w 71 1 mkIn base B hb n Nb f Ab Lb Cb Mb 0 0 W) (Ft : WFill W w 30 119 3 (PRat W.heap.size) base B ht n Nt f At Lt Ct Mt 0 0 W) :
  Calls Tryz.prog 19 #[.pointer (some ⟨B, 0, none⟩)] W fun e w' => e = .returned (.bool true) ∧ Below base w w' ∧ Kp W w' (fun g => QR hb Nb Ab Lb Cb g ∨ QR ht Nt At Lt Ct g) := by
 have HDb := Lib.hid Db
 have HDt := Lib.hid Dt
 have HX := Lib.hid X
 have HFb := Lib.hid Fb
 have HFt := Lib.hid Ft
 have b0 := Lib.hid Fb.1
 have Hfb := Lib.hid hfb
 have Hft := Lib.hid hft
 have H0 := Lib.hid h0
 have HB0 := Lib.hid Fb.2.1.lt
 clear Db Dt X Fb Ft hfb hft h0
 go_enter Tryz.func19, Tryz.ntmps19
 go_wp2_with (first
  | (go_at_call 60; go_loud (refine (qe_fillByte b0.out (H0.out 1 (by decide) (by decide))).mono ?_; rintro e w' ⟨rfl, rfl⟩))
  | (go_at_call 61; go_loud (refine (fillIn_any HDb.out hNb Hfb.out HFb.out).mono ?_; rintro e w1 ⟨rfl, q1⟩; have hs1 : W.heap.size ≤ w1.heap.size := q1.2.2.2.1.1; have P1 := Lib.hid q1; have b1 := Lib.hid q1.1; have E1 := Lib.hid (HFt.out.far q1.2.2.2.1 q1.1 q1.2.2.1 HX.out.held' HX.out.lists' (fun _ _ _ p => p.kp q1.2.2.2.1 (fun b h1 h2 => qr_low HDb.out (Nat.le_refl _) HB0.out _ b h1 h2))); have K1 := Lib.hid (show Kp W w1 (fun g => QR hb Nb Ab Lb Cb g ∨ QR ht Nt At Lt Ct g) from kp_l q1.2.2.2.1); clear q1 HFb HFt))
  | (go_at_call 62; go_loud (refine (qe_fillNum b1.out (H0.out 3 (by decide) (by decide))).mono ?_; rintro e w' ⟨rfl, rfl⟩))
  | (go_at_call 63; go_loud (refine (qe_fillBool b1.out (H0.out 4 (by decide) (by decide))).mono ?_; rintro e w' ⟨rfl, rfl⟩))
  | (go_at_call 64; go_loud (refine (qe_fillText b1.out (H0.out 5 (by decide) (by decide))).mono ?_; rintro e w' ⟨rfl, rfl⟩))
  | (go_at_call 65; go_loud (refine (qe_fillToken b1.out (H0.out 6 (by decide) (by decide))).mono ?_; rintro e w' ⟨rfl, rfl⟩))
  | (go_at_call 66; go_loud (refine (qe_fillTenant b1.out (H0.out 7 (by decide) (by decide))).mono ?_; rintro e w' ⟨rfl, rfl⟩))
  | (go_at_call 67; go_loud (refine (fillRa_any hs1 (HDt.out.later (by first | exact Nat.le_refl _ | exact hs1 | exact hs2 | exact hs3 | exact hs4 | exact hs5)) hNt Hft.out E1.out).mono ?_; rintro e w2 ⟨rfl, q2⟩; have hs2 : W.heap.size ≤ w2.heap.size := Nat.le_trans hs1 q2.2.2.2.1.1; have E2 := Lib.hid q2; have b2 := Lib.hid q2.1; have P2 := Lib.hid (P1.out.far q2.2.2.2.1 q2.1 q2.2.2.1 HX.out.symm.held' HX.out.symm.lists'); have HS2 := Lib.hid (And.intro P2.out.2.1.lt q2.2.1.lt); have G2 := Lib.hid (QGrowO.start P2.out); have Hob := Lib.hid P2.out.forms; have K2 := Lib.hid (kp_then K1.out (kp_r q2.2.2.2.1)); clear q2 P1 E1 K1))
  | (go_at_call 68; go_loud (refine (qe_fillVar b2.out (H0.out 9 (by decide) (by decide))).mono ?_; rintro e w' ⟨rfl, rfl⟩))
  | (go_at_call 69; go_loud (refine (qe_fillRow b2.out (H0.out 10 (by decide) (by decide))).mono ?_; rintro e w' ⟨rfl, rfl⟩))
  | (go_at_call 70; go_loud (refine (qe_fillNode b2.out (H0.out 11 (by decide) (by decide))).mono ?_; rintro e w' ⟨rfl, rfl⟩))
  | (go_at_call 71; go_loud (refine (qe_fillJob b2.out (H0.out 12 (by decide) (by decide))).mono ?_; rintro e w' ⟨rfl, rfl⟩))
  | (go_at_call 72; go_loud (refine (qe_growByte b2.out (H0.out 1 (by decide) (by decide))).mono ?_; rintro e w' ⟨rfl, rfl⟩))
  | (go_at_call 73; go_loud (refine (growIn_any (HDb.out.later (by first | exact Nat.le_refl _ | exact hs1 | exact hs2 | exact hs3 | exact hs4 | exact hs5)) Hob.out hNb Hfb.out HS2.out.1 (Nat.le_refl _) G2.out).mono ?_; rintro e w3 ⟨rfl, q3⟩; have P3 := Lib.hid q3; obtain ⟨G, -, q3b, -, q3w, q3s, q3k, -⟩ := q3; have E3 := Lib.hid (E2.out.far q3k q3b q3w HX.out.held' HX.out.lists' (fun _ _ _ p => p.kp q3k (fun b h1 h2 => qr_low HDb.out (Nat.le_refl _) HB0.out _ b h1 h2))); have HS3 := Lib.hid (And.intro (Nat.lt_of_lt_of_le HS2.out.1 q3s) (Nat.lt_of_lt_of_le HS2.out.2 q3s)); have b3 := Lib.hid q3b; have hs3 : W.heap.size ≤ w3.heap.size := Nat.le_trans hs2 q3s; have G3 := Lib.hid (WGrowO.start E3.out); have Hot := Lib.hid E3.out.forms; have K3 := Lib.hid (kp_then K2.out (kp_l q3k)); clear q3b q3w q3s q3k P2 E2 G2 G K2))
  | (go_at_call 74; go_loud (refine (qe_growNum b3.out (H0.out 3 (by decide) (by decide))).mono ?_; rintro e w' ⟨rfl, rfl⟩))
  | (go_at_call 75; go_loud (refine (qe_growBool b3.out (H0.out 4 (by decide) (by decide))).mono ?_; rintro e w' ⟨rfl, rfl⟩))
  | (go_at_call 76; go_loud (refine (qe_growText b3.out (H0.out 5 (by decide) (by decide))).mono ?_; rintro e w' ⟨rfl, rfl⟩))
  | (go_at_call 77; go_loud (refine (qe_growToken b3.out (H0.out 6 (by decide) (by decide))).mono ?_; rintro e w' ⟨rfl, rfl⟩))
  | (go_at_call 78; go_loud (refine (qe_growTenant b3.out (H0.out 7 (by decide) (by decide))).mono ?_; rintro e w' ⟨rfl, rfl⟩))
  | (go_at_call 79; go_loud (refine (growRa_any hs3 (HDt.out.later (by first | exact Nat.le_refl _ | exact hs1 | exact hs2 | exact hs3 | exact hs4 | exact hs5)) Hot.out hNt Hft.out HS3.out.2 (Nat.le_refl _) G3.out).mono ?_; rintro e w4 ⟨rfl, q4⟩; have E4 := Lib.hid q4; obtain ⟨G, _, _, -, q4b, -, q4w, q4s, q4k, -⟩ := q4; have b4 := Lib.hid q4b; have hs4 : W.heap.size ≤ w4.heap.size := Nat.le_trans hs3 q4s; have P4 := Lib.hid (P3.out.far q4k q4b q4w HX.out.symm.held' HX.out.symm.lists' (qr_lowW HDt.out hs2 HS2.out.2 _)); have L4 := Lib.hid (QLook.of (HDb.out.later (by first | exact Nat.le_refl _ | exact hs1 | exact hs2 | exact hs3 | exact hs4 | exact hs5)) P4.out); have K4 := Lib.hid (kp_then K3.out (kp_r q4k)); clear q4b q4w q4s q4k P3 E3 G3 P4 G K3; obtain ⟨G, L4⟩ := L4.out; have L4 := Lib.hid L4))
  | (go_at_call 80; go_loud (refine (qe_growVar b4.out (H0.out 9 (by decide) (by decide))).mono ?_; rintro e w' ⟨rfl, rfl⟩))
  | (go_at_call 81; go_loud (refine (qe_growRow b4.out (H0.out 10 (by decide) (by decide))).mono ?_; rintro e w' ⟨rfl, rfl⟩))
  | (go_at_call 82; go_loud (refine (qe_growNode b4.out (H0.out 11 (by decide) (by decide))).mono ?_; rintro e w' ⟨rfl, rfl⟩))
  | (go_at_call 83; go_loud (refine (qe_growJob b4.out (H0.out 12 (by decide) (by decide))).mono ?_; rintro e w' ⟨rfl, rfl⟩))
  | (go_at_call 84; go_loud (refine (qe_lookByte b4.out (H0.out 1 (by decide) (by decide))).mono ?_; rintro e w' ⟨rfl, rfl⟩))
  | (go_at_call 85; go_loud (refine (lookIn_any (HDb.out.later (by first | exact Nat.le_refl _ | exact hs1 | exact hs2 | exact hs3 | exact hs4 | exact hs5)) hNb Hfb.out L4.out).mono ?_; rintro e w5 ⟨rfl, q5⟩; have b5 := Lib.hid q5.1; have hs5 : W.heap.size ≤ w5.heap.size := Nat.le_trans hs4 q5.2.2.2.2.1.1; have E5 := Lib.hid (E4.out.far q5.2.2.2.2.1 q5.1 q5.2.2.1 HX.out.held' HX.out.lists' (qr_low HDb.out hs3 HS3.out.1 _) (fun _ _ _ p => p.kp q5.2.2.2.2.1 (fun b h1 h2 => qr_low HDb.out (Nat.le_refl _) HB0.out _ b h1 h2))); have L5 := WLook.of (HDt.out.later (by first | exact Nat.le_refl _ | exact hs1 | exact hs2 | exact hs3 | exact hs4 | exact hs5)) E5.out; have K5 := Lib.hid (kp_then K4.out (kp_l q5.2.2.2.2.1)); clear q5 E4 E5 L4 K4; obtain ⟨G5, X5, Y5, L5⟩ := L5; have L5 := Lib.hid L5))
  | (go_at_call 86; go_loud (refine (qe_lookNum b5.out (H0.out 3 (by decide) (by decide))).mono ?_; rintro e w' ⟨rfl, rfl⟩))
  | (go_at_call 87; go_loud (refine (qe_lookBool b5.out (H0.out 4 (by decide) (by decide))).mono ?_; rintro e w' ⟨rfl, rfl⟩))
  | (go_at_call 88; go_loud (refine (qe_lookText b5.out (H0.out 5 (by decide) (by decide))).mono ?_; rintro e w' ⟨rfl, rfl⟩))
  | (go_at_call 89; go_loud (refine (qe_lookToken b5.out (H0.out 6 (by decide) (by decide))).mono ?_; rintro e w' ⟨rfl, rfl⟩))
  | (go_at_call 90; go_loud (refine (qe_lookTenant b5.out (H0.out 7 (by decide) (by decide))).mono ?_; rintro e w' ⟨rfl, rfl⟩))
  | (go_at_call 91; go_loud (refine (lookRa_any (HDt.out.later (by first | exact Nat.le_refl _ | exact hs1 | exact hs2 | exact hs3 | exact hs4 | exact hs5)) hNt Hft.out L5.out).mono ?_; rintro e w6 ⟨rfl, q6⟩; have b6 := Lib.hid q6.1; have b6w := Lib.hid q6.2.2.1; have K6 := Lib.hid (kp_then K5.out (kp_r q6.2.2.2.2.1)); clear q6 L5 K5))
  | (go_at_call 92; go_loud (refine (qe_lookVar b6.out (H0.out 9 (by decide) (by decide))).mono ?_; rintro e w' ⟨rfl, rfl⟩))
  | (go_at_call 93; go_loud (refine (qe_lookRow b6.out (H0.out 10 (by decide) (by decide))).mono ?_; rintro e w' ⟨rfl, rfl⟩))
  | (go_at_call 94; go_loud (refine (qe_lookNode b6.out (H0.out 11 (by decide) (by decide))).mono ?_; rintro e w' ⟨rfl, rfl⟩))
  | (go_at_call 95; go_loud (refine (qe_lookJob b6.out (H0.out 12 (by decide) (by decide))).mono ?_; rintro e w' ⟨rfl, rfl⟩))
  | fail)
 go_ret
 exact ⟨rfl, b6w.out, K6.out⟩
end
end Go.Proofs.YtdjfooflhpkcbaaGreatDoor
