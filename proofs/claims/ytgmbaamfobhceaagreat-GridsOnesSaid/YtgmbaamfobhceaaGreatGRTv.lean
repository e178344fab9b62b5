/- The document's answer: the small functions. The document's answer: the order and the sum of two great numbers, by hand. The document's answer: the .. -/
import Derived.Deep.LoopGhost
import Derived.Deep.QuietTactic
import Derived.Laws.OwnMore
import Derived.Laws.Rows
import Derived.OneCell
import Derived.Maps.AppendAt
import Derived.Laws.AppendOwnNone
import Derived.Deep.RegionHeld3
import Derived.Test.YtgmbaamfobhceaaGreatGCmp
import Derived.Test.YtgmbaamfobhceaaGreatGInts
import Derived.Test.YtgmbaamfobhceaaGreatGIntsB
import Derived.Test.YtgmbaamfobhceaaGreatGMathG
import Derived.Test.YtgmbaamfobhceaaGreatGDiv
import Derived.Test.YtgmbaamfobhceaaGreatGRatMul
set_option linter.unusedSimpArgs false
set_option linter.unusedVariables false
namespace Go.Proofs.YtgmbaamfobhceaaGreat
section
open Go Go.Proofs Go.RowKit Go.Shelf Nu
attribute [local go_sem] Oper.semAt_some
end
section
open Go Go.Proofs Go.RowKit Go.Shelf Nu
section
variable {P : Program} (w : World)
end
section
variable {W W' : World} {B n : Nat} {v : Value}
end
def hcell (e : Value × Nat) : List Value := [e.1, .slice none 0 0, .int .i64 (e.2 : Int)]
def HAt (W : World) (h N : Nat) (V G : Nat → Value) (M : Nat → Nat) : Prop :=
 (∃ cur e, W.heap[h]? = some (.cells cur e (0, 0))) ∧ ∀ j, j < N → W.cell? ⟨h, j * 3, none⟩ = some (V j) ∧ W.cell? ⟨h, j * 3 + 1, none⟩ = some (G j) ∧ W.cell? ⟨h, j * 3 + 2, none⟩ = some (.int .i64 (M j : Int))
section
variable {W W' : World} {h N : Nat} {V G : Nat → Value} {M : Nat → Nat}
theorem HAt.lt (H : HAt W h N V G M) : h < W.heap.size := by obtain ⟨⟨_, _, e⟩, _⟩ := H; exact (Array.getElem?_eq_some_iff.1 e).1
theorem HAt.fr (H : HAt W h N V G M) (o : Nat) : W.frozen? ⟨h, o, none⟩ = false := by
 obtain ⟨⟨cur, t, e⟩, _⟩ := H
 exact frozen_of_row W h o cur t e
theorem HAt.kept {row : Option Nat} (H : HAt W h N V G M) (hg : W.grownBy W' row) (hne : some h ≠ row) : HAt W' h N V G M := by
 have hlt := H.lt
 have e := hg.block h hlt hne
 refine ⟨?_, fun j hj => ?_⟩
 · obtain ⟨⟨cur, t, e1⟩, _⟩ := H; exact ⟨cur, t, e.trans e1⟩
 · have c : ∀ o, W'.cell? ⟨h, o, none⟩ = W.cell? ⟨h, o, none⟩ := fun o => World.cell?_of_block e
   rw [c, c, c]; exact H.2 j hj
theorem HAt.other (H : HAt W h N V G M) {g o : Nat} (hne : h ≠ g) (u : Value) : HAt (W.setCell ⟨g, o, none⟩ u) h N V G M :=
 H.kept (row := some g) ⟨rfl, rfl, rfl, by simp, fun k _ hk => heap_setCell_other W ⟨g, o, none⟩ k u (fun e => hk (by simp [e]))⟩ (by simpa using hne)
theorem HAt.put (H : HAt W h N V G M) {i : Nat} (hi : i < N) (u : Value) : HAt (W.setCell ⟨h, i * 3 + 1, none⟩ u) h N V (fun j => if j = i then u else G j) M := by
 have H0 := H
 obtain ⟨⟨cur, t, e⟩, H2⟩ := H
 refine ⟨⟨_, _, heap_setCell_same W h (i * 3 + 1) cur t u e⟩, fun j hj => ?_⟩
 have off : ∀ o, o ≠ i * 3 + 1 → (W.setCell ⟨h, i * 3 + 1, none⟩ u).cell? ⟨h, o, none⟩ = W.cell? ⟨h, o, none⟩ := fun o ho => World.cell?_setCell_other W _ _ _ (by intro e; cases e; exact ho rfl)
 refine ⟨(off _ (by omega)).trans (H2 j hj).1, ?_, (off _ (by omega)).trans (H2 j hj).2.2⟩
 show _ = some (if j = i then u else G j)
 by_cases hji : j = i
 · subst hji
   rw [if_pos rfl]
   exact World.cell?_setCell_same W _ _ (H2 j hj).2.1
 · rw [if_neg hji]
   exact (off _ (by omega)).trans (H2 j hj).2.1
end
theorem Fresh.put {W : World} {base g n cap : Nat} {l : List Nat} (h : Fresh W base (.slice (some ⟨g, 0, none⟩) n cap) l) (hn : n = l.length) (j x : Nat) :
  Fresh (W.setCell ⟨g, j, none⟩ (.int .u32 (x : Int))) base (.slice (some ⟨g, 0, none⟩) n cap) (l.set j x) ∧ W.grownBy (W.setCell ⟨g, j, none⟩ (.int .u32 (x : Int))) (some g) := by
 subst hn
 have k := World.ownsRow.stored h j (.int .u32 (x : Int))
 refine ⟨?_, k.2⟩
 unfold Fresh
 rw [List.length_set, List.map_set]
 exact k.1
theorem Fresh.keptr {W W' : World} {base : Nat} {v : Value} {l : List Nat} {row : Option Nat} (h : Fresh W base v l) (hg : W.grownBy W' row) (hne : v.ownBlock = none ∨ v.ownBlock ≠ row) : Fresh W' base v l := World.ownsRow.kept h hg hne
theorem Fresh.lt' {W : World} {base g : Nat} {v : Value} {l : List Nat} (h : Fresh W base v l) (hg : v.ownBlock = some g) : base ≤ g ∧ g < W.heap.size := World.ownsRow.lt h g hg
end
section
open Go Go.Proofs Go.RowKit Go.Shelf Nu
attribute [local go_sem] Oper.semAt_some
def RowInv (B p : List Nat) (N i k c x : Nat) (l : List Nat) : Prop :=
 Sm l ∧ l.length = N ∧ c < 4294967296 ∧ l.take i = p.take i ∧ l.drop (i + k) = p.drop (i + k) ∧
  val ((l.drop i).take k) + 4294967296 ^ k * c = val ((p.drop i).take k) + x * val (B.take k)
def ColInv (A B : List Nat) (N i : Nat) (p : List Nat) : Prop :=
 Sm p ∧ p.length = N ∧ val p = val (A.take i) * val B ∧ ∀ j, i + B.length ≤ j → p.getD j 0 = 0
theorem RowInv.start {A B p : List Nat} {N i x : Nat} (h : ColInv A B N i p) : RowInv B p N i 0 0 x p :=
 ⟨h.1, h.2.1, by omega, rfl, rfl, by simp [val]⟩
theorem RowInv.step {B p l : List Nat} {N i k c x y r d : Nat} (hN : i + k < N) (hx : x < 4294967296) (hS : Sm B) (H : RowInv B p N i k c x l) (hy : y = B.getD k 0) (hr : r = l.getD (i + k) 0) (hd : d = c + x * y + r) :
   RowInv B p N i (k + 1) (d / 4294967296) x (l.set (i + k) (d % 4294967296)) := by
 obtain ⟨h1, h2, h3, h4, h5, h6⟩ := H
 have hyb : y < 4294967296 := by rw [hy]; exact hS.getD k
 have hrb : r < 4294967296 := by rw [hr]; exact h1.getD _
 have hb := times_bound (c := c) (p := y) (t := x) (r := r) h3 hyb hx hrb
 have e1 : (l.drop i).length = N - i := by rw [List.length_drop, h2]
 have hrd : r = (l.drop i).getD k 0 := by
   rw [hr, List.getD_eq_getElem?_getD, List.getD_eq_getElem?_getD, List.getElem?_drop]
 refine ⟨h1.set _ _ (Nat.mod_lt _ (by decide)), by rw [List.length_set, h2], ?_, ?_, ?_, ?_⟩
 · rw [hd, show c + x * y + r = c + (y * x + r) by rw [Nat.mul_comm x y]; omega]
   omega
 · rw [← h4, List.take_set]
   rw [List.set_eq_of_length_le (by rw [List.length_take]; omega)]
 · rw [show i + (k + 1) = (i + k) + 1 by omega, set_drop]
   exact drop_succ_of_drop h5
 · have e2 : (l.set (i + k) (d % 4294967296)).drop i = (l.drop i).set k (d % 4294967296) := by
    rw [List.drop_set, if_neg (by omega), Nat.add_sub_cancel_left]
   rw [e2]
   have hk : k < (l.drop i).length := by omega
   have hdd : (l.drop i).drop k = (p.drop i).drop k := by rw [List.drop_drop, List.drop_drop]; exact h5
   have := times_step (row := p.drop i) (b := B) (cur := l.drop i) (k := k) (c := c) (t := x) hk hdd h6
   rw [← hrd, ← hy] at this
   rw [hd, show c + x * y + r = c + (y * x + r) by rw [Nat.mul_comm x y]; omega]
   exact this
theorem ColInv.first (A B : List Nat) : ColInv A B (A.length + B.length) 0 (List.replicate (A.length + B.length) 0) :=
 ⟨Sm.replicate _, by rw [List.length_replicate], by simp [val_replicate, val], fun j _ => by
  rw [List.getD_eq_getElem?_getD, List.getElem?_replicate]; split <;> rfl⟩
section
variable {w : World} {p1 p2 : Option Addr} {q1 q2 A B : Nat}
end
section
variable {w : World} {v1 v2 : Value} {n1 n2 m1 m2 : Bool} {p1 p2 : Option Addr} {q1 q2 A B : Nat}
end
section
variable {w : World} {v1 v2 : Value} {l1 l2 : List Nat} {n1 n2 : Bool}
end
def Tw (W : World) (base g cap : Nat) (l : List Nat) : Prop := Fresh W base (.slice (some ⟨g, 0, none⟩) (l.length + 1) cap) (l ++ [77])
theorem Fresh.front {W : World} {base g cap n : Nat} {l m : List Nat} (h : Fresh W base (.slice (some ⟨g, 0, none⟩) n cap) (l ++ m)) : Fresh W base (.slice (some ⟨g, 0, none⟩) l.length cap) l := by
 refine ⟨by simp, .inr ?_⟩
 rcases h.2 with ⟨h1, _⟩ | ⟨g', cap', cur, e1, hb, hg, hn, hc, hs, ht⟩
 · cases h1
 · simp only [Value.slice.injEq, Option.some.injEq, Addr.mk.injEq, and_true] at e1
   obtain ⟨rfl, _, rfl⟩ := e1
   refine ⟨g, cap, cur, rfl, hb, hg, by simp at hn; omega, hc, hs, ?_⟩
   rw [Nat.mul_one] at ht ⊢
   have := congrArg (List.take l.length) ht
   rw [List.take_take, List.length_append, Nat.min_eq_left (by omega), List.map_append, List.take_append_of_le_length (by simp)] at this
   exact this.trans (List.take_of_length_le (by simp))
section
variable {W W' : World} {base g cp : Nat} {l : List Nat}
theorem Tw.fresh (h : Tw W base g cp l) : Fresh W base (.slice (some ⟨g, 0, none⟩) l.length cp) l := Fresh.front h
theorem Tw.below (h : Tw W base g cp l) (hb : Below W.heap.size W W') : Tw W' base g cp l := Fresh.below h hb
theorem Tw.mono {b' : Nat} (h : Tw W base g cp l) (hb : b' ≤ base) : Tw W b' g cp l := Fresh.mono h hb
theorem Tw.cap (h : Tw W base g cp l) : l.length + 1 ≤ cp := by
 rcases h.form with ⟨e, _⟩ | ⟨g', c, e, _, _, hn, _⟩
 · cases e
 · simp only [Value.slice.injEq] at e
   rw [List.length_append] at hn
   simp at hn
   omega
theorem Tw.lt (h : Tw W base g cp l) : base ≤ g ∧ g < W.heap.size := Fresh.lt' (g := g) h rfl
theorem Tw.cell (h : Tw W base g cp l) (j : Nat) (hj : j < l.length + 1) : W.cell? ⟨g, j, none⟩ = some (.int .u32 ((l ++ [77]).getD j 0 : Nat)) := by
 rcases h.form with ⟨e, _⟩ | ⟨g', c, e, _, _, _, hcc⟩
 · cases e
 · simp only [Value.slice.injEq, Option.some.injEq, Addr.mk.injEq, and_true] at e
   obtain ⟨rfl, _⟩ := e
   have := hcc j (by simp; omega)
   rwa [Nat.zero_add] at this
end
section
variable {w : World} {n1 : Bool}
end
end
section
open Go Go.Proofs Go.RowKit Go.Shelf Nu
theorem Two.symm {v u : Value} (h : Two v u) : Two u v := by
 rcases h with h | h
 · cases e : u.ownBlock with
   | none => exact .inl e
   | some g => exact .inr (by rw [h, e]; simp)
 · exact .inr (Ne.symm h)
theorem Fresh.putBox {W : World} {base b : Nat} {t : TypeId} {cs : List Value} {v : Value} {l : List Nat} (h : Fresh W base v l) (hB : BoxN W b t cs.toArray) (ht : t ≠ 127) (o : Nat) (x : Value) : Fresh (W.setCell ⟨b, o, none⟩ x) base v l := by
 refine ⟨h.1, ?_⟩
 rcases h.2 with h | ⟨g, cap, cur, e, hb, hg, r⟩
 · exact .inl h
 · refine .inr ⟨g, cap, cur, e, hb, ?_, r⟩
   have hne : g ≠ b := by
    rintro rfl
    have h1 := (show W.heap[g]? = _ from hB).symm.trans hg
    injection h1 with h1
    injection h1 with _ h2 _
    exact ht h2
   exact (Below.heap_setCell W ⟨b, o, none⟩ x g hne).trans hg
def MemO (n : Nat) (w : World) (bs : List (Nat × TypeId × List Value)) (rs : List (Value × List Nat)) (W : World) : Prop :=
 Mem w bs rs W ∧ n ≤ rs.length ∧ (∀ (k : Nat) (v : Value) (l : List Nat), k + n < rs.length → rs[k]? = some (v, l) → Fresh W w.heap.size v l) ∧
  ∀ (j k : Nat) (x y : Value × List Nat), j < k → k + n < rs.length → rs[j]? = some x → rs[k]? = some y → Two x.1 y.1
section
variable {n : Nat} {w W W' : World} {bs : List (Nat × TypeId × List Value)} {rs : List (Value × List Nat)} {b : Nat} {t : TypeId} {cs : List Value} {v u : Value} {l m : List Nat}
theorem MemO.of (M : Mem w bs rs W) (h : n = rs.length := by rfl) : MemO n w bs rs W := ⟨M, Nat.le_of_eq h, fun k _ _ hk _ => by omega, fun j k _ _ _ hk _ _ => by omega⟩
theorem MemO.below (M : MemO n w bs rs W) : Below w.heap.size w W := M.1.1
theorem MemO.up (M : MemO n w bs rs W) (r : Below W.heap.size W W') : MemO n w bs rs W' := ⟨M.1.up r, M.2.1, fun k v l hk e => (M.2.2.1 k v l hk e).below r, M.2.2.2⟩
theorem MemO.drew (M : MemO n w bs rs W) : MemO n w bs rs W.drew := M.up ⟨rfl, rfl, rfl, Nat.le_refl _, fun _ _ => rfl⟩
theorem MemO.box (M : MemO n w bs rs W) (k : Nat) (e : bs[k]? = some (b, t, cs)) : BoxN W b t cs.toArray := M.1.box k e
theorem MemO.at (M : MemO n w bs rs W) (k : Nat) (e : bs[k]? = some (b, t, cs)) : w.heap.size ≤ b := M.1.at k e
theorem MemO.lt (M : MemO n w bs rs W) {k : Nat} {x : Nat × TypeId × List Value} (e : bs[k]? = some x) : x.1 < W.heap.size := M.1.lt e
theorem MemO.new (M : MemO n w bs rs W) (t : TypeId) (cs : List Value) : MemO n w ((W.heap.size, t, cs) :: bs) rs (W.alloc (.cells cs.toArray t)) :=
 ⟨M.1.new t cs, M.2.1, fun k v l hk e => (M.2.2.1 k v l hk e).alloc _, M.2.2.2⟩
theorem MemO.fresh (M : MemO n w bs rs W) (t : TypeId) (cs : List Value) : ∃ b V, V = W.alloc (.cells cs.toArray t) ∧ b = W.heap.size ∧ MemO n w ((b, t, cs) :: bs) rs V := ⟨_, _, rfl, rfl, M.new t cs⟩
theorem MemO.get (M : MemO n w bs rs W) (k : Nat) (e : rs[k]? = some (v, l)) : Reads W v l := M.1.get k e
theorem MemO.cell (M : MemO n w bs rs W) (k : Nat) (e : bs[k]? = some (b, t, cs)) (o : Nat) (hv : cs[o]? = some v) : W.cell? ⟨b, o, none⟩ = some v := M.1.cell k e o hv
theorem MemO.fr (M : MemO n w bs rs W) (k : Nat) (e : bs[k]? = some (b, t, cs)) (o : Nat) : W.frozen? ⟨b, o, none⟩ = false := M.1.fr k e o
theorem MemO.put (M : MemO n w bs rs W) (k : Nat) (e : bs[k]? = some (b, t, cs)) (hn : cs.all no32 = true) (o : Nat) (x : Value) (ht : t ≠ 127 := by decide) : MemO n w (bs.set k (b, t, cs.set o x)) rs (W.setCell ⟨b, o, none⟩ x) :=
 ⟨M.1.put k e hn o x, M.2.1, fun k' v l hk e' => (M.2.2.1 k' v l hk e').putBox (M.1.box k e) ht o x, M.2.2.2⟩
theorem MemO.old {cs : Array Value} (M : MemO n w bs rs W) (h : BoxN w b t cs) : BoxN W b t cs := M.1.old h
theorem MemO.swap {x y : Nat × TypeId × List Value} (M : MemO n w (x :: y :: bs) rs W) : MemO n w (y :: x :: bs) rs W := ⟨M.1.swap, M.2⟩
theorem MemO.upadd (M : MemO n w bs rs W) (r : Below W.heap.size W W') (g : Fresh W' W.heap.size v l) : MemO n w bs ((v, l) :: rs) W' := by
 refine ⟨(M.1.up r).add g.reads, Nat.le_succ_of_le M.2.1, fun k v' l' hk e => ?_, fun j k x y hjk hk ex ey => ?_⟩
 · cases k with
   | zero =>
    simp only [List.getElem?_cons_zero, Option.some.injEq, Prod.mk.injEq] at e
    obtain ⟨rfl, rfl⟩ := e
    exact g.mono M.1.1.size
   | succ k => exact (M.2.2.1 k v' l' (by simp at hk; omega) (by simpa using e)).below r
 · cases k with
   | zero => omega
   | succ k =>
    have hy : rs[k]? = some y := by simpa using ey
    cases j with
    | zero =>
     simp only [List.getElem?_cons_zero, Option.some.injEq] at ex
     subst ex
     have fy := M.2.2.1 k y.1 y.2 (by simp at hk; omega) hy
     cases ev : v.ownBlock with
     | none => exact .inl ev
     | some q =>
      refine .inr (fun e2 => ?_)
      have h1 := g.lt' ev
      have h2 := fy.lt' (e2.symm.trans ev)
      omega
    | succ j => exact M.2.2.2 j k x y (by omega) (by simp at hk; omega) (by simpa using ex) hy
theorem MemO.upadd2 (M : MemO n w bs rs W) (r : Below W.heap.size W W') (g : Fresh W' W.heap.size v l) (g' : Fresh W' W.heap.size u m) (h : Two v u) : MemO n w bs ((u, m) :: (v, l) :: rs) W' := by
 have N := M.upadd r g
 have N' := M.upadd r g'
 refine ⟨N.1.add g'.reads, Nat.le_succ_of_le N.2.1, fun k v' l' hk e => ?_, fun j k x y hjk hk ex ey => ?_⟩
 · cases k with
   | zero =>
    simp only [List.getElem?_cons_zero, Option.some.injEq, Prod.mk.injEq] at e
    obtain ⟨rfl, rfl⟩ := e
    exact g'.mono M.1.1.size
   | succ k => exact N.2.2.1 k v' l' (by simp at hk ⊢; omega) (by simpa using e)
 · cases k with
   | zero => omega
   | succ k =>
    cases j with
    | zero =>
     simp only [List.getElem?_cons_zero, Option.some.injEq] at ex
     subst ex
     cases k with
     | zero =>
      have : y = (v, l) := by simpa using ey.symm
      subst this
      exact h.symm
     | succ k => exact N'.2.2.2 0 (k + 1) (u, m) y (by omega) (by simp at hk ⊢; omega) (by simp) (by simpa using ey)
    | succ j => exact N.2.2.2 j k x y (by omega) (by simp at hk ⊢; omega) (by simpa using ex) (by simpa using ey)
theorem MemO.own (M : MemO n w bs rs W) (k : Nat) (e : rs[k]? = some (v, l)) (hk : k + n < rs.length := by simp) : Fresh W w.heap.size v l := M.2.2.1 k v l hk e
theorem MemO.two (M : MemO n w bs rs W) (j k : Nat) (ej : rs[j]? = some (v, l)) (ek : rs[k]? = some (u, m)) (h : j < k := by decide) (hk : k + n < rs.length := by simp) : Two v u := M.2.2.2 j k _ _ h hk ej ek
end
theorem region_memO {P : Program} {ops : Array Oper} {Q : Exit → Act → World → Prop} {S : World → Prop} {id n : Nat} {a : Act} {w w0 : World} {bs : List (Nat × TypeId × List Value)} {rs : List (Value × List Nat)} (M : MemO n w0 bs rs w) (hm : P.follows .mixedOrders = true)
  (h : ∀ V, MemO n w0 bs rs V → wpAnyH P .any ops Q S ops.size (Array.replicate ops.size false) a V) : (Code.region id ops true).wp P Q a w :=
 wp_region_held hm (h w.drew M.drew)
end
section
open Go Go.Proofs Go.RowKit Go.Shelf Nu
attribute [local go_sem] Oper.semAt_some
theorem ret_boxN_tmp {fn : Func} {p q : Tmp} {ty t : TypeId} {R : Ending → World → Prop} {a : Act} {w : World} {B : Nat} {cs : Array Value} {x : Value} {fs : Array Field} (h : fn.results = #[.cell p ty, .tmp q]) (hp : a.tmps.getD p undef = .pointer (some ⟨B, 0, none⟩)) (hx : a.tmps.getD q undef = x) (hg : BoxN w B t cs)
    (hu : Tryz.prog.underlying ty = some (.struct fs)) (hi : (Tryz.prog.info? ty).map (·.size) = some cs.size) (hde : a.defers = []) (hR : R (.returned (.tuple #[.agg cs, x])) w) : bodyPost Tryz.prog fn R .ret a w := by
  refine bodyPost_ret (v := .tuple #[.agg cs, x]) ?_ hde hR
  rw [results_cell_tmp h, hp, hx]
  simp [asAddr, run_loadVar_row (P := Tryz.prog) w B t ty cs (0, 0) (.struct fs) hg hu rfl hi, Result.andThen]
end
end Go.Proofs.YtgmbaamfobhceaaGreat
