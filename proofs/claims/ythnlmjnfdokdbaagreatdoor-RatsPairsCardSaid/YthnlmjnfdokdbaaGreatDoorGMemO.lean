/- What is known of memory in a walk: boxes, slices of parts, and that those but the n oldest are memory of the call's own, each by itself. -/
import Derived.Test.YthnlmjnfdokdbaaGreatDoorGDiv
import Derived.Test.YthnlmjnfdokdbaaGreatDoorGRefI
set_option linter.unusedSimpArgs false
set_option linter.unusedVariables false
namespace Go.Proofs.YthnlmjnfdokdbaaGreatDoor
open Go Go.Proofs Go.RowKit Go.Shelf Nu

theorem Two.symm {v u : Value} (h : Two v u) : Two u v := by
 rcases h with h | h
 · cases e : u.ownBlock with
   | none => exact .inl e
   | some g => exact .inr (by rw [h, e]; simp)
 · exact .inr (Ne.symm h)
theorem Fresh.putBox {W : World} {base b : Nat} {t : TypeId} {cs : List Value} {v : Value} {l : List Nat} (h : Fresh W base v l) (hB : BoxN W b t cs.toArray) (ht : t ≠ 64) (o : Nat) (x : Value) : Fresh (W.setCell ⟨b, o, none⟩ x) base v l := by
 refine ⟨h.1, ?_⟩
 rcases h.2 with h | ⟨g, cap, cur, e, hb, hg, r⟩
 · exact .inl h
 · refine .inr ⟨g, cap, cur, e, hb, ?_, r⟩
   have hne : g ≠ b := by
    rintro rfl
    have h1 := (show W.heap[g]? = _ from hB).symm.trans hg
    injection h1 with h1
    injection h1 with _ h2 _
    exact ht h2
   exact (Below.heap_setCell W ⟨b, o, none⟩ x g hne).trans hg

/-- .. those but the n oldest are the call's own -/
def MemO (n : Nat) (w : World) (bs : List (Nat × TypeId × List Value)) (rs : List (Value × List Nat)) (W : World) : Prop :=
 Mem w bs rs W ∧ n ≤ rs.length ∧ (∀ (k : Nat) (v : Value) (l : List Nat), k + n < rs.length → rs[k]? = some (v, l) → Fresh W w.heap.size v l) ∧
  ∀ (j k : Nat) (x y : Value × List Nat), j < k → k + n < rs.length → rs[j]? = some x → rs[k]? = some y → Two x.1 y.1
section
variable {n : Nat} {w W W' : World} {bs : List (Nat × TypeId × List Value)} {rs : List (Value × List Nat)} {b : Nat} {t : TypeId} {cs : List Value} {v u : Value} {l m : List Nat}
theorem MemO.of (M : Mem w bs rs W) (h : n = rs.length := by rfl) : MemO n w bs rs W := ⟨M, Nat.le_of_eq h, fun k _ _ hk _ => by omega, fun j k _ _ _ hk _ _ => by omega⟩
theorem MemO.below (M : MemO n w bs rs W) : Below w.heap.size w W := M.1.1
theorem MemO.up (M : MemO n w bs rs W) (r : Below W.heap.size W W') : MemO n w bs rs W' := ⟨M.1.up r, M.2.1, fun k v l hk e => (M.2.2.1 k v l hk e).below r, M.2.2.2⟩
theorem MemO.drew (M : MemO n w bs rs W) : MemO n w bs rs W.drew := M.up ⟨rfl, rfl, rfl, Nat.le_refl _, fun _ _ => rfl⟩
theorem MemO.box (M : MemO n w bs rs W) (k : Nat) (e : bs[k]? = some (b, t, cs)) : BoxN W b t cs.toArray := M.1.box k e
theorem MemO.at (M : MemO n w bs rs W) (k : Nat) (e : bs[k]? = some (b, t, cs)) : w.heap.size ≤ b := M.1.at k e
theorem MemO.lt (M : MemO n w bs rs W) {k : Nat} {x : Nat × TypeId × List Value} (e : bs[k]? = some x) : x.1 < W.heap.size := M.1.lt e
theorem MemO.new (M : MemO n w bs rs W) (t : TypeId) (cs : List Value) : MemO n w ((W.heap.size, t, cs) :: bs) rs (W.alloc (.cells cs.toArray t)) :=
 ⟨M.1.new t cs, M.2.1, fun k v l hk e => (M.2.2.1 k v l hk e).alloc _, M.2.2.2⟩
theorem MemO.fresh (M : MemO n w bs rs W) (t : TypeId) (cs : List Value) : ∃ b V, V = W.alloc (.cells cs.toArray t) ∧ b = W.heap.size ∧ MemO n w ((b, t, cs) :: bs) rs V := ⟨_, _, rfl, rfl, M.new t cs⟩
theorem MemO.get (M : MemO n w bs rs W) (k : Nat) (e : rs[k]? = some (v, l)) : Reads W v l := M.1.get k e
theorem MemO.cell (M : MemO n w bs rs W) (k : Nat) (e : bs[k]? = some (b, t, cs)) (o : Nat) (hv : cs[o]? = some v) : W.cell? ⟨b, o, none⟩ = some v := M.1.cell k e o hv
theorem MemO.fr (M : MemO n w bs rs W) (k : Nat) (e : bs[k]? = some (b, t, cs)) (o : Nat) : W.frozen? ⟨b, o, none⟩ = false := M.1.fr k e o
theorem MemO.put (M : MemO n w bs rs W) (k : Nat) (e : bs[k]? = some (b, t, cs)) (hn : cs.all no32 = true) (o : Nat) (x : Value) (ht : t ≠ 64 := by decide) : MemO n w (bs.set k (b, t, cs.set o x)) rs (W.setCell ⟨b, o, none⟩ x) :=
 ⟨M.1.put k e hn o x, M.2.1, fun k' v l hk e' => (M.2.2.1 k' v l hk e').putBox (M.1.box k e) ht o x, M.2.2.2⟩
theorem MemO.old {cs : Array Value} (M : MemO n w bs rs W) (h : BoxN w b t cs) : BoxN W b t cs := M.1.old h
theorem MemO.swap {x y : Nat × TypeId × List Value} (M : MemO n w (x :: y :: bs) rs W) : MemO n w (y :: x :: bs) rs W := ⟨M.1.swap, M.2⟩
theorem MemO.upadd (M : MemO n w bs rs W) (r : Below W.heap.size W W') (g : Fresh W' W.heap.size v l) : MemO n w bs ((v, l) :: rs) W' := by
 refine ⟨(M.1.up r).add g.reads, Nat.le_succ_of_le M.2.1, fun k v' l' hk e => ?_, fun j k x y hjk hk ex ey => ?_⟩
 · cases k with
   | zero =>
    simp only [List.getElem?_cons_zero, Option.some.injEq, Prod.mk.injEq] at e
    obtain ⟨rfl, rfl⟩ := e
    exact g.mono M.1.1.size
   | succ k => exact (M.2.2.1 k v' l' (by simp at hk; omega) (by simpa using e)).below r
 · cases k with
   | zero => omega
   | succ k =>
    have hy : rs[k]? = some y := by simpa using ey
    cases j with
    | zero =>
     simp only [List.getElem?_cons_zero, Option.some.injEq] at ex
     subst ex
     have fy := M.2.2.1 k y.1 y.2 (by simp at hk; omega) hy
     cases ev : v.ownBlock with
     | none => exact .inl ev
     | some q =>
      refine .inr (fun e2 => ?_)
      have h1 := g.lt' ev
      have h2 := fy.lt' (e2.symm.trans ev)
      omega
    | succ j => exact M.2.2.2 j k x y (by omega) (by simp at hk; omega) (by simpa using ex) hy
theorem MemO.upadd2 (M : MemO n w bs rs W) (r : Below W.heap.size W W') (g : Fresh W' W.heap.size v l) (g' : Fresh W' W.heap.size u m) (h : Two v u) : MemO n w bs ((u, m) :: (v, l) :: rs) W' := by
 have N := M.upadd r g
 have N' := M.upadd r g'
 refine ⟨N.1.add g'.reads, Nat.le_succ_of_le N.2.1, fun k v' l' hk e => ?_, fun j k x y hjk hk ex ey => ?_⟩
 · cases k with
   | zero =>
    simp only [List.getElem?_cons_zero, Option.some.injEq, Prod.mk.injEq] at e
    obtain ⟨rfl, rfl⟩ := e
    exact g'.mono M.1.1.size
   | succ k => exact N.2.2.1 k v' l' (by simp at hk ⊢; omega) (by simpa using e)
 · cases k with
   | zero => omega
   | succ k =>
    cases j with
    | zero =>
     simp only [List.getElem?_cons_zero, Option.some.injEq] at ex
     subst ex
     cases k with
     | zero =>
      have : y = (v, l) := by simpa using ey.symm
      subst this
      exact h.symm
     | succ k => exact N'.2.2.2 0 (k + 1) (u, m) y (by omega) (by simp at hk ⊢; omega) (by simp) (by simpa using ey)
    | succ j => exact N.2.2.2 j k x y (by omega) (by simp at hk ⊢; omega) (by simpa using ex) (by simpa using ey)
theorem MemO.own (M : MemO n w bs rs W) (k : Nat) (e : rs[k]? = some (v, l)) (hk : k + n < rs.length := by simp) : Fresh W w.heap.size v l := M.2.2.1 k v l hk e
theorem MemO.two (M : MemO n w bs rs W) (j k : Nat) (ej : rs[j]? = some (v, l)) (ek : rs[k]? = some (u, m)) (h : j < k := by decide) (hk : k + n < rs.length := by simp) : Two v u := M.2.2.2 j k _ _ h hk ej ek
end
theorem region_memO {P : Program} {ops : Array Oper} {Q : Exit → Act → World → Prop} {S : World → Prop} {id n : Nat} {a : Act} {w w0 : World} {bs : List (Nat × TypeId × List Value)} {rs : List (Value × List Nat)} (M : MemO n w0 bs rs w) (hm : P.follows .mixedOrders = true)
  (h : ∀ V, MemO n w0 bs rs V → wpAnyH P .any ops Q S ops.size (Array.replicate ops.size false) a V) : (Code.region id ops true).wp P Q a w :=
 wp_region_held hm (h w.drew M.drew)

end Go.Proofs.YthnlmjnfdokdbaaGreatDoor
