/- Whether two fractions are the same, as the law package asks it. -/
import Derived.Test.YtlcbicdendelfaaGRatCmp
set_option linter.unusedSimpArgs false
set_option linter.unusedVariables false
namespace Go.Proofs.Ytlcbicdendelfaa
open Go Go.Proofs Go.RowKit Go.Shelf Nu

attribute [local go_sem] Oper.semAt_some

theorem Mem.ne {w W : World} {bs : List (Nat × TypeId × List Value)} {rs : List (Value × List Nat)} (M : Mem w bs rs W) (j k : Nat) {x y : Nat × TypeId × List Value} (hx : bs[j]? = some x) (hy : bs[k]? = some y) (h : j ≠ k) : x.1 ≠ y.1 := fun e => h (M.2.2.1 j k x y hx hy e)
theorem Mem.start' {w : World} (W : World) (r : Below w.heap.size w W) {b c : Nat} {t u : TypeId} {cs ds : List Value} (h1 : BoxN W b t cs.toArray) (a1 : w.heap.size ≤ b) (h2 : BoxN W c u ds.toArray) (a2 : w.heap.size ≤ c) (hn : b ≠ c) : Mem w [(b, t, cs), (c, u, ds)] [] W := by
  refine ⟨r, fun k b' t' cs' e => ?_, fun j k x y ex ey e => ?_, by simp⟩
  · match k with
    | 0 => simp at e; obtain ⟨rfl, rfl, rfl⟩ := e; exact ⟨a1, h1⟩
    | 1 => simp at e; obtain ⟨rfl, rfl, rfl⟩ := e; exact ⟨a2, h2⟩
    | k + 2 => simp at e
  · match j, k with
    | 0, 0 => rfl
    | 1, 1 => rfl
    | 0, 1 => simp at ex ey; subst ex; subst ey; exact absurd e hn
    | 1, 0 => simp at ex ey; subst ex; subst ey; exact absurd e.symm hn
    | j + 2, _ => simp at ex
    | _, k + 2 => simp at ey
section
variable {w : World} {p1 o1 p2 o2 : Option Addr} {q1 r1 q2 r2 : Nat} {n1 n2 : Bool} {l1 d1 l2 d2 : List Nat} {X Y : Rat}
end
end Go.Proofs.Ytlcbicdendelfaa
