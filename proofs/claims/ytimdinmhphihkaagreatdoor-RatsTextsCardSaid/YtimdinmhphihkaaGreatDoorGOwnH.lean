/- What a law's walk asks of answers of its own: nothing, twice; a row of its own; cells behind an alloc. -/
import Derived.Test.YtimdinmhphihkaaGreatDoorGRmk
import Derived.Test.YtimdinmhphihkaaGreatDoorGRmk
set_option linter.unusedSimpArgs false
set_option linter.unusedVariables false
namespace Go.Proofs.YtimdinmhphihkaaGreatDoor
open Go Go.Proofs Go.RowKit Go.Shelf Nu

theorem two_nil (v : Value) : Two v (.slice none 0 0) := by
  cases e : v.ownBlock with
  | none => exact .inl e
  | some g => exact .inr (by rw [e]; simp [Value.ownBlock])
theorem nil_two (v : Value) : Two (.slice none 0 0) v := .inl rfl
theorem nil_row (W : World) (base B : Nat) : ∃ l : List Nat, l.length ≤ 100000 ∧ Fresh W base (.slice none 0 0) l ∧ ∀ g, (Value.slice none 0 0).ownBlock = some g → g < B :=
  ⟨[], by simp, Fresh.nil _ _, fun g e => by cases e⟩
theorem own_row {W W' : World} {base B : Nat} {v : Value} {l : List Nat} (h : Fresh W base v l) (hB : B = W.heap.size) (hb : Below B W W') (hl : l.length ≤ 100000) : ∃ l : List Nat, l.length ≤ 100000 ∧ Fresh W' base v l ∧ ∀ g, v.ownBlock = some g → g < B :=
  ⟨l, hl, h.below (by rw [← hB]; exact hb), fun g e => by rw [hB]; exact (h.lt' e).2⟩
theorem cell_al' {W : World} {a : Addr} {v : Value} (o : Obj) (h : W.cell? a = some v) : (W.alloc o).cell? a = some v := by
  rw [World.cell?_alloc_some _ _ _ (by rw [h]; rfl)]
  exact h
end Go.Proofs.YtimdinmhphihkaaGreatDoor
