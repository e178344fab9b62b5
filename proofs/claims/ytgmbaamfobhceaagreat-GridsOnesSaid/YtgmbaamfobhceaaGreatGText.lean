/- A number's digits, the lowest first: what each call of the closure answers. -/
import Derived.Deep.QuietTactic
import Derived.BigQuiet
import Derived.Test.YtgmbaamfobhceaaGreatGPart
set_option linter.unusedSimpArgs false
set_option linter.unusedVariables false
namespace Go.Proofs.YtgmbaamfobhceaaGreat
open Go Go.Proofs Go.RowKit Go.Shelf Nu
def DigInv (W : World) (base s : Nat) (V : Nat) : Prop :=
 ∃ (v : Value) (R : List Nat) (low ready : Nat), Boxed W s 40 v ∧ Boxed W (s + 1) 127 (.int .u32 low) ∧ Boxed W (s + 1 + 1) 3 (.int .i64 ready) ∧ Fresh W base v R ∧ Sm R ∧ chk R = true ∧ R.length ≤ 100000 ∧
  low < 10 ^ ready ∧ ready ≤ 9 ∧ V = val R * 10 ^ ready + low ∧ (v.ownBlock = none ∨ ∃ g, v.ownBlock = some g ∧ g < s)
def Over (s : Nat) (w w' : World) : Prop := ∀ b, s + 3 ≤ b → b < w.heap.size → w'.heap[b]? = w.heap[b]?
theorem Over.set {s B : Nat} {w w' : World} (h : Over s w w') (hB : B < s + 3) (u : Value) : Over s w (w'.setCell ⟨B, 0, none⟩ u) := fun b h1 h2 => (Below.heap_setCell w' ⟨B, 0, none⟩ u b (by show b ≠ B; omega)).trans (h b h1 h2)
theorem Over.refl (s : Nat) (w : World) : Over s w w := fun _ _ _ => rfl
theorem Over.row {s size n : Nat} {w w' : World} {e : TypeId} {v : Value} {xs : List Value} (h : Over s w w') (hr : w.ownsRow (s + 3) e size v n xs) : w'.ownsRow (s + 3) e size v n xs := by
 refine ⟨hr.1, ?_⟩
 rcases hr.2 with hn | ⟨g, cap, cur, rfl, hb, hg, rest⟩
 · exact .inl hn
 · exact .inr ⟨g, cap, cur, rfl, hb, (h g hb (Array.getElem?_eq_some_iff.1 hg).1).trans hg, rest⟩
end Go.Proofs.YtgmbaamfobhceaaGreat
