/- Fractions: products, of any two. Fractions: sums and differences, of any two. Fractions: their order. -/
import Derived.Test.YtdjfooflhpkcbaaGreatDoorGRatMul
import Derived.Test.YtdjfooflhpkcbaaGreatDoorGRatSum
set_option linter.unusedSimpArgs false
set_option linter.unusedVariables false
namespace Go.Proofs.YtdjfooflhpkcbaaGreatDoor
open Go Go.Proofs Go.RowKit Go.Shelf Nu
attribute [local go_sem] Oper.semAt_some
theorem joined_any (J : Nat) (w : World) : Calls Tryz.prog 164 #[.func (.func J) #[] #[]] w fun e w' => ∃ cb, e = .returned (.func (.func 206) #[] #[.pointer (some ⟨cb, 0, none⟩)]) ∧ BoxN w' cb 106 #[.func (.func J) #[] #[]] ∧ Below w.heap.size w w' := by
 have hmf : ∀ (fn : Fn) (first cap : Array Value) (w : World), (Instr.makeFunc fn first cap).run Tryz.prog w = .ok (.func fn first cap) w := fun _ _ _ _ => rfl
 go_enter Tryz.func164, Tryz.ntmps164
 go_wp2
 go_ret
 exact ⟨_, rfl, BoxN.new w _ _, (Below.refl _ _).alloc (Nat.le_refl _) _⟩
end Go.Proofs.YtdjfooflhpkcbaaGreatDoor
