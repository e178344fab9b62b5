/- What rows of noughts are. -/
import Derived.Test.YtgmbaamfobhceaaGreatGGlV
set_option linter.unusedSimpArgs false
set_option linter.unusedVariables false
set_option maxRecDepth 100000
set_option maxHeartbeats 4000000
namespace Go.Proofs.YtgmbaamfobhceaaGreat
open Go Go.Proofs Go.RowKit Go.Shelf Nu
attribute [local go_sem] Oper.semAt_some
theorem zeros_length (n : Nat) : (zeros n).length = n := by simp [zeros]
theorem zeros_at {n j : Nat} (h : j < n) : (zeros n).getD j 0 = 0 := by
 simp [zeros, List.getD_eq_getElem?_getD, h]
theorem besd_len {R : List (List Rat)} {xs : List Rat} (hl : R.length = xs.length) : (besd R xs).length = R.length := by unfold besd; rw [List.length_zipWith]; omega
end Go.Proofs.YtgmbaamfobhceaaGreat
