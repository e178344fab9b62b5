/- Fractions: sums and differences. -/
import Derived.Test.YtdjfooflhpkcbaaGreatDoorGRatMul
set_option linter.unusedSimpArgs false
set_option linter.unusedVariables false
namespace Go.Proofs.YtdjfooflhpkcbaaGreatDoor
open Go Go.Proofs Go.RowKit Go.Shelf Nu
attribute [local go_sem] Oper.semAt_some
end Go.Proofs.YtdjfooflhpkcbaaGreatDoor
