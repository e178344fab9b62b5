/- Whole numbers: differences. -/
import Derived.Deep.DeepCutAuto
import Derived.Deep.RegionHeld3
import Derived.Test.YtdjfooflhpkcbaaGreatDoorGIntsBox
namespace Go.Proofs.YtdjfooflhpkcbaaGreatDoor
open Go Go.Proofs Go.RowKit Go.Shelf Nu
attribute [local go_sem] Oper.semAt_some
end Go.Proofs.YtdjfooflhpkcbaaGreatDoor
