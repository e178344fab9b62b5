/- Fractions: the fraction of two, the second one below 0. -/
import Derived.Test.YtimdinmhphihkaaGreatDoorGRatLit
set_option linter.unusedSimpArgs false
set_option linter.unusedVariables false
namespace Go.Proofs.YtimdinmhphihkaaGreatDoor
open Go Go.Proofs Go.RowKit Go.Shelf Nu

attribute [local go_sem] Oper.semAt_some

end Go.Proofs.YtimdinmhphihkaaGreatDoor
