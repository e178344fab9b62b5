/- Rows of fractions: what Add makes of two places. -/
import Derived.Test.YtbndmpdaloadjaaGreatGVecS
set_option linter.unusedSimpArgs false
set_option linter.unusedVariables false
namespace Go.Proofs.YtbndmpdaloadjaaGreat
open Go Go.Proofs Go.RowKit Go.Shelf Nu

attribute [local go_sem] Oper.semAt_some

end Go.Proofs.YtbndmpdaloadjaaGreat
