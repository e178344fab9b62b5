/- LinesWords: what its row's cells say of the program, reckoned by the kernel. -/
import Derived.Test.YthpbcfoaabacgaaDoorRows
import Derived.JoinedOf
namespace Go.Proofs.YthpbcfoaabacgaaDoor
theorem linesWords_closed : joinedFacts Tryd.pinned.checked.prog 3 Tryd.f3 Rows.linesWordsSpec Rows.linesWordsRow = true := by kernel_rfl
end Go.Proofs.YthpbcfoaabacgaaDoor
