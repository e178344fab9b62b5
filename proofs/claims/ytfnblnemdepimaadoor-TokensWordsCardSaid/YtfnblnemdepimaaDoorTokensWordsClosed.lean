/- TokensWords: what its row's cells say of the program, reckoned by the kernel. -/
import Derived.Test.YtfnblnemdepimaaDoorRows
import Derived.JoinedOf
namespace Go.Proofs.YtfnblnemdepimaaDoor
theorem tokensWords_closed : joinedFacts Tryd.pinned.checked.prog 7 Tryd.f7 Rows.tokensWordsSpec Rows.tokensWordsRow = true := by kernel_rfl
end Go.Proofs.YtfnblnemdepimaaDoor
