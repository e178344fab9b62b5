/- TokensAgain: what its row's cells say of the program, reckoned by the kernel. -/
import Derived.Test.YtfnblnemdepimaaDoorRows
import Derived.JoinedOf
namespace Go.Proofs.YtfnblnemdepimaaDoor
theorem tokensAgain_closed : joinedFacts Tryd.pinned.checked.prog 4 Tryd.f4 Rows.tokensAgainSpec Rows.tokensAgainRow = true := by kernel_rfl
end Go.Proofs.YtfnblnemdepimaaDoor
