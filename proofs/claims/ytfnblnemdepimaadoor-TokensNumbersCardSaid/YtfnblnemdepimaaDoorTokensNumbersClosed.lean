/- TokensNumbers: what its row's cells say of the program, reckoned by the kernel. -/
import Derived.Test.YtfnblnemdepimaaDoorRows
import Derived.JoinedOf
namespace Go.Proofs.YtfnblnemdepimaaDoor
theorem tokensNumbers_closed : joinedFacts Tryd.pinned.checked.prog 8 Tryd.f8 Rows.tokensNumbersSpec Rows.tokensNumbersRow = true := by kernel_rfl
end Go.Proofs.YtfnblnemdepimaaDoor
