/- TokensAhead: what its row's cells say of the program, reckoned by the kernel. -/
import Derived.Test.YtfnblnemdepimaaDoorRows
import Derived.JoinedOf
namespace Go.Proofs.YtfnblnemdepimaaDoor
theorem tokensAhead_closed : joinedFacts Tryd.pinned.checked.prog 6 Tryd.f6 Rows.tokensAheadSpec Rows.tokensAheadRow = true := by kernel_rfl
end Go.Proofs.YtfnblnemdepimaaDoor
