/- TokensJoins: what its row's cells say of the program, reckoned by the kernel. -/
import Derived.Test.YtfnblnemdepimaaDoorRows
import Derived.JoinedOf
namespace Go.Proofs.YtfnblnemdepimaaDoor
theorem tokensJoins_closed : joinedFacts Tryd.pinned.checked.prog 5 Tryd.f5 Rows.tokensJoinsSpec Rows.tokensJoinsRow = true := by kernel_rfl
end Go.Proofs.YtfnblnemdepimaaDoor
