/- TokensReads: what its row's cells say of the program, reckoned by the kernel. -/
import Derived.Test.YtjnmajdigjifkaaGreatDoorRows
import Derived.JoinedOf
namespace Go.Proofs.YtjnmajdigjifkaaGreatDoor
theorem tokensReads_closed : joinedFacts Tryz.pinned.checked.prog 3 Tryz.f3 Rows.tokensReadsSpec Rows.tokensReadsRow = true := by kernel_rfl
end Go.Proofs.YtjnmajdigjifkaaGreatDoor
