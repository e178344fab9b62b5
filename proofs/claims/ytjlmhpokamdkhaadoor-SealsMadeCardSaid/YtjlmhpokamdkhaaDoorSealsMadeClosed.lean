/- SealsMade: what its row's cells say of the program, reckoned by the kernel. -/
import Derived.Test.YtjlmhpokamdkhaaDoorRows
import Derived.JoinedOf
namespace Go.Proofs.YtjlmhpokamdkhaaDoor
theorem sealsMade_closed : joinedFacts Tryd.pinned.checked.prog 4 Tryd.f4 Rows.sealsMadeSpec Rows.sealsMadeRow = true := by kernel_rfl
end Go.Proofs.YtjlmhpokamdkhaaDoor
