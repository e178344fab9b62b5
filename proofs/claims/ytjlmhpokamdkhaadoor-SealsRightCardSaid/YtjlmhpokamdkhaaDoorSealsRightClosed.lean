/- SealsRight: what its row's cells say of the program, reckoned by the kernel. -/
import Derived.Test.YtjlmhpokamdkhaaDoorRows
import Derived.JoinedOf
namespace Go.Proofs.YtjlmhpokamdkhaaDoor
theorem sealsRight_closed : joinedFacts Tryd.pinned.checked.prog 5 Tryd.f5 Rows.sealsRightSpec Rows.sealsRightRow = true := by kernel_rfl
end Go.Proofs.YtjlmhpokamdkhaaDoor
