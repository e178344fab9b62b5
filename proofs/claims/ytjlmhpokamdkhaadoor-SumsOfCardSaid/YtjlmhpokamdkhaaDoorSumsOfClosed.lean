/- SumsOf: what its row's cells say of the program, reckoned by the kernel. -/
import Derived.Test.YtjlmhpokamdkhaaDoorRows
import Derived.JoinedOf
namespace Go.Proofs.YtjlmhpokamdkhaaDoor
theorem sumsOf_closed : joinedFacts Tryd.pinned.checked.prog 3 Tryd.f3 Rows.sumsOfSpec Rows.sumsOfRow = true := by kernel_rfl
end Go.Proofs.YtjlmhpokamdkhaaDoor
