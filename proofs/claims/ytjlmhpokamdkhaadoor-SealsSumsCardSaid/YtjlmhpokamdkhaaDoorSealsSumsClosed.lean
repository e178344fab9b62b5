/- SealsSums: what its row's cells say of the program, reckoned by the kernel. -/
import Derived.Test.YtjlmhpokamdkhaaDoorRows
import Derived.JoinedOf
namespace Go.Proofs.YtjlmhpokamdkhaaDoor
theorem sealsSums_closed : joinedFacts Tryd.pinned.checked.prog 6 Tryd.f6 Rows.sealsSumsSpec Rows.sealsSumsRow = true := by kernel_rfl
end Go.Proofs.YtjlmhpokamdkhaaDoor
