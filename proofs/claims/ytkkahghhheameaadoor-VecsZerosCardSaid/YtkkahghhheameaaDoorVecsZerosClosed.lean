/- VecsZeros: what its row's cells say of the program, reckoned by the kernel. -/
import Derived.Test.YtkkahghhheameaaDoorRows
import Derived.JoinedOf
namespace Go.Proofs.YtkkahghhheameaaDoor
theorem vecsZeros_closed : joinedFacts Tryd.pinned.checked.prog 3 Tryd.f3 Rows.vecsZerosSpec Rows.vecsZerosRow = true := by kernel_rfl
end Go.Proofs.YtkkahghhheameaaDoor
