/- SumsTold: what its row's cells say of the program, reckoned by the kernel. -/
import Derived.Test.YtnbdohajlemidaaDoorRows
import Derived.JoinedOf
namespace Go.Proofs.YtnbdohajlemidaaDoor
theorem sumsTold_closed : joinedFacts Tryd.pinned.checked.prog 6 Tryd.f6 Rows.sumsToldSpec Rows.sumsToldRow = true := by kernel_rfl
end Go.Proofs.YtnbdohajlemidaaDoor
