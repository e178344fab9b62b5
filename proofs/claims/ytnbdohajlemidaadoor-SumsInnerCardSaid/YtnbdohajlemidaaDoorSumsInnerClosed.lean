/- SumsInner: what its row's cells say of the program, reckoned by the kernel. -/
import Derived.Test.YtnbdohajlemidaaDoorRows
import Derived.JoinedOf
namespace Go.Proofs.YtnbdohajlemidaaDoor
theorem sumsInner_closed : joinedFacts Tryd.pinned.checked.prog 5 Tryd.f5 Rows.sumsInnerSpec Rows.sumsInnerRow = true := by kernel_rfl
end Go.Proofs.YtnbdohajlemidaaDoor
