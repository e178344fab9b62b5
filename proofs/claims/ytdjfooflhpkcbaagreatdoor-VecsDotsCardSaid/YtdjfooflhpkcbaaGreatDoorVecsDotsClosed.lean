/- VecsDots: what its row's cells say of the program, reckoned by the kernel. -/
import Derived.Test.YtdjfooflhpkcbaaGreatDoorRows
import Derived.JoinedOf
namespace Go.Proofs.YtdjfooflhpkcbaaGreatDoor
theorem vecsDots_closed : joinedFacts Tryz.pinned.checked.prog 3 Tryz.f3 Rows.vecsDotsSpec Rows.vecsDotsRow = true := by kernel_rfl
end Go.Proofs.YtdjfooflhpkcbaaGreatDoor
