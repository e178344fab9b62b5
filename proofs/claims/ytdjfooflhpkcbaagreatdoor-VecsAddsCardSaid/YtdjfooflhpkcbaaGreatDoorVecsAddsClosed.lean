/- VecsAdds: what its row's cells say of the program, reckoned by the kernel. -/
import Derived.Test.YtdjfooflhpkcbaaGreatDoorRows
import Derived.JoinedOf
namespace Go.Proofs.YtdjfooflhpkcbaaGreatDoor
theorem vecsAdds_closed : joinedFacts Tryz.pinned.checked.prog 4 Tryz.f4 Rows.vecsAddsSpec Rows.vecsAddsRow = true := by kernel_rfl
end Go.Proofs.YtdjfooflhpkcbaaGreatDoor
