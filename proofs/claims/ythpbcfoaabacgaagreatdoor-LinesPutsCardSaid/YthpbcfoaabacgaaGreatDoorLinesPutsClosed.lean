/- LinesPuts: what its row's cells say of the program, reckoned by the kernel. -/
import Derived.Test.YthpbcfoaabacgaaGreatDoorRows
import Derived.JoinedOf
namespace Go.Proofs.YthpbcfoaabacgaaGreatDoor
theorem linesPuts_closed : joinedFacts Tryz.pinned.checked.prog 3 Tryz.f3 Rows.linesPutsSpec Rows.linesPutsRow = true := by kernel_rfl
end Go.Proofs.YthpbcfoaabacgaaGreatDoor
