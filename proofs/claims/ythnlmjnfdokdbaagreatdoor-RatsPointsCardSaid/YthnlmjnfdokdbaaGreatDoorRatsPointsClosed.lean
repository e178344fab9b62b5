/- RatsPoints: what its row's cells say of the program, reckoned by the kernel. -/
import Derived.Test.YthnlmjnfdokdbaaGreatDoorRows
import Derived.JoinedOf
namespace Go.Proofs.YthnlmjnfdokdbaaGreatDoor
theorem ratsPoints_closed : joinedFacts Tryz.pinned.checked.prog 7 Tryz.f7 Rows.ratsPointsSpec Rows.ratsPointsRow = true := by kernel_rfl
end Go.Proofs.YthnlmjnfdokdbaaGreatDoor
