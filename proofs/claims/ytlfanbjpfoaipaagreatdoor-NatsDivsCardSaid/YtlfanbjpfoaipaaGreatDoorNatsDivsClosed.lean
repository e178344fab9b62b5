/- NatsDivs: what its row's cells say of the program, reckoned by the kernel. -/
import Derived.Test.YtlfanbjpfoaipaaGreatDoorRows
import Derived.JoinedOf
namespace Go.Proofs.YtlfanbjpfoaipaaGreatDoor
theorem natsDivs_closed : joinedFacts Tryz.pinned.checked.prog 3 Tryz.f3 Rows.natsDivsSpec Rows.natsDivsRow = true := by kernel_rfl
end Go.Proofs.YtlfanbjpfoaipaaGreatDoor
