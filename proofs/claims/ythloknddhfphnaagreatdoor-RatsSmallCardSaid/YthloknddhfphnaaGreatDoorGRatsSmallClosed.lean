/- RatsSmall: what its row's cells say of the program, reckoned by the kernel. -/
import Derived.JoinedOf
import Derived.Test.YthloknddhfphnaaGreatDoorRows
namespace Go.Proofs.YthloknddhfphnaaGreatDoor
theorem ratsSmall_closed : joinedFacts Tryz.pinned.checked.prog 8 Tryz.f8 Rows.ratsSmallSpec Rows.ratsSmallRow = true := by kernel_rfl
end Go.Proofs.YthloknddhfphnaaGreatDoor
