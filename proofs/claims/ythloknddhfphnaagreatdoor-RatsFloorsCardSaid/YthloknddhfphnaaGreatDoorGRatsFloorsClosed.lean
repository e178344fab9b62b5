/- RatsFloors: what its row's cells say of the program, reckoned by the kernel. -/
import Derived.JoinedOf
import Derived.Test.YthloknddhfphnaaGreatDoorRows
namespace Go.Proofs.YthloknddhfphnaaGreatDoor
theorem ratsFloors_closed : joinedFacts Tryz.pinned.checked.prog 6 Tryz.f6 Rows.ratsFloorsSpec Rows.ratsFloorsRow = true := by kernel_rfl
end Go.Proofs.YthloknddhfphnaaGreatDoor
