/- RatsOrder: what its row's cells say of the program, reckoned by the kernel. -/
import Derived.JoinedOf
import Derived.Test.YthloknddhfphnaaGreatDoorRows
namespace Go.Proofs.YthloknddhfphnaaGreatDoor
theorem ratsOrder_closed : joinedFacts Tryz.pinned.checked.prog 5 Tryz.f5 Rows.ratsOrderSpec Rows.ratsOrderRow = true := by kernel_rfl
end Go.Proofs.YthloknddhfphnaaGreatDoor
