/- RatsMade: what its row's cells say of the program, reckoned by the kernel. -/
import Derived.JoinedOf
import Derived.Test.YthloknddhfphnaaGreatDoorRows
namespace Go.Proofs.YthloknddhfphnaaGreatDoor
theorem ratsMade_closed : joinedFacts Tryz.pinned.checked.prog 7 Tryz.f7 Rows.ratsMadeSpec Rows.ratsMadeRow = true := by kernel_rfl
end Go.Proofs.YthloknddhfphnaaGreatDoor
