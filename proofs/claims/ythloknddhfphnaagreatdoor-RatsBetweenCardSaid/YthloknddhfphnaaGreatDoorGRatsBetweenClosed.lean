/- RatsBetween: what its row's cells say of the program, reckoned by the kernel. -/
import Derived.JoinedOf
import Derived.Test.YthloknddhfphnaaGreatDoorRows
namespace Go.Proofs.YthloknddhfphnaaGreatDoor
theorem ratsBetween_closed : joinedFacts Tryz.pinned.checked.prog 9 Tryz.f9 Rows.ratsBetweenSpec Rows.ratsBetweenRow = true := by kernel_rfl
end Go.Proofs.YthloknddhfphnaaGreatDoor
