/- RatsUndone: what its row's cells say of the program, reckoned by the kernel. -/
import Derived.JoinedOf
import Derived.Test.YthloknddhfphnaaGreatDoorRows
namespace Go.Proofs.YthloknddhfphnaaGreatDoor
theorem ratsUndone_closed : joinedFacts Tryz.pinned.checked.prog 4 Tryz.f4 Rows.ratsUndoneSpec Rows.ratsUndoneRow = true := by kernel_rfl
end Go.Proofs.YthloknddhfphnaaGreatDoor
