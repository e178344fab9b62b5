/- RatsField: what its row's cells say of the program, reckoned by the kernel. -/
import Derived.JoinedOf
import Derived.Test.YthloknddhfphnaaGreatDoorRows
namespace Go.Proofs.YthloknddhfphnaaGreatDoor
theorem ratsField_closed : joinedFacts Tryz.pinned.checked.prog 3 Tryz.f3 Rows.ratsFieldSpec Rows.ratsFieldRow = true := by kernel_rfl
end Go.Proofs.YthloknddhfphnaaGreatDoor
