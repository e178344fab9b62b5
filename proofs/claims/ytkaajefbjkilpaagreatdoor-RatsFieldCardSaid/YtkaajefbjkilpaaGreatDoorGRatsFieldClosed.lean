/- RatsField: what its row's cells say of the program, reckoned by the kernel. -/
import Derived.JoinedOf
import Derived.Test.YtkaajefbjkilpaaGreatDoorRows
namespace Go.Proofs.YtkaajefbjkilpaaGreatDoor
theorem ratsField_closed : joinedFacts Tryz.pinned.checked.prog 6 Tryz.f6 Rows.ratsFieldSpec Rows.ratsFieldRow = true := by kernel_rfl
end Go.Proofs.YtkaajefbjkilpaaGreatDoor
