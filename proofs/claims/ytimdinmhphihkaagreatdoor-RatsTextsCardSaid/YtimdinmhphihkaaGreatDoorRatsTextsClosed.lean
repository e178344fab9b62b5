/- RatsTexts: what its row's cells say of the program, reckoned by the kernel. -/
import Derived.Test.YtimdinmhphihkaaGreatDoorRows
import Derived.JoinedOf
namespace Go.Proofs.YtimdinmhphihkaaGreatDoor
theorem ratsTexts_closed : joinedFacts Tryz.pinned.checked.prog 3 Tryz.f3 Rows.ratsTextsSpec Rows.ratsTextsRow = true := by kernel_rfl
end Go.Proofs.YtimdinmhphihkaaGreatDoor
