/- RatsRead: what its row's cells say of the program, reckoned by the kernel. -/
import Derived.Test.YthnlmjnfdokdbaaGreatDoorRows
import Derived.JoinedOf
namespace Go.Proofs.YthnlmjnfdokdbaaGreatDoor
theorem ratsRead_closed : joinedFacts Tryz.pinned.checked.prog 6 Tryz.f6 Rows.ratsReadSpec Rows.ratsReadRow = true := by kernel_rfl
end Go.Proofs.YthnlmjnfdokdbaaGreatDoor
