/- RatsPairs: what its row's cells say of the program, reckoned by the kernel. -/
import Derived.Test.YthnlmjnfdokdbaaGreatDoorRows
import Derived.JoinedOf
namespace Go.Proofs.YthnlmjnfdokdbaaGreatDoor
theorem ratsPairs_closed : joinedFacts Tryz.pinned.checked.prog 3 Tryz.f3 Rows.ratsPairsSpec Rows.ratsPairsRow = true := by kernel_rfl
end Go.Proofs.YthnlmjnfdokdbaaGreatDoor
