/- RatsMakes: what its row's cells say of the program, reckoned by the kernel. -/
import Derived.Test.YthnlmjnfdokdbaaGreatDoorRows
import Derived.JoinedOf
namespace Go.Proofs.YthnlmjnfdokdbaaGreatDoor
theorem ratsMakes_closed : joinedFacts Tryz.pinned.checked.prog 4 Tryz.f4 Rows.ratsMakesSpec Rows.ratsMakesRow = true := by kernel_rfl
end Go.Proofs.YthnlmjnfdokdbaaGreatDoor
