/- TokensPlaces: what its row's cells say of the program, reckoned by the kernel. -/
import Derived.Test.YtfnblnemdepimaaDoorRows
import Derived.JoinedOf
namespace Go.Proofs.YtfnblnemdepimaaDoor
theorem tokensPlaces_closed : joinedFacts Tryd.pinned.checked.prog 3 Tryd.f3 Rows.tokensPlacesSpec Rows.tokensPlacesRow = true := by kernel_rfl
end Go.Proofs.YtfnblnemdepimaaDoor
