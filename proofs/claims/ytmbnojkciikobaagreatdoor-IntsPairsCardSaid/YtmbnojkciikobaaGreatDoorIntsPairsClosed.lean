/- IntsPairs: what its row's cells say of the program, reckoned by the kernel. -/
import Derived.Test.YtmbnojkciikobaaGreatDoorRows
import Derived.JoinedOf
namespace Go.Proofs.YtmbnojkciikobaaGreatDoor
theorem intsPairs_closed : joinedFacts Tryz.pinned.checked.prog 6 Tryz.f6 Rows.intsPairsSpec Rows.intsPairsRow = true := by kernel_rfl
end Go.Proofs.YtmbnojkciikobaaGreatDoor
