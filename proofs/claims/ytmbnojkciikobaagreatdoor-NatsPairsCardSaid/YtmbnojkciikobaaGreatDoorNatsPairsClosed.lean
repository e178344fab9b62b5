/- NatsPairs: what its row's cells say of the program, reckoned by the kernel. -/
import Derived.Test.YtmbnojkciikobaaGreatDoorRows
import Derived.JoinedOf
namespace Go.Proofs.YtmbnojkciikobaaGreatDoor
theorem natsPairs_closed : joinedFacts Tryz.pinned.checked.prog 3 Tryz.f3 Rows.natsPairsSpec Rows.natsPairsRow = true := by kernel_rfl
end Go.Proofs.YtmbnojkciikobaaGreatDoor
