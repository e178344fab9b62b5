/- NatsTexts: what its row's cells say of the program, reckoned by the kernel. -/
import Derived.Test.YtmbnojkciikobaaGreatDoorRows
import Derived.JoinedOf
namespace Go.Proofs.YtmbnojkciikobaaGreatDoor
theorem natsTexts_closed : joinedFacts Tryz.pinned.checked.prog 5 Tryz.f5 Rows.natsTextsSpec Rows.natsTextsRow = true := by kernel_rfl
end Go.Proofs.YtmbnojkciikobaaGreatDoor
