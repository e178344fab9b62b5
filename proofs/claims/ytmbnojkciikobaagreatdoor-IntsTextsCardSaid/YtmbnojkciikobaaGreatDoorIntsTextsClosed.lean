/- IntsTexts: what its row's cells say of the program, reckoned by the kernel. -/
import Derived.Test.YtmbnojkciikobaaGreatDoorRows
import Derived.JoinedOf
namespace Go.Proofs.YtmbnojkciikobaaGreatDoor
theorem intsTexts_closed : joinedFacts Tryz.pinned.checked.prog 7 Tryz.f7 Rows.intsTextsSpec Rows.intsTextsRow = true := by kernel_rfl
end Go.Proofs.YtmbnojkciikobaaGreatDoor
