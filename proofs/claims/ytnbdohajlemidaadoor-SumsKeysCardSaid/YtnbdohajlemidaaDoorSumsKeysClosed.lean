/- SumsKeys: what its row's cells say of the program, reckoned by the kernel. -/
import Derived.Test.YtnbdohajlemidaaDoorRows
import Derived.JoinedOf
namespace Go.Proofs.YtnbdohajlemidaaDoor
theorem sumsKeys_closed : joinedFacts Tryd.pinned.checked.prog 4 Tryd.f4 Rows.sumsKeysSpec Rows.sumsKeysRow = true := by kernel_rfl
end Go.Proofs.YtnbdohajlemidaaDoor
