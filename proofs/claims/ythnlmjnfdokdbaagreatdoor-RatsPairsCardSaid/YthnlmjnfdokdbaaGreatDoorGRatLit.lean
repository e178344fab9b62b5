/- Fractions: the fraction of a number and 0. Fractions: the fraction of two, the second one above 0. strings.Cut at one byte. Fractions: what some texts are read as. -/
import Derived.BigQuiet
import Derived.RegionTactic
import Derived.Deep.QuietTactic
import Derived.Test.YthnlmjnfdokdbaaGreatDoorGRatMul
import Derived.Test.YthnlmjnfdokdbaaGreatDoorGInts
import Derived.Test.YthnlmjnfdokdbaaGreatDoorLayC
import Derived.Test.YthnlmjnfdokdbaaGreatDoorGMathG
set_option linter.unusedSimpArgs false
set_option linter.unusedVariables false
namespace Go.Proofs.YthnlmjnfdokdbaaGreatDoor
open Go Go.Proofs Go.RowKit Go.Shelf Nu

attribute [local go_sem] Oper.semAt_some

theorem ret_boxN_tmp {fn : Func} {p q : Tmp} {ty t : TypeId} {R : Ending → World → Prop} {a : Act} {w : World} {B : Nat} {cs : Array Value} {x : Value} {fs : Array Field} (h : fn.results = #[.cell p ty, .tmp q]) (hp : a.tmps.getD p undef = .pointer (some ⟨B, 0, none⟩)) (hx : a.tmps.getD q undef = x) (hg : BoxN w B t cs)
    (hu : Tryz.prog.underlying ty = some (.struct fs)) (hi : (Tryz.prog.info? ty).map (·.size) = some cs.size) (hde : a.defers = []) (hR : R (.returned (.tuple #[.agg cs, x])) w) : bodyPost Tryz.prog fn R .ret a w := by
  refine bodyPost_ret (v := .tuple #[.agg cs, x]) ?_ hde hR
  rw [results_cell_tmp h, hp, hx]
  simp [asAddr, run_loadVar_row (P := Tryz.prog) w B t ty cs (0, 0) (.struct fs) hg hu rfl hi, Result.andThen]

end Go.Proofs.YthnlmjnfdokdbaaGreatDoor

namespace Go.Proofs.YthnlmjnfdokdbaaGreatDoor
open Go Go.Proofs Go.RowKit Go.Shelf Nu

attribute [local go_sem] Oper.semAt_some

end Go.Proofs.YthnlmjnfdokdbaaGreatDoor

namespace Go.Proofs.YthnlmjnfdokdbaaGreatDoor
open Go Go.Proofs Go.RowKit Go.Shelf Nu

end Go.Proofs.YthnlmjnfdokdbaaGreatDoor

namespace Go.Proofs.YthnlmjnfdokdbaaGreatDoor
open Go Go.Proofs Go.RowKit Go.Shelf Nu

attribute [local go_sem] Oper.semAt_some

instance (s : ByteArray) : Decidable (isNum s) := by unfold isNum; infer_instance
end Go.Proofs.YthnlmjnfdokdbaaGreatDoor
