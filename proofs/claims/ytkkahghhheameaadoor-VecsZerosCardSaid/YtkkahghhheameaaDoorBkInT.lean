/- A book's lists of numbers: their marks. -/
import Derived.Test.YtkkahghhheameaaDoorBkRaT
import Derived.Deep.RegionHeld3
import Derived.Deep.RegionLaw
import Derived.Deep.AppendLies
import Derived.Deep.LoopGhost
import Derived.BigQuiet
import Derived.Deep.QuietTactic
import Derived.Laws.ResultCell
namespace Go.Proofs.YtkkahghhheameaaDoor
open Go Go.Proofs Go.RowKit Go.Shelf

attribute [local go_sem] Oper.semAt_some
set_option maxRecDepth 100000
def mkIn (m : Nat) : List Value := [.int .u32 (1000 + (m : Int))]
theorem marksIn : Marks 1 mkIn := ⟨fun _ => rfl, fun m v hv => by simp [mkIn] at hv; subst hv; rfl, by decide⟩
theorem markIn_any (m : Nat) (hm : m ≤ 100000) (W : World) : Calls Tryd.prog 58 #[.int .i64 (m : Int)] W fun e w' => e = .returned (.int .u32 (1000 + (m : Int))) ∧ Below W.heap.size W w' := by
  obtain ⟨M1, hM1⟩ : ∃ M1 : Int, M1 = 1000 + (m : Int) := ⟨_, rfl⟩
  have a1 : IntKind.i64.wrap (1000 + (m : Int)) = M1 := by rw [hM1]; exact i64w _ (by omega) (by omega)
  have a2 : IntKind.u32.wrap M1 = M1 := by rw [hM1]; exact u32w _ (by omega) (by omega)
  rw [← hM1]
  clear hM1 hm
  go_enter Tryd.func58, Tryd.ntmps58
  go_wp2
  go_ret
  exact ⟨rfl, Below.refl _ _⟩
theorem isIn_any (m : Nat) (hm : m ≤ 100000) (W : World) : Calls Tryd.prog 70 #[.int .u32 (1000 + (m : Int)), .int .i64 (m : Int)] W fun e w' => e = .returned (.bool true) ∧ Below W.heap.size W w' := by
  obtain ⟨M1, hM1⟩ : ∃ M1 : Int, M1 = 1000 + (m : Int) := ⟨_, rfl⟩
  have a1 : IntKind.i64.wrap (1000 + (m : Int)) = M1 := by rw [hM1]; exact i64w _ (by omega) (by omega)
  have a2 : IntKind.u32.wrap M1 = M1 := by rw [hM1]; exact u32w _ (by omega) (by omega)
  rw [← hM1]
  clear hM1 hm
  go_enter Tryd.func70, Tryd.ntmps70
  go_wp2
  go_ret
  exact ⟨by first | rfl | simp, Below.refl _ _⟩
end Go.Proofs.YtkkahghhheameaaDoor
