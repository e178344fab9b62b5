/- A book's truths: their marks. -/
import Derived.Test.YthpbcfoaabacgaaGreatDoorBkB
import Derived.Deep.RegionHeld3
import Derived.Deep.RegionLaw
import Derived.Deep.AppendLies
import Derived.Deep.LoopGhost
import Derived.BigQuiet
import Derived.Deep.QuietTactic
import Derived.Laws.Strings
import Derived.Laws.Concat
import Derived.Laws.ResultCell
namespace Go.Proofs.YthpbcfoaabacgaaGreatDoor
open Go Go.Proofs Go.RowKit Go.Shelf

attribute [local go_sem] Oper.semAt_some
set_option maxRecDepth 100000
def evn (m : Nat) : Bool := m % 2 == 0
def mkBo (m : Nat) : List Value := [.bool (evn m)]
theorem marksBo : Marks 1 mkBo := ⟨fun _ => rfl, fun m v hv => by simp [mkBo] at hv; subst hv; rfl, by decide⟩
theorem evn_int (m : Nat) : ((m : Int) % 2 == 0) = evn m := by
  unfold evn
  have h : (m : Int) % 2 = ((m % 2 : Nat) : Int) := by omega
  rw [h]
  rcases Nat.mod_two_eq_zero_or_one m with h | h <;> rw [h] <;> rfl
theorem markBo_any (m : Nat) (hm : m ≤ 99) (W : World) : Calls Tryz.prog 65 #[.int .i64 (m : Int)] W fun e w' => e = .returned (.bool (evn m)) ∧ Below W.heap.size W w' := by
  have e1 := evn_int m
  have e2 : IntKind.i64.wrap (Int.tmod (m : Int) 2) = Int.tmod (m : Int) 2 := by
    have h : Int.tmod (m : Int) 2 = ((m % 2 : Nat) : Int) := by rw [Int.tmod_eq_emod_of_nonneg (by omega)]; omega
    rw [h]; exact i64q _ (by omega)
  obtain ⟨D, hD⟩ : ∃ D, D = evn m := ⟨_, rfl⟩
  rw [← hD] at e1 ⊢
  clear hD hm
  go_enter Tryz.func65, Tryz.ntmps65
  go_wp2
  go_ret
  exact ⟨by first | rfl | simp [e1], Below.refl _ _⟩
theorem isBo_any (m : Nat) (hm : m ≤ 99) (W : World) : Calls Tryz.prog 77 #[.bool (evn m), .int .i64 (m : Int)] W fun e w' => e = .returned (.bool true) ∧ Below W.heap.size W w' := by
  have e1 := evn_int m
  have e2 : IntKind.i64.wrap (Int.tmod (m : Int) 2) = Int.tmod (m : Int) 2 := by
    have h : Int.tmod (m : Int) 2 = ((m % 2 : Nat) : Int) := by rw [Int.tmod_eq_emod_of_nonneg (by omega)]; omega
    rw [h]; exact i64q _ (by omega)
  obtain ⟨D, hD⟩ : ∃ D, D = evn m := ⟨_, rfl⟩
  rw [← hD] at e1 ⊢
  clear hD hm
  go_enter Tryz.func77, Tryz.ntmps77
  go_wp2
  go_ret
  exact ⟨by first | rfl | simp [e1], Below.refl _ _⟩
end Go.Proofs.YthpbcfoaabacgaaGreatDoor
