/- Fractions: RatsMade: its numbers. -/
import Derived.Deep.RegionHeld3
import Derived.Test.YthloknddhfphnaaGreatDoorGRatAlive
import Derived.Test.YthloknddhfphnaaGreatDoorGRatCmp
import Derived.Test.YthloknddhfphnaaGreatDoorGRatLess
import Derived.Test.YthloknddhfphnaaGreatDoorGMathG
set_option linter.unusedSimpArgs false
set_option linter.unusedVariables false
namespace Go.Proofs.YthloknddhfphnaaGreatDoor
open Go Go.Proofs Go.RowKit Go.Shelf Nu

attribute [local go_sem] Oper.semAt_some

theorem sgz_zero {X : Int} (h : X = 0) : sgz X 0 = 0 := by subst h; rfl
theorem sgz_some {X z : Int} (h : X ≠ 0) (e : sgz X 0 = z) : (z == 0) = false ∧ ¬ z = 0 := by
  have k : ¬ z = 0 := by
    intro hz
    rw [hz] at e
    unfold sgz at e
    split at e <;> (try split at e) <;> omega
  exact ⟨by simp [k], k⟩
theorem rl_over {n : Int} (d : Int) (h : d ≠ 0) : rl ((n : Rat) / (d : Rat)) ≤ (digs n.natAbs).length + (digs d.natAbs).length + 2 := by
  have h1 := rl_mul (X := (n : Rat)) (Y := ((d : Int) : Rat)⁻¹) (Z := (n : Rat) / (d : Rat)) (Rat.div_def _ _)
  have h2 := rl_inv (X := ((d : Int) : Rat)) (by intro e; exact h (by exact_mod_cast e))
  have h3 := rl_int n
  have h4 := rl_int d
  omega

theorem mul_back {a b : Int} (h : b ≠ 0) : (a : Rat) / ((1 : Int) : Rat) = (a : Rat) / (b : Rat) * ((b : Rat) / ((1 : Int) : Rat)) := by
  have k2 : (b : Rat) ≠ 0 := by exact_mod_cast h
  grind
theorem both_by {a b c : Int} (h2 : b ≠ 0) (h3 : c ≠ 0) : (a : Rat) / (b : Rat) = ((a * c : Int) : Rat) / ((b * c : Int) : Rat) := by
  have k2 : (b : Rat) ≠ 0 := by exact_mod_cast h2
  have k3 : (c : Rat) ≠ 0 := by exact_mod_cast h3
  push_cast; grind

end Go.Proofs.YthloknddhfphnaaGreatDoor
