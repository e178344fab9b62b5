/- Fractions: products. -/
import Derived.Test.YtimdinmhphihkaaGreatDoorGRatB
set_option linter.unusedSimpArgs false
set_option linter.unusedVariables false
namespace Go.Proofs.YtimdinmhphihkaaGreatDoor
open Go Go.Proofs Go.RowKit Go.Shelf Nu

attribute [local go_sem] Oper.semAt_some

theorem canL {L : List Nat} {A : Nat} (h : L = digs A) : Can false L (A : Int) := ⟨by simp, by rw [Int.natAbs_natCast]; exact h⟩
theorem gcd_le {a b : Nat} (h : b ≠ 0) : Nat.gcd a b ≤ b := Nat.le_of_dvd (Nat.pos_of_ne_zero h) (Nat.gcd_dvd_right a b)

end Go.Proofs.YtimdinmhphihkaaGreatDoor
