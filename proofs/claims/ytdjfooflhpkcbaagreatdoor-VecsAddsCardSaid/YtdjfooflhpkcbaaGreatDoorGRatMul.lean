/- Fractions: products. -/
import Derived.Test.YtdjfooflhpkcbaaGreatDoorGRatB
set_option linter.unusedSimpArgs false
set_option linter.unusedVariables false
namespace Go.Proofs.YtdjfooflhpkcbaaGreatDoor
open Go Go.Proofs Go.RowKit Go.Shelf Nu
attribute [local go_sem] Oper.semAt_some
theorem canL {L : List Nat} {A : Nat} (h : L = digs A) : Can false L (A : Int) := ⟨by simp, by rw [Int.natAbs_natCast]; exact h⟩
theorem len_leN {n G m : Nat} (e : n = G * m) (h0 : G ≠ 0) : (digs m).length ≤ (digs n).length := digs_mono (by rw [e]; exact Nat.le_mul_of_pos_left _ (Nat.pos_of_ne_zero h0))
theorem len_le {n m : Int} {G : Nat} (e : n = G * m) (h0 : G ≠ 0) : (digs m.natAbs).length ≤ (digs n.natAbs).length := len_leN (by rw [e, Int.natAbs_mul]; rfl) h0
theorem gcd_le {a b : Nat} (h : b ≠ 0) : Nat.gcd a b ≤ b := Nat.le_of_dvd (Nat.pos_of_ne_zero h) (Nat.gcd_dvd_right a b)
end Go.Proofs.YtdjfooflhpkcbaaGreatDoor
