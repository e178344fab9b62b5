/- Whether two fractions are the same, as the law package asks it. -/
import Derived.Test.YtdjfooflhpkcbaaGreatDoorGRatCmp
set_option linter.unusedSimpArgs false
set_option linter.unusedVariables false
namespace Go.Proofs.YtdjfooflhpkcbaaGreatDoor
open Go Go.Proofs Go.RowKit Go.Shelf Nu
attribute [local go_sem] Oper.semAt_some
theorem Mem.ne {w W : World} {bs : List (Nat × TypeId × List Value)} {rs : List (Value × List Nat)} (M : Mem w bs rs W) (j k : Nat) {x y : Nat × TypeId × List Value} (hx : bs[j]? = some x) (hy : bs[k]? = some y) (h : j ≠ k) : x.1 ≠ y.1 := fun e => h (M.2.2.1 j k x y hx hy e)
section
variable {w : World} {p1 o1 p2 o2 : Option Addr} {q1 r1 q2 r2 : Nat} {n1 n2 : Bool} {l1 d1 l2 d2 : List Nat} {X Y : Rat}
end
end Go.Proofs.YtdjfooflhpkcbaaGreatDoor
