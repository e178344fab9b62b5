/- The law package's own helpers of fractions: a fraction of two small numbers, two that are the same, one that is read. -/
import Derived.Test.YtimdinmhphihkaaGreatDoorGRatMkN
import Derived.Test.YtimdinmhphihkaaGreatDoorGRatLit
set_option linter.unusedSimpArgs false
set_option linter.unusedVariables false
namespace Go.Proofs.YtimdinmhphihkaaGreatDoor
open Go Go.Proofs Go.RowKit Go.Shelf Nu

attribute [local go_sem] Oper.semAt_some

section
variable {w : World} {p1 o1 p2 o2 : Option Addr} {q1 r1 q2 r2 : Nat} {n1 n2 : Bool} {l1 d1 l2 d2 : List Nat} {X Y : Rat}
end
end Go.Proofs.YtimdinmhphihkaaGreatDoor
