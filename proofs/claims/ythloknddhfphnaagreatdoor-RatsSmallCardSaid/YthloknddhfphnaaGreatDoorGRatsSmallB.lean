/- RatsSmall, of any numbers. -/
import Derived.Test.YthloknddhfphnaaGreatDoorGRatsSmallNG
import Derived.Test.YthloknddhfphnaaGreatDoorGRatsSmallNL
import Derived.Test.YthloknddhfphnaaGreatDoorGRatsSmallZG
import Derived.Test.YthloknddhfphnaaGreatDoorGRatsSmallZL
set_option linter.unusedSimpArgs false
set_option linter.unusedVariables false
namespace Go.Proofs.YthloknddhfphnaaGreatDoor
open Go Go.Proofs Go.RowKit Go.Shelf Nu

theorem rsmall_any {w : World} {m n u1 u2 : Int} (m1 : -32768 ≤ m) (m2 : m ≤ 32767) (n1 : -32768 ≤ n) (n2 : n ≤ 32767) (e1 : 0 ≤ u1) (f1 : u1 ≤ 65535) (e2 : 0 ≤ u2) (f2 : u2 ≤ 65535) :
    Calls Tryz.prog 8 #[.int .i16 m, .int .i16 n, .agg #[.int .u16 u1, .int .u16 u2]] w fun e w' => e = .returned (.bool true) ∧ Below w.heap.size w w' := by
  by_cases hn : n = 0
  · by_cases hr : m.tmod (u1 + 1) < 0
    · exact rsmall_zl m1 m2 n1 n2 e1 f1 e2 f2 hn hr
    · exact rsmall_zg m1 m2 n1 n2 e1 f1 e2 f2 hn hr
  · by_cases hr : m.tmod (u1 + 1) < 0
    · exact rsmall_nl m1 m2 n1 n2 e1 f1 e2 f2 hn hr
    · exact rsmall_ng m1 m2 n1 n2 e1 f1 e2 f2 hn hr
end Go.Proofs.YthloknddhfphnaaGreatDoor
