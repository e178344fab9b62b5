/-
  No cell of these rows narrows 'for every input' (looked for: loops, veiled, ifaces, maps, wideKeys, modest, calm, conditions, laid).
  DERIVED. THE GIVEN ROWS OF THIS SEAT. 8 by the template 'for every input the law returns true; each argument reads behind the call as it read before'; 0 by the template 'total and deterministic' (their statements: YtgmbaamfobhceaaGreatTotals.lean).
  GIVEN WITH THE SEED: the statements are not yours to turn. If you find one false, say at which input.
  Laid BY PROGRAM, IN A SANDBOX (cutbox-rows.mjs): the forced cells as the released guide's own fill.sh prints them over the translation ea1fe2eb4ef2464a… (all of the seat's roots in one cut). By AI agents, Wed Nov 11 2026. No macro, syntax, notation, axiom, sorry.
-/
import Derived.Test.YtgmbaamfobhceaaGreatChecked
import GoSem.Claim
import GoSem.ClaimJoined
import GoSem.ClaimMapViews
import Derived.JoinedTies
import Derived.KernelRfl
namespace Go.Proofs.YtgmbaamfobhceaaGreat
/- THE CELL 'sum', in the pinned program and in every row, IS THE sha256 OF THE DUMP (.gsa) THAT YtgmbaamfobhceaaGreatProg.lean LOADS. Nothing in Lean hashes anything: it is a label: what it is worth is what the hold of that sum in a sandbox is worth. -/
noncomputable def Tryz.pinned : Pinned := { name := "ytgmbaamfobhceaagreat", sum := "ea1fe2eb4ef2464a5c76f4937386f56a0a3d02c56c633c0f1066de43dd993a16", checked := Tryz.checked }
namespace Rows
def none {H : Type} : Left H := { results := [], args := [] }

/-- 'assayerlaw05.GridsBack': WHATEVER THE INPUT: true; the input reads as it did. -/
def gridsBackSpec : ChangeSpec := { name := "gridsBack", fn := fun _ => fun
  | [d] => { results := [.lit (.bool true)], args := [d] }
  | _ => none }
def gridsBackRow : OpenClaim := { program := "ytgmbaamfobhceaagreat", sum := "ea1fe2eb4ef2464a5c76f4937386f56a0a3d02c56c633c0f1066de43dd993a16", func := "assayer/assayerlaw05.GridsBack", spec := "gridsBack", unfollowed := true, recurses := true, apart := false }
def GridsBackSaid : Prop := gridsBackRow.holds Tryz.pinned (OpenSpec.ofChange gridsBackSpec)

/-- ITS FALSE NEIGHBOUR: 'it returns false'. Refute it at one input. -/
def gridsBackWrong : ChangeSpec := { name := "gridsBack", fn := fun _ => fun
  | [d] => { results := [.lit (.bool false)], args := [d] }
  | _ => none }
def GridsBackWrongFalsely : Prop := gridsBackRow.holds Tryz.pinned (OpenSpec.ofChange gridsBackWrong)

/-- 'assayerlaw05.GridsSolved': WHATEVER THE INPUT: true; the input reads as it did. -/
def gridsSolvedSpec : ChangeSpec := { name := "gridsSolved", fn := fun _ => fun
  | [d1, d2] => { results := [.lit (.bool true)], args := [d1, d2] }
  | _ => none }
def gridsSolvedRow : OpenClaim := { program := "ytgmbaamfobhceaagreat", sum := "ea1fe2eb4ef2464a5c76f4937386f56a0a3d02c56c633c0f1066de43dd993a16", func := "assayer/assayerlaw05.GridsSolved", spec := "gridsSolved", unfollowed := true, recurses := true, apart := false }
def GridsSolvedSaid : Prop := gridsSolvedRow.holds Tryz.pinned (OpenSpec.ofChange gridsSolvedSpec)

/-- ITS FALSE NEIGHBOUR: 'it returns false'. Refute it at one input. -/
def gridsSolvedWrong : ChangeSpec := { name := "gridsSolved", fn := fun _ => fun
  | [d1, d2] => { results := [.lit (.bool false)], args := [d1, d2] }
  | _ => none }
def GridsSolvedWrongFalsely : Prop := gridsSolvedRow.holds Tryz.pinned (OpenSpec.ofChange gridsSolvedWrong)

/-- 'assayerlaw05.GridsLinear': WHATEVER THE INPUT: true; the input reads as it did. -/
def gridsLinearSpec : ChangeSpec := { name := "gridsLinear", fn := fun _ => fun
  | [d1, d2, d3] => { results := [.lit (.bool true)], args := [d1, d2, d3] }
  | _ => none }
def gridsLinearRow : OpenClaim := { program := "ytgmbaamfobhceaagreat", sum := "ea1fe2eb4ef2464a5c76f4937386f56a0a3d02c56c633c0f1066de43dd993a16", func := "assayer/assayerlaw05.GridsLinear", spec := "gridsLinear", unfollowed := true, recurses := true, apart := false }
def GridsLinearSaid : Prop := gridsLinearRow.holds Tryz.pinned (OpenSpec.ofChange gridsLinearSpec)

/-- ITS FALSE NEIGHBOUR: 'it returns false'. Refute it at one input. -/
def gridsLinearWrong : ChangeSpec := { name := "gridsLinear", fn := fun _ => fun
  | [d1, d2, d3] => { results := [.lit (.bool false)], args := [d1, d2, d3] }
  | _ => none }
def GridsLinearWrongFalsely : Prop := gridsLinearRow.holds Tryz.pinned (OpenSpec.ofChange gridsLinearWrong)

/-- 'assayerlaw05.GridsHangs': WHATEVER THE INPUT: true; the input reads as it did. -/
def gridsHangsSpec : ChangeSpec := { name := "gridsHangs", fn := fun _ => fun
  | [d1, d2, d3] => { results := [.lit (.bool true)], args := [d1, d2, d3] }
  | _ => none }
def gridsHangsRow : OpenClaim := { program := "ytgmbaamfobhceaagreat", sum := "ea1fe2eb4ef2464a5c76f4937386f56a0a3d02c56c633c0f1066de43dd993a16", func := "assayer/assayerlaw05.GridsHangs", spec := "gridsHangs", unfollowed := true, recurses := true, apart := false }
def GridsHangsSaid : Prop := gridsHangsRow.holds Tryz.pinned (OpenSpec.ofChange gridsHangsSpec)

/-- ITS FALSE NEIGHBOUR: 'it returns false'. Refute it at one input. -/
def gridsHangsWrong : ChangeSpec := { name := "gridsHangs", fn := fun _ => fun
  | [d1, d2, d3] => { results := [.lit (.bool false)], args := [d1, d2, d3] }
  | _ => none }
def GridsHangsWrongFalsely : Prop := gridsHangsRow.holds Tryz.pinned (OpenSpec.ofChange gridsHangsWrong)

/-- 'assayerlaw05.GridsOnes': WHATEVER THE INPUT: true; the input reads as it did. -/
def gridsOnesSpec : ChangeSpec := { name := "gridsOnes", fn := fun _ => fun
  | [d] => { results := [.lit (.bool true)], args := [d] }
  | _ => none }
def gridsOnesRow : OpenClaim := { program := "ytgmbaamfobhceaagreat", sum := "ea1fe2eb4ef2464a5c76f4937386f56a0a3d02c56c633c0f1066de43dd993a16", func := "assayer/assayerlaw05.GridsOnes", spec := "gridsOnes", unfollowed := true, recurses := true, apart := false }
def GridsOnesSaid : Prop := gridsOnesRow.holds Tryz.pinned (OpenSpec.ofChange gridsOnesSpec)

/-- ITS FALSE NEIGHBOUR: 'it returns false'. Refute it at one input. -/
def gridsOnesWrong : ChangeSpec := { name := "gridsOnes", fn := fun _ => fun
  | [d] => { results := [.lit (.bool false)], args := [d] }
  | _ => none }
def GridsOnesWrongFalsely : Prop := gridsOnesRow.holds Tryz.pinned (OpenSpec.ofChange gridsOnesWrong)

/-- 'assayerlaw05.GridsDots': WHATEVER THE INPUT: true; the input reads as it did. -/
def gridsDotsSpec : ChangeSpec := { name := "gridsDots", fn := fun _ => fun
  | [d1, d2, d3] => { results := [.lit (.bool true)], args := [d1, d2, d3] }
  | _ => none }
def gridsDotsRow : OpenClaim := { program := "ytgmbaamfobhceaagreat", sum := "ea1fe2eb4ef2464a5c76f4937386f56a0a3d02c56c633c0f1066de43dd993a16", func := "assayer/assayerlaw05.GridsDots", spec := "gridsDots", unfollowed := true, recurses := true, apart := false }
def GridsDotsSaid : Prop := gridsDotsRow.holds Tryz.pinned (OpenSpec.ofChange gridsDotsSpec)

/-- ITS FALSE NEIGHBOUR: 'it returns false'. Refute it at one input. -/
def gridsDotsWrong : ChangeSpec := { name := "gridsDots", fn := fun _ => fun
  | [d1, d2, d3] => { results := [.lit (.bool false)], args := [d1, d2, d3] }
  | _ => none }
def GridsDotsWrongFalsely : Prop := gridsDotsRow.holds Tryz.pinned (OpenSpec.ofChange gridsDotsWrong)

/-- 'assayerlaw16.PivotsFind': WHATEVER THE INPUT: true; the input reads as it did. -/
def pivotsFindSpec : ChangeSpec := { name := "pivotsFind", fn := fun _ => fun
  | [d1, d2, d3] => { results := [.lit (.bool true)], args := [d1, d2, d3] }
  | _ => none }
def pivotsFindRow : OpenClaim := { program := "ytgmbaamfobhceaagreat", sum := "ea1fe2eb4ef2464a5c76f4937386f56a0a3d02c56c633c0f1066de43dd993a16", func := "assayer/assayerlaw16.PivotsFind", spec := "pivotsFind", unfollowed := true, recurses := true, apart := false }
def PivotsFindSaid : Prop := pivotsFindRow.holds Tryz.pinned (OpenSpec.ofChange pivotsFindSpec)

/-- ITS FALSE NEIGHBOUR: 'it returns false'. Refute it at one input. -/
def pivotsFindWrong : ChangeSpec := { name := "pivotsFind", fn := fun _ => fun
  | [d1, d2, d3] => { results := [.lit (.bool false)], args := [d1, d2, d3] }
  | _ => none }
def PivotsFindWrongFalsely : Prop := pivotsFindRow.holds Tryz.pinned (OpenSpec.ofChange pivotsFindWrong)

/-- 'assayerlaw16.PivotsSame': WHATEVER THE INPUT: true; the input reads as it did. -/
def pivotsSameSpec : ChangeSpec := { name := "pivotsSame", fn := fun _ => fun
  | [d] => { results := [.lit (.bool true)], args := [d] }
  | _ => none }
def pivotsSameRow : OpenClaim := { program := "ytgmbaamfobhceaagreat", sum := "ea1fe2eb4ef2464a5c76f4937386f56a0a3d02c56c633c0f1066de43dd993a16", func := "assayer/assayerlaw16.PivotsSame", spec := "pivotsSame", unfollowed := true, recurses := true, apart := false }
def PivotsSameSaid : Prop := pivotsSameRow.holds Tryz.pinned (OpenSpec.ofChange pivotsSameSpec)

/-- ITS FALSE NEIGHBOUR: 'it returns false'. Refute it at one input. -/
def pivotsSameWrong : ChangeSpec := { name := "pivotsSame", fn := fun _ => fun
  | [d] => { results := [.lit (.bool false)], args := [d] }
  | _ => none }
def PivotsSameWrongFalsely : Prop := pivotsSameRow.holds Tryz.pinned (OpenSpec.ofChange pivotsSameWrong)

/- THE SECOND FORM. 'bulk': how many values and letters a reading holds, each counted each time it is reached (what is shared counts as often as it is met; a slice's spare places count too). A statement '..UptoSaid' is the law's where the arguments, and the package variables that the reading takes, are together of bulk at most 1048576: NARROWER than '..Said'. Prove '..Said' where nothing that the law and all that it calls make is longer than what came in: it says more and counts as full. Else prove '..UptoSaid'. A law counts once. -/
mutual
def uptoBulk {H : Type} : DataW H → Nat
  | .lit (.string bytes) => bytes.length + 1
  | .lit _ => 1
  | .nil => 1
  | .ptr d => uptoBulk d + 1
  | .slice elems spare => uptoBulkAll elems + uptoBulkAll spare + 1
  | .agg parts => uptoBulkAll parts + 1
  | .iface _ d => uptoBulk d + 1
  | .map entries => uptoBulkEntries entries + 1
  | .held _ => 1
def uptoBulkAll {H : Type} : List (DataW H) → Nat
  | [] => 0
  | d :: r => uptoBulk d + uptoBulkAll r
def uptoBulkEntries {H : Type} : List (Lit × DataW H) → Nat
  | [] => 0
  | x :: r => uptoBulkEntry x + uptoBulkEntries r
def uptoBulkEntry {H : Type} : Lit × DataW H → Nat
  | (.string bytes, d) => bytes.length + uptoBulk d + 1
  | (_, d) => uptoBulk d + 1
 end
def uptoSmall : (H : Type) → List (DataW H) → Bool := fun _ ds => decide (uptoBulkAll ds ≤ 1048576)
def OpenSpec.upto (s : _root_.Go.ChangeSpec) : _root_.Go.OpenSpec := { _root_.Go.OpenSpec.ofChange s with cond := some uptoSmall }

/-- 'assayerlaw05.GridsBack', WHERE WHAT IT READS IS OF BULK AT MOST 1048576: true; the input reads as it did. -/
def gridsBackUptoRow : OpenClaim := { program := "ytgmbaamfobhceaagreat", sum := "ea1fe2eb4ef2464a5c76f4937386f56a0a3d02c56c633c0f1066de43dd993a16", func := "assayer/assayerlaw05.GridsBack", spec := "gridsBack", unfollowed := true, recurses := true, apart := false, narrowed := true }
def GridsBackUptoSaid : Prop := gridsBackUptoRow.holds Tryz.pinned (OpenSpec.upto gridsBackSpec)

/-- 'assayerlaw05.GridsSolved', WHERE WHAT IT READS IS OF BULK AT MOST 1048576: true; the input reads as it did. -/
def gridsSolvedUptoRow : OpenClaim := { program := "ytgmbaamfobhceaagreat", sum := "ea1fe2eb4ef2464a5c76f4937386f56a0a3d02c56c633c0f1066de43dd993a16", func := "assayer/assayerlaw05.GridsSolved", spec := "gridsSolved", unfollowed := true, recurses := true, apart := false, narrowed := true }
def GridsSolvedUptoSaid : Prop := gridsSolvedUptoRow.holds Tryz.pinned (OpenSpec.upto gridsSolvedSpec)

/-- 'assayerlaw05.GridsLinear', WHERE WHAT IT READS IS OF BULK AT MOST 1048576: true; the input reads as it did. -/
def gridsLinearUptoRow : OpenClaim := { program := "ytgmbaamfobhceaagreat", sum := "ea1fe2eb4ef2464a5c76f4937386f56a0a3d02c56c633c0f1066de43dd993a16", func := "assayer/assayerlaw05.GridsLinear", spec := "gridsLinear", unfollowed := true, recurses := true, apart := false, narrowed := true }
def GridsLinearUptoSaid : Prop := gridsLinearUptoRow.holds Tryz.pinned (OpenSpec.upto gridsLinearSpec)

/-- 'assayerlaw05.GridsHangs', WHERE WHAT IT READS IS OF BULK AT MOST 1048576: true; the input reads as it did. -/
def gridsHangsUptoRow : OpenClaim := { program := "ytgmbaamfobhceaagreat", sum := "ea1fe2eb4ef2464a5c76f4937386f56a0a3d02c56c633c0f1066de43dd993a16", func := "assayer/assayerlaw05.GridsHangs", spec := "gridsHangs", unfollowed := true, recurses := true, apart := false, narrowed := true }
def GridsHangsUptoSaid : Prop := gridsHangsUptoRow.holds Tryz.pinned (OpenSpec.upto gridsHangsSpec)

/-- 'assayerlaw05.GridsOnes', WHERE WHAT IT READS IS OF BULK AT MOST 1048576: true; the input reads as it did. -/
def gridsOnesUptoRow : OpenClaim := { program := "ytgmbaamfobhceaagreat", sum := "ea1fe2eb4ef2464a5c76f4937386f56a0a3d02c56c633c0f1066de43dd993a16", func := "assayer/assayerlaw05.GridsOnes", spec := "gridsOnes", unfollowed := true, recurses := true, apart := false, narrowed := true }
def GridsOnesUptoSaid : Prop := gridsOnesUptoRow.holds Tryz.pinned (OpenSpec.upto gridsOnesSpec)

/-- 'assayerlaw05.GridsDots', WHERE WHAT IT READS IS OF BULK AT MOST 1048576: true; the input reads as it did. -/
def gridsDotsUptoRow : OpenClaim := { program := "ytgmbaamfobhceaagreat", sum := "ea1fe2eb4ef2464a5c76f4937386f56a0a3d02c56c633c0f1066de43dd993a16", func := "assayer/assayerlaw05.GridsDots", spec := "gridsDots", unfollowed := true, recurses := true, apart := false, narrowed := true }
def GridsDotsUptoSaid : Prop := gridsDotsUptoRow.holds Tryz.pinned (OpenSpec.upto gridsDotsSpec)

/-- 'assayerlaw16.PivotsFind', WHERE WHAT IT READS IS OF BULK AT MOST 1048576: true; the input reads as it did. -/
def pivotsFindUptoRow : OpenClaim := { program := "ytgmbaamfobhceaagreat", sum := "ea1fe2eb4ef2464a5c76f4937386f56a0a3d02c56c633c0f1066de43dd993a16", func := "assayer/assayerlaw16.PivotsFind", spec := "pivotsFind", unfollowed := true, recurses := true, apart := false, narrowed := true }
def PivotsFindUptoSaid : Prop := pivotsFindUptoRow.holds Tryz.pinned (OpenSpec.upto pivotsFindSpec)

/-- 'assayerlaw16.PivotsSame', WHERE WHAT IT READS IS OF BULK AT MOST 1048576: true; the input reads as it did. -/
def pivotsSameUptoRow : OpenClaim := { program := "ytgmbaamfobhceaagreat", sum := "ea1fe2eb4ef2464a5c76f4937386f56a0a3d02c56c633c0f1066de43dd993a16", func := "assayer/assayerlaw16.PivotsSame", spec := "pivotsSame", unfollowed := true, recurses := true, apart := false, narrowed := true }
def PivotsSameUptoSaid : Prop := pivotsSameUptoRow.holds Tryz.pinned (OpenSpec.upto pivotsSameSpec)

end Rows
end Go.Proofs.YtgmbaamfobhceaaGreat
