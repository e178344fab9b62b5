/-
  No cell of these rows narrows 'for every input' (looked for: loops, veiled, ifaces, maps, wideKeys, modest, calm, conditions, laid).
  DERIVED. THE GIVEN ROWS OF THIS SEAT. 6 by the template 'for every input the law returns true; each argument reads behind the call as it read before'; 0 by the template 'total and deterministic' (their statements: YtcndjjhdckbfkaaTotals.lean).
  GIVEN WITH THE SEED: the statements are not yours to turn. If you find one false, say at which input.
  Laid BY PROGRAM, IN A SANDBOX (cutbox-rows.mjs): the forced cells as the released guide's own fill.sh prints them over the translation 559a922cc6343f6f… (all of the seat's roots in one cut). By AI agents, Wed Nov 11 2026. No macro, syntax, notation, axiom, sorry.
-/
import Derived.Test.YtcndjjhdckbfkaaChecked
import GoSem.Claim
import GoSem.ClaimJoined
import GoSem.ClaimMapViews
import Derived.JoinedTies
import Derived.KernelRfl
namespace Go.Proofs.Ytcndjjhdckbfkaa
/- THE CELL 'sum', in the pinned program and in every row, IS THE sha256 OF THE DUMP (.gsa) THAT YtcndjjhdckbfkaaProg.lean LOADS. Nothing in Lean hashes anything: it is a label: what it is worth is what the hold of that sum in a sandbox is worth. -/
noncomputable def Try.pinned : Pinned := { name := "ytcndjjhdckbfkaa", sum := "559a922cc6343f6f8eb8662c32f62d3f6f1a39c25b926f49f22cdcef6c47f901", checked := Try.checked }
namespace Rows
def none {H : Type} : Left H := { results := [], args := [] }

/-- 'assayerlaw04.VecsTurned': WHATEVER THE INPUT: true; the input reads as it did. -/
def vecsTurnedSpec : ChangeSpec := { name := "vecsTurned", fn := fun _ => fun
  | [d1, d2] => { results := [.lit (.bool true)], args := [d1, d2] }
  | _ => none }
def vecsTurnedRow : OpenClaim := { program := "ytcndjjhdckbfkaa", sum := "559a922cc6343f6f8eb8662c32f62d3f6f1a39c25b926f49f22cdcef6c47f901", func := "assayer/assayerlaw04.VecsTurned", spec := "vecsTurned", unfollowed := true, recurses := true, apart := false }
def VecsTurnedSaid : Prop := vecsTurnedRow.holds Try.pinned (OpenSpec.ofChange vecsTurnedSpec)

/-- ITS FALSE NEIGHBOUR: 'it returns false'. Refute it at one input. -/
def vecsTurnedWrong : ChangeSpec := { name := "vecsTurned", fn := fun _ => fun
  | [d1, d2] => { results := [.lit (.bool false)], args := [d1, d2] }
  | _ => none }
def VecsTurnedWrongFalsely : Prop := vecsTurnedRow.holds Try.pinned (OpenSpec.ofChange vecsTurnedWrong)

/-- 'assayerlaw04.VecsLinear': WHATEVER THE INPUT: true; the input reads as it did. -/
def vecsLinearSpec : ChangeSpec := { name := "vecsLinear", fn := fun _ => fun
  | [d] => { results := [.lit (.bool true)], args := [d] }
  | _ => none }
def vecsLinearRow : OpenClaim := { program := "ytcndjjhdckbfkaa", sum := "559a922cc6343f6f8eb8662c32f62d3f6f1a39c25b926f49f22cdcef6c47f901", func := "assayer/assayerlaw04.VecsLinear", spec := "vecsLinear", unfollowed := true, recurses := true, apart := false }
def VecsLinearSaid : Prop := vecsLinearRow.holds Try.pinned (OpenSpec.ofChange vecsLinearSpec)

/-- ITS FALSE NEIGHBOUR: 'it returns false'. Refute it at one input. -/
def vecsLinearWrong : ChangeSpec := { name := "vecsLinear", fn := fun _ => fun
  | [d] => { results := [.lit (.bool false)], args := [d] }
  | _ => none }
def VecsLinearWrongFalsely : Prop := vecsLinearRow.holds Try.pinned (OpenSpec.ofChange vecsLinearWrong)

/-- 'assayerlaw04.VecsBack': WHATEVER THE INPUT: true; the input reads as it did. -/
def vecsBackSpec : ChangeSpec := { name := "vecsBack", fn := fun _ => fun
  | [d1, d2, d3] => { results := [.lit (.bool true)], args := [d1, d2, d3] }
  | _ => none }
def vecsBackRow : OpenClaim := { program := "ytcndjjhdckbfkaa", sum := "559a922cc6343f6f8eb8662c32f62d3f6f1a39c25b926f49f22cdcef6c47f901", func := "assayer/assayerlaw04.VecsBack", spec := "vecsBack", unfollowed := true, recurses := true, apart := false }
def VecsBackSaid : Prop := vecsBackRow.holds Try.pinned (OpenSpec.ofChange vecsBackSpec)

/-- ITS FALSE NEIGHBOUR: 'it returns false'. Refute it at one input. -/
def vecsBackWrong : ChangeSpec := { name := "vecsBack", fn := fun _ => fun
  | [d1, d2, d3] => { results := [.lit (.bool false)], args := [d1, d2, d3] }
  | _ => none }
def VecsBackWrongFalsely : Prop := vecsBackRow.holds Try.pinned (OpenSpec.ofChange vecsBackWrong)

/-- 'assayerlaw04.VecsParts': WHATEVER THE INPUT: true; the input reads as it did. -/
def vecsPartsSpec : ChangeSpec := { name := "vecsParts", fn := fun _ => fun
  | [d1, d2, d3] => { results := [.lit (.bool true)], args := [d1, d2, d3] }
  | _ => none }
def vecsPartsRow : OpenClaim := { program := "ytcndjjhdckbfkaa", sum := "559a922cc6343f6f8eb8662c32f62d3f6f1a39c25b926f49f22cdcef6c47f901", func := "assayer/assayerlaw04.VecsParts", spec := "vecsParts", unfollowed := true, recurses := true, apart := false }
def VecsPartsSaid : Prop := vecsPartsRow.holds Try.pinned (OpenSpec.ofChange vecsPartsSpec)

/-- ITS FALSE NEIGHBOUR: 'it returns false'. Refute it at one input. -/
def vecsPartsWrong : ChangeSpec := { name := "vecsParts", fn := fun _ => fun
  | [d1, d2, d3] => { results := [.lit (.bool false)], args := [d1, d2, d3] }
  | _ => none }
def VecsPartsWrongFalsely : Prop := vecsPartsRow.holds Try.pinned (OpenSpec.ofChange vecsPartsWrong)

/-- 'assayerlaw04.VecsOdd': WHATEVER THE INPUT: true; the input reads as it did. -/
def vecsOddSpec : ChangeSpec := { name := "vecsOdd", fn := fun _ => fun
  | [d1, d2] => { results := [.lit (.bool true)], args := [d1, d2] }
  | _ => none }
def vecsOddRow : OpenClaim := { program := "ytcndjjhdckbfkaa", sum := "559a922cc6343f6f8eb8662c32f62d3f6f1a39c25b926f49f22cdcef6c47f901", func := "assayer/assayerlaw04.VecsOdd", spec := "vecsOdd", unfollowed := true, recurses := true, apart := false }
def VecsOddSaid : Prop := vecsOddRow.holds Try.pinned (OpenSpec.ofChange vecsOddSpec)

/-- ITS FALSE NEIGHBOUR: 'it returns false'. Refute it at one input. -/
def vecsOddWrong : ChangeSpec := { name := "vecsOdd", fn := fun _ => fun
  | [d1, d2] => { results := [.lit (.bool false)], args := [d1, d2] }
  | _ => none }
def VecsOddWrongFalsely : Prop := vecsOddRow.holds Try.pinned (OpenSpec.ofChange vecsOddWrong)

/-- 'assayerlaw04.VecsScaled': WHATEVER THE INPUT: true; the input reads as it did. -/
def vecsScaledSpec : ChangeSpec := { name := "vecsScaled", fn := fun _ => fun
  | [d1, d2, d3] => { results := [.lit (.bool true)], args := [d1, d2, d3] }
  | _ => none }
def vecsScaledRow : OpenClaim := { program := "ytcndjjhdckbfkaa", sum := "559a922cc6343f6f8eb8662c32f62d3f6f1a39c25b926f49f22cdcef6c47f901", func := "assayer/assayerlaw04.VecsScaled", spec := "vecsScaled", unfollowed := true, recurses := true, apart := false }
def VecsScaledSaid : Prop := vecsScaledRow.holds Try.pinned (OpenSpec.ofChange vecsScaledSpec)

/-- ITS FALSE NEIGHBOUR: 'it returns false'. Refute it at one input. -/
def vecsScaledWrong : ChangeSpec := { name := "vecsScaled", fn := fun _ => fun
  | [d1, d2, d3] => { results := [.lit (.bool false)], args := [d1, d2, d3] }
  | _ => none }
def VecsScaledWrongFalsely : Prop := vecsScaledRow.holds Try.pinned (OpenSpec.ofChange vecsScaledWrong)

/- THE SECOND FORM. 'bulk': how many values and letters a reading holds, each counted each time it is reached (what is shared counts as often as it is met; a slice's spare places count too). A statement '..UptoSaid' is the law's where the arguments, and the package variables that the reading takes, are together of bulk at most 1048576: NARROWER than '..Said'. Prove '..Said' where nothing that the law and all that it calls make is longer than what came in: it says more and counts as full. Else prove '..UptoSaid'. A law counts once. -/
mutual
def uptoBulk {H : Type} : DataW H → Nat
  | .lit (.string bytes) => bytes.length + 1
  | .lit _ => 1
  | .nil => 1
  | .ptr d => uptoBulk d + 1
  | .slice elems spare => uptoBulkAll elems + uptoBulkAll spare + 1
  | .agg parts => uptoBulkAll parts + 1
  | .iface _ d => uptoBulk d + 1
  | .map entries => uptoBulkEntries entries + 1
  | .held _ => 1
def uptoBulkAll {H : Type} : List (DataW H) → Nat
  | [] => 0
  | d :: r => uptoBulk d + uptoBulkAll r
def uptoBulkEntries {H : Type} : List (Lit × DataW H) → Nat
  | [] => 0
  | x :: r => uptoBulkEntry x + uptoBulkEntries r
def uptoBulkEntry {H : Type} : Lit × DataW H → Nat
  | (.string bytes, d) => bytes.length + uptoBulk d + 1
  | (_, d) => uptoBulk d + 1
 end
def uptoSmall : (H : Type) → List (DataW H) → Bool := fun _ ds => decide (uptoBulkAll ds ≤ 1048576)
def OpenSpec.upto (s : _root_.Go.ChangeSpec) : _root_.Go.OpenSpec := { _root_.Go.OpenSpec.ofChange s with cond := some uptoSmall }

/-- 'assayerlaw04.VecsTurned', WHERE WHAT IT READS IS OF BULK AT MOST 1048576: true; the input reads as it did. -/
def vecsTurnedUptoRow : OpenClaim := { program := "ytcndjjhdckbfkaa", sum := "559a922cc6343f6f8eb8662c32f62d3f6f1a39c25b926f49f22cdcef6c47f901", func := "assayer/assayerlaw04.VecsTurned", spec := "vecsTurned", unfollowed := true, recurses := true, apart := false, narrowed := true }
def VecsTurnedUptoSaid : Prop := vecsTurnedUptoRow.holds Try.pinned (OpenSpec.upto vecsTurnedSpec)

/-- 'assayerlaw04.VecsLinear', WHERE WHAT IT READS IS OF BULK AT MOST 1048576: true; the input reads as it did. -/
def vecsLinearUptoRow : OpenClaim := { program := "ytcndjjhdckbfkaa", sum := "559a922cc6343f6f8eb8662c32f62d3f6f1a39c25b926f49f22cdcef6c47f901", func := "assayer/assayerlaw04.VecsLinear", spec := "vecsLinear", unfollowed := true, recurses := true, apart := false, narrowed := true }
def VecsLinearUptoSaid : Prop := vecsLinearUptoRow.holds Try.pinned (OpenSpec.upto vecsLinearSpec)

/-- 'assayerlaw04.VecsBack', WHERE WHAT IT READS IS OF BULK AT MOST 1048576: true; the input reads as it did. -/
def vecsBackUptoRow : OpenClaim := { program := "ytcndjjhdckbfkaa", sum := "559a922cc6343f6f8eb8662c32f62d3f6f1a39c25b926f49f22cdcef6c47f901", func := "assayer/assayerlaw04.VecsBack", spec := "vecsBack", unfollowed := true, recurses := true, apart := false, narrowed := true }
def VecsBackUptoSaid : Prop := vecsBackUptoRow.holds Try.pinned (OpenSpec.upto vecsBackSpec)

/-- 'assayerlaw04.VecsParts', WHERE WHAT IT READS IS OF BULK AT MOST 1048576: true; the input reads as it did. -/
def vecsPartsUptoRow : OpenClaim := { program := "ytcndjjhdckbfkaa", sum := "559a922cc6343f6f8eb8662c32f62d3f6f1a39c25b926f49f22cdcef6c47f901", func := "assayer/assayerlaw04.VecsParts", spec := "vecsParts", unfollowed := true, recurses := true, apart := false, narrowed := true }
def VecsPartsUptoSaid : Prop := vecsPartsUptoRow.holds Try.pinned (OpenSpec.upto vecsPartsSpec)

/-- 'assayerlaw04.VecsOdd', WHERE WHAT IT READS IS OF BULK AT MOST 1048576: true; the input reads as it did. -/
def vecsOddUptoRow : OpenClaim := { program := "ytcndjjhdckbfkaa", sum := "559a922cc6343f6f8eb8662c32f62d3f6f1a39c25b926f49f22cdcef6c47f901", func := "assayer/assayerlaw04.VecsOdd", spec := "vecsOdd", unfollowed := true, recurses := true, apart := false, narrowed := true }
def VecsOddUptoSaid : Prop := vecsOddUptoRow.holds Try.pinned (OpenSpec.upto vecsOddSpec)

/-- 'assayerlaw04.VecsScaled', WHERE WHAT IT READS IS OF BULK AT MOST 1048576: true; the input reads as it did. -/
def vecsScaledUptoRow : OpenClaim := { program := "ytcndjjhdckbfkaa", sum := "559a922cc6343f6f8eb8662c32f62d3f6f1a39c25b926f49f22cdcef6c47f901", func := "assayer/assayerlaw04.VecsScaled", spec := "vecsScaled", unfollowed := true, recurses := true, apart := false, narrowed := true }
def VecsScaledUptoSaid : Prop := vecsScaledUptoRow.holds Try.pinned (OpenSpec.upto vecsScaledSpec)

end Rows
end Go.Proofs.Ytcndjjhdckbfkaa
