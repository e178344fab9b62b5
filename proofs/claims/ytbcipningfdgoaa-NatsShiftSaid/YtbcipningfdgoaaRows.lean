/-
  No cell of these rows narrows 'for every input' (looked for: loops, veiled, ifaces, maps, wideKeys, modest, calm, conditions, laid).
  DERIVED. THE GIVEN ROWS OF THIS SEAT. 8 by the template 'for every input the law returns true; each argument reads behind the call as it read before'; 0 by the template 'total and deterministic' (their statements: YtbcipningfdgoaaTotals.lean).
  GIVEN WITH THE SEED: the statements are not yours to turn. If you find one false, say at which input.
  Laid BY PROGRAM, IN A SANDBOX (cutbox-rows.mjs): the forced cells as the released guide's own fill.sh prints them over the translation 45eb5d7b2e63246b… (all of the seat's roots in one cut). By AI agents, Wed Nov 11 2026. No macro, syntax, notation, axiom, sorry.
-/
import Derived.Test.YtbcipningfdgoaaChecked
import GoSem.Claim
import GoSem.ClaimJoined
import GoSem.ClaimMapViews
import Derived.JoinedTies
import Derived.KernelRfl
namespace Go.Proofs.Ytbcipningfdgoaa
/- THE CELL 'sum', in the pinned program and in every row, IS THE sha256 OF THE DUMP (.gsa) THAT YtbcipningfdgoaaProg.lean LOADS. Nothing in Lean hashes anything: it is a label: what it is worth is what the hold of that sum in a sandbox is worth. -/
noncomputable def Try.pinned : Pinned := { name := "ytbcipningfdgoaa", sum := "45eb5d7b2e63246b9884d662e6163534c60900098d78eb5fda018a605a9040bd", checked := Try.checked }
namespace Rows
def none {H : Type} : Left H := { results := [], args := [] }

/-- 'assayerlaw01.NatsRing': WHATEVER THE INPUT: true; the input reads as it did. -/
def natsRingSpec : ChangeSpec := { name := "natsRing", fn := fun _ => fun
  | [d1, d2, d3] => { results := [.lit (.bool true)], args := [d1, d2, d3] }
  | _ => none }
def natsRingRow : OpenClaim := { program := "ytbcipningfdgoaa", sum := "45eb5d7b2e63246b9884d662e6163534c60900098d78eb5fda018a605a9040bd", func := "assayer/assayerlaw01.NatsRing", spec := "natsRing", unfollowed := true, recurses := true, apart := false }
def NatsRingSaid : Prop := natsRingRow.holds Try.pinned (OpenSpec.ofChange natsRingSpec)

/-- ITS FALSE NEIGHBOUR: 'it returns false'. Refute it at one input. -/
def natsRingWrong : ChangeSpec := { name := "natsRing", fn := fun _ => fun
  | [d1, d2, d3] => { results := [.lit (.bool false)], args := [d1, d2, d3] }
  | _ => none }
def NatsRingWrongFalsely : Prop := natsRingRow.holds Try.pinned (OpenSpec.ofChange natsRingWrong)

/-- 'assayerlaw01.NatsOften': WHATEVER THE INPUT: true; the input reads as it did. -/
def natsOftenSpec : ChangeSpec := { name := "natsOften", fn := fun _ => fun
  | [d1, d2] => { results := [.lit (.bool true)], args := [d1, d2] }
  | _ => none }
def natsOftenRow : OpenClaim := { program := "ytbcipningfdgoaa", sum := "45eb5d7b2e63246b9884d662e6163534c60900098d78eb5fda018a605a9040bd", func := "assayer/assayerlaw01.NatsOften", spec := "natsOften", unfollowed := true, recurses := true, apart := false }
def NatsOftenSaid : Prop := natsOftenRow.holds Try.pinned (OpenSpec.ofChange natsOftenSpec)

/-- ITS FALSE NEIGHBOUR: 'it returns false'. Refute it at one input. -/
def natsOftenWrong : ChangeSpec := { name := "natsOften", fn := fun _ => fun
  | [d1, d2] => { results := [.lit (.bool false)], args := [d1, d2] }
  | _ => none }
def NatsOftenWrongFalsely : Prop := natsOftenRow.holds Try.pinned (OpenSpec.ofChange natsOftenWrong)

/-- 'assayerlaw01.NatsUndone': WHATEVER THE INPUT: true; the input reads as it did. -/
def natsUndoneSpec : ChangeSpec := { name := "natsUndone", fn := fun _ => fun
  | [d1, d2] => { results := [.lit (.bool true)], args := [d1, d2] }
  | _ => none }
def natsUndoneRow : OpenClaim := { program := "ytbcipningfdgoaa", sum := "45eb5d7b2e63246b9884d662e6163534c60900098d78eb5fda018a605a9040bd", func := "assayer/assayerlaw01.NatsUndone", spec := "natsUndone", unfollowed := true, recurses := true, apart := false }
def NatsUndoneSaid : Prop := natsUndoneRow.holds Try.pinned (OpenSpec.ofChange natsUndoneSpec)

/-- ITS FALSE NEIGHBOUR: 'it returns false'. Refute it at one input. -/
def natsUndoneWrong : ChangeSpec := { name := "natsUndone", fn := fun _ => fun
  | [d1, d2] => { results := [.lit (.bool false)], args := [d1, d2] }
  | _ => none }
def NatsUndoneWrongFalsely : Prop := natsUndoneRow.holds Try.pinned (OpenSpec.ofChange natsUndoneWrong)

/-- 'assayerlaw01.NatsGreatest': WHATEVER THE INPUT: true; the input reads as it did. -/
def natsGreatestSpec : ChangeSpec := { name := "natsGreatest", fn := fun _ => fun
  | [d1, d2, d3] => { results := [.lit (.bool true)], args := [d1, d2, d3] }
  | _ => none }
def natsGreatestRow : OpenClaim := { program := "ytbcipningfdgoaa", sum := "45eb5d7b2e63246b9884d662e6163534c60900098d78eb5fda018a605a9040bd", func := "assayer/assayerlaw01.NatsGreatest", spec := "natsGreatest", unfollowed := true, recurses := true, apart := false }
def NatsGreatestSaid : Prop := natsGreatestRow.holds Try.pinned (OpenSpec.ofChange natsGreatestSpec)

/-- ITS FALSE NEIGHBOUR: 'it returns false'. Refute it at one input. -/
def natsGreatestWrong : ChangeSpec := { name := "natsGreatest", fn := fun _ => fun
  | [d1, d2, d3] => { results := [.lit (.bool false)], args := [d1, d2, d3] }
  | _ => none }
def NatsGreatestWrongFalsely : Prop := natsGreatestRow.holds Try.pinned (OpenSpec.ofChange natsGreatestWrong)

/-- 'assayerlaw01.NatsRead': WHATEVER THE INPUT: true; the input reads as it did. -/
def natsReadSpec : ChangeSpec := { name := "natsRead", fn := fun _ => fun
  | [d1, d2] => { results := [.lit (.bool true)], args := [d1, d2] }
  | _ => none }
def natsReadRow : OpenClaim := { program := "ytbcipningfdgoaa", sum := "45eb5d7b2e63246b9884d662e6163534c60900098d78eb5fda018a605a9040bd", func := "assayer/assayerlaw01.NatsRead", spec := "natsRead", unfollowed := true, recurses := true, apart := false }
def NatsReadSaid : Prop := natsReadRow.holds Try.pinned (OpenSpec.ofChange natsReadSpec)

/-- ITS FALSE NEIGHBOUR: 'it returns false'. Refute it at one input. -/
def natsReadWrong : ChangeSpec := { name := "natsRead", fn := fun _ => fun
  | [d1, d2] => { results := [.lit (.bool false)], args := [d1, d2] }
  | _ => none }
def NatsReadWrongFalsely : Prop := natsReadRow.holds Try.pinned (OpenSpec.ofChange natsReadWrong)

/-- 'assayerlaw01.NatsSmall': WHATEVER THE INPUT: true; the input reads as it did. -/
def natsSmallSpec : ChangeSpec := { name := "natsSmall", fn := fun _ => fun
  | [d1, d2] => { results := [.lit (.bool true)], args := [d1, d2] }
  | _ => none }
def natsSmallRow : OpenClaim := { program := "ytbcipningfdgoaa", sum := "45eb5d7b2e63246b9884d662e6163534c60900098d78eb5fda018a605a9040bd", func := "assayer/assayerlaw01.NatsSmall", spec := "natsSmall", unfollowed := true, recurses := true, apart := false }
def NatsSmallSaid : Prop := natsSmallRow.holds Try.pinned (OpenSpec.ofChange natsSmallSpec)

/-- ITS FALSE NEIGHBOUR: 'it returns false'. Refute it at one input. -/
def natsSmallWrong : ChangeSpec := { name := "natsSmall", fn := fun _ => fun
  | [d1, d2] => { results := [.lit (.bool false)], args := [d1, d2] }
  | _ => none }
def NatsSmallWrongFalsely : Prop := natsSmallRow.holds Try.pinned (OpenSpec.ofChange natsSmallWrong)

/-- 'assayerlaw01.NatsNone': WHATEVER THE INPUT: true; the input reads as it did. -/
def natsNoneSpec : ChangeSpec := { name := "natsNone", fn := fun _ => fun
  | [d1, d2] => { results := [.lit (.bool true)], args := [d1, d2] }
  | _ => none }
def natsNoneRow : OpenClaim := { program := "ytbcipningfdgoaa", sum := "45eb5d7b2e63246b9884d662e6163534c60900098d78eb5fda018a605a9040bd", func := "assayer/assayerlaw01.NatsNone", spec := "natsNone", unfollowed := true, recurses := true, apart := false }
def NatsNoneSaid : Prop := natsNoneRow.holds Try.pinned (OpenSpec.ofChange natsNoneSpec)

/-- ITS FALSE NEIGHBOUR: 'it returns false'. Refute it at one input. -/
def natsNoneWrong : ChangeSpec := { name := "natsNone", fn := fun _ => fun
  | [d1, d2] => { results := [.lit (.bool false)], args := [d1, d2] }
  | _ => none }
def NatsNoneWrongFalsely : Prop := natsNoneRow.holds Try.pinned (OpenSpec.ofChange natsNoneWrong)

/-- 'assayerlaw01.NatsShift': WHATEVER THE INPUT: true; the input reads as it did. -/
def natsShiftSpec : ChangeSpec := { name := "natsShift", fn := fun _ => fun
  | [d1, d2] => { results := [.lit (.bool true)], args := [d1, d2] }
  | _ => none }
def natsShiftRow : OpenClaim := { program := "ytbcipningfdgoaa", sum := "45eb5d7b2e63246b9884d662e6163534c60900098d78eb5fda018a605a9040bd", func := "assayer/assayerlaw01.NatsShift", spec := "natsShift", unfollowed := true, recurses := true, apart := false }
def NatsShiftSaid : Prop := natsShiftRow.holds Try.pinned (OpenSpec.ofChange natsShiftSpec)

/-- ITS FALSE NEIGHBOUR: 'it returns false'. Refute it at one input. -/
def natsShiftWrong : ChangeSpec := { name := "natsShift", fn := fun _ => fun
  | [d1, d2] => { results := [.lit (.bool false)], args := [d1, d2] }
  | _ => none }
def NatsShiftWrongFalsely : Prop := natsShiftRow.holds Try.pinned (OpenSpec.ofChange natsShiftWrong)

/- THE SECOND FORM. 'bulk': how many values and letters a reading holds, each counted each time it is reached (what is shared counts as often as it is met; a slice's spare places count too). A statement '..UptoSaid' is the law's where the arguments, and the package variables that the reading takes, are together of bulk at most 1048576: NARROWER than '..Said'. Prove '..Said' where nothing that the law and all that it calls make is longer than what came in: it says more and counts as full. Else prove '..UptoSaid'. A law counts once. -/
mutual
def uptoBulk {H : Type} : DataW H → Nat
  | .lit (.string bytes) => bytes.length + 1
  | .lit _ => 1
  | .nil => 1
  | .ptr d => uptoBulk d + 1
  | .slice elems spare => uptoBulkAll elems + uptoBulkAll spare + 1
  | .agg parts => uptoBulkAll parts + 1
  | .iface _ d => uptoBulk d + 1
  | .map entries => uptoBulkEntries entries + 1
  | .held _ => 1
def uptoBulkAll {H : Type} : List (DataW H) → Nat
  | [] => 0
  | d :: r => uptoBulk d + uptoBulkAll r
def uptoBulkEntries {H : Type} : List (Lit × DataW H) → Nat
  | [] => 0
  | x :: r => uptoBulkEntry x + uptoBulkEntries r
def uptoBulkEntry {H : Type} : Lit × DataW H → Nat
  | (.string bytes, d) => bytes.length + uptoBulk d + 1
  | (_, d) => uptoBulk d + 1
 end
def uptoSmall : (H : Type) → List (DataW H) → Bool := fun _ ds => decide (uptoBulkAll ds ≤ 1048576)
def OpenSpec.upto (s : _root_.Go.ChangeSpec) : _root_.Go.OpenSpec := { _root_.Go.OpenSpec.ofChange s with cond := some uptoSmall }

/-- 'assayerlaw01.NatsRing', WHERE WHAT IT READS IS OF BULK AT MOST 1048576: true; the input reads as it did. -/
def natsRingUptoRow : OpenClaim := { program := "ytbcipningfdgoaa", sum := "45eb5d7b2e63246b9884d662e6163534c60900098d78eb5fda018a605a9040bd", func := "assayer/assayerlaw01.NatsRing", spec := "natsRing", unfollowed := true, recurses := true, apart := false, narrowed := true }
def NatsRingUptoSaid : Prop := natsRingUptoRow.holds Try.pinned (OpenSpec.upto natsRingSpec)

/-- 'assayerlaw01.NatsOften', WHERE WHAT IT READS IS OF BULK AT MOST 1048576: true; the input reads as it did. -/
def natsOftenUptoRow : OpenClaim := { program := "ytbcipningfdgoaa", sum := "45eb5d7b2e63246b9884d662e6163534c60900098d78eb5fda018a605a9040bd", func := "assayer/assayerlaw01.NatsOften", spec := "natsOften", unfollowed := true, recurses := true, apart := false, narrowed := true }
def NatsOftenUptoSaid : Prop := natsOftenUptoRow.holds Try.pinned (OpenSpec.upto natsOftenSpec)

/-- 'assayerlaw01.NatsUndone', WHERE WHAT IT READS IS OF BULK AT MOST 1048576: true; the input reads as it did. -/
def natsUndoneUptoRow : OpenClaim := { program := "ytbcipningfdgoaa", sum := "45eb5d7b2e63246b9884d662e6163534c60900098d78eb5fda018a605a9040bd", func := "assayer/assayerlaw01.NatsUndone", spec := "natsUndone", unfollowed := true, recurses := true, apart := false, narrowed := true }
def NatsUndoneUptoSaid : Prop := natsUndoneUptoRow.holds Try.pinned (OpenSpec.upto natsUndoneSpec)

/-- 'assayerlaw01.NatsGreatest', WHERE WHAT IT READS IS OF BULK AT MOST 1048576: true; the input reads as it did. -/
def natsGreatestUptoRow : OpenClaim := { program := "ytbcipningfdgoaa", sum := "45eb5d7b2e63246b9884d662e6163534c60900098d78eb5fda018a605a9040bd", func := "assayer/assayerlaw01.NatsGreatest", spec := "natsGreatest", unfollowed := true, recurses := true, apart := false, narrowed := true }
def NatsGreatestUptoSaid : Prop := natsGreatestUptoRow.holds Try.pinned (OpenSpec.upto natsGreatestSpec)

/-- 'assayerlaw01.NatsRead', WHERE WHAT IT READS IS OF BULK AT MOST 1048576: true; the input reads as it did. -/
def natsReadUptoRow : OpenClaim := { program := "ytbcipningfdgoaa", sum := "45eb5d7b2e63246b9884d662e6163534c60900098d78eb5fda018a605a9040bd", func := "assayer/assayerlaw01.NatsRead", spec := "natsRead", unfollowed := true, recurses := true, apart := false, narrowed := true }
def NatsReadUptoSaid : Prop := natsReadUptoRow.holds Try.pinned (OpenSpec.upto natsReadSpec)

/-- 'assayerlaw01.NatsSmall', WHERE WHAT IT READS IS OF BULK AT MOST 1048576: true; the input reads as it did. -/
def natsSmallUptoRow : OpenClaim := { program := "ytbcipningfdgoaa", sum := "45eb5d7b2e63246b9884d662e6163534c60900098d78eb5fda018a605a9040bd", func := "assayer/assayerlaw01.NatsSmall", spec := "natsSmall", unfollowed := true, recurses := true, apart := false, narrowed := true }
def NatsSmallUptoSaid : Prop := natsSmallUptoRow.holds Try.pinned (OpenSpec.upto natsSmallSpec)

/-- 'assayerlaw01.NatsNone', WHERE WHAT IT READS IS OF BULK AT MOST 1048576: true; the input reads as it did. -/
def natsNoneUptoRow : OpenClaim := { program := "ytbcipningfdgoaa", sum := "45eb5d7b2e63246b9884d662e6163534c60900098d78eb5fda018a605a9040bd", func := "assayer/assayerlaw01.NatsNone", spec := "natsNone", unfollowed := true, recurses := true, apart := false, narrowed := true }
def NatsNoneUptoSaid : Prop := natsNoneUptoRow.holds Try.pinned (OpenSpec.upto natsNoneSpec)

/-- 'assayerlaw01.NatsShift', WHERE WHAT IT READS IS OF BULK AT MOST 1048576: true; the input reads as it did. -/
def natsShiftUptoRow : OpenClaim := { program := "ytbcipningfdgoaa", sum := "45eb5d7b2e63246b9884d662e6163534c60900098d78eb5fda018a605a9040bd", func := "assayer/assayerlaw01.NatsShift", spec := "natsShift", unfollowed := true, recurses := true, apart := false, narrowed := true }
def NatsShiftUptoSaid : Prop := natsShiftUptoRow.holds Try.pinned (OpenSpec.upto natsShiftSpec)

end Rows
end Go.Proofs.Ytbcipningfdgoaa
