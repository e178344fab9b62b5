/-
  No cell of these rows narrows 'for every input' (looked for: loops, veiled, ifaces, maps, wideKeys, modest, calm, conditions, laid).
  DERIVED. THE GIVEN ROWS OF THIS SEAT. 6 by the template 'for every input the law returns true; each argument reads behind the call as it read before'; 0 by the template 'total and deterministic' (their statements: YtjcoaoacgcpooaaTotals.lean).
  GIVEN WITH THE SEED: the statements are not yours to turn. If you find one false, say at which input.
  Laid BY PROGRAM, IN A SANDBOX (cutbox-rows.mjs): the forced cells as the released guide's own fill.sh prints them over the translation 01eae07da9593460… (all of the seat's roots in one cut). By AI agents, Wed Nov 11 2026. No macro, syntax, notation, axiom, sorry.
-/
import Derived.Test.YtjcoaoacgcpooaaChecked
import GoSem.Claim
import GoSem.ClaimJoined
import GoSem.ClaimMapViews
import Derived.JoinedTies
import Derived.KernelRfl
namespace Go.Proofs.Ytjcoaoacgcpooaa
/- THE CELL 'sum', in the pinned program and in every row, IS THE sha256 OF THE DUMP (.gsa) THAT YtjcoaoacgcpooaaProg.lean LOADS. Nothing in Lean hashes anything: it is a label: what it is worth is what the hold of that sum in a sandbox is worth. -/
noncomputable def Try.pinned : Pinned := { name := "ytjcoaoacgcpooaa", sum := "01eae07da9593460a81fc7008eaefe089798e86a562590c8b8852875c265507c", checked := Try.checked }
namespace Rows
def none {H : Type} : Left H := { results := [], args := [] }

/-- 'assayerlaw02.IntsRing': WHATEVER THE INPUT: true; the input reads as it did. -/
def intsRingSpec : ChangeSpec := { name := "intsRing", fn := fun _ => fun
  | [d1, d2, d3] => { results := [.lit (.bool true)], args := [d1, d2, d3] }
  | _ => none }
def intsRingRow : OpenClaim := { program := "ytjcoaoacgcpooaa", sum := "01eae07da9593460a81fc7008eaefe089798e86a562590c8b8852875c265507c", func := "assayer/assayerlaw02.IntsRing", spec := "intsRing", unfollowed := true, recurses := true, apart := false }
def IntsRingSaid : Prop := intsRingRow.holds Try.pinned (OpenSpec.ofChange intsRingSpec)

/-- ITS FALSE NEIGHBOUR: 'it returns false'. Refute it at one input. -/
def intsRingWrong : ChangeSpec := { name := "intsRing", fn := fun _ => fun
  | [d1, d2, d3] => { results := [.lit (.bool false)], args := [d1, d2, d3] }
  | _ => none }
def IntsRingWrongFalsely : Prop := intsRingRow.holds Try.pinned (OpenSpec.ofChange intsRingWrong)

/-- 'assayerlaw02.IntsTurned': WHATEVER THE INPUT: true; the input reads as it did. -/
def intsTurnedSpec : ChangeSpec := { name := "intsTurned", fn := fun _ => fun
  | [d1, d2] => { results := [.lit (.bool true)], args := [d1, d2] }
  | _ => none }
def intsTurnedRow : OpenClaim := { program := "ytjcoaoacgcpooaa", sum := "01eae07da9593460a81fc7008eaefe089798e86a562590c8b8852875c265507c", func := "assayer/assayerlaw02.IntsTurned", spec := "intsTurned", unfollowed := true, recurses := true, apart := false }
def IntsTurnedSaid : Prop := intsTurnedRow.holds Try.pinned (OpenSpec.ofChange intsTurnedSpec)

/-- ITS FALSE NEIGHBOUR: 'it returns false'. Refute it at one input. -/
def intsTurnedWrong : ChangeSpec := { name := "intsTurned", fn := fun _ => fun
  | [d1, d2] => { results := [.lit (.bool false)], args := [d1, d2] }
  | _ => none }
def IntsTurnedWrongFalsely : Prop := intsTurnedRow.holds Try.pinned (OpenSpec.ofChange intsTurnedWrong)

/-- 'assayerlaw02.IntsOrder': WHATEVER THE INPUT: true; the input reads as it did. -/
def intsOrderSpec : ChangeSpec := { name := "intsOrder", fn := fun _ => fun
  | [d1, d2, d3] => { results := [.lit (.bool true)], args := [d1, d2, d3] }
  | _ => none }
def intsOrderRow : OpenClaim := { program := "ytjcoaoacgcpooaa", sum := "01eae07da9593460a81fc7008eaefe089798e86a562590c8b8852875c265507c", func := "assayer/assayerlaw02.IntsOrder", spec := "intsOrder", unfollowed := true, recurses := true, apart := false }
def IntsOrderSaid : Prop := intsOrderRow.holds Try.pinned (OpenSpec.ofChange intsOrderSpec)

/-- ITS FALSE NEIGHBOUR: 'it returns false'. Refute it at one input. -/
def intsOrderWrong : ChangeSpec := { name := "intsOrder", fn := fun _ => fun
  | [d1, d2, d3] => { results := [.lit (.bool false)], args := [d1, d2, d3] }
  | _ => none }
def IntsOrderWrongFalsely : Prop := intsOrderRow.holds Try.pinned (OpenSpec.ofChange intsOrderWrong)

/-- 'assayerlaw02.IntsSmall': WHATEVER THE INPUT: true; the input reads as it did. -/
def intsSmallSpec : ChangeSpec := { name := "intsSmall", fn := fun _ => fun
  | [d1, d2, d3] => { results := [.lit (.bool true)], args := [d1, d2, d3] }
  | _ => none }
def intsSmallRow : OpenClaim := { program := "ytjcoaoacgcpooaa", sum := "01eae07da9593460a81fc7008eaefe089798e86a562590c8b8852875c265507c", func := "assayer/assayerlaw02.IntsSmall", spec := "intsSmall", unfollowed := true, recurses := true, apart := false }
def IntsSmallSaid : Prop := intsSmallRow.holds Try.pinned (OpenSpec.ofChange intsSmallSpec)

/-- ITS FALSE NEIGHBOUR: 'it returns false'. Refute it at one input. -/
def intsSmallWrong : ChangeSpec := { name := "intsSmall", fn := fun _ => fun
  | [d1, d2, d3] => { results := [.lit (.bool false)], args := [d1, d2, d3] }
  | _ => none }
def IntsSmallWrongFalsely : Prop := intsSmallRow.holds Try.pinned (OpenSpec.ofChange intsSmallWrong)

/-- 'assayerlaw02.IntsRead': WHATEVER THE INPUT: true; the input reads as it did. -/
def intsReadSpec : ChangeSpec := { name := "intsRead", fn := fun _ => fun
  | [d1, d2] => { results := [.lit (.bool true)], args := [d1, d2] }
  | _ => none }
def intsReadRow : OpenClaim := { program := "ytjcoaoacgcpooaa", sum := "01eae07da9593460a81fc7008eaefe089798e86a562590c8b8852875c265507c", func := "assayer/assayerlaw02.IntsRead", spec := "intsRead", unfollowed := true, recurses := true, apart := false }
def IntsReadSaid : Prop := intsReadRow.holds Try.pinned (OpenSpec.ofChange intsReadSpec)

/-- ITS FALSE NEIGHBOUR: 'it returns false'. Refute it at one input. -/
def intsReadWrong : ChangeSpec := { name := "intsRead", fn := fun _ => fun
  | [d1, d2] => { results := [.lit (.bool false)], args := [d1, d2] }
  | _ => none }
def IntsReadWrongFalsely : Prop := intsReadRow.holds Try.pinned (OpenSpec.ofChange intsReadWrong)

/-- 'assayerlaw02.IntsAmounts': WHATEVER THE INPUT: true; the input reads as it did. -/
def intsAmountsSpec : ChangeSpec := { name := "intsAmounts", fn := fun _ => fun
  | [d1, d2] => { results := [.lit (.bool true)], args := [d1, d2] }
  | _ => none }
def intsAmountsRow : OpenClaim := { program := "ytjcoaoacgcpooaa", sum := "01eae07da9593460a81fc7008eaefe089798e86a562590c8b8852875c265507c", func := "assayer/assayerlaw02.IntsAmounts", spec := "intsAmounts", unfollowed := true, recurses := true, apart := false }
def IntsAmountsSaid : Prop := intsAmountsRow.holds Try.pinned (OpenSpec.ofChange intsAmountsSpec)

/-- ITS FALSE NEIGHBOUR: 'it returns false'. Refute it at one input. -/
def intsAmountsWrong : ChangeSpec := { name := "intsAmounts", fn := fun _ => fun
  | [d1, d2] => { results := [.lit (.bool false)], args := [d1, d2] }
  | _ => none }
def IntsAmountsWrongFalsely : Prop := intsAmountsRow.holds Try.pinned (OpenSpec.ofChange intsAmountsWrong)

/- THE SECOND FORM. 'bulk': how many values and letters a reading holds, each counted each time it is reached (what is shared counts as often as it is met; a slice's spare places count too). A statement '..UptoSaid' is the law's where the arguments, and the package variables that the reading takes, are together of bulk at most 1048576: NARROWER than '..Said'. Prove '..Said' where nothing that the law and all that it calls make is longer than what came in: it says more and counts as full. Else prove '..UptoSaid'. A law counts once. -/
mutual
def uptoBulk {H : Type} : DataW H → Nat
  | .lit (.string bytes) => bytes.length + 1
  | .lit _ => 1
  | .nil => 1
  | .ptr d => uptoBulk d + 1
  | .slice elems spare => uptoBulkAll elems + uptoBulkAll spare + 1
  | .agg parts => uptoBulkAll parts + 1
  | .iface _ d => uptoBulk d + 1
  | .map entries => uptoBulkEntries entries + 1
  | .held _ => 1
def uptoBulkAll {H : Type} : List (DataW H) → Nat
  | [] => 0
  | d :: r => uptoBulk d + uptoBulkAll r
def uptoBulkEntries {H : Type} : List (Lit × DataW H) → Nat
  | [] => 0
  | x :: r => uptoBulkEntry x + uptoBulkEntries r
def uptoBulkEntry {H : Type} : Lit × DataW H → Nat
  | (.string bytes, d) => bytes.length + uptoBulk d + 1
  | (_, d) => uptoBulk d + 1
 end
def uptoSmall : (H : Type) → List (DataW H) → Bool := fun _ ds => decide (uptoBulkAll ds ≤ 1048576)
def OpenSpec.upto (s : _root_.Go.ChangeSpec) : _root_.Go.OpenSpec := { _root_.Go.OpenSpec.ofChange s with cond := some uptoSmall }

/-- 'assayerlaw02.IntsRing', WHERE WHAT IT READS IS OF BULK AT MOST 1048576: true; the input reads as it did. -/
def intsRingUptoRow : OpenClaim := { program := "ytjcoaoacgcpooaa", sum := "01eae07da9593460a81fc7008eaefe089798e86a562590c8b8852875c265507c", func := "assayer/assayerlaw02.IntsRing", spec := "intsRing", unfollowed := true, recurses := true, apart := false, narrowed := true }
def IntsRingUptoSaid : Prop := intsRingUptoRow.holds Try.pinned (OpenSpec.upto intsRingSpec)

/-- 'assayerlaw02.IntsTurned', WHERE WHAT IT READS IS OF BULK AT MOST 1048576: true; the input reads as it did. -/
def intsTurnedUptoRow : OpenClaim := { program := "ytjcoaoacgcpooaa", sum := "01eae07da9593460a81fc7008eaefe089798e86a562590c8b8852875c265507c", func := "assayer/assayerlaw02.IntsTurned", spec := "intsTurned", unfollowed := true, recurses := true, apart := false, narrowed := true }
def IntsTurnedUptoSaid : Prop := intsTurnedUptoRow.holds Try.pinned (OpenSpec.upto intsTurnedSpec)

/-- 'assayerlaw02.IntsOrder', WHERE WHAT IT READS IS OF BULK AT MOST 1048576: true; the input reads as it did. -/
def intsOrderUptoRow : OpenClaim := { program := "ytjcoaoacgcpooaa", sum := "01eae07da9593460a81fc7008eaefe089798e86a562590c8b8852875c265507c", func := "assayer/assayerlaw02.IntsOrder", spec := "intsOrder", unfollowed := true, recurses := true, apart := false, narrowed := true }
def IntsOrderUptoSaid : Prop := intsOrderUptoRow.holds Try.pinned (OpenSpec.upto intsOrderSpec)

/-- 'assayerlaw02.IntsSmall', WHERE WHAT IT READS IS OF BULK AT MOST 1048576: true; the input reads as it did. -/
def intsSmallUptoRow : OpenClaim := { program := "ytjcoaoacgcpooaa", sum := "01eae07da9593460a81fc7008eaefe089798e86a562590c8b8852875c265507c", func := "assayer/assayerlaw02.IntsSmall", spec := "intsSmall", unfollowed := true, recurses := true, apart := false, narrowed := true }
def IntsSmallUptoSaid : Prop := intsSmallUptoRow.holds Try.pinned (OpenSpec.upto intsSmallSpec)

/-- 'assayerlaw02.IntsRead', WHERE WHAT IT READS IS OF BULK AT MOST 1048576: true; the input reads as it did. -/
def intsReadUptoRow : OpenClaim := { program := "ytjcoaoacgcpooaa", sum := "01eae07da9593460a81fc7008eaefe089798e86a562590c8b8852875c265507c", func := "assayer/assayerlaw02.IntsRead", spec := "intsRead", unfollowed := true, recurses := true, apart := false, narrowed := true }
def IntsReadUptoSaid : Prop := intsReadUptoRow.holds Try.pinned (OpenSpec.upto intsReadSpec)

/-- 'assayerlaw02.IntsAmounts', WHERE WHAT IT READS IS OF BULK AT MOST 1048576: true; the input reads as it did. -/
def intsAmountsUptoRow : OpenClaim := { program := "ytjcoaoacgcpooaa", sum := "01eae07da9593460a81fc7008eaefe089798e86a562590c8b8852875c265507c", func := "assayer/assayerlaw02.IntsAmounts", spec := "intsAmounts", unfollowed := true, recurses := true, apart := false, narrowed := true }
def IntsAmountsUptoSaid : Prop := intsAmountsUptoRow.holds Try.pinned (OpenSpec.upto intsAmountsSpec)

end Rows
end Go.Proofs.Ytjcoaoacgcpooaa
