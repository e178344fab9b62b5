/-
  NARROWER THAN 'FOR EVERY INPUT', by the rows' own cells (each row's printed sentence says how): RatsField: laid · RatsUndone: laid · RatsOrder: laid · RatsFloors: laid · RatsMade: laid · RatsSmall: laid · RatsBetween: laid.
  DERIVED. THE GIVEN ROWS OF THIS SEAT. 7 by the template 'for every input the law returns true; each argument reads behind the call as it read before'; 0 by the template 'total and deterministic' (their statements: YthloknddhfphnaaGreatDoorTotals.lean).
  GIVEN WITH THE SEED: the statements are not yours to turn. If you find one false, say at which input.
  Laid BY PROGRAM, IN A SANDBOX (cutbox-rows.mjs): the forced cells as the released guide's own fill.sh prints them over the translation 4e1af0fed264b3bd… (all of the seat's roots in one cut). By AI agents, Wed Nov 11 2026. No macro, syntax, notation, axiom, sorry.
-/
import Derived.Test.YthloknddhfphnaaGreatDoorChecked
import GoSem.PinnedTables
import GoSem.Claim
import GoSem.ClaimJoined
import GoSem.ClaimMapViews
import Derived.JoinedTies
import Derived.KernelRfl
namespace Go.Proofs.YthloknddhfphnaaGreatDoor
/- THE CELL 'sum', in the pinned program and in every row, IS THE sha256 OF THE DUMP (.gsa) THAT YthloknddhfphnaaGreatDoorProg.lean LOADS. Nothing in Lean hashes anything: it is a label: what it is worth is what the hold of that sum in a sandbox is worth. -/
noncomputable def Tryz.pinned : Pinned := { name := "ythloknddhfphnaagreatdoor", sum := "4e1af0fed264b3bde3fb129c080155e3df56e9daa19cd5eaeca63b4ba8b254c2", checked := Tryz.checked }
namespace Rows
def none {H : Type} : Left H := { results := [], args := [] }

/- WHAT THE LISTED PACKAGE-LEVEL VARIABLES READ AS WHEN THE CALL BEGINS. Each datum BY PROGRAM (the guide's laid-datum.mjs) off the statement by which the dump's own 'gosem.cut.vars' lays the variable. In a bare row this is a premise. The card (YthloknddhfphnaaGreatDoorCards.lean) ties it to the program's text. -/
def laid_unicode_utf8_acceptRanges {H : Type} : DataW H := .agg [.agg [.lit (.int .u8 128), .lit (.int .u8 191)], .agg [.lit (.int .u8 160), .lit (.int .u8 191)], .agg [.lit (.int .u8 128), .lit (.int .u8 159)], .agg [.lit (.int .u8 144), .lit (.int .u8 191)], .agg [.lit (.int .u8 128), .lit (.int .u8 143)], .agg [.lit (.int .u8 0), .lit (.int .u8 0)], .agg [.lit (.int .u8 0), .lit (.int .u8 0)], .agg [.lit (.int .u8 0), .lit (.int .u8 0)], .agg [.lit (.int .u8 0), .lit (.int .u8 0)], .agg [.lit (.int .u8 0), .lit (.int .u8 0)], .agg [.lit (.int .u8 0), .lit (.int .u8 0)], .agg [.lit (.int .u8 0), .lit (.int .u8 0)], .agg [.lit (.int .u8 0), .lit (.int .u8 0)], .agg [.lit (.int .u8 0), .lit (.int .u8 0)], .agg [.lit (.int .u8 0), .lit (.int .u8 0)], .agg [.lit (.int .u8 0), .lit (.int .u8 0)]]
/-- One of Go's own tables, pinned by name: the form's constant. -/
def laid_unicode_utf8_first : DataW Unit := Go.Pinned.utf8First

/-- 'assayerlaw03.RatsField': WHATEVER THE INPUT: true; the input reads as it did. -/
def ratsFieldSpec : ChangeSpec := { name := "ratsField", fn := fun _ => fun
  | [d1, d2, d3] => { results := [.lit (.bool true)], args := [d1, d2, d3] }
  | _ => none }
def ratsFieldRow : OpenClaim := { program := "ythloknddhfphnaagreatdoor", sum := "4e1af0fed264b3bde3fb129c080155e3df56e9daa19cd5eaeca63b4ba8b254c2", func := "assayer/assayerlaw03.RatsField", spec := "ratsField", inPlace := ["internal/bytealg.IndexByteString", "internal/bytealg.IndexString", "internal/abi.NoEscape", "internal/bytealg.MakeNoZero"], unfollowed := true, recurses := true, named := ["internal/bytealg.MaxLen", "unicode/utf8.first", "unicode/utf8.acceptRanges"], apart := false, laid := [("unicode/utf8.acceptRanges", laid_unicode_utf8_acceptRanges), ("unicode/utf8.first", laid_unicode_utf8_first)] }
def RatsFieldSaid : Prop := ratsFieldRow.holds Tryz.pinned (OpenSpec.ofChange ratsFieldSpec)

/-- ITS FALSE NEIGHBOUR: 'it returns false'. Refute it at one input. -/
def ratsFieldWrong : ChangeSpec := { name := "ratsField", fn := fun _ => fun
  | [d1, d2, d3] => { results := [.lit (.bool false)], args := [d1, d2, d3] }
  | _ => none }
def RatsFieldWrongFalsely : Prop := ratsFieldRow.holds Tryz.pinned (OpenSpec.ofChange ratsFieldWrong)

/-- 'assayerlaw03.RatsUndone': WHATEVER THE INPUT: true; the input reads as it did. -/
def ratsUndoneSpec : ChangeSpec := { name := "ratsUndone", fn := fun _ => fun
  | [d1, d2] => { results := [.lit (.bool true)], args := [d1, d2] }
  | _ => none }
def ratsUndoneRow : OpenClaim := { program := "ythloknddhfphnaagreatdoor", sum := "4e1af0fed264b3bde3fb129c080155e3df56e9daa19cd5eaeca63b4ba8b254c2", func := "assayer/assayerlaw03.RatsUndone", spec := "ratsUndone", inPlace := ["internal/bytealg.IndexByteString", "internal/bytealg.IndexString", "internal/abi.NoEscape", "internal/bytealg.MakeNoZero"], unfollowed := true, recurses := true, named := ["internal/bytealg.MaxLen", "unicode/utf8.first", "unicode/utf8.acceptRanges"], apart := false, laid := [("unicode/utf8.acceptRanges", laid_unicode_utf8_acceptRanges), ("unicode/utf8.first", laid_unicode_utf8_first)] }
def RatsUndoneSaid : Prop := ratsUndoneRow.holds Tryz.pinned (OpenSpec.ofChange ratsUndoneSpec)

/-- ITS FALSE NEIGHBOUR: 'it returns false'. Refute it at one input. -/
def ratsUndoneWrong : ChangeSpec := { name := "ratsUndone", fn := fun _ => fun
  | [d1, d2] => { results := [.lit (.bool false)], args := [d1, d2] }
  | _ => none }
def RatsUndoneWrongFalsely : Prop := ratsUndoneRow.holds Tryz.pinned (OpenSpec.ofChange ratsUndoneWrong)

/-- 'assayerlaw03.RatsOrder': WHATEVER THE INPUT: true; the input reads as it did. -/
def ratsOrderSpec : ChangeSpec := { name := "ratsOrder", fn := fun _ => fun
  | [d1, d2, d3] => { results := [.lit (.bool true)], args := [d1, d2, d3] }
  | _ => none }
def ratsOrderRow : OpenClaim := { program := "ythloknddhfphnaagreatdoor", sum := "4e1af0fed264b3bde3fb129c080155e3df56e9daa19cd5eaeca63b4ba8b254c2", func := "assayer/assayerlaw03.RatsOrder", spec := "ratsOrder", inPlace := ["internal/bytealg.IndexByteString", "internal/bytealg.IndexString", "internal/abi.NoEscape", "internal/bytealg.MakeNoZero"], unfollowed := true, recurses := true, named := ["internal/bytealg.MaxLen", "unicode/utf8.first", "unicode/utf8.acceptRanges"], apart := false, laid := [("unicode/utf8.acceptRanges", laid_unicode_utf8_acceptRanges), ("unicode/utf8.first", laid_unicode_utf8_first)] }
def RatsOrderSaid : Prop := ratsOrderRow.holds Tryz.pinned (OpenSpec.ofChange ratsOrderSpec)

/-- ITS FALSE NEIGHBOUR: 'it returns false'. Refute it at one input. -/
def ratsOrderWrong : ChangeSpec := { name := "ratsOrder", fn := fun _ => fun
  | [d1, d2, d3] => { results := [.lit (.bool false)], args := [d1, d2, d3] }
  | _ => none }
def RatsOrderWrongFalsely : Prop := ratsOrderRow.holds Tryz.pinned (OpenSpec.ofChange ratsOrderWrong)

/-- 'assayerlaw03.RatsFloors': WHATEVER THE INPUT: true; the input reads as it did. -/
def ratsFloorsSpec : ChangeSpec := { name := "ratsFloors", fn := fun _ => fun
  | [d] => { results := [.lit (.bool true)], args := [d] }
  | _ => none }
def ratsFloorsRow : OpenClaim := { program := "ythloknddhfphnaagreatdoor", sum := "4e1af0fed264b3bde3fb129c080155e3df56e9daa19cd5eaeca63b4ba8b254c2", func := "assayer/assayerlaw03.RatsFloors", spec := "ratsFloors", inPlace := ["internal/bytealg.IndexByteString", "internal/bytealg.IndexString", "internal/abi.NoEscape", "internal/bytealg.MakeNoZero"], unfollowed := true, recurses := true, named := ["internal/bytealg.MaxLen", "unicode/utf8.first", "unicode/utf8.acceptRanges"], apart := false, laid := [("unicode/utf8.acceptRanges", laid_unicode_utf8_acceptRanges), ("unicode/utf8.first", laid_unicode_utf8_first)] }
def RatsFloorsSaid : Prop := ratsFloorsRow.holds Tryz.pinned (OpenSpec.ofChange ratsFloorsSpec)

/-- ITS FALSE NEIGHBOUR: 'it returns false'. Refute it at one input. -/
def ratsFloorsWrong : ChangeSpec := { name := "ratsFloors", fn := fun _ => fun
  | [d] => { results := [.lit (.bool false)], args := [d] }
  | _ => none }
def RatsFloorsWrongFalsely : Prop := ratsFloorsRow.holds Tryz.pinned (OpenSpec.ofChange ratsFloorsWrong)

/-- 'assayerlaw03.RatsMade': WHATEVER THE INPUT: true; the input reads as it did. -/
def ratsMadeSpec : ChangeSpec := { name := "ratsMade", fn := fun _ => fun
  | [d1, d2, d3] => { results := [.lit (.bool true)], args := [d1, d2, d3] }
  | _ => none }
def ratsMadeRow : OpenClaim := { program := "ythloknddhfphnaagreatdoor", sum := "4e1af0fed264b3bde3fb129c080155e3df56e9daa19cd5eaeca63b4ba8b254c2", func := "assayer/assayerlaw03.RatsMade", spec := "ratsMade", inPlace := ["internal/bytealg.IndexByteString", "internal/bytealg.IndexString", "internal/abi.NoEscape", "internal/bytealg.MakeNoZero"], unfollowed := true, recurses := true, named := ["internal/bytealg.MaxLen", "unicode/utf8.first", "unicode/utf8.acceptRanges"], apart := false, laid := [("unicode/utf8.acceptRanges", laid_unicode_utf8_acceptRanges), ("unicode/utf8.first", laid_unicode_utf8_first)] }
def RatsMadeSaid : Prop := ratsMadeRow.holds Tryz.pinned (OpenSpec.ofChange ratsMadeSpec)

/-- ITS FALSE NEIGHBOUR: 'it returns false'. Refute it at one input. -/
def ratsMadeWrong : ChangeSpec := { name := "ratsMade", fn := fun _ => fun
  | [d1, d2, d3] => { results := [.lit (.bool false)], args := [d1, d2, d3] }
  | _ => none }
def RatsMadeWrongFalsely : Prop := ratsMadeRow.holds Tryz.pinned (OpenSpec.ofChange ratsMadeWrong)

/-- 'assayerlaw03.RatsSmall': WHATEVER THE INPUT: true; the input reads as it did. -/
def ratsSmallSpec : ChangeSpec := { name := "ratsSmall", fn := fun _ => fun
  | [d1, d2, d3] => { results := [.lit (.bool true)], args := [d1, d2, d3] }
  | _ => none }
def ratsSmallRow : OpenClaim := { program := "ythloknddhfphnaagreatdoor", sum := "4e1af0fed264b3bde3fb129c080155e3df56e9daa19cd5eaeca63b4ba8b254c2", func := "assayer/assayerlaw03.RatsSmall", spec := "ratsSmall", inPlace := ["internal/bytealg.IndexByteString", "internal/bytealg.IndexString", "internal/abi.NoEscape", "internal/bytealg.MakeNoZero"], unfollowed := true, recurses := true, named := ["internal/bytealg.MaxLen", "unicode/utf8.first", "unicode/utf8.acceptRanges"], apart := false, laid := [("unicode/utf8.acceptRanges", laid_unicode_utf8_acceptRanges), ("unicode/utf8.first", laid_unicode_utf8_first)] }
def RatsSmallSaid : Prop := ratsSmallRow.holds Tryz.pinned (OpenSpec.ofChange ratsSmallSpec)

/-- ITS FALSE NEIGHBOUR: 'it returns false'. Refute it at one input. -/
def ratsSmallWrong : ChangeSpec := { name := "ratsSmall", fn := fun _ => fun
  | [d1, d2, d3] => { results := [.lit (.bool false)], args := [d1, d2, d3] }
  | _ => none }
def RatsSmallWrongFalsely : Prop := ratsSmallRow.holds Tryz.pinned (OpenSpec.ofChange ratsSmallWrong)

/-- 'assayerlaw03.RatsBetween': WHATEVER THE INPUT: true; the input reads as it did. -/
def ratsBetweenSpec : ChangeSpec := { name := "ratsBetween", fn := fun _ => fun
  | [d1, d2, d3] => { results := [.lit (.bool true)], args := [d1, d2, d3] }
  | _ => none }
def ratsBetweenRow : OpenClaim := { program := "ythloknddhfphnaagreatdoor", sum := "4e1af0fed264b3bde3fb129c080155e3df56e9daa19cd5eaeca63b4ba8b254c2", func := "assayer/assayerlaw03.RatsBetween", spec := "ratsBetween", inPlace := ["internal/bytealg.IndexByteString", "internal/bytealg.IndexString", "internal/abi.NoEscape", "internal/bytealg.MakeNoZero"], unfollowed := true, recurses := true, named := ["internal/bytealg.MaxLen", "unicode/utf8.first", "unicode/utf8.acceptRanges"], apart := false, laid := [("unicode/utf8.acceptRanges", laid_unicode_utf8_acceptRanges), ("unicode/utf8.first", laid_unicode_utf8_first)] }
def RatsBetweenSaid : Prop := ratsBetweenRow.holds Tryz.pinned (OpenSpec.ofChange ratsBetweenSpec)

/-- ITS FALSE NEIGHBOUR: 'it returns false'. Refute it at one input. -/
def ratsBetweenWrong : ChangeSpec := { name := "ratsBetween", fn := fun _ => fun
  | [d1, d2, d3] => { results := [.lit (.bool false)], args := [d1, d2, d3] }
  | _ => none }
def RatsBetweenWrongFalsely : Prop := ratsBetweenRow.holds Tryz.pinned (OpenSpec.ofChange ratsBetweenWrong)

/- THE SECOND FORM. 'bulk': how many values and letters a reading holds, each counted each time it is reached (what is shared counts as often as it is met; a slice's spare places count too). A statement '..UptoSaid' is the law's where the arguments, and the package variables that the reading takes, are together of bulk at most 1048576: NARROWER than '..Said'. Prove '..Said' where nothing that the law and all that it calls make is longer than what came in: it says more and counts as full. Else prove '..UptoSaid'. A law counts once. -/
mutual
def uptoBulk {H : Type} : DataW H → Nat
  | .lit (.string bytes) => bytes.length + 1
  | .lit _ => 1
  | .nil => 1
  | .ptr d => uptoBulk d + 1
  | .slice elems spare => uptoBulkAll elems + uptoBulkAll spare + 1
  | .agg parts => uptoBulkAll parts + 1
  | .iface _ d => uptoBulk d + 1
  | .map entries => uptoBulkEntries entries + 1
  | .held _ => 1
def uptoBulkAll {H : Type} : List (DataW H) → Nat
  | [] => 0
  | d :: r => uptoBulk d + uptoBulkAll r
def uptoBulkEntries {H : Type} : List (Lit × DataW H) → Nat
  | [] => 0
  | x :: r => uptoBulkEntry x + uptoBulkEntries r
def uptoBulkEntry {H : Type} : Lit × DataW H → Nat
  | (.string bytes, d) => bytes.length + uptoBulk d + 1
  | (_, d) => uptoBulk d + 1
 end
def uptoSmall : (H : Type) → List (DataW H) → Bool := fun _ ds => decide (uptoBulkAll ds ≤ 1048576)
def OpenSpec.upto (s : _root_.Go.ChangeSpec) : _root_.Go.OpenSpec := { _root_.Go.OpenSpec.ofChange s with cond := some uptoSmall }

/-- 'assayerlaw03.RatsField', WHERE WHAT IT READS IS OF BULK AT MOST 1048576: true; the input reads as it did. -/
def ratsFieldUptoRow : OpenClaim := { program := "ythloknddhfphnaagreatdoor", sum := "4e1af0fed264b3bde3fb129c080155e3df56e9daa19cd5eaeca63b4ba8b254c2", func := "assayer/assayerlaw03.RatsField", spec := "ratsField", inPlace := ["internal/bytealg.IndexByteString", "internal/bytealg.IndexString", "internal/abi.NoEscape", "internal/bytealg.MakeNoZero"], unfollowed := true, recurses := true, named := ["internal/bytealg.MaxLen", "unicode/utf8.first", "unicode/utf8.acceptRanges"], apart := false, laid := [("unicode/utf8.acceptRanges", laid_unicode_utf8_acceptRanges), ("unicode/utf8.first", laid_unicode_utf8_first)], narrowed := true }
def RatsFieldUptoSaid : Prop := ratsFieldUptoRow.holds Tryz.pinned (OpenSpec.upto ratsFieldSpec)

/-- 'assayerlaw03.RatsUndone', WHERE WHAT IT READS IS OF BULK AT MOST 1048576: true; the input reads as it did. -/
def ratsUndoneUptoRow : OpenClaim := { program := "ythloknddhfphnaagreatdoor", sum := "4e1af0fed264b3bde3fb129c080155e3df56e9daa19cd5eaeca63b4ba8b254c2", func := "assayer/assayerlaw03.RatsUndone", spec := "ratsUndone", inPlace := ["internal/bytealg.IndexByteString", "internal/bytealg.IndexString", "internal/abi.NoEscape", "internal/bytealg.MakeNoZero"], unfollowed := true, recurses := true, named := ["internal/bytealg.MaxLen", "unicode/utf8.first", "unicode/utf8.acceptRanges"], apart := false, laid := [("unicode/utf8.acceptRanges", laid_unicode_utf8_acceptRanges), ("unicode/utf8.first", laid_unicode_utf8_first)], narrowed := true }
def RatsUndoneUptoSaid : Prop := ratsUndoneUptoRow.holds Tryz.pinned (OpenSpec.upto ratsUndoneSpec)

/-- 'assayerlaw03.RatsOrder', WHERE WHAT IT READS IS OF BULK AT MOST 1048576: true; the input reads as it did. -/
def ratsOrderUptoRow : OpenClaim := { program := "ythloknddhfphnaagreatdoor", sum := "4e1af0fed264b3bde3fb129c080155e3df56e9daa19cd5eaeca63b4ba8b254c2", func := "assayer/assayerlaw03.RatsOrder", spec := "ratsOrder", inPlace := ["internal/bytealg.IndexByteString", "internal/bytealg.IndexString", "internal/abi.NoEscape", "internal/bytealg.MakeNoZero"], unfollowed := true, recurses := true, named := ["internal/bytealg.MaxLen", "unicode/utf8.first", "unicode/utf8.acceptRanges"], apart := false, laid := [("unicode/utf8.acceptRanges", laid_unicode_utf8_acceptRanges), ("unicode/utf8.first", laid_unicode_utf8_first)], narrowed := true }
def RatsOrderUptoSaid : Prop := ratsOrderUptoRow.holds Tryz.pinned (OpenSpec.upto ratsOrderSpec)

/-- 'assayerlaw03.RatsFloors', WHERE WHAT IT READS IS OF BULK AT MOST 1048576: true; the input reads as it did. -/
def ratsFloorsUptoRow : OpenClaim := { program := "ythloknddhfphnaagreatdoor", sum := "4e1af0fed264b3bde3fb129c080155e3df56e9daa19cd5eaeca63b4ba8b254c2", func := "assayer/assayerlaw03.RatsFloors", spec := "ratsFloors", inPlace := ["internal/bytealg.IndexByteString", "internal/bytealg.IndexString", "internal/abi.NoEscape", "internal/bytealg.MakeNoZero"], unfollowed := true, recurses := true, named := ["internal/bytealg.MaxLen", "unicode/utf8.first", "unicode/utf8.acceptRanges"], apart := false, laid := [("unicode/utf8.acceptRanges", laid_unicode_utf8_acceptRanges), ("unicode/utf8.first", laid_unicode_utf8_first)], narrowed := true }
def RatsFloorsUptoSaid : Prop := ratsFloorsUptoRow.holds Tryz.pinned (OpenSpec.upto ratsFloorsSpec)

/-- 'assayerlaw03.RatsMade', WHERE WHAT IT READS IS OF BULK AT MOST 1048576: true; the input reads as it did. -/
def ratsMadeUptoRow : OpenClaim := { program := "ythloknddhfphnaagreatdoor", sum := "4e1af0fed264b3bde3fb129c080155e3df56e9daa19cd5eaeca63b4ba8b254c2", func := "assayer/assayerlaw03.RatsMade", spec := "ratsMade", inPlace := ["internal/bytealg.IndexByteString", "internal/bytealg.IndexString", "internal/abi.NoEscape", "internal/bytealg.MakeNoZero"], unfollowed := true, recurses := true, named := ["internal/bytealg.MaxLen", "unicode/utf8.first", "unicode/utf8.acceptRanges"], apart := false, laid := [("unicode/utf8.acceptRanges", laid_unicode_utf8_acceptRanges), ("unicode/utf8.first", laid_unicode_utf8_first)], narrowed := true }
def RatsMadeUptoSaid : Prop := ratsMadeUptoRow.holds Tryz.pinned (OpenSpec.upto ratsMadeSpec)

/-- 'assayerlaw03.RatsSmall', WHERE WHAT IT READS IS OF BULK AT MOST 1048576: true; the input reads as it did. -/
def ratsSmallUptoRow : OpenClaim := { program := "ythloknddhfphnaagreatdoor", sum := "4e1af0fed264b3bde3fb129c080155e3df56e9daa19cd5eaeca63b4ba8b254c2", func := "assayer/assayerlaw03.RatsSmall", spec := "ratsSmall", inPlace := ["internal/bytealg.IndexByteString", "internal/bytealg.IndexString", "internal/abi.NoEscape", "internal/bytealg.MakeNoZero"], unfollowed := true, recurses := true, named := ["internal/bytealg.MaxLen", "unicode/utf8.first", "unicode/utf8.acceptRanges"], apart := false, laid := [("unicode/utf8.acceptRanges", laid_unicode_utf8_acceptRanges), ("unicode/utf8.first", laid_unicode_utf8_first)], narrowed := true }
def RatsSmallUptoSaid : Prop := ratsSmallUptoRow.holds Tryz.pinned (OpenSpec.upto ratsSmallSpec)

/-- 'assayerlaw03.RatsBetween', WHERE WHAT IT READS IS OF BULK AT MOST 1048576: true; the input reads as it did. -/
def ratsBetweenUptoRow : OpenClaim := { program := "ythloknddhfphnaagreatdoor", sum := "4e1af0fed264b3bde3fb129c080155e3df56e9daa19cd5eaeca63b4ba8b254c2", func := "assayer/assayerlaw03.RatsBetween", spec := "ratsBetween", inPlace := ["internal/bytealg.IndexByteString", "internal/bytealg.IndexString", "internal/abi.NoEscape", "internal/bytealg.MakeNoZero"], unfollowed := true, recurses := true, named := ["internal/bytealg.MaxLen", "unicode/utf8.first", "unicode/utf8.acceptRanges"], apart := false, laid := [("unicode/utf8.acceptRanges", laid_unicode_utf8_acceptRanges), ("unicode/utf8.first", laid_unicode_utf8_first)], narrowed := true }
def RatsBetweenUptoSaid : Prop := ratsBetweenUptoRow.holds Tryz.pinned (OpenSpec.upto ratsBetweenSpec)

end Rows
end Go.Proofs.YthloknddhfphnaaGreatDoor
