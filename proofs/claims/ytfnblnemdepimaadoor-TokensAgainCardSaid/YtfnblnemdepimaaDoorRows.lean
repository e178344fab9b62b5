/-
  NARROWER THAN 'FOR EVERY INPUT', by the rows' own cells (each row's printed sentence says how): TokensPlaces: laid · TokensAgain: laid · TokensJoins: laid · TokensAhead: laid · TokensWords: laid · TokensNumbers: laid.
  DERIVED. THE GIVEN ROWS OF THIS SEAT. 6 by the template 'for every input the law returns true; each argument reads behind the call as it read before'; 0 by the template 'total and deterministic' (their statements: YtfnblnemdepimaaDoorTotals.lean).
  GIVEN WITH THE SEED: the statements are not yours to turn. If you find one false, say at which input.
  Laid BY PROGRAM, IN A SANDBOX (cutbox-rows.mjs): the forced cells as the released guide's own fill.sh prints them over the translation b737681d615e857e… (all of the seat's roots in one cut). By AI agents, Wed Nov 11 2026. No macro, syntax, notation, axiom, sorry.
-/
import Derived.Test.YtfnblnemdepimaaDoorChecked
import GoSem.Claim
import GoSem.ClaimJoined
import GoSem.ClaimMapViews
import Derived.JoinedTies
import Derived.KernelRfl
namespace Go.Proofs.YtfnblnemdepimaaDoor
/- THE CELL 'sum', in the pinned program and in every row, IS THE sha256 OF THE DUMP (.gsa) THAT YtfnblnemdepimaaDoorProg.lean LOADS. Nothing in Lean hashes anything: it is a label: what it is worth is what the hold of that sum in a sandbox is worth. -/
noncomputable def Tryd.pinned : Pinned := { name := "ytfnblnemdepimaadoor", sum := "b737681d615e857e5ac9e5db23db5cb98c5fb69cefc948676bf0725bd9afa492", checked := Tryd.checked }
namespace Rows
def none {H : Type} : Left H := { results := [], args := [] }

/- WHAT THE LISTED PACKAGE-LEVEL VARIABLES READ AS WHEN THE CALL BEGINS. Each datum BY PROGRAM (the guide's laid-datum.mjs) off the statement by which the dump's own 'gosem.cut.vars' lays the variable. In a bare row this is a premise. The card (YtfnblnemdepimaaDoorCards.lean) ties it to the program's text. -/
def laid_assayer_tokens_allSigns {H : Type} : DataW H := .agg [.lit (.string [60, 61]), .lit (.string [62, 61]), .lit (.string [43]), .lit (.string [45]), .lit (.string [42]), .lit (.string [47]), .lit (.string [44]), .lit (.string [58]), .lit (.string [59]), .lit (.string [61]), .lit (.string [40]), .lit (.string [41]), .lit (.string [91]), .lit (.string [93])]

/-- 'assayerlaw06.TokensPlaces': WHATEVER THE INPUT: true; the input reads as it did. -/
def tokensPlacesSpec : ChangeSpec := { name := "tokensPlaces", fn := fun _ => fun
  | [d] => { results := [.lit (.bool true)], args := [d] }
  | _ => none }
def tokensPlacesRow : OpenClaim := { program := "ytfnblnemdepimaadoor", sum := "b737681d615e857e5ac9e5db23db5cb98c5fb69cefc948676bf0725bd9afa492", func := "assayer/assayerlaw06.TokensPlaces", spec := "tokensPlaces", inPlace := ["internal/bytealg.IndexByteString", "internal/bytealg.IndexString"], unfollowed := true, recurses := true, named := ["internal/bytealg.MaxLen", "assayer/tokens.allSigns"], apart := false, laid := [("assayer/tokens.allSigns", laid_assayer_tokens_allSigns)] }
def TokensPlacesSaid : Prop := tokensPlacesRow.holds Tryd.pinned (OpenSpec.ofChange tokensPlacesSpec)

/-- ITS FALSE NEIGHBOUR: 'it returns false'. Refute it at one input. -/
def tokensPlacesWrong : ChangeSpec := { name := "tokensPlaces", fn := fun _ => fun
  | [d] => { results := [.lit (.bool false)], args := [d] }
  | _ => none }
def TokensPlacesWrongFalsely : Prop := tokensPlacesRow.holds Tryd.pinned (OpenSpec.ofChange tokensPlacesWrong)

/-- 'assayerlaw06.TokensAgain': WHATEVER THE INPUT: true; the input reads as it did. -/
def tokensAgainSpec : ChangeSpec := { name := "tokensAgain", fn := fun _ => fun
  | [d1, d2] => { results := [.lit (.bool true)], args := [d1, d2] }
  | _ => none }
def tokensAgainRow : OpenClaim := { program := "ytfnblnemdepimaadoor", sum := "b737681d615e857e5ac9e5db23db5cb98c5fb69cefc948676bf0725bd9afa492", func := "assayer/assayerlaw06.TokensAgain", spec := "tokensAgain", inPlace := ["internal/bytealg.IndexByteString", "internal/bytealg.IndexString"], unfollowed := true, recurses := true, named := ["internal/bytealg.MaxLen", "assayer/tokens.allSigns"], apart := false, laid := [("assayer/tokens.allSigns", laid_assayer_tokens_allSigns)] }
def TokensAgainSaid : Prop := tokensAgainRow.holds Tryd.pinned (OpenSpec.ofChange tokensAgainSpec)

/-- ITS FALSE NEIGHBOUR: 'it returns false'. Refute it at one input. -/
def tokensAgainWrong : ChangeSpec := { name := "tokensAgain", fn := fun _ => fun
  | [d1, d2] => { results := [.lit (.bool false)], args := [d1, d2] }
  | _ => none }
def TokensAgainWrongFalsely : Prop := tokensAgainRow.holds Tryd.pinned (OpenSpec.ofChange tokensAgainWrong)

/-- 'assayerlaw06.TokensJoins': WHATEVER THE INPUT: true; the input reads as it did. -/
def tokensJoinsSpec : ChangeSpec := { name := "tokensJoins", fn := fun _ => fun
  | [d1, d2] => { results := [.lit (.bool true)], args := [d1, d2] }
  | _ => none }
def tokensJoinsRow : OpenClaim := { program := "ytfnblnemdepimaadoor", sum := "b737681d615e857e5ac9e5db23db5cb98c5fb69cefc948676bf0725bd9afa492", func := "assayer/assayerlaw06.TokensJoins", spec := "tokensJoins", inPlace := ["internal/bytealg.IndexByteString", "internal/bytealg.IndexString"], unfollowed := true, recurses := true, named := ["internal/bytealg.MaxLen", "assayer/tokens.allSigns"], apart := false, laid := [("assayer/tokens.allSigns", laid_assayer_tokens_allSigns)] }
def TokensJoinsSaid : Prop := tokensJoinsRow.holds Tryd.pinned (OpenSpec.ofChange tokensJoinsSpec)

/-- ITS FALSE NEIGHBOUR: 'it returns false'. Refute it at one input. -/
def tokensJoinsWrong : ChangeSpec := { name := "tokensJoins", fn := fun _ => fun
  | [d1, d2] => { results := [.lit (.bool false)], args := [d1, d2] }
  | _ => none }
def TokensJoinsWrongFalsely : Prop := tokensJoinsRow.holds Tryd.pinned (OpenSpec.ofChange tokensJoinsWrong)

/-- 'assayerlaw06.TokensAhead': WHATEVER THE INPUT: true; the input reads as it did. -/
def tokensAheadSpec : ChangeSpec := { name := "tokensAhead", fn := fun _ => fun
  | [d1, d2] => { results := [.lit (.bool true)], args := [d1, d2] }
  | _ => none }
def tokensAheadRow : OpenClaim := { program := "ytfnblnemdepimaadoor", sum := "b737681d615e857e5ac9e5db23db5cb98c5fb69cefc948676bf0725bd9afa492", func := "assayer/assayerlaw06.TokensAhead", spec := "tokensAhead", inPlace := ["internal/bytealg.IndexByteString", "internal/bytealg.IndexString"], unfollowed := true, recurses := true, named := ["internal/bytealg.MaxLen", "assayer/tokens.allSigns"], apart := false, laid := [("assayer/tokens.allSigns", laid_assayer_tokens_allSigns)] }
def TokensAheadSaid : Prop := tokensAheadRow.holds Tryd.pinned (OpenSpec.ofChange tokensAheadSpec)

/-- ITS FALSE NEIGHBOUR: 'it returns false'. Refute it at one input. -/
def tokensAheadWrong : ChangeSpec := { name := "tokensAhead", fn := fun _ => fun
  | [d1, d2] => { results := [.lit (.bool false)], args := [d1, d2] }
  | _ => none }
def TokensAheadWrongFalsely : Prop := tokensAheadRow.holds Tryd.pinned (OpenSpec.ofChange tokensAheadWrong)

/-- 'assayerlaw06.TokensWords': WHATEVER THE INPUT: true; the input reads as it did. -/
def tokensWordsSpec : ChangeSpec := { name := "tokensWords", fn := fun _ => fun
  | [d1, d2] => { results := [.lit (.bool true)], args := [d1, d2] }
  | _ => none }
def tokensWordsRow : OpenClaim := { program := "ytfnblnemdepimaadoor", sum := "b737681d615e857e5ac9e5db23db5cb98c5fb69cefc948676bf0725bd9afa492", func := "assayer/assayerlaw06.TokensWords", spec := "tokensWords", inPlace := ["internal/bytealg.IndexByteString", "internal/bytealg.IndexString"], unfollowed := true, recurses := true, named := ["internal/bytealg.MaxLen", "assayer/tokens.allSigns"], apart := false, laid := [("assayer/tokens.allSigns", laid_assayer_tokens_allSigns)] }
def TokensWordsSaid : Prop := tokensWordsRow.holds Tryd.pinned (OpenSpec.ofChange tokensWordsSpec)

/-- ITS FALSE NEIGHBOUR: 'it returns false'. Refute it at one input. -/
def tokensWordsWrong : ChangeSpec := { name := "tokensWords", fn := fun _ => fun
  | [d1, d2] => { results := [.lit (.bool false)], args := [d1, d2] }
  | _ => none }
def TokensWordsWrongFalsely : Prop := tokensWordsRow.holds Tryd.pinned (OpenSpec.ofChange tokensWordsWrong)

/-- 'assayerlaw06.TokensNumbers': WHATEVER THE INPUT: true; the input reads as it did. -/
def tokensNumbersSpec : ChangeSpec := { name := "tokensNumbers", fn := fun _ => fun
  | [d1, d2, d3] => { results := [.lit (.bool true)], args := [d1, d2, d3] }
  | _ => none }
def tokensNumbersRow : OpenClaim := { program := "ytfnblnemdepimaadoor", sum := "b737681d615e857e5ac9e5db23db5cb98c5fb69cefc948676bf0725bd9afa492", func := "assayer/assayerlaw06.TokensNumbers", spec := "tokensNumbers", inPlace := ["internal/bytealg.IndexByteString", "internal/bytealg.IndexString"], unfollowed := true, recurses := true, named := ["internal/bytealg.MaxLen", "assayer/tokens.allSigns"], apart := false, laid := [("assayer/tokens.allSigns", laid_assayer_tokens_allSigns)] }
def TokensNumbersSaid : Prop := tokensNumbersRow.holds Tryd.pinned (OpenSpec.ofChange tokensNumbersSpec)

/-- ITS FALSE NEIGHBOUR: 'it returns false'. Refute it at one input. -/
def tokensNumbersWrong : ChangeSpec := { name := "tokensNumbers", fn := fun _ => fun
  | [d1, d2, d3] => { results := [.lit (.bool false)], args := [d1, d2, d3] }
  | _ => none }
def TokensNumbersWrongFalsely : Prop := tokensNumbersRow.holds Tryd.pinned (OpenSpec.ofChange tokensNumbersWrong)

/- THE SECOND FORM. 'bulk': how many values and letters a reading holds, each counted each time it is reached (what is shared counts as often as it is met; a slice's spare places count too). A statement '..UptoSaid' is the law's where the arguments, and the package variables that the reading takes, are together of bulk at most 1048576: NARROWER than '..Said'. Prove '..Said' where nothing that the law and all that it calls make is longer than what came in: it says more and counts as full. Else prove '..UptoSaid'. A law counts once. -/
mutual
def uptoBulk {H : Type} : DataW H → Nat
  | .lit (.string bytes) => bytes.length + 1
  | .lit _ => 1
  | .nil => 1
  | .ptr d => uptoBulk d + 1
  | .slice elems spare => uptoBulkAll elems + uptoBulkAll spare + 1
  | .agg parts => uptoBulkAll parts + 1
  | .iface _ d => uptoBulk d + 1
  | .map entries => uptoBulkEntries entries + 1
  | .held _ => 1
def uptoBulkAll {H : Type} : List (DataW H) → Nat
  | [] => 0
  | d :: r => uptoBulk d + uptoBulkAll r
def uptoBulkEntries {H : Type} : List (Lit × DataW H) → Nat
  | [] => 0
  | x :: r => uptoBulkEntry x + uptoBulkEntries r
def uptoBulkEntry {H : Type} : Lit × DataW H → Nat
  | (.string bytes, d) => bytes.length + uptoBulk d + 1
  | (_, d) => uptoBulk d + 1
 end
def uptoSmall : (H : Type) → List (DataW H) → Bool := fun _ ds => decide (uptoBulkAll ds ≤ 1048576)
def OpenSpec.upto (s : _root_.Go.ChangeSpec) : _root_.Go.OpenSpec := { _root_.Go.OpenSpec.ofChange s with cond := some uptoSmall }

/-- 'assayerlaw06.TokensPlaces', WHERE WHAT IT READS IS OF BULK AT MOST 1048576: true; the input reads as it did. -/
def tokensPlacesUptoRow : OpenClaim := { program := "ytfnblnemdepimaadoor", sum := "b737681d615e857e5ac9e5db23db5cb98c5fb69cefc948676bf0725bd9afa492", func := "assayer/assayerlaw06.TokensPlaces", spec := "tokensPlaces", inPlace := ["internal/bytealg.IndexByteString", "internal/bytealg.IndexString"], unfollowed := true, recurses := true, named := ["internal/bytealg.MaxLen", "assayer/tokens.allSigns"], apart := false, laid := [("assayer/tokens.allSigns", laid_assayer_tokens_allSigns)], narrowed := true }
def TokensPlacesUptoSaid : Prop := tokensPlacesUptoRow.holds Tryd.pinned (OpenSpec.upto tokensPlacesSpec)

/-- 'assayerlaw06.TokensAgain', WHERE WHAT IT READS IS OF BULK AT MOST 1048576: true; the input reads as it did. -/
def tokensAgainUptoRow : OpenClaim := { program := "ytfnblnemdepimaadoor", sum := "b737681d615e857e5ac9e5db23db5cb98c5fb69cefc948676bf0725bd9afa492", func := "assayer/assayerlaw06.TokensAgain", spec := "tokensAgain", inPlace := ["internal/bytealg.IndexByteString", "internal/bytealg.IndexString"], unfollowed := true, recurses := true, named := ["internal/bytealg.MaxLen", "assayer/tokens.allSigns"], apart := false, laid := [("assayer/tokens.allSigns", laid_assayer_tokens_allSigns)], narrowed := true }
def TokensAgainUptoSaid : Prop := tokensAgainUptoRow.holds Tryd.pinned (OpenSpec.upto tokensAgainSpec)

/-- 'assayerlaw06.TokensJoins', WHERE WHAT IT READS IS OF BULK AT MOST 1048576: true; the input reads as it did. -/
def tokensJoinsUptoRow : OpenClaim := { program := "ytfnblnemdepimaadoor", sum := "b737681d615e857e5ac9e5db23db5cb98c5fb69cefc948676bf0725bd9afa492", func := "assayer/assayerlaw06.TokensJoins", spec := "tokensJoins", inPlace := ["internal/bytealg.IndexByteString", "internal/bytealg.IndexString"], unfollowed := true, recurses := true, named := ["internal/bytealg.MaxLen", "assayer/tokens.allSigns"], apart := false, laid := [("assayer/tokens.allSigns", laid_assayer_tokens_allSigns)], narrowed := true }
def TokensJoinsUptoSaid : Prop := tokensJoinsUptoRow.holds Tryd.pinned (OpenSpec.upto tokensJoinsSpec)

/-- 'assayerlaw06.TokensAhead', WHERE WHAT IT READS IS OF BULK AT MOST 1048576: true; the input reads as it did. -/
def tokensAheadUptoRow : OpenClaim := { program := "ytfnblnemdepimaadoor", sum := "b737681d615e857e5ac9e5db23db5cb98c5fb69cefc948676bf0725bd9afa492", func := "assayer/assayerlaw06.TokensAhead", spec := "tokensAhead", inPlace := ["internal/bytealg.IndexByteString", "internal/bytealg.IndexString"], unfollowed := true, recurses := true, named := ["internal/bytealg.MaxLen", "assayer/tokens.allSigns"], apart := false, laid := [("assayer/tokens.allSigns", laid_assayer_tokens_allSigns)], narrowed := true }
def TokensAheadUptoSaid : Prop := tokensAheadUptoRow.holds Tryd.pinned (OpenSpec.upto tokensAheadSpec)

/-- 'assayerlaw06.TokensWords', WHERE WHAT IT READS IS OF BULK AT MOST 1048576: true; the input reads as it did. -/
def tokensWordsUptoRow : OpenClaim := { program := "ytfnblnemdepimaadoor", sum := "b737681d615e857e5ac9e5db23db5cb98c5fb69cefc948676bf0725bd9afa492", func := "assayer/assayerlaw06.TokensWords", spec := "tokensWords", inPlace := ["internal/bytealg.IndexByteString", "internal/bytealg.IndexString"], unfollowed := true, recurses := true, named := ["internal/bytealg.MaxLen", "assayer/tokens.allSigns"], apart := false, laid := [("assayer/tokens.allSigns", laid_assayer_tokens_allSigns)], narrowed := true }
def TokensWordsUptoSaid : Prop := tokensWordsUptoRow.holds Tryd.pinned (OpenSpec.upto tokensWordsSpec)

/-- 'assayerlaw06.TokensNumbers', WHERE WHAT IT READS IS OF BULK AT MOST 1048576: true; the input reads as it did. -/
def tokensNumbersUptoRow : OpenClaim := { program := "ytfnblnemdepimaadoor", sum := "b737681d615e857e5ac9e5db23db5cb98c5fb69cefc948676bf0725bd9afa492", func := "assayer/assayerlaw06.TokensNumbers", spec := "tokensNumbers", inPlace := ["internal/bytealg.IndexByteString", "internal/bytealg.IndexString"], unfollowed := true, recurses := true, named := ["internal/bytealg.MaxLen", "assayer/tokens.allSigns"], apart := false, laid := [("assayer/tokens.allSigns", laid_assayer_tokens_allSigns)], narrowed := true }
def TokensNumbersUptoSaid : Prop := tokensNumbersUptoRow.holds Tryd.pinned (OpenSpec.upto tokensNumbersSpec)

end Rows
end Go.Proofs.YtfnblnemdepimaaDoor
