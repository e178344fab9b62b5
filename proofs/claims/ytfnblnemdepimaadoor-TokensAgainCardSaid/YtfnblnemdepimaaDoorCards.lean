/-
  DERIVED. GIVEN WITH THE SEED: THE CARDS: each row of YtfnblnemdepimaaDoorRows.lean that lists a variable, with what it lists TIED to the program's text (the seventh form; the later family's looks); each row that meets fmt, with fmt's text TOLD by the authors' own Lean function (tested against real Go, not proved from fmt's source: count such statements apart). THE CARD IS WHAT COUNTS. Prove the row's statement (the work); the ties are given (YtfnblnemdepimaaDoorTie.lean); close each card by the builder's one call (the guide's Derived/Test/ToyasCard.lean, 'card_holds'). Laid BY PROGRAM, IN A SANDBOX (cutbox-door.mjs). By AI agents, Wed Nov 11 2026. No macro, syntax, notation, axiom, sorry.
-/
import Derived.Test.YtfnblnemdepimaaDoorRows
import GoSem.ClaimSeven
namespace Go.Proofs.YtfnblnemdepimaaDoor
namespace Rows

/-- THE TIED CARD OF 'assayerlaw06.TokensPlaces'. -/
def tokensPlacesCard : Claim7 := { stood := { row := tokensPlacesRow, standIns := [], harness := (true, "da1d498ba714938780b5bda9775e0f6a5aabbd5673227ff639ecd0c382496f02"), looks := false }, kinds := [], alts := [], laidByText := true, laidKinds := [.data], laidTests := true, laidLooks := .later }
def TokensPlacesCardSaid : Prop := Claim7.holds Tryd.pinned (.plain (OpenSpec.ofChange tokensPlacesSpec)) tokensPlacesCard

/-- THE TIED CARD OF 'assayerlaw06.TokensAgain'. -/
def tokensAgainCard : Claim7 := { stood := { row := tokensAgainRow, standIns := [], harness := (true, "da1d498ba714938780b5bda9775e0f6a5aabbd5673227ff639ecd0c382496f02"), looks := false }, kinds := [], alts := [], laidByText := true, laidKinds := [.data], laidTests := true, laidLooks := .later }
def TokensAgainCardSaid : Prop := Claim7.holds Tryd.pinned (.plain (OpenSpec.ofChange tokensAgainSpec)) tokensAgainCard

/-- THE TIED CARD OF 'assayerlaw06.TokensJoins'. -/
def tokensJoinsCard : Claim7 := { stood := { row := tokensJoinsRow, standIns := [], harness := (true, "da1d498ba714938780b5bda9775e0f6a5aabbd5673227ff639ecd0c382496f02"), looks := false }, kinds := [], alts := [], laidByText := true, laidKinds := [.data], laidTests := true, laidLooks := .later }
def TokensJoinsCardSaid : Prop := Claim7.holds Tryd.pinned (.plain (OpenSpec.ofChange tokensJoinsSpec)) tokensJoinsCard

/-- THE TIED CARD OF 'assayerlaw06.TokensAhead'. -/
def tokensAheadCard : Claim7 := { stood := { row := tokensAheadRow, standIns := [], harness := (true, "da1d498ba714938780b5bda9775e0f6a5aabbd5673227ff639ecd0c382496f02"), looks := false }, kinds := [], alts := [], laidByText := true, laidKinds := [.data], laidTests := true, laidLooks := .later }
def TokensAheadCardSaid : Prop := Claim7.holds Tryd.pinned (.plain (OpenSpec.ofChange tokensAheadSpec)) tokensAheadCard

/-- THE TIED CARD OF 'assayerlaw06.TokensWords'. -/
def tokensWordsCard : Claim7 := { stood := { row := tokensWordsRow, standIns := [], harness := (true, "da1d498ba714938780b5bda9775e0f6a5aabbd5673227ff639ecd0c382496f02"), looks := false }, kinds := [], alts := [], laidByText := true, laidKinds := [.data], laidTests := true, laidLooks := .later }
def TokensWordsCardSaid : Prop := Claim7.holds Tryd.pinned (.plain (OpenSpec.ofChange tokensWordsSpec)) tokensWordsCard

/-- THE TIED CARD OF 'assayerlaw06.TokensNumbers'. -/
def tokensNumbersCard : Claim7 := { stood := { row := tokensNumbersRow, standIns := [], harness := (true, "da1d498ba714938780b5bda9775e0f6a5aabbd5673227ff639ecd0c382496f02"), looks := false }, kinds := [], alts := [], laidByText := true, laidKinds := [.data], laidTests := true, laidLooks := .later }
def TokensNumbersCardSaid : Prop := Claim7.holds Tryd.pinned (.plain (OpenSpec.ofChange tokensNumbersSpec)) tokensNumbersCard

/-- THE SECOND FORM's CARD OF 'assayerlaw06.TokensPlaces'. -/
def tokensPlacesUptoCard : Claim7 := { stood := { row := tokensPlacesUptoRow, standIns := [], harness := (true, "da1d498ba714938780b5bda9775e0f6a5aabbd5673227ff639ecd0c382496f02"), looks := false }, kinds := [], alts := [], laidByText := true, laidKinds := [.data], laidTests := true, laidLooks := .later }
def TokensPlacesUptoCardSaid : Prop := Claim7.holds Tryd.pinned (.plain (OpenSpec.upto tokensPlacesSpec)) tokensPlacesUptoCard

/-- THE SECOND FORM's CARD OF 'assayerlaw06.TokensAgain'. -/
def tokensAgainUptoCard : Claim7 := { stood := { row := tokensAgainUptoRow, standIns := [], harness := (true, "da1d498ba714938780b5bda9775e0f6a5aabbd5673227ff639ecd0c382496f02"), looks := false }, kinds := [], alts := [], laidByText := true, laidKinds := [.data], laidTests := true, laidLooks := .later }
def TokensAgainUptoCardSaid : Prop := Claim7.holds Tryd.pinned (.plain (OpenSpec.upto tokensAgainSpec)) tokensAgainUptoCard

/-- THE SECOND FORM's CARD OF 'assayerlaw06.TokensJoins'. -/
def tokensJoinsUptoCard : Claim7 := { stood := { row := tokensJoinsUptoRow, standIns := [], harness := (true, "da1d498ba714938780b5bda9775e0f6a5aabbd5673227ff639ecd0c382496f02"), looks := false }, kinds := [], alts := [], laidByText := true, laidKinds := [.data], laidTests := true, laidLooks := .later }
def TokensJoinsUptoCardSaid : Prop := Claim7.holds Tryd.pinned (.plain (OpenSpec.upto tokensJoinsSpec)) tokensJoinsUptoCard

/-- THE SECOND FORM's CARD OF 'assayerlaw06.TokensAhead'. -/
def tokensAheadUptoCard : Claim7 := { stood := { row := tokensAheadUptoRow, standIns := [], harness := (true, "da1d498ba714938780b5bda9775e0f6a5aabbd5673227ff639ecd0c382496f02"), looks := false }, kinds := [], alts := [], laidByText := true, laidKinds := [.data], laidTests := true, laidLooks := .later }
def TokensAheadUptoCardSaid : Prop := Claim7.holds Tryd.pinned (.plain (OpenSpec.upto tokensAheadSpec)) tokensAheadUptoCard

/-- THE SECOND FORM's CARD OF 'assayerlaw06.TokensWords'. -/
def tokensWordsUptoCard : Claim7 := { stood := { row := tokensWordsUptoRow, standIns := [], harness := (true, "da1d498ba714938780b5bda9775e0f6a5aabbd5673227ff639ecd0c382496f02"), looks := false }, kinds := [], alts := [], laidByText := true, laidKinds := [.data], laidTests := true, laidLooks := .later }
def TokensWordsUptoCardSaid : Prop := Claim7.holds Tryd.pinned (.plain (OpenSpec.upto tokensWordsSpec)) tokensWordsUptoCard

/-- THE SECOND FORM's CARD OF 'assayerlaw06.TokensNumbers'. -/
def tokensNumbersUptoCard : Claim7 := { stood := { row := tokensNumbersUptoRow, standIns := [], harness := (true, "da1d498ba714938780b5bda9775e0f6a5aabbd5673227ff639ecd0c382496f02"), looks := false }, kinds := [], alts := [], laidByText := true, laidKinds := [.data], laidTests := true, laidLooks := .later }
def TokensNumbersUptoCardSaid : Prop := Claim7.holds Tryd.pinned (.plain (OpenSpec.upto tokensNumbersSpec)) tokensNumbersUptoCard
end Rows
end Go.Proofs.YtfnblnemdepimaaDoor
