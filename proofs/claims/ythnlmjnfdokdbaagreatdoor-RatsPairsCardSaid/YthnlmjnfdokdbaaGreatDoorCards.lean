/-
  DERIVED. GIVEN WITH THE SEED: THE CARDS: each row of YthnlmjnfdokdbaaGreatDoorRows.lean that lists a variable, with what it lists TIED to the program's text (the seventh form; the later family's looks); each row that meets fmt, with fmt's text TOLD by the authors' own Lean function (tested against real Go, not proved from fmt's source: count such statements apart). THE CARD IS WHAT COUNTS. Prove the row's statement (the work); the ties are given (YthnlmjnfdokdbaaGreatDoorTie.lean); close each card by the builder's one call (the guide's Derived/Test/ToyasCard.lean, 'card_holds'). Laid BY PROGRAM, IN A SANDBOX (cutbox-door.mjs). By AI agents, Wed Nov 11 2026. No macro, syntax, notation, axiom, sorry.
-/
import Derived.Test.YthnlmjnfdokdbaaGreatDoorRows
import GoSem.ClaimSeven
namespace Go.Proofs.YthnlmjnfdokdbaaGreatDoor
namespace Rows

/-- THE TIED CARD OF 'assayerlaw03.RatsPairs'. -/
def ratsPairsCard : Claim7 := { stood := { row := ratsPairsRow, standIns := [], harness := (true, "0db678060923a09a8ddaabff440c74b566015735713b191fcb9a7f6450279504"), looks := false }, kinds := [], alts := [], laidByText := true, laidKinds := [.data, .data, .data], laidTests := true, laidLooks := .later }
def RatsPairsCardSaid : Prop := Claim7.holds Tryz.pinned (.plain (OpenSpec.ofChange ratsPairsSpec)) ratsPairsCard

/-- THE TIED CARD OF 'assayerlaw03.RatsMakes'. -/
def ratsMakesCard : Claim7 := { stood := { row := ratsMakesRow, standIns := [], harness := (true, "0db678060923a09a8ddaabff440c74b566015735713b191fcb9a7f6450279504"), looks := false }, kinds := [], alts := [], laidByText := true, laidKinds := [.data, .data, .data], laidTests := true, laidLooks := .later }
def RatsMakesCardSaid : Prop := Claim7.holds Tryz.pinned (.plain (OpenSpec.ofChange ratsMakesSpec)) ratsMakesCard

/-- THE TIED CARD OF 'assayerlaw03.RatsTexts'. -/
def ratsTextsCard : Claim7 := { stood := { row := ratsTextsRow, standIns := [], harness := (true, "0db678060923a09a8ddaabff440c74b566015735713b191fcb9a7f6450279504"), looks := false }, kinds := [], alts := [], laidByText := true, laidKinds := [.data, .data, .data, .data, .pinned], laidTests := true, laidLooks := .later }
def RatsTextsCardSaid : Prop := Claim7.holds Tryz.pinned (.plain (OpenSpec.ofChange ratsTextsSpec)) ratsTextsCard

/-- THE TIED CARD OF 'assayerlaw03.RatsRead'. -/
def ratsReadCard : Claim7 := { stood := { row := ratsReadRow, standIns := [], harness := (true, "0db678060923a09a8ddaabff440c74b566015735713b191fcb9a7f6450279504"), looks := false }, kinds := [], alts := [], laidByText := true, laidKinds := [.data, .pinned], laidTests := true, laidLooks := .later }
def RatsReadCardSaid : Prop := Claim7.holds Tryz.pinned (.plain (OpenSpec.ofChange ratsReadSpec)) ratsReadCard

/-- THE TIED CARD OF 'assayerlaw03.RatsPoints'. -/
def ratsPointsCard : Claim7 := { stood := { row := ratsPointsRow, standIns := [], harness := (true, "0db678060923a09a8ddaabff440c74b566015735713b191fcb9a7f6450279504"), looks := false }, kinds := [], alts := [], laidByText := true, laidKinds := [.data, .pinned], laidTests := true, laidLooks := .later }
def RatsPointsCardSaid : Prop := Claim7.holds Tryz.pinned (.plain (OpenSpec.ofChange ratsPointsSpec)) ratsPointsCard

/-- THE SECOND FORM's CARD OF 'assayerlaw03.RatsPairs'. -/
def ratsPairsUptoCard : Claim7 := { stood := { row := ratsPairsUptoRow, standIns := [], harness := (true, "0db678060923a09a8ddaabff440c74b566015735713b191fcb9a7f6450279504"), looks := false }, kinds := [], alts := [], laidByText := true, laidKinds := [.data, .data, .data], laidTests := true, laidLooks := .later }
def RatsPairsUptoCardSaid : Prop := Claim7.holds Tryz.pinned (.plain (OpenSpec.upto ratsPairsSpec)) ratsPairsUptoCard

/-- THE SECOND FORM's CARD OF 'assayerlaw03.RatsMakes'. -/
def ratsMakesUptoCard : Claim7 := { stood := { row := ratsMakesUptoRow, standIns := [], harness := (true, "0db678060923a09a8ddaabff440c74b566015735713b191fcb9a7f6450279504"), looks := false }, kinds := [], alts := [], laidByText := true, laidKinds := [.data, .data, .data], laidTests := true, laidLooks := .later }
def RatsMakesUptoCardSaid : Prop := Claim7.holds Tryz.pinned (.plain (OpenSpec.upto ratsMakesSpec)) ratsMakesUptoCard

/-- THE SECOND FORM's CARD OF 'assayerlaw03.RatsTexts'. -/
def ratsTextsUptoCard : Claim7 := { stood := { row := ratsTextsUptoRow, standIns := [], harness := (true, "0db678060923a09a8ddaabff440c74b566015735713b191fcb9a7f6450279504"), looks := false }, kinds := [], alts := [], laidByText := true, laidKinds := [.data, .data, .data, .data, .pinned], laidTests := true, laidLooks := .later }
def RatsTextsUptoCardSaid : Prop := Claim7.holds Tryz.pinned (.plain (OpenSpec.upto ratsTextsSpec)) ratsTextsUptoCard

/-- THE SECOND FORM's CARD OF 'assayerlaw03.RatsRead'. -/
def ratsReadUptoCard : Claim7 := { stood := { row := ratsReadUptoRow, standIns := [], harness := (true, "0db678060923a09a8ddaabff440c74b566015735713b191fcb9a7f6450279504"), looks := false }, kinds := [], alts := [], laidByText := true, laidKinds := [.data, .pinned], laidTests := true, laidLooks := .later }
def RatsReadUptoCardSaid : Prop := Claim7.holds Tryz.pinned (.plain (OpenSpec.upto ratsReadSpec)) ratsReadUptoCard

/-- THE SECOND FORM's CARD OF 'assayerlaw03.RatsPoints'. -/
def ratsPointsUptoCard : Claim7 := { stood := { row := ratsPointsUptoRow, standIns := [], harness := (true, "0db678060923a09a8ddaabff440c74b566015735713b191fcb9a7f6450279504"), looks := false }, kinds := [], alts := [], laidByText := true, laidKinds := [.data, .pinned], laidTests := true, laidLooks := .later }
def RatsPointsUptoCardSaid : Prop := Claim7.holds Tryz.pinned (.plain (OpenSpec.upto ratsPointsSpec)) ratsPointsUptoCard
end Rows
end Go.Proofs.YthnlmjnfdokdbaaGreatDoor
