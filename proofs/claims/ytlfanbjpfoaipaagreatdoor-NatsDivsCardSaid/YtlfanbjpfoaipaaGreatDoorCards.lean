/-
  DERIVED. GIVEN WITH THE SEED: THE CARDS: each row of YtlfanbjpfoaipaaGreatDoorRows.lean that lists a variable, with what it lists TIED to the program's text (the seventh form; the later family's looks); each row that meets fmt, with fmt's text TOLD by the authors' own Lean function (tested against real Go, not proved from fmt's source: count such statements apart). THE CARD IS WHAT COUNTS. Prove the row's statement (the work); the ties are given (YtlfanbjpfoaipaaGreatDoorTie.lean); close each card by the builder's one call (the guide's Derived/Test/ToyasCard.lean, 'card_holds'). Laid BY PROGRAM, IN A SANDBOX (cutbox-door.mjs). By AI agents, Wed Nov 11 2026. No macro, syntax, notation, axiom, sorry.
-/
import Derived.Test.YtlfanbjpfoaipaaGreatDoorRows
import GoSem.ClaimSeven
namespace Go.Proofs.YtlfanbjpfoaipaaGreatDoor
namespace Rows

/-- THE TIED CARD OF 'assayerlaw01.NatsDivs'. -/
def natsDivsCard : Claim7 := { stood := { row := natsDivsRow, standIns := [], harness := (true, "828191329edc74e833c5c85f57a2503f253ad13bc2289783c4b276a4a5f45d13"), looks := false }, kinds := [], alts := [], laidByText := true, laidKinds := [.data, .data, .data], laidTests := true, laidLooks := .later }
def NatsDivsCardSaid : Prop := Claim7.holds Tryz.pinned (.plain (OpenSpec.ofChange natsDivsSpec)) natsDivsCard

/-- THE TIED CARD OF 'assayerlaw03.RatsPairs'. -/
def ratsPairsCard : Claim7 := { stood := { row := ratsPairsRow, standIns := [], harness := (true, "828191329edc74e833c5c85f57a2503f253ad13bc2289783c4b276a4a5f45d13"), looks := false }, kinds := [], alts := [], laidByText := true, laidKinds := [.data, .data, .data], laidTests := true, laidLooks := .later }
def RatsPairsCardSaid : Prop := Claim7.holds Tryz.pinned (.plain (OpenSpec.ofChange ratsPairsSpec)) ratsPairsCard

/-- THE TIED CARD OF 'assayerlaw03.RatsMakes'. -/
def ratsMakesCard : Claim7 := { stood := { row := ratsMakesRow, standIns := [], harness := (true, "828191329edc74e833c5c85f57a2503f253ad13bc2289783c4b276a4a5f45d13"), looks := false }, kinds := [], alts := [], laidByText := true, laidKinds := [.data, .data, .data], laidTests := true, laidLooks := .later }
def RatsMakesCardSaid : Prop := Claim7.holds Tryz.pinned (.plain (OpenSpec.ofChange ratsMakesSpec)) ratsMakesCard

/-- THE TIED CARD OF 'assayerlaw03.RatsTexts'. -/
def ratsTextsCard : Claim7 := { stood := { row := ratsTextsRow, standIns := [], harness := (true, "828191329edc74e833c5c85f57a2503f253ad13bc2289783c4b276a4a5f45d13"), looks := false }, kinds := [], alts := [], laidByText := true, laidKinds := [.data, .data, .data, .data, .pinned], laidTests := true, laidLooks := .later }
def RatsTextsCardSaid : Prop := Claim7.holds Tryz.pinned (.plain (OpenSpec.ofChange ratsTextsSpec)) ratsTextsCard

/-- THE SECOND FORM's CARD OF 'assayerlaw01.NatsDivs'. -/
def natsDivsUptoCard : Claim7 := { stood := { row := natsDivsUptoRow, standIns := [], harness := (true, "828191329edc74e833c5c85f57a2503f253ad13bc2289783c4b276a4a5f45d13"), looks := false }, kinds := [], alts := [], laidByText := true, laidKinds := [.data, .data, .data], laidTests := true, laidLooks := .later }
def NatsDivsUptoCardSaid : Prop := Claim7.holds Tryz.pinned (.plain (OpenSpec.upto natsDivsSpec)) natsDivsUptoCard

/-- THE SECOND FORM's CARD OF 'assayerlaw03.RatsPairs'. -/
def ratsPairsUptoCard : Claim7 := { stood := { row := ratsPairsUptoRow, standIns := [], harness := (true, "828191329edc74e833c5c85f57a2503f253ad13bc2289783c4b276a4a5f45d13"), looks := false }, kinds := [], alts := [], laidByText := true, laidKinds := [.data, .data, .data], laidTests := true, laidLooks := .later }
def RatsPairsUptoCardSaid : Prop := Claim7.holds Tryz.pinned (.plain (OpenSpec.upto ratsPairsSpec)) ratsPairsUptoCard

/-- THE SECOND FORM's CARD OF 'assayerlaw03.RatsMakes'. -/
def ratsMakesUptoCard : Claim7 := { stood := { row := ratsMakesUptoRow, standIns := [], harness := (true, "828191329edc74e833c5c85f57a2503f253ad13bc2289783c4b276a4a5f45d13"), looks := false }, kinds := [], alts := [], laidByText := true, laidKinds := [.data, .data, .data], laidTests := true, laidLooks := .later }
def RatsMakesUptoCardSaid : Prop := Claim7.holds Tryz.pinned (.plain (OpenSpec.upto ratsMakesSpec)) ratsMakesUptoCard

/-- THE SECOND FORM's CARD OF 'assayerlaw03.RatsTexts'. -/
def ratsTextsUptoCard : Claim7 := { stood := { row := ratsTextsUptoRow, standIns := [], harness := (true, "828191329edc74e833c5c85f57a2503f253ad13bc2289783c4b276a4a5f45d13"), looks := false }, kinds := [], alts := [], laidByText := true, laidKinds := [.data, .data, .data, .data, .pinned], laidTests := true, laidLooks := .later }
def RatsTextsUptoCardSaid : Prop := Claim7.holds Tryz.pinned (.plain (OpenSpec.upto ratsTextsSpec)) ratsTextsUptoCard
end Rows
end Go.Proofs.YtlfanbjpfoaipaaGreatDoor
