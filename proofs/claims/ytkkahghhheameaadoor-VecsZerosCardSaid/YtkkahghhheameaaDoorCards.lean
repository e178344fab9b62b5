/-
  DERIVED. GIVEN WITH THE SEED: THE CARDS: each row of YtkkahghhheameaaDoorRows.lean that lists a variable, with what it lists TIED to the program's text (the seventh form; the later family's looks); each row that meets fmt, with fmt's text TOLD by the authors' own Lean function (tested against real Go, not proved from fmt's source: count such statements apart). THE CARD IS WHAT COUNTS. Prove the row's statement (the work); the ties are given (YtkkahghhheameaaDoorTie.lean); close each card by the builder's one call (the guide's Derived/Test/ToyasCard.lean, 'card_holds'). Laid BY PROGRAM, IN A SANDBOX (cutbox-door.mjs). By AI agents, Wed Nov 11 2026. No macro, syntax, notation, axiom, sorry.
-/
import Derived.Test.YtkkahghhheameaaDoorRows
import GoSem.ClaimSeven
namespace Go.Proofs.YtkkahghhheameaaDoor
namespace Rows

/-- THE TIED CARD OF 'assayerlaw04.VecsZeros'. -/
def vecsZerosCard : Claim7 := { stood := { row := vecsZerosRow, standIns := [], harness := (true, "5fb08524f28a9e5b724fdc2574d7a9146e83e57fe2f9ba171ca090423927eefa"), looks := false }, kinds := [], alts := [], laidByText := true, laidKinds := [.data, .data, .data], laidTests := true, laidLooks := .later }
def VecsZerosCardSaid : Prop := Claim7.holds Tryd.pinned (.plain (OpenSpec.ofChange vecsZerosSpec)) vecsZerosCard

/-- THE SECOND FORM's CARD OF 'assayerlaw04.VecsZeros'. -/
def vecsZerosUptoCard : Claim7 := { stood := { row := vecsZerosUptoRow, standIns := [], harness := (true, "5fb08524f28a9e5b724fdc2574d7a9146e83e57fe2f9ba171ca090423927eefa"), looks := false }, kinds := [], alts := [], laidByText := true, laidKinds := [.data, .data, .data], laidTests := true, laidLooks := .later }
def VecsZerosUptoCardSaid : Prop := Claim7.holds Tryd.pinned (.plain (OpenSpec.upto vecsZerosSpec)) vecsZerosUptoCard
end Rows
end Go.Proofs.YtkkahghhheameaaDoor
