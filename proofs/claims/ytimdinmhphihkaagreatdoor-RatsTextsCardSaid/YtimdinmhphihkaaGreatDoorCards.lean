/-
  DERIVED. GIVEN WITH THE SEED: THE CARDS: each row of YtimdinmhphihkaaGreatDoorRows.lean that lists a variable, with what it lists TIED to the program's text (the seventh form; the later family's looks); each row that meets fmt, with fmt's text TOLD by the authors' own Lean function (tested against real Go, not proved from fmt's source: count such statements apart). THE CARD IS WHAT COUNTS. Prove the row's statement (the work); the ties are given (YtimdinmhphihkaaGreatDoorTie.lean); close each card by the builder's one call (the guide's Derived/Test/ToyasCard.lean, 'card_holds'). Laid BY PROGRAM, IN A SANDBOX (cutbox-door.mjs). By AI agents, Wed Nov 11 2026. No macro, syntax, notation, axiom, sorry.
-/
import Derived.Test.YtimdinmhphihkaaGreatDoorRows
import GoSem.ClaimSeven
namespace Go.Proofs.YtimdinmhphihkaaGreatDoor
namespace Rows

/-- THE TIED CARD OF 'assayerlaw03.RatsTexts'. -/
def ratsTextsCard : Claim7 := { stood := { row := ratsTextsRow, standIns := [], harness := (true, "c01fe77676087b87c777fbf44d40a043131dd4a1d1ec5a43bedcaec88b1ee540"), looks := false }, kinds := [], alts := [], laidByText := true, laidKinds := [.data, .data, .data, .data, .pinned], laidTests := true, laidLooks := .later }
def RatsTextsCardSaid : Prop := Claim7.holds Tryz.pinned (.plain (OpenSpec.ofChange ratsTextsSpec)) ratsTextsCard

/-- THE TIED CARD OF 'assayerlaw04.VecsDots'. -/
def vecsDotsCard : Claim7 := { stood := { row := vecsDotsRow, standIns := [], harness := (true, "c01fe77676087b87c777fbf44d40a043131dd4a1d1ec5a43bedcaec88b1ee540"), looks := false }, kinds := [], alts := [], laidByText := true, laidKinds := [.data, .data, .data], laidTests := true, laidLooks := .later }
def VecsDotsCardSaid : Prop := Claim7.holds Tryz.pinned (.plain (OpenSpec.ofChange vecsDotsSpec)) vecsDotsCard

/-- THE TIED CARD OF 'assayerlaw04.VecsAdds'. -/
def vecsAddsCard : Claim7 := { stood := { row := vecsAddsRow, standIns := [], harness := (true, "c01fe77676087b87c777fbf44d40a043131dd4a1d1ec5a43bedcaec88b1ee540"), looks := false }, kinds := [], alts := [], laidByText := true, laidKinds := [.data, .data, .data], laidTests := true, laidLooks := .later }
def VecsAddsCardSaid : Prop := Claim7.holds Tryz.pinned (.plain (OpenSpec.ofChange vecsAddsSpec)) vecsAddsCard

/-- THE SECOND FORM's CARD OF 'assayerlaw03.RatsTexts'. -/
def ratsTextsUptoCard : Claim7 := { stood := { row := ratsTextsUptoRow, standIns := [], harness := (true, "c01fe77676087b87c777fbf44d40a043131dd4a1d1ec5a43bedcaec88b1ee540"), looks := false }, kinds := [], alts := [], laidByText := true, laidKinds := [.data, .data, .data, .data, .pinned], laidTests := true, laidLooks := .later }
def RatsTextsUptoCardSaid : Prop := Claim7.holds Tryz.pinned (.plain (OpenSpec.upto ratsTextsSpec)) ratsTextsUptoCard

/-- THE SECOND FORM's CARD OF 'assayerlaw04.VecsDots'. -/
def vecsDotsUptoCard : Claim7 := { stood := { row := vecsDotsUptoRow, standIns := [], harness := (true, "c01fe77676087b87c777fbf44d40a043131dd4a1d1ec5a43bedcaec88b1ee540"), looks := false }, kinds := [], alts := [], laidByText := true, laidKinds := [.data, .data, .data], laidTests := true, laidLooks := .later }
def VecsDotsUptoCardSaid : Prop := Claim7.holds Tryz.pinned (.plain (OpenSpec.upto vecsDotsSpec)) vecsDotsUptoCard

/-- THE SECOND FORM's CARD OF 'assayerlaw04.VecsAdds'. -/
def vecsAddsUptoCard : Claim7 := { stood := { row := vecsAddsUptoRow, standIns := [], harness := (true, "c01fe77676087b87c777fbf44d40a043131dd4a1d1ec5a43bedcaec88b1ee540"), looks := false }, kinds := [], alts := [], laidByText := true, laidKinds := [.data, .data, .data], laidTests := true, laidLooks := .later }
def VecsAddsUptoCardSaid : Prop := Claim7.holds Tryz.pinned (.plain (OpenSpec.upto vecsAddsSpec)) vecsAddsUptoCard
end Rows
end Go.Proofs.YtimdinmhphihkaaGreatDoor
