/-
  DERIVED. GIVEN WITH THE SEED: THE CARDS: each row of YthloknddhfphnaaGreatDoorRows.lean that lists a variable, with what it lists TIED to the program's text (the seventh form; the later family's looks); each row that meets fmt, with fmt's text TOLD by the authors' own Lean function (tested against real Go, not proved from fmt's source: count such statements apart). THE CARD IS WHAT COUNTS. Prove the row's statement (the work); the ties are given (YthloknddhfphnaaGreatDoorTie.lean); close each card by the builder's one call (the guide's Derived/Test/ToyasCard.lean, 'card_holds'). Laid BY PROGRAM, IN A SANDBOX (cutbox-door.mjs). By AI agents, Wed Nov 11 2026. No macro, syntax, notation, axiom, sorry.
-/
import Derived.Test.YthloknddhfphnaaGreatDoorRows
import GoSem.ClaimSeven
namespace Go.Proofs.YthloknddhfphnaaGreatDoor
namespace Rows

/-- THE TIED CARD OF 'assayerlaw03.RatsField'. -/
def ratsFieldCard : Claim7 := { stood := { row := ratsFieldRow, standIns := [], harness := (true, "1f77c682b3758e50510eb48fa20d45e9195280b82eda8b1a58d7143ce594cdbb"), looks := false }, kinds := [], alts := [], laidByText := true, laidKinds := [.data, .pinned], laidTests := true, laidLooks := .later }
def RatsFieldCardSaid : Prop := Claim7.holds Tryz.pinned (.plain (OpenSpec.ofChange ratsFieldSpec)) ratsFieldCard

/-- THE TIED CARD OF 'assayerlaw03.RatsUndone'. -/
def ratsUndoneCard : Claim7 := { stood := { row := ratsUndoneRow, standIns := [], harness := (true, "1f77c682b3758e50510eb48fa20d45e9195280b82eda8b1a58d7143ce594cdbb"), looks := false }, kinds := [], alts := [], laidByText := true, laidKinds := [.data, .pinned], laidTests := true, laidLooks := .later }
def RatsUndoneCardSaid : Prop := Claim7.holds Tryz.pinned (.plain (OpenSpec.ofChange ratsUndoneSpec)) ratsUndoneCard

/-- THE TIED CARD OF 'assayerlaw03.RatsOrder'. -/
def ratsOrderCard : Claim7 := { stood := { row := ratsOrderRow, standIns := [], harness := (true, "1f77c682b3758e50510eb48fa20d45e9195280b82eda8b1a58d7143ce594cdbb"), looks := false }, kinds := [], alts := [], laidByText := true, laidKinds := [.data, .pinned], laidTests := true, laidLooks := .later }
def RatsOrderCardSaid : Prop := Claim7.holds Tryz.pinned (.plain (OpenSpec.ofChange ratsOrderSpec)) ratsOrderCard

/-- THE TIED CARD OF 'assayerlaw03.RatsFloors'. -/
def ratsFloorsCard : Claim7 := { stood := { row := ratsFloorsRow, standIns := [], harness := (true, "1f77c682b3758e50510eb48fa20d45e9195280b82eda8b1a58d7143ce594cdbb"), looks := false }, kinds := [], alts := [], laidByText := true, laidKinds := [.data, .pinned], laidTests := true, laidLooks := .later }
def RatsFloorsCardSaid : Prop := Claim7.holds Tryz.pinned (.plain (OpenSpec.ofChange ratsFloorsSpec)) ratsFloorsCard

/-- THE TIED CARD OF 'assayerlaw03.RatsMade'. -/
def ratsMadeCard : Claim7 := { stood := { row := ratsMadeRow, standIns := [], harness := (true, "1f77c682b3758e50510eb48fa20d45e9195280b82eda8b1a58d7143ce594cdbb"), looks := false }, kinds := [], alts := [], laidByText := true, laidKinds := [.data, .pinned], laidTests := true, laidLooks := .later }
def RatsMadeCardSaid : Prop := Claim7.holds Tryz.pinned (.plain (OpenSpec.ofChange ratsMadeSpec)) ratsMadeCard

/-- THE TIED CARD OF 'assayerlaw03.RatsSmall'. -/
def ratsSmallCard : Claim7 := { stood := { row := ratsSmallRow, standIns := [], harness := (true, "1f77c682b3758e50510eb48fa20d45e9195280b82eda8b1a58d7143ce594cdbb"), looks := false }, kinds := [], alts := [], laidByText := true, laidKinds := [.data, .pinned], laidTests := true, laidLooks := .later }
def RatsSmallCardSaid : Prop := Claim7.holds Tryz.pinned (.plain (OpenSpec.ofChange ratsSmallSpec)) ratsSmallCard

/-- THE TIED CARD OF 'assayerlaw03.RatsBetween'. -/
def ratsBetweenCard : Claim7 := { stood := { row := ratsBetweenRow, standIns := [], harness := (true, "1f77c682b3758e50510eb48fa20d45e9195280b82eda8b1a58d7143ce594cdbb"), looks := false }, kinds := [], alts := [], laidByText := true, laidKinds := [.data, .pinned], laidTests := true, laidLooks := .later }
def RatsBetweenCardSaid : Prop := Claim7.holds Tryz.pinned (.plain (OpenSpec.ofChange ratsBetweenSpec)) ratsBetweenCard

/-- THE SECOND FORM's CARD OF 'assayerlaw03.RatsField'. -/
def ratsFieldUptoCard : Claim7 := { stood := { row := ratsFieldUptoRow, standIns := [], harness := (true, "1f77c682b3758e50510eb48fa20d45e9195280b82eda8b1a58d7143ce594cdbb"), looks := false }, kinds := [], alts := [], laidByText := true, laidKinds := [.data, .pinned], laidTests := true, laidLooks := .later }
def RatsFieldUptoCardSaid : Prop := Claim7.holds Tryz.pinned (.plain (OpenSpec.upto ratsFieldSpec)) ratsFieldUptoCard

/-- THE SECOND FORM's CARD OF 'assayerlaw03.RatsUndone'. -/
def ratsUndoneUptoCard : Claim7 := { stood := { row := ratsUndoneUptoRow, standIns := [], harness := (true, "1f77c682b3758e50510eb48fa20d45e9195280b82eda8b1a58d7143ce594cdbb"), looks := false }, kinds := [], alts := [], laidByText := true, laidKinds := [.data, .pinned], laidTests := true, laidLooks := .later }
def RatsUndoneUptoCardSaid : Prop := Claim7.holds Tryz.pinned (.plain (OpenSpec.upto ratsUndoneSpec)) ratsUndoneUptoCard

/-- THE SECOND FORM's CARD OF 'assayerlaw03.RatsOrder'. -/
def ratsOrderUptoCard : Claim7 := { stood := { row := ratsOrderUptoRow, standIns := [], harness := (true, "1f77c682b3758e50510eb48fa20d45e9195280b82eda8b1a58d7143ce594cdbb"), looks := false }, kinds := [], alts := [], laidByText := true, laidKinds := [.data, .pinned], laidTests := true, laidLooks := .later }
def RatsOrderUptoCardSaid : Prop := Claim7.holds Tryz.pinned (.plain (OpenSpec.upto ratsOrderSpec)) ratsOrderUptoCard

/-- THE SECOND FORM's CARD OF 'assayerlaw03.RatsFloors'. -/
def ratsFloorsUptoCard : Claim7 := { stood := { row := ratsFloorsUptoRow, standIns := [], harness := (true, "1f77c682b3758e50510eb48fa20d45e9195280b82eda8b1a58d7143ce594cdbb"), looks := false }, kinds := [], alts := [], laidByText := true, laidKinds := [.data, .pinned], laidTests := true, laidLooks := .later }
def RatsFloorsUptoCardSaid : Prop := Claim7.holds Tryz.pinned (.plain (OpenSpec.upto ratsFloorsSpec)) ratsFloorsUptoCard

/-- THE SECOND FORM's CARD OF 'assayerlaw03.RatsMade'. -/
def ratsMadeUptoCard : Claim7 := { stood := { row := ratsMadeUptoRow, standIns := [], harness := (true, "1f77c682b3758e50510eb48fa20d45e9195280b82eda8b1a58d7143ce594cdbb"), looks := false }, kinds := [], alts := [], laidByText := true, laidKinds := [.data, .pinned], laidTests := true, laidLooks := .later }
def RatsMadeUptoCardSaid : Prop := Claim7.holds Tryz.pinned (.plain (OpenSpec.upto ratsMadeSpec)) ratsMadeUptoCard

/-- THE SECOND FORM's CARD OF 'assayerlaw03.RatsSmall'. -/
def ratsSmallUptoCard : Claim7 := { stood := { row := ratsSmallUptoRow, standIns := [], harness := (true, "1f77c682b3758e50510eb48fa20d45e9195280b82eda8b1a58d7143ce594cdbb"), looks := false }, kinds := [], alts := [], laidByText := true, laidKinds := [.data, .pinned], laidTests := true, laidLooks := .later }
def RatsSmallUptoCardSaid : Prop := Claim7.holds Tryz.pinned (.plain (OpenSpec.upto ratsSmallSpec)) ratsSmallUptoCard

/-- THE SECOND FORM's CARD OF 'assayerlaw03.RatsBetween'. -/
def ratsBetweenUptoCard : Claim7 := { stood := { row := ratsBetweenUptoRow, standIns := [], harness := (true, "1f77c682b3758e50510eb48fa20d45e9195280b82eda8b1a58d7143ce594cdbb"), looks := false }, kinds := [], alts := [], laidByText := true, laidKinds := [.data, .pinned], laidTests := true, laidLooks := .later }
def RatsBetweenUptoCardSaid : Prop := Claim7.holds Tryz.pinned (.plain (OpenSpec.upto ratsBetweenSpec)) ratsBetweenUptoCard
end Rows
end Go.Proofs.YthloknddhfphnaaGreatDoor
