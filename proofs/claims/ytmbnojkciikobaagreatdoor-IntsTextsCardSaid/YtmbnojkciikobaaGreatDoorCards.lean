/-
  DERIVED. GIVEN WITH THE SEED: THE CARDS: each row of YtmbnojkciikobaaGreatDoorRows.lean that lists a variable, with what it lists TIED to the program's text (the seventh form; the later family's looks); each row that meets fmt, with fmt's text TOLD by the authors' own Lean function (tested against real Go, not proved from fmt's source: count such statements apart). THE CARD IS WHAT COUNTS. Prove the row's statement (the work); the ties are given (YtmbnojkciikobaaGreatDoorTie.lean); close each card by the builder's one call (the guide's Derived/Test/ToyasCard.lean, 'card_holds'). Laid BY PROGRAM, IN A SANDBOX (cutbox-door.mjs). By AI agents, Wed Nov 11 2026. No macro, syntax, notation, axiom, sorry.
-/
import Derived.Test.YtmbnojkciikobaaGreatDoorRows
import GoSem.ClaimSeven
namespace Go.Proofs.YtmbnojkciikobaaGreatDoor
namespace Rows

/-- THE TIED CARD OF 'assayerlaw01.NatsPairs'. -/
def natsPairsCard : Claim7 := { stood := { row := natsPairsRow, standIns := [], harness := (true, "19e42937b490f03187cc8263dcac4f44d524373272893f26788fa1c124b64239"), looks := false }, kinds := [], alts := [], laidByText := true, laidKinds := [.data, .data, .data], laidTests := true, laidLooks := .later }
def NatsPairsCardSaid : Prop := Claim7.holds Tryz.pinned (.plain (OpenSpec.ofChange natsPairsSpec)) natsPairsCard

/-- THE TIED CARD OF 'assayerlaw01.NatsDivs'. -/
def natsDivsCard : Claim7 := { stood := { row := natsDivsRow, standIns := [], harness := (true, "19e42937b490f03187cc8263dcac4f44d524373272893f26788fa1c124b64239"), looks := false }, kinds := [], alts := [], laidByText := true, laidKinds := [.data, .data, .data], laidTests := true, laidLooks := .later }
def NatsDivsCardSaid : Prop := Claim7.holds Tryz.pinned (.plain (OpenSpec.ofChange natsDivsSpec)) natsDivsCard

/-- THE TIED CARD OF 'assayerlaw01.NatsTexts'. -/
def natsTextsCard : Claim7 := { stood := { row := natsTextsRow, standIns := [], harness := (true, "19e42937b490f03187cc8263dcac4f44d524373272893f26788fa1c124b64239"), looks := false }, kinds := [], alts := [], laidByText := true, laidKinds := [.data, .data, .data], laidTests := true, laidLooks := .later }
def NatsTextsCardSaid : Prop := Claim7.holds Tryz.pinned (.plain (OpenSpec.ofChange natsTextsSpec)) natsTextsCard

/-- THE TIED CARD OF 'assayerlaw02.IntsPairs'. -/
def intsPairsCard : Claim7 := { stood := { row := intsPairsRow, standIns := [], harness := (true, "19e42937b490f03187cc8263dcac4f44d524373272893f26788fa1c124b64239"), looks := false }, kinds := [], alts := [], laidByText := true, laidKinds := [.data, .data, .data], laidTests := true, laidLooks := .later }
def IntsPairsCardSaid : Prop := Claim7.holds Tryz.pinned (.plain (OpenSpec.ofChange intsPairsSpec)) intsPairsCard

/-- THE TIED CARD OF 'assayerlaw02.IntsTexts'. -/
def intsTextsCard : Claim7 := { stood := { row := intsTextsRow, standIns := [], harness := (true, "19e42937b490f03187cc8263dcac4f44d524373272893f26788fa1c124b64239"), looks := false }, kinds := [], alts := [], laidByText := true, laidKinds := [.data, .data, .data], laidTests := true, laidLooks := .later }
def IntsTextsCardSaid : Prop := Claim7.holds Tryz.pinned (.plain (OpenSpec.ofChange intsTextsSpec)) intsTextsCard

/-- THE SECOND FORM's CARD OF 'assayerlaw01.NatsPairs'. -/
def natsPairsUptoCard : Claim7 := { stood := { row := natsPairsUptoRow, standIns := [], harness := (true, "19e42937b490f03187cc8263dcac4f44d524373272893f26788fa1c124b64239"), looks := false }, kinds := [], alts := [], laidByText := true, laidKinds := [.data, .data, .data], laidTests := true, laidLooks := .later }
def NatsPairsUptoCardSaid : Prop := Claim7.holds Tryz.pinned (.plain (OpenSpec.upto natsPairsSpec)) natsPairsUptoCard

/-- THE SECOND FORM's CARD OF 'assayerlaw01.NatsDivs'. -/
def natsDivsUptoCard : Claim7 := { stood := { row := natsDivsUptoRow, standIns := [], harness := (true, "19e42937b490f03187cc8263dcac4f44d524373272893f26788fa1c124b64239"), looks := false }, kinds := [], alts := [], laidByText := true, laidKinds := [.data, .data, .data], laidTests := true, laidLooks := .later }
def NatsDivsUptoCardSaid : Prop := Claim7.holds Tryz.pinned (.plain (OpenSpec.upto natsDivsSpec)) natsDivsUptoCard

/-- THE SECOND FORM's CARD OF 'assayerlaw01.NatsTexts'. -/
def natsTextsUptoCard : Claim7 := { stood := { row := natsTextsUptoRow, standIns := [], harness := (true, "19e42937b490f03187cc8263dcac4f44d524373272893f26788fa1c124b64239"), looks := false }, kinds := [], alts := [], laidByText := true, laidKinds := [.data, .data, .data], laidTests := true, laidLooks := .later }
def NatsTextsUptoCardSaid : Prop := Claim7.holds Tryz.pinned (.plain (OpenSpec.upto natsTextsSpec)) natsTextsUptoCard

/-- THE SECOND FORM's CARD OF 'assayerlaw02.IntsPairs'. -/
def intsPairsUptoCard : Claim7 := { stood := { row := intsPairsUptoRow, standIns := [], harness := (true, "19e42937b490f03187cc8263dcac4f44d524373272893f26788fa1c124b64239"), looks := false }, kinds := [], alts := [], laidByText := true, laidKinds := [.data, .data, .data], laidTests := true, laidLooks := .later }
def IntsPairsUptoCardSaid : Prop := Claim7.holds Tryz.pinned (.plain (OpenSpec.upto intsPairsSpec)) intsPairsUptoCard

/-- THE SECOND FORM's CARD OF 'assayerlaw02.IntsTexts'. -/
def intsTextsUptoCard : Claim7 := { stood := { row := intsTextsUptoRow, standIns := [], harness := (true, "19e42937b490f03187cc8263dcac4f44d524373272893f26788fa1c124b64239"), looks := false }, kinds := [], alts := [], laidByText := true, laidKinds := [.data, .data, .data], laidTests := true, laidLooks := .later }
def IntsTextsUptoCardSaid : Prop := Claim7.holds Tryz.pinned (.plain (OpenSpec.upto intsTextsSpec)) intsTextsUptoCard
end Rows
end Go.Proofs.YtmbnojkciikobaaGreatDoor
