/-
  DERIVED. GIVEN WITH THE SEED: THE CARDS: each row of YtnbdohajlemidaaDoorRows.lean that lists a variable, with what it lists TIED to the program's text (the seventh form; the later family's looks); each row that meets fmt, with fmt's text TOLD by the authors' own Lean function (tested against real Go, not proved from fmt's source: count such statements apart). THE CARD IS WHAT COUNTS. Prove the row's statement (the work); the ties are given (YtnbdohajlemidaaDoorTie.lean); close each card by the builder's one call (the guide's Derived/Test/ToyasCard.lean, 'card_holds'). Laid BY PROGRAM, IN A SANDBOX (cutbox-door.mjs). By AI agents, Wed Nov 11 2026. No macro, syntax, notation, axiom, sorry.
-/
import Derived.Test.YtnbdohajlemidaaDoorRows
import GoSem.ClaimSeven
namespace Go.Proofs.YtnbdohajlemidaaDoor
namespace Rows

/-- THE TIED CARD OF 'assayerlaw10.SumsOf'. -/
def sumsOfCard : Claim7 := { stood := { row := sumsOfRow, standIns := [], harness := (true, "c3a61b0a2206adde3ebe4b79c8a79af9e2f16ca22e7b172dfcac4255b45c0ccf"), looks := false }, kinds := [], alts := [], laidByText := true, laidKinds := [.data, .data], laidTests := true, laidLooks := .later }
def SumsOfCardSaid : Prop := Claim7.holds Tryd.pinned (.plain (OpenSpec.ofChange sumsOfSpec)) sumsOfCard

/-- THE TIED CARD OF 'assayerlaw10.SumsKeys'. -/
def sumsKeysCard : Claim7 := { stood := { row := sumsKeysRow, standIns := [], harness := (true, "c3a61b0a2206adde3ebe4b79c8a79af9e2f16ca22e7b172dfcac4255b45c0ccf"), looks := false }, kinds := [], alts := [], laidByText := true, laidKinds := [.data, .data], laidTests := true, laidLooks := .later }
def SumsKeysCardSaid : Prop := Claim7.holds Tryd.pinned (.plain (OpenSpec.ofChange sumsKeysSpec)) sumsKeysCard

/-- THE TIED CARD OF 'assayerlaw10.SumsInner'. -/
def sumsInnerCard : Claim7 := { stood := { row := sumsInnerRow, standIns := [], harness := (true, "c3a61b0a2206adde3ebe4b79c8a79af9e2f16ca22e7b172dfcac4255b45c0ccf"), looks := false }, kinds := [], alts := [], laidByText := true, laidKinds := [.data, .data], laidTests := true, laidLooks := .later }
def SumsInnerCardSaid : Prop := Claim7.holds Tryd.pinned (.plain (OpenSpec.ofChange sumsInnerSpec)) sumsInnerCard

/-- THE TIED CARD OF 'assayerlaw10.SumsTold'. -/
def sumsToldCard : Claim7 := { stood := { row := sumsToldRow, standIns := [], harness := (true, "c3a61b0a2206adde3ebe4b79c8a79af9e2f16ca22e7b172dfcac4255b45c0ccf"), looks := false }, kinds := [], alts := [], laidByText := true, laidKinds := [.data, .data], laidTests := true, laidLooks := .later }
def SumsToldCardSaid : Prop := Claim7.holds Tryd.pinned (.plain (OpenSpec.ofChange sumsToldSpec)) sumsToldCard

/-- THE SECOND FORM's CARD OF 'assayerlaw10.SumsOf'. -/
def sumsOfUptoCard : Claim7 := { stood := { row := sumsOfUptoRow, standIns := [], harness := (true, "c3a61b0a2206adde3ebe4b79c8a79af9e2f16ca22e7b172dfcac4255b45c0ccf"), looks := false }, kinds := [], alts := [], laidByText := true, laidKinds := [.data, .data], laidTests := true, laidLooks := .later }
def SumsOfUptoCardSaid : Prop := Claim7.holds Tryd.pinned (.plain (OpenSpec.upto sumsOfSpec)) sumsOfUptoCard

/-- THE SECOND FORM's CARD OF 'assayerlaw10.SumsKeys'. -/
def sumsKeysUptoCard : Claim7 := { stood := { row := sumsKeysUptoRow, standIns := [], harness := (true, "c3a61b0a2206adde3ebe4b79c8a79af9e2f16ca22e7b172dfcac4255b45c0ccf"), looks := false }, kinds := [], alts := [], laidByText := true, laidKinds := [.data, .data], laidTests := true, laidLooks := .later }
def SumsKeysUptoCardSaid : Prop := Claim7.holds Tryd.pinned (.plain (OpenSpec.upto sumsKeysSpec)) sumsKeysUptoCard

/-- THE SECOND FORM's CARD OF 'assayerlaw10.SumsInner'. -/
def sumsInnerUptoCard : Claim7 := { stood := { row := sumsInnerUptoRow, standIns := [], harness := (true, "c3a61b0a2206adde3ebe4b79c8a79af9e2f16ca22e7b172dfcac4255b45c0ccf"), looks := false }, kinds := [], alts := [], laidByText := true, laidKinds := [.data, .data], laidTests := true, laidLooks := .later }
def SumsInnerUptoCardSaid : Prop := Claim7.holds Tryd.pinned (.plain (OpenSpec.upto sumsInnerSpec)) sumsInnerUptoCard

/-- THE SECOND FORM's CARD OF 'assayerlaw10.SumsTold'. -/
def sumsToldUptoCard : Claim7 := { stood := { row := sumsToldUptoRow, standIns := [], harness := (true, "c3a61b0a2206adde3ebe4b79c8a79af9e2f16ca22e7b172dfcac4255b45c0ccf"), looks := false }, kinds := [], alts := [], laidByText := true, laidKinds := [.data, .data], laidTests := true, laidLooks := .later }
def SumsToldUptoCardSaid : Prop := Claim7.holds Tryd.pinned (.plain (OpenSpec.upto sumsToldSpec)) sumsToldUptoCard
end Rows
end Go.Proofs.YtnbdohajlemidaaDoor
