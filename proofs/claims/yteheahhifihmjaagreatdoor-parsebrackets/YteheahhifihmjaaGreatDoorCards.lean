/-
  DERIVED. GIVEN WITH THE SEED: THE CARDS: each row of YteheahhifihmjaaGreatDoorRows.lean that lists a variable, with what it lists TIED to the program's text (the seventh form; the later family's looks); each row that meets fmt, with fmt's text TOLD by the authors' own Lean function (tested against real Go, not proved from fmt's source: count such statements apart). THE CARD IS WHAT COUNTS. Prove the row's statement (the work); the ties are given (YteheahhifihmjaaGreatDoorTie.lean); close each card by the builder's one call (the guide's Derived/Test/ToyasCard.lean, 'card_holds'). Laid BY PROGRAM, IN A SANDBOX (cutbox-door.mjs). By AI agents, Wed Nov 11 2026. No macro, syntax, notation, axiom, sorry.
-/
import Derived.Test.YteheahhifihmjaaGreatDoorRows
import GoSem.ClaimSeven
namespace Go.Proofs.YteheahhifihmjaaGreatDoor
namespace Rows

/-- THE TIED CARD OF 'slotlaw4.ParseTurns'. -/
def parseTurnsCard : Claim7 := { stood := { row := parseTurnsRow, standIns := [], harness := (true, "c61ec6a9582af430559e2f3c3e1782cb714390d15331456e18e6c2c4b4c3fd71"), looks := true }, kinds := [], alts := [], laidByText := true, laidKinds := [.data, .data, .data, .data, .data], laidTests := true, laidLooks := .later }
def ParseTurnsCardSaid : Prop := Claim7.holds Tryz.pinned (.plain (OpenSpec.ofChange parseTurnsSpec)) parseTurnsCard

/-- THE TIED CARD OF 'slotlaw4.ParseAgain'. -/
def parseAgainCard : Claim7 := { stood := { row := parseAgainRow, standIns := [], harness := (true, "c61ec6a9582af430559e2f3c3e1782cb714390d15331456e18e6c2c4b4c3fd71"), looks := true }, kinds := [], alts := [], laidByText := true, laidKinds := [.data, .data, .data, .data, .data], laidTests := true, laidLooks := .later }
def ParseAgainCardSaid : Prop := Claim7.holds Tryz.pinned (.plain (OpenSpec.ofChange parseAgainSpec)) parseAgainCard

/-- THE TIED CARD OF 'slotlaw4.ParseBrackets'. -/
def parseBracketsCard : Claim7 := { stood := { row := parseBracketsRow, standIns := [], harness := (true, "c61ec6a9582af430559e2f3c3e1782cb714390d15331456e18e6c2c4b4c3fd71"), looks := true }, kinds := [], alts := [], laidByText := true, laidKinds := [.data, .data, .data, .data, .data], laidTests := true, laidLooks := .later }
def ParseBracketsCardSaid : Prop := Claim7.holds Tryz.pinned (.plain (OpenSpec.ofChange parseBracketsSpec)) parseBracketsCard

/-- THE SECOND FORM's CARD OF 'slotlaw4.ParseTurns'. -/
def parseTurnsUptoCard : Claim7 := { stood := { row := parseTurnsUptoRow, standIns := [], harness := (true, "c61ec6a9582af430559e2f3c3e1782cb714390d15331456e18e6c2c4b4c3fd71"), looks := true }, kinds := [], alts := [], laidByText := true, laidKinds := [.data, .data, .data, .data, .data], laidTests := true, laidLooks := .later }
def ParseTurnsUptoCardSaid : Prop := Claim7.holds Tryz.pinned (.plain (OpenSpec.upto parseTurnsSpec)) parseTurnsUptoCard

/-- THE SECOND FORM's CARD OF 'slotlaw4.ParseAgain'. -/
def parseAgainUptoCard : Claim7 := { stood := { row := parseAgainUptoRow, standIns := [], harness := (true, "c61ec6a9582af430559e2f3c3e1782cb714390d15331456e18e6c2c4b4c3fd71"), looks := true }, kinds := [], alts := [], laidByText := true, laidKinds := [.data, .data, .data, .data, .data], laidTests := true, laidLooks := .later }
def ParseAgainUptoCardSaid : Prop := Claim7.holds Tryz.pinned (.plain (OpenSpec.upto parseAgainSpec)) parseAgainUptoCard

/-- THE SECOND FORM's CARD OF 'slotlaw4.ParseBrackets'. -/
def parseBracketsUptoCard : Claim7 := { stood := { row := parseBracketsUptoRow, standIns := [], harness := (true, "c61ec6a9582af430559e2f3c3e1782cb714390d15331456e18e6c2c4b4c3fd71"), looks := true }, kinds := [], alts := [], laidByText := true, laidKinds := [.data, .data, .data, .data, .data], laidTests := true, laidLooks := .later }
def ParseBracketsUptoCardSaid : Prop := Claim7.holds Tryz.pinned (.plain (OpenSpec.upto parseBracketsSpec)) parseBracketsUptoCard
end Rows
end Go.Proofs.YteheahhifihmjaaGreatDoor
