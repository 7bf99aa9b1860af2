/-
  DERIVED. GIVEN WITH THE SEED: THE CARDS: each row of YtkfidffapdhbhaaGreatDoorRows.lean that lists a variable, with what it lists TIED to the program's text (the seventh form; the later family's looks); each row that meets fmt, with fmt's text TOLD by the authors' own Lean function (tested against real Go, not proved from fmt's source: count such statements apart). THE CARD IS WHAT COUNTS. Prove the row's statement (the work); the ties are given (YtkfidffapdhbhaaGreatDoorTie.lean); close each card by the builder's one call (the guide's Derived/Test/ToyasCard.lean, 'card_holds'). Laid BY PROGRAM, IN A SANDBOX (cutbox-door.mjs). By AI agents, Wed Nov 11 2026. No macro, syntax, notation, axiom, sorry.
-/
import Derived.Test.YtkfidffapdhbhaaGreatDoorRows
import GoSem.ClaimSeven
namespace Go.Proofs.YtkfidffapdhbhaaGreatDoor
namespace Rows

/-- THE TIED CARD OF 'slotlaw11.DeskClash'. -/
def deskClashCard : Claim7 := { stood := { row := deskClashRow, standIns := [], harness := (true, "1b872f3ba80e296c90637a2a45ca40c5efac2320038814968b2291956977c62a"), looks := true }, kinds := [], alts := [], laidByText := true, laidKinds := [.data, .data, .data], laidTests := true, laidLooks := .later }
def DeskClashCardSaid : Prop := Claim7.holds Tryz.pinned (.plain (OpenSpec.ofChange deskClashSpec)) deskClashCard

/-- THE TIED CARD OF 'slotlaw11.DeskHolds'. -/
def deskHoldsCard : Claim7 := { stood := { row := deskHoldsRow, standIns := [], harness := (true, "1b872f3ba80e296c90637a2a45ca40c5efac2320038814968b2291956977c62a"), looks := true }, kinds := [], alts := [], laidByText := true, laidKinds := [.data, .data, .data], laidTests := true, laidLooks := .later }
def DeskHoldsCardSaid : Prop := Claim7.holds Tryz.pinned (.plain (OpenSpec.ofChange deskHoldsSpec)) deskHoldsCard

/-- THE TIED CARD OF 'slotlaw11.DeskCancel'. -/
def deskCancelCard : Claim7 := { stood := { row := deskCancelRow, standIns := [], harness := (true, "1b872f3ba80e296c90637a2a45ca40c5efac2320038814968b2291956977c62a"), looks := true }, kinds := [], alts := [], laidByText := true, laidKinds := [.data, .data, .data], laidTests := true, laidLooks := .later }
def DeskCancelCardSaid : Prop := Claim7.holds Tryz.pinned (.plain (OpenSpec.ofChange deskCancelSpec)) deskCancelCard

/-- THE SECOND FORM's CARD OF 'slotlaw11.DeskClash'. -/
def deskClashUptoCard : Claim7 := { stood := { row := deskClashUptoRow, standIns := [], harness := (true, "1b872f3ba80e296c90637a2a45ca40c5efac2320038814968b2291956977c62a"), looks := true }, kinds := [], alts := [], laidByText := true, laidKinds := [.data, .data, .data], laidTests := true, laidLooks := .later }
def DeskClashUptoCardSaid : Prop := Claim7.holds Tryz.pinned (.plain (OpenSpec.upto deskClashSpec)) deskClashUptoCard

/-- THE SECOND FORM's CARD OF 'slotlaw11.DeskHolds'. -/
def deskHoldsUptoCard : Claim7 := { stood := { row := deskHoldsUptoRow, standIns := [], harness := (true, "1b872f3ba80e296c90637a2a45ca40c5efac2320038814968b2291956977c62a"), looks := true }, kinds := [], alts := [], laidByText := true, laidKinds := [.data, .data, .data], laidTests := true, laidLooks := .later }
def DeskHoldsUptoCardSaid : Prop := Claim7.holds Tryz.pinned (.plain (OpenSpec.upto deskHoldsSpec)) deskHoldsUptoCard

/-- THE SECOND FORM's CARD OF 'slotlaw11.DeskCancel'. -/
def deskCancelUptoCard : Claim7 := { stood := { row := deskCancelUptoRow, standIns := [], harness := (true, "1b872f3ba80e296c90637a2a45ca40c5efac2320038814968b2291956977c62a"), looks := true }, kinds := [], alts := [], laidByText := true, laidKinds := [.data, .data, .data], laidTests := true, laidLooks := .later }
def DeskCancelUptoCardSaid : Prop := Claim7.holds Tryz.pinned (.plain (OpenSpec.upto deskCancelSpec)) deskCancelUptoCard
end Rows
end Go.Proofs.YtkfidffapdhbhaaGreatDoor
