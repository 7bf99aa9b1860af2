/-
  DERIVED. GIVEN WITH THE SEED: THE CARDS: each row of YtaoljfdfhggbbaaGreatDoorRows.lean that lists a variable, with what it lists TIED to the program's text (the seventh form; the later family's looks); each row that meets fmt, with fmt's text TOLD by the authors' own Lean function (tested against real Go, not proved from fmt's source: count such statements apart). THE CARD IS WHAT COUNTS. Prove the row's statement (the work); the ties are given (YtaoljfdfhggbbaaGreatDoorTie.lean); close each card by the builder's one call (the guide's Derived/Test/ToyasCard.lean, 'card_holds'). Laid BY PROGRAM, IN A SANDBOX (cutbox-door.mjs). By AI agents, Wed Nov 11 2026. No macro, syntax, notation, axiom, sorry.
-/
import Derived.Test.YtaoljfdfhggbbaaGreatDoorRows
import GoSem.ClaimSeven
namespace Go.Proofs.YtaoljfdfhggbbaaGreatDoor
namespace Rows

/-- THE TIED CARD OF 'slotlaw11.DeskCancel'. -/
def deskCancelCard : Claim7 := { stood := { row := deskCancelRow, standIns := [], harness := (true, "25f7c98690d66333e3348af2a301d03f7f866b791f5ae6599b761063ff342fb3"), looks := true }, kinds := [], alts := [], laidByText := true, laidKinds := [.data, .data, .data], laidTests := true, laidLooks := .later }
def DeskCancelCardSaid : Prop := Claim7.holds Tryz.pinned (.plain (OpenSpec.ofChange deskCancelSpec)) deskCancelCard

/-- THE SECOND FORM's CARD OF 'slotlaw11.DeskCancel'. -/
def deskCancelUptoCard : Claim7 := { stood := { row := deskCancelUptoRow, standIns := [], harness := (true, "25f7c98690d66333e3348af2a301d03f7f866b791f5ae6599b761063ff342fb3"), looks := true }, kinds := [], alts := [], laidByText := true, laidKinds := [.data, .data, .data], laidTests := true, laidLooks := .later }
def DeskCancelUptoCardSaid : Prop := Claim7.holds Tryz.pinned (.plain (OpenSpec.upto deskCancelSpec)) deskCancelUptoCard
end Rows
end Go.Proofs.YtaoljfdfhggbbaaGreatDoor
