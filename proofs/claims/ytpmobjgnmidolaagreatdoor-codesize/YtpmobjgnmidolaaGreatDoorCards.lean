/-
  DERIVED. GIVEN WITH THE SEED: THE CARDS: each row of YtpmobjgnmidolaaGreatDoorRows.lean that lists a variable, with what it lists TIED to the program's text (the seventh form; the later family's looks); each row that meets fmt, with fmt's text TOLD by the authors' own Lean function (tested against real Go, not proved from fmt's source: count such statements apart). THE CARD IS WHAT COUNTS. Prove the row's statement (the work); the ties are given (YtpmobjgnmidolaaGreatDoorTie.lean); close each card by the builder's one call (the guide's Derived/Test/ToyasCard.lean, 'card_holds'). Laid BY PROGRAM, IN A SANDBOX (cutbox-door.mjs). By AI agents, Wed Nov 11 2026. No macro, syntax, notation, axiom, sorry.
-/
import Derived.Test.YtpmobjgnmidolaaGreatDoorRows
import GoSem.ClaimSeven
namespace Go.Proofs.YtpmobjgnmidolaaGreatDoor
namespace Rows

/-- THE TIED CARD OF 'slotlaw7.CodeSize'. -/
def codeSizeCard : Claim7 := { stood := { row := codeSizeRow, standIns := [], harness := (true, "380c9d9cf8a148b86e9c626dadbc594af803f9149accb7001f41f550df980476"), looks := true }, kinds := [], alts := [], laidByText := true, laidKinds := [.data, .data, .data], laidTests := true, laidLooks := .later }
def CodeSizeCardSaid : Prop := Claim7.holds Tryz.pinned (.plain (OpenSpec.ofChange codeSizeSpec)) codeSizeCard

/-- THE SECOND FORM's CARD OF 'slotlaw7.CodeSize'. -/
def codeSizeUptoCard : Claim7 := { stood := { row := codeSizeUptoRow, standIns := [], harness := (true, "380c9d9cf8a148b86e9c626dadbc594af803f9149accb7001f41f550df980476"), looks := true }, kinds := [], alts := [], laidByText := true, laidKinds := [.data, .data, .data], laidTests := true, laidLooks := .later }
def CodeSizeUptoCardSaid : Prop := Claim7.holds Tryz.pinned (.plain (OpenSpec.upto codeSizeSpec)) codeSizeUptoCard
end Rows
end Go.Proofs.YtpmobjgnmidolaaGreatDoor
