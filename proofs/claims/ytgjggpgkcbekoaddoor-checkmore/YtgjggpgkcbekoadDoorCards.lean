/-
  DERIVED. GIVEN WITH THE SEED: THE CARDS: each row of YtgjggpgkcbekoadDoorRows.lean that lists a variable, with what it lists TIED to the program's text (the seventh form; the later family's looks); each row that meets fmt, with fmt's text TOLD by the authors' own Lean function (tested against real Go, not proved from fmt's source: count such statements apart). THE CARD IS WHAT COUNTS. Prove the row's statement (the work); the ties are given (YtgjggpgkcbekoadDoorTie.lean); close each card by the builder's one call (the guide's Derived/Test/ToyasCard.lean, 'card_holds'). Laid BY PROGRAM, IN A SANDBOX (cutbox-door.mjs). By AI agents, Wed Nov 11 2026. No macro, syntax, notation, axiom, sorry.
-/
import Derived.Test.YtgjggpgkcbekoadDoorRows
import GoSem.ClaimSeven
namespace Go.Proofs.YtgjggpgkcbekoadDoor
namespace Rows

/-- THE TIED CARD OF 'slotlaw5.CheckUses'. -/
def checkUsesCard : Claim7 := { stood := { row := checkUsesRow, standIns := [], harness := (true, "ea8b1e4bb148cb792bb0089f31289dcba01982decfb5f0daed90c61fe9092e8d"), looks := true }, kinds := [], alts := [], laidByText := true, laidKinds := [.data, .data], laidTests := true, laidLooks := .later }
def CheckUsesCardSaid : Prop := Claim7.holds Tryd.pinned (.plain (OpenSpec.ofChange checkUsesSpec)) checkUsesCard

/-- THE TIED CARD OF 'slotlaw5.CheckMore'. -/
def checkMoreCard : Claim7 := { stood := { row := checkMoreRow, standIns := [], harness := (true, "ea8b1e4bb148cb792bb0089f31289dcba01982decfb5f0daed90c61fe9092e8d"), looks := true }, kinds := [], alts := [], laidByText := true, laidKinds := [.data, .data], laidTests := true, laidLooks := .later }
def CheckMoreCardSaid : Prop := Claim7.holds Tryd.pinned (.plain (OpenSpec.ofChange checkMoreSpec)) checkMoreCard

/-- THE SECOND FORM's CARD OF 'slotlaw5.CheckUses'. -/
def checkUsesUptoCard : Claim7 := { stood := { row := checkUsesUptoRow, standIns := [], harness := (true, "ea8b1e4bb148cb792bb0089f31289dcba01982decfb5f0daed90c61fe9092e8d"), looks := true }, kinds := [], alts := [], laidByText := true, laidKinds := [.data, .data], laidTests := true, laidLooks := .later }
def CheckUsesUptoCardSaid : Prop := Claim7.holds Tryd.pinned (.plain (OpenSpec.upto checkUsesSpec)) checkUsesUptoCard

/-- THE SECOND FORM's CARD OF 'slotlaw5.CheckMore'. -/
def checkMoreUptoCard : Claim7 := { stood := { row := checkMoreUptoRow, standIns := [], harness := (true, "ea8b1e4bb148cb792bb0089f31289dcba01982decfb5f0daed90c61fe9092e8d"), looks := true }, kinds := [], alts := [], laidByText := true, laidKinds := [.data, .data], laidTests := true, laidLooks := .later }
def CheckMoreUptoCardSaid : Prop := Claim7.holds Tryd.pinned (.plain (OpenSpec.upto checkMoreSpec)) checkMoreUptoCard
end Rows
end Go.Proofs.YtgjggpgkcbekoadDoor
