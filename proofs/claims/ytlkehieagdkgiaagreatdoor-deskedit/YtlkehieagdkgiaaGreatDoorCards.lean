/-
  DERIVED. GIVEN WITH THE SEED: THE CARDS: each row of YtlkehieagdkgiaaGreatDoorRows.lean that lists a variable, with what it lists TIED to the program's text (the seventh form; the later family's looks); each row that meets fmt, with fmt's text TOLD by the authors' own Lean function (tested against real Go, not proved from fmt's source: count such statements apart). THE CARD IS WHAT COUNTS. Prove the row's statement (the work); the ties are given (YtlkehieagdkgiaaGreatDoorTie.lean); close each card by the builder's one call (the guide's Derived/Test/ToyasCard.lean, 'card_holds'). Laid BY PROGRAM, IN A SANDBOX (cutbox-door.mjs). By AI agents, Wed Nov 11 2026. No macro, syntax, notation, axiom, sorry.
-/
import Derived.Test.YtlkehieagdkgiaaGreatDoorRows
import GoSem.ClaimSeven
namespace Go.Proofs.YtlkehieagdkgiaaGreatDoor
namespace Rows

/-- THE TIED CARD OF 'slotlaw11.DeskFree'. -/
def deskFreeCard : Claim7 := { stood := { row := deskFreeRow, standIns := [], harness := (true, "debf06335ea47f34d4190d8d3d04f2d5368f5cf2d016c0ee46b4ba61622d51fb"), looks := true }, kinds := [], alts := [], laidByText := true, laidKinds := [.data, .data, .data], laidTests := true, laidLooks := .later }
def DeskFreeCardSaid : Prop := Claim7.holds Tryz.pinned (.plain (OpenSpec.ofChange deskFreeSpec)) deskFreeCard

/-- THE TIED CARD OF 'slotlaw11.DeskEdit'. -/
def deskEditCard : Claim7 := { stood := { row := deskEditRow, standIns := [], harness := (true, "debf06335ea47f34d4190d8d3d04f2d5368f5cf2d016c0ee46b4ba61622d51fb"), looks := true }, kinds := [], alts := [], laidByText := true, laidKinds := [.data, .data, .data], laidTests := true, laidLooks := .later }
def DeskEditCardSaid : Prop := Claim7.holds Tryz.pinned (.plain (OpenSpec.ofChange deskEditSpec)) deskEditCard

/-- THE TIED CARD OF 'slotlaw11.DeskFound'. -/
def deskFoundCard : Claim7 := { stood := { row := deskFoundRow, standIns := [], harness := (true, "debf06335ea47f34d4190d8d3d04f2d5368f5cf2d016c0ee46b4ba61622d51fb"), looks := true }, kinds := [], alts := [], laidByText := true, laidKinds := [.data, .data, .data], laidTests := true, laidLooks := .later }
def DeskFoundCardSaid : Prop := Claim7.holds Tryz.pinned (.plain (OpenSpec.ofChange deskFoundSpec)) deskFoundCard

/-- THE TIED CARD OF 'slotlaw11.DeskTwice'. -/
def deskTwiceCard : Claim7 := { stood := { row := deskTwiceRow, standIns := [], harness := (true, "debf06335ea47f34d4190d8d3d04f2d5368f5cf2d016c0ee46b4ba61622d51fb"), looks := true }, kinds := [], alts := [], laidByText := true, laidKinds := [.data, .data, .data], laidTests := true, laidLooks := .later }
def DeskTwiceCardSaid : Prop := Claim7.holds Tryz.pinned (.plain (OpenSpec.ofChange deskTwiceSpec)) deskTwiceCard

/-- THE TIED CARD OF 'slotlaw11.DeskRefused'. -/
def deskRefusedCard : Claim7 := { stood := { row := deskRefusedRow, standIns := [], harness := (true, "debf06335ea47f34d4190d8d3d04f2d5368f5cf2d016c0ee46b4ba61622d51fb"), looks := true }, kinds := [], alts := [], laidByText := true, laidKinds := [.data, .data, .data], laidTests := true, laidLooks := .later }
def DeskRefusedCardSaid : Prop := Claim7.holds Tryz.pinned (.plain (OpenSpec.ofChange deskRefusedSpec)) deskRefusedCard

/-- THE SECOND FORM's CARD OF 'slotlaw11.DeskFree'. -/
def deskFreeUptoCard : Claim7 := { stood := { row := deskFreeUptoRow, standIns := [], harness := (true, "debf06335ea47f34d4190d8d3d04f2d5368f5cf2d016c0ee46b4ba61622d51fb"), looks := true }, kinds := [], alts := [], laidByText := true, laidKinds := [.data, .data, .data], laidTests := true, laidLooks := .later }
def DeskFreeUptoCardSaid : Prop := Claim7.holds Tryz.pinned (.plain (OpenSpec.upto deskFreeSpec)) deskFreeUptoCard

/-- THE SECOND FORM's CARD OF 'slotlaw11.DeskEdit'. -/
def deskEditUptoCard : Claim7 := { stood := { row := deskEditUptoRow, standIns := [], harness := (true, "debf06335ea47f34d4190d8d3d04f2d5368f5cf2d016c0ee46b4ba61622d51fb"), looks := true }, kinds := [], alts := [], laidByText := true, laidKinds := [.data, .data, .data], laidTests := true, laidLooks := .later }
def DeskEditUptoCardSaid : Prop := Claim7.holds Tryz.pinned (.plain (OpenSpec.upto deskEditSpec)) deskEditUptoCard

/-- THE SECOND FORM's CARD OF 'slotlaw11.DeskFound'. -/
def deskFoundUptoCard : Claim7 := { stood := { row := deskFoundUptoRow, standIns := [], harness := (true, "debf06335ea47f34d4190d8d3d04f2d5368f5cf2d016c0ee46b4ba61622d51fb"), looks := true }, kinds := [], alts := [], laidByText := true, laidKinds := [.data, .data, .data], laidTests := true, laidLooks := .later }
def DeskFoundUptoCardSaid : Prop := Claim7.holds Tryz.pinned (.plain (OpenSpec.upto deskFoundSpec)) deskFoundUptoCard

/-- THE SECOND FORM's CARD OF 'slotlaw11.DeskTwice'. -/
def deskTwiceUptoCard : Claim7 := { stood := { row := deskTwiceUptoRow, standIns := [], harness := (true, "debf06335ea47f34d4190d8d3d04f2d5368f5cf2d016c0ee46b4ba61622d51fb"), looks := true }, kinds := [], alts := [], laidByText := true, laidKinds := [.data, .data, .data], laidTests := true, laidLooks := .later }
def DeskTwiceUptoCardSaid : Prop := Claim7.holds Tryz.pinned (.plain (OpenSpec.upto deskTwiceSpec)) deskTwiceUptoCard

/-- THE SECOND FORM's CARD OF 'slotlaw11.DeskRefused'. -/
def deskRefusedUptoCard : Claim7 := { stood := { row := deskRefusedUptoRow, standIns := [], harness := (true, "debf06335ea47f34d4190d8d3d04f2d5368f5cf2d016c0ee46b4ba61622d51fb"), looks := true }, kinds := [], alts := [], laidByText := true, laidKinds := [.data, .data, .data], laidTests := true, laidLooks := .later }
def DeskRefusedUptoCardSaid : Prop := Claim7.holds Tryz.pinned (.plain (OpenSpec.upto deskRefusedSpec)) deskRefusedUptoCard
end Rows
end Go.Proofs.YtlkehieagdkgiaaGreatDoor
