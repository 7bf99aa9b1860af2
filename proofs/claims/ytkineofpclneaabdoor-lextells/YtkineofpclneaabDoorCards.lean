/-
  DERIVED. GIVEN WITH THE SEED: THE CARDS: each row of YtkineofpclneaabDoorRows.lean that lists a variable, with what it lists TIED to the program's text (the seventh form; the later family's looks); each row that meets fmt, with fmt's text TOLD by the authors' own Lean function (tested against real Go, not proved from fmt's source: count such statements apart). THE CARD IS WHAT COUNTS. Prove the row's statement (the work); the ties are given (YtkineofpclneaabDoorTie.lean); close each card by the builder's one call (the guide's Derived/Test/ToyasCard.lean, 'card_holds'). Laid BY PROGRAM, IN A SANDBOX (cutbox-door.mjs). By AI agents, Wed Nov 11 2026. No macro, syntax, notation, axiom, sorry.
-/
import Derived.Test.YtkineofpclneaabDoorRows
import GoSem.ClaimSeven
namespace Go.Proofs.YtkineofpclneaabDoor
namespace Rows

/-- THE TIED CARD OF 'slotlaw2.MaskSets'. -/
def maskSetsCard : Claim7 := { stood := { row := maskSetsRow, standIns := [], harness := (true, "d9c212e6c58487e73f80f8431a072b79ccab40e0cdbca02eab1d323be995cddf"), looks := false }, kinds := [], alts := [], laidByText := true, laidKinds := [.data], laidTests := true, laidLooks := .later }
def MaskSetsCardSaid : Prop := Claim7.holds Tryd.pinned (.plain (OpenSpec.ofChange maskSetsSpec)) maskSetsCard

/-- THE TIED CARD OF 'slotlaw2.MaskShift'. -/
def maskShiftCard : Claim7 := { stood := { row := maskShiftRow, standIns := [], harness := (true, "d9c212e6c58487e73f80f8431a072b79ccab40e0cdbca02eab1d323be995cddf"), looks := false }, kinds := [], alts := [], laidByText := true, laidKinds := [.data], laidTests := true, laidLooks := .later }
def MaskShiftCardSaid : Prop := Claim7.holds Tryd.pinned (.plain (OpenSpec.ofChange maskShiftSpec)) maskShiftCard

/-- THE TIED CARD OF 'slotlaw2.MaskNext'. -/
def maskNextCard : Claim7 := { stood := { row := maskNextRow, standIns := [], harness := (true, "d9c212e6c58487e73f80f8431a072b79ccab40e0cdbca02eab1d323be995cddf"), looks := false }, kinds := [], alts := [], laidByText := true, laidKinds := [.data], laidTests := true, laidLooks := .later }
def MaskNextCardSaid : Prop := Claim7.holds Tryd.pinned (.plain (OpenSpec.ofChange maskNextSpec)) maskNextCard

/-- THE TIED CARD OF 'slotlaw2.MaskPart'. -/
def maskPartCard : Claim7 := { stood := { row := maskPartRow, standIns := [], harness := (true, "d9c212e6c58487e73f80f8431a072b79ccab40e0cdbca02eab1d323be995cddf"), looks := false }, kinds := [], alts := [], laidByText := true, laidKinds := [.data], laidTests := true, laidLooks := .later }
def MaskPartCardSaid : Prop := Claim7.holds Tryd.pinned (.plain (OpenSpec.ofChange maskPartSpec)) maskPartCard

/-- THE TIED CARD OF 'slotlaw3.LexTells'. -/
def lexTellsCard : Claim7 := { stood := { row := lexTellsRow, standIns := [], harness := (true, "d9c212e6c58487e73f80f8431a072b79ccab40e0cdbca02eab1d323be995cddf"), looks := false }, kinds := [], alts := [], laidByText := true, laidKinds := [.data], laidTests := true, laidLooks := .later }
def LexTellsCardSaid : Prop := Claim7.holds Tryd.pinned (.plain (OpenSpec.ofChange lexTellsSpec)) lexTellsCard

/-- THE TIED CARD OF 'slotlaw3.LexPlaces'. -/
def lexPlacesCard : Claim7 := { stood := { row := lexPlacesRow, standIns := [], harness := (true, "d9c212e6c58487e73f80f8431a072b79ccab40e0cdbca02eab1d323be995cddf"), looks := false }, kinds := [], alts := [], laidByText := true, laidKinds := [.data], laidTests := true, laidLooks := .later }
def LexPlacesCardSaid : Prop := Claim7.holds Tryd.pinned (.plain (OpenSpec.ofChange lexPlacesSpec)) lexPlacesCard

/-- THE SECOND FORM's CARD OF 'slotlaw2.MaskSets'. -/
def maskSetsUptoCard : Claim7 := { stood := { row := maskSetsUptoRow, standIns := [], harness := (true, "d9c212e6c58487e73f80f8431a072b79ccab40e0cdbca02eab1d323be995cddf"), looks := false }, kinds := [], alts := [], laidByText := true, laidKinds := [.data], laidTests := true, laidLooks := .later }
def MaskSetsUptoCardSaid : Prop := Claim7.holds Tryd.pinned (.plain (OpenSpec.upto maskSetsSpec)) maskSetsUptoCard

/-- THE SECOND FORM's CARD OF 'slotlaw2.MaskShift'. -/
def maskShiftUptoCard : Claim7 := { stood := { row := maskShiftUptoRow, standIns := [], harness := (true, "d9c212e6c58487e73f80f8431a072b79ccab40e0cdbca02eab1d323be995cddf"), looks := false }, kinds := [], alts := [], laidByText := true, laidKinds := [.data], laidTests := true, laidLooks := .later }
def MaskShiftUptoCardSaid : Prop := Claim7.holds Tryd.pinned (.plain (OpenSpec.upto maskShiftSpec)) maskShiftUptoCard

/-- THE SECOND FORM's CARD OF 'slotlaw2.MaskNext'. -/
def maskNextUptoCard : Claim7 := { stood := { row := maskNextUptoRow, standIns := [], harness := (true, "d9c212e6c58487e73f80f8431a072b79ccab40e0cdbca02eab1d323be995cddf"), looks := false }, kinds := [], alts := [], laidByText := true, laidKinds := [.data], laidTests := true, laidLooks := .later }
def MaskNextUptoCardSaid : Prop := Claim7.holds Tryd.pinned (.plain (OpenSpec.upto maskNextSpec)) maskNextUptoCard

/-- THE SECOND FORM's CARD OF 'slotlaw2.MaskPart'. -/
def maskPartUptoCard : Claim7 := { stood := { row := maskPartUptoRow, standIns := [], harness := (true, "d9c212e6c58487e73f80f8431a072b79ccab40e0cdbca02eab1d323be995cddf"), looks := false }, kinds := [], alts := [], laidByText := true, laidKinds := [.data], laidTests := true, laidLooks := .later }
def MaskPartUptoCardSaid : Prop := Claim7.holds Tryd.pinned (.plain (OpenSpec.upto maskPartSpec)) maskPartUptoCard

/-- THE SECOND FORM's CARD OF 'slotlaw3.LexTells'. -/
def lexTellsUptoCard : Claim7 := { stood := { row := lexTellsUptoRow, standIns := [], harness := (true, "d9c212e6c58487e73f80f8431a072b79ccab40e0cdbca02eab1d323be995cddf"), looks := false }, kinds := [], alts := [], laidByText := true, laidKinds := [.data], laidTests := true, laidLooks := .later }
def LexTellsUptoCardSaid : Prop := Claim7.holds Tryd.pinned (.plain (OpenSpec.upto lexTellsSpec)) lexTellsUptoCard

/-- THE SECOND FORM's CARD OF 'slotlaw3.LexPlaces'. -/
def lexPlacesUptoCard : Claim7 := { stood := { row := lexPlacesUptoRow, standIns := [], harness := (true, "d9c212e6c58487e73f80f8431a072b79ccab40e0cdbca02eab1d323be995cddf"), looks := false }, kinds := [], alts := [], laidByText := true, laidKinds := [.data], laidTests := true, laidLooks := .later }
def LexPlacesUptoCardSaid : Prop := Claim7.holds Tryd.pinned (.plain (OpenSpec.upto lexPlacesSpec)) lexPlacesUptoCard
end Rows
end Go.Proofs.YtkineofpclneaabDoor
