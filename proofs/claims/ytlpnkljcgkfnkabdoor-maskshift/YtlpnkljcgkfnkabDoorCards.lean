/-
  DERIVED. GIVEN WITH THE SEED: THE CARDS: each row of YtlpnkljcgkfnkabDoorRows.lean that lists a variable, with what it lists TIED to the program's text (the seventh form; the later family's looks); each row that meets fmt, with fmt's text TOLD by the authors' own Lean function (tested against real Go, not proved from fmt's source: count such statements apart). THE CARD IS WHAT COUNTS. Prove the row's statement (the work); the ties are given (YtlpnkljcgkfnkabDoorTie.lean); close each card by the builder's one call (the guide's Derived/Test/ToyasCard.lean, 'card_holds'). Laid BY PROGRAM, IN A SANDBOX (cutbox-door.mjs). By AI agents, Wed Nov 11 2026. No macro, syntax, notation, axiom, sorry.
-/
import Derived.Test.YtlpnkljcgkfnkabDoorRows
import GoSem.ClaimSeven
namespace Go.Proofs.YtlpnkljcgkfnkabDoor
namespace Rows

/-- THE TIED CARD OF 'slotlaw2.MaskSets'. -/
def maskSetsCard : Claim7 := { stood := { row := maskSetsRow, standIns := [], harness := (true, "0af0c2c4b1441542c7e40a6f473bb7ee22311f94b42a2646eda29fcddcddecfd"), looks := false }, kinds := [], alts := [], laidByText := true, laidKinds := [.data], laidTests := true, laidLooks := .later }
def MaskSetsCardSaid : Prop := Claim7.holds Tryd.pinned (.plain (OpenSpec.ofChange maskSetsSpec)) maskSetsCard

/-- THE TIED CARD OF 'slotlaw2.MaskShift'. -/
def maskShiftCard : Claim7 := { stood := { row := maskShiftRow, standIns := [], harness := (true, "0af0c2c4b1441542c7e40a6f473bb7ee22311f94b42a2646eda29fcddcddecfd"), looks := false }, kinds := [], alts := [], laidByText := true, laidKinds := [.data], laidTests := true, laidLooks := .later }
def MaskShiftCardSaid : Prop := Claim7.holds Tryd.pinned (.plain (OpenSpec.ofChange maskShiftSpec)) maskShiftCard

/-- THE TIED CARD OF 'slotlaw2.MaskNext'. -/
def maskNextCard : Claim7 := { stood := { row := maskNextRow, standIns := [], harness := (true, "0af0c2c4b1441542c7e40a6f473bb7ee22311f94b42a2646eda29fcddcddecfd"), looks := false }, kinds := [], alts := [], laidByText := true, laidKinds := [.data], laidTests := true, laidLooks := .later }
def MaskNextCardSaid : Prop := Claim7.holds Tryd.pinned (.plain (OpenSpec.ofChange maskNextSpec)) maskNextCard

/-- THE TIED CARD OF 'slotlaw2.MaskPart'. -/
def maskPartCard : Claim7 := { stood := { row := maskPartRow, standIns := [], harness := (true, "0af0c2c4b1441542c7e40a6f473bb7ee22311f94b42a2646eda29fcddcddecfd"), looks := false }, kinds := [], alts := [], laidByText := true, laidKinds := [.data], laidTests := true, laidLooks := .later }
def MaskPartCardSaid : Prop := Claim7.holds Tryd.pinned (.plain (OpenSpec.ofChange maskPartSpec)) maskPartCard

/-- THE SECOND FORM's CARD OF 'slotlaw2.MaskSets'. -/
def maskSetsUptoCard : Claim7 := { stood := { row := maskSetsUptoRow, standIns := [], harness := (true, "0af0c2c4b1441542c7e40a6f473bb7ee22311f94b42a2646eda29fcddcddecfd"), looks := false }, kinds := [], alts := [], laidByText := true, laidKinds := [.data], laidTests := true, laidLooks := .later }
def MaskSetsUptoCardSaid : Prop := Claim7.holds Tryd.pinned (.plain (OpenSpec.upto maskSetsSpec)) maskSetsUptoCard

/-- THE SECOND FORM's CARD OF 'slotlaw2.MaskShift'. -/
def maskShiftUptoCard : Claim7 := { stood := { row := maskShiftUptoRow, standIns := [], harness := (true, "0af0c2c4b1441542c7e40a6f473bb7ee22311f94b42a2646eda29fcddcddecfd"), looks := false }, kinds := [], alts := [], laidByText := true, laidKinds := [.data], laidTests := true, laidLooks := .later }
def MaskShiftUptoCardSaid : Prop := Claim7.holds Tryd.pinned (.plain (OpenSpec.upto maskShiftSpec)) maskShiftUptoCard

/-- THE SECOND FORM's CARD OF 'slotlaw2.MaskNext'. -/
def maskNextUptoCard : Claim7 := { stood := { row := maskNextUptoRow, standIns := [], harness := (true, "0af0c2c4b1441542c7e40a6f473bb7ee22311f94b42a2646eda29fcddcddecfd"), looks := false }, kinds := [], alts := [], laidByText := true, laidKinds := [.data], laidTests := true, laidLooks := .later }
def MaskNextUptoCardSaid : Prop := Claim7.holds Tryd.pinned (.plain (OpenSpec.upto maskNextSpec)) maskNextUptoCard

/-- THE SECOND FORM's CARD OF 'slotlaw2.MaskPart'. -/
def maskPartUptoCard : Claim7 := { stood := { row := maskPartUptoRow, standIns := [], harness := (true, "0af0c2c4b1441542c7e40a6f473bb7ee22311f94b42a2646eda29fcddcddecfd"), looks := false }, kinds := [], alts := [], laidByText := true, laidKinds := [.data], laidTests := true, laidLooks := .later }
def MaskPartUptoCardSaid : Prop := Claim7.holds Tryd.pinned (.plain (OpenSpec.upto maskPartSpec)) maskPartUptoCard
end Rows
end Go.Proofs.YtlpnkljcgkfnkabDoor
