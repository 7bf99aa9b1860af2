/-
  DERIVED. GIVEN WITH THE SEED: THE CARDS: each row of YtllcpoibnmhghaaGreatDoorRows.lean that lists a variable, with what it lists TIED to the program's text (the seventh form; the later family's looks); each row that meets fmt, with fmt's text TOLD by the authors' own Lean function (tested against real Go, not proved from fmt's source: count such statements apart). THE CARD IS WHAT COUNTS. Prove the row's statement (the work); the ties are given (YtllcpoibnmhghaaGreatDoorTie.lean); close each card by the builder's one call (the guide's Derived/Test/ToyasCard.lean, 'card_holds'). Laid BY PROGRAM, IN A SANDBOX (cutbox-door.mjs). By AI agents, Wed Nov 11 2026. No macro, syntax, notation, axiom, sorry.
-/
import Derived.Test.YtllcpoibnmhghaaGreatDoorRows
import GoSem.ClaimSeven
namespace Go.Proofs.YtllcpoibnmhghaaGreatDoor
namespace Rows

/-- THE TIED CARD OF 'slotlaw6.MeanSets'. -/
def meanSetsCard : Claim7 := { stood := { row := meanSetsRow, standIns := [], harness := (true, "2ee737203d723152714111e602137d205e399aa84a2ee3a3cfe0c756db459d1a"), looks := true }, kinds := [], alts := [], laidByText := true, laidKinds := [.data, .data], laidTests := true, laidLooks := .later }
def MeanSetsCardSaid : Prop := Claim7.holds Tryz.pinned (.plain (OpenSpec.ofChange meanSetsSpec)) meanSetsCard

/-- THE TIED CARD OF 'slotlaw6.MeanDays'. -/
def meanDaysCard : Claim7 := { stood := { row := meanDaysRow, standIns := [], harness := (true, "2ee737203d723152714111e602137d205e399aa84a2ee3a3cfe0c756db459d1a"), looks := true }, kinds := [], alts := [], laidByText := true, laidKinds := [.data, .data], laidTests := true, laidLooks := .later }
def MeanDaysCardSaid : Prop := Claim7.holds Tryz.pinned (.plain (OpenSpec.ofChange meanDaysSpec)) meanDaysCard

/-- THE TIED CARD OF 'slotlaw6.MeanWeeks'. -/
def meanWeeksCard : Claim7 := { stood := { row := meanWeeksRow, standIns := [], harness := (true, "2ee737203d723152714111e602137d205e399aa84a2ee3a3cfe0c756db459d1a"), looks := true }, kinds := [], alts := [], laidByText := true, laidKinds := [.data, .data], laidTests := true, laidLooks := .later }
def MeanWeeksCardSaid : Prop := Claim7.holds Tryz.pinned (.plain (OpenSpec.ofChange meanWeeksSpec)) meanWeeksCard

/-- THE TIED CARD OF 'slotlaw6.MeanShift'. -/
def meanShiftCard : Claim7 := { stood := { row := meanShiftRow, standIns := [], harness := (true, "2ee737203d723152714111e602137d205e399aa84a2ee3a3cfe0c756db459d1a"), looks := true }, kinds := [], alts := [], laidByText := true, laidKinds := [.data, .data], laidTests := true, laidLooks := .later }
def MeanShiftCardSaid : Prop := Claim7.holds Tryz.pinned (.plain (OpenSpec.ofChange meanShiftSpec)) meanShiftCard

/-- THE TIED CARD OF 'slotlaw6.MeanMore'. -/
def meanMoreCard : Claim7 := { stood := { row := meanMoreRow, standIns := [], harness := (true, "2ee737203d723152714111e602137d205e399aa84a2ee3a3cfe0c756db459d1a"), looks := true }, kinds := [], alts := [], laidByText := true, laidKinds := [.data, .data], laidTests := true, laidLooks := .later }
def MeanMoreCardSaid : Prop := Claim7.holds Tryz.pinned (.plain (OpenSpec.ofChange meanMoreSpec)) meanMoreCard

/-- THE SECOND FORM's CARD OF 'slotlaw6.MeanSets'. -/
def meanSetsUptoCard : Claim7 := { stood := { row := meanSetsUptoRow, standIns := [], harness := (true, "2ee737203d723152714111e602137d205e399aa84a2ee3a3cfe0c756db459d1a"), looks := true }, kinds := [], alts := [], laidByText := true, laidKinds := [.data, .data], laidTests := true, laidLooks := .later }
def MeanSetsUptoCardSaid : Prop := Claim7.holds Tryz.pinned (.plain (OpenSpec.upto meanSetsSpec)) meanSetsUptoCard

/-- THE SECOND FORM's CARD OF 'slotlaw6.MeanDays'. -/
def meanDaysUptoCard : Claim7 := { stood := { row := meanDaysUptoRow, standIns := [], harness := (true, "2ee737203d723152714111e602137d205e399aa84a2ee3a3cfe0c756db459d1a"), looks := true }, kinds := [], alts := [], laidByText := true, laidKinds := [.data, .data], laidTests := true, laidLooks := .later }
def MeanDaysUptoCardSaid : Prop := Claim7.holds Tryz.pinned (.plain (OpenSpec.upto meanDaysSpec)) meanDaysUptoCard

/-- THE SECOND FORM's CARD OF 'slotlaw6.MeanWeeks'. -/
def meanWeeksUptoCard : Claim7 := { stood := { row := meanWeeksUptoRow, standIns := [], harness := (true, "2ee737203d723152714111e602137d205e399aa84a2ee3a3cfe0c756db459d1a"), looks := true }, kinds := [], alts := [], laidByText := true, laidKinds := [.data, .data], laidTests := true, laidLooks := .later }
def MeanWeeksUptoCardSaid : Prop := Claim7.holds Tryz.pinned (.plain (OpenSpec.upto meanWeeksSpec)) meanWeeksUptoCard

/-- THE SECOND FORM's CARD OF 'slotlaw6.MeanShift'. -/
def meanShiftUptoCard : Claim7 := { stood := { row := meanShiftUptoRow, standIns := [], harness := (true, "2ee737203d723152714111e602137d205e399aa84a2ee3a3cfe0c756db459d1a"), looks := true }, kinds := [], alts := [], laidByText := true, laidKinds := [.data, .data], laidTests := true, laidLooks := .later }
def MeanShiftUptoCardSaid : Prop := Claim7.holds Tryz.pinned (.plain (OpenSpec.upto meanShiftSpec)) meanShiftUptoCard

/-- THE SECOND FORM's CARD OF 'slotlaw6.MeanMore'. -/
def meanMoreUptoCard : Claim7 := { stood := { row := meanMoreUptoRow, standIns := [], harness := (true, "2ee737203d723152714111e602137d205e399aa84a2ee3a3cfe0c756db459d1a"), looks := true }, kinds := [], alts := [], laidByText := true, laidKinds := [.data, .data], laidTests := true, laidLooks := .later }
def MeanMoreUptoCardSaid : Prop := Claim7.holds Tryz.pinned (.plain (OpenSpec.upto meanMoreSpec)) meanMoreUptoCard
end Rows
end Go.Proofs.YtllcpoibnmhghaaGreatDoor
