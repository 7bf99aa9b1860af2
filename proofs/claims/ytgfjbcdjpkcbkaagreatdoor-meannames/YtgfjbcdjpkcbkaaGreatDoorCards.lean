/-
  DERIVED. GIVEN WITH THE SEED: THE CARDS: each row of YtgfjbcdjpkcbkaaGreatDoorRows.lean that lists a variable, with what it lists TIED to the program's text (the seventh form; the later family's looks); each row that meets fmt, with fmt's text TOLD by the authors' own Lean function (tested against real Go, not proved from fmt's source: count such statements apart). THE CARD IS WHAT COUNTS. Prove the row's statement (the work); the ties are given (YtgfjbcdjpkcbkaaGreatDoorTie.lean); close each card by the builder's one call (the guide's Derived/Test/ToyasCard.lean, 'card_holds'). Laid BY PROGRAM, IN A SANDBOX (cutbox-door.mjs). By AI agents, Wed Nov 11 2026. No macro, syntax, notation, axiom, sorry.
-/
import Derived.Test.YtgfjbcdjpkcbkaaGreatDoorRows
import GoSem.ClaimSeven
namespace Go.Proofs.YtgfjbcdjpkcbkaaGreatDoor
namespace Rows

/-- THE TIED CARD OF 'slotlaw6.MeanNames'. -/
def meanNamesCard : Claim7 := { stood := { row := meanNamesRow, standIns := [], harness := (true, "add5db033c3e3ee85cc7f3c5b05f06007a9e99fce5826e84cee66d2a35e84408"), looks := true }, kinds := [], alts := [], laidByText := true, laidKinds := [.data, .data], laidTests := true, laidLooks := .later }
def MeanNamesCardSaid : Prop := Claim7.holds Tryz.pinned (.plain (OpenSpec.ofChange meanNamesSpec)) meanNamesCard

/-- THE TIED CARD OF 'slotlaw6.MeanShift'. -/
def meanShiftCard : Claim7 := { stood := { row := meanShiftRow, standIns := [], harness := (true, "add5db033c3e3ee85cc7f3c5b05f06007a9e99fce5826e84cee66d2a35e84408"), looks := true }, kinds := [], alts := [], laidByText := true, laidKinds := [.data, .data], laidTests := true, laidLooks := .later }
def MeanShiftCardSaid : Prop := Claim7.holds Tryz.pinned (.plain (OpenSpec.ofChange meanShiftSpec)) meanShiftCard

/-- THE SECOND FORM's CARD OF 'slotlaw6.MeanNames'. -/
def meanNamesUptoCard : Claim7 := { stood := { row := meanNamesUptoRow, standIns := [], harness := (true, "add5db033c3e3ee85cc7f3c5b05f06007a9e99fce5826e84cee66d2a35e84408"), looks := true }, kinds := [], alts := [], laidByText := true, laidKinds := [.data, .data], laidTests := true, laidLooks := .later }
def MeanNamesUptoCardSaid : Prop := Claim7.holds Tryz.pinned (.plain (OpenSpec.upto meanNamesSpec)) meanNamesUptoCard

/-- THE SECOND FORM's CARD OF 'slotlaw6.MeanShift'. -/
def meanShiftUptoCard : Claim7 := { stood := { row := meanShiftUptoRow, standIns := [], harness := (true, "add5db033c3e3ee85cc7f3c5b05f06007a9e99fce5826e84cee66d2a35e84408"), looks := true }, kinds := [], alts := [], laidByText := true, laidKinds := [.data, .data], laidTests := true, laidLooks := .later }
def MeanShiftUptoCardSaid : Prop := Claim7.holds Tryz.pinned (.plain (OpenSpec.upto meanShiftSpec)) meanShiftUptoCard
end Rows
end Go.Proofs.YtgfjbcdjpkcbkaaGreatDoor
