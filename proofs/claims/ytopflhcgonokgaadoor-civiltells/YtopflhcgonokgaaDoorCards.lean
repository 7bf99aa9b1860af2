/-
  DERIVED. GIVEN WITH THE SEED: THE CARDS: each row of YtopflhcgonokgaaDoorRows.lean that lists a variable, with what it lists TIED to the program's text (the seventh form; the later family's looks); each row that meets fmt, with fmt's text TOLD by the authors' own Lean function (tested against real Go, not proved from fmt's source: count such statements apart). THE CARD IS WHAT COUNTS. Prove the row's statement (the work); the ties are given (YtopflhcgonokgaaDoorTie.lean); close each card by the builder's one call (the guide's Derived/Test/ToyasCard.lean, 'card_holds'). Laid BY PROGRAM, IN A SANDBOX (cutbox-door.mjs). By AI agents, Wed Nov 11 2026. No macro, syntax, notation, axiom, sorry.
-/
import Derived.Test.YtopflhcgonokgaaDoorRows
import GoSem.ClaimSeven
namespace Go.Proofs.YtopflhcgonokgaaDoor
namespace Rows

/-- THE TIED CARD OF 'slotlaw1.CivilTells'. -/
def civilTellsCard : Claim7 := { stood := { row := civilTellsRow, standIns := [], harness := (true, "235d97a7dd8a61d16adccaf28f3df4dc213f99f8025b24b3e17c61d5d8c183a2"), looks := false }, kinds := [], alts := [], laidByText := true, laidKinds := [.data], laidTests := true, laidLooks := .later }
def CivilTellsCardSaid : Prop := Claim7.holds Tryd.pinned (.plain (OpenSpec.ofChange civilTellsSpec)) civilTellsCard

/-- THE TIED CARD OF 'slotlaw1.CivilTurns'. -/
def civilTurnsCard : Claim7 := { stood := { row := civilTurnsRow, standIns := [], harness := (true, "235d97a7dd8a61d16adccaf28f3df4dc213f99f8025b24b3e17c61d5d8c183a2"), looks := false }, kinds := [], alts := [], laidByText := true, laidKinds := [.data], laidTests := true, laidLooks := .later }
def CivilTurnsCardSaid : Prop := Claim7.holds Tryd.pinned (.plain (OpenSpec.ofChange civilTurnsSpec)) civilTurnsCard

/-- THE TIED CARD OF 'slotlaw1.CivilNext'. -/
def civilNextCard : Claim7 := { stood := { row := civilNextRow, standIns := [], harness := (true, "235d97a7dd8a61d16adccaf28f3df4dc213f99f8025b24b3e17c61d5d8c183a2"), looks := false }, kinds := [], alts := [], laidByText := true, laidKinds := [.data], laidTests := true, laidLooks := .later }
def CivilNextCardSaid : Prop := Claim7.holds Tryd.pinned (.plain (OpenSpec.ofChange civilNextSpec)) civilNextCard

/-- THE TIED CARD OF 'slotlaw1.CivilYears'. -/
def civilYearsCard : Claim7 := { stood := { row := civilYearsRow, standIns := [], harness := (true, "235d97a7dd8a61d16adccaf28f3df4dc213f99f8025b24b3e17c61d5d8c183a2"), looks := false }, kinds := [], alts := [], laidByText := true, laidKinds := [.data], laidTests := true, laidLooks := .later }
def CivilYearsCardSaid : Prop := Claim7.holds Tryd.pinned (.plain (OpenSpec.ofChange civilYearsSpec)) civilYearsCard

/-- THE SECOND FORM's CARD OF 'slotlaw1.CivilTells'. -/
def civilTellsUptoCard : Claim7 := { stood := { row := civilTellsUptoRow, standIns := [], harness := (true, "235d97a7dd8a61d16adccaf28f3df4dc213f99f8025b24b3e17c61d5d8c183a2"), looks := false }, kinds := [], alts := [], laidByText := true, laidKinds := [.data], laidTests := true, laidLooks := .later }
def CivilTellsUptoCardSaid : Prop := Claim7.holds Tryd.pinned (.plain (OpenSpec.upto civilTellsSpec)) civilTellsUptoCard

/-- THE SECOND FORM's CARD OF 'slotlaw1.CivilTurns'. -/
def civilTurnsUptoCard : Claim7 := { stood := { row := civilTurnsUptoRow, standIns := [], harness := (true, "235d97a7dd8a61d16adccaf28f3df4dc213f99f8025b24b3e17c61d5d8c183a2"), looks := false }, kinds := [], alts := [], laidByText := true, laidKinds := [.data], laidTests := true, laidLooks := .later }
def CivilTurnsUptoCardSaid : Prop := Claim7.holds Tryd.pinned (.plain (OpenSpec.upto civilTurnsSpec)) civilTurnsUptoCard

/-- THE SECOND FORM's CARD OF 'slotlaw1.CivilNext'. -/
def civilNextUptoCard : Claim7 := { stood := { row := civilNextUptoRow, standIns := [], harness := (true, "235d97a7dd8a61d16adccaf28f3df4dc213f99f8025b24b3e17c61d5d8c183a2"), looks := false }, kinds := [], alts := [], laidByText := true, laidKinds := [.data], laidTests := true, laidLooks := .later }
def CivilNextUptoCardSaid : Prop := Claim7.holds Tryd.pinned (.plain (OpenSpec.upto civilNextSpec)) civilNextUptoCard

/-- THE SECOND FORM's CARD OF 'slotlaw1.CivilYears'. -/
def civilYearsUptoCard : Claim7 := { stood := { row := civilYearsUptoRow, standIns := [], harness := (true, "235d97a7dd8a61d16adccaf28f3df4dc213f99f8025b24b3e17c61d5d8c183a2"), looks := false }, kinds := [], alts := [], laidByText := true, laidKinds := [.data], laidTests := true, laidLooks := .later }
def CivilYearsUptoCardSaid : Prop := Claim7.holds Tryd.pinned (.plain (OpenSpec.upto civilYearsSpec)) civilYearsUptoCard
end Rows
end Go.Proofs.YtopflhcgonokgaaDoor
