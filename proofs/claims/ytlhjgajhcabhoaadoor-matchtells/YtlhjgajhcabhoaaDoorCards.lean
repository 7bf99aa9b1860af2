/-
  DERIVED. GIVEN WITH THE SEED: THE CARDS: each row of YtlhjgajhcabhoaaDoorRows.lean that lists a variable, with what it lists TIED to the program's text (the seventh form; the later family's looks); each row that meets fmt, with fmt's text TOLD by the authors' own Lean function (tested against real Go, not proved from fmt's source: count such statements apart). THE CARD IS WHAT COUNTS. Prove the row's statement (the work); the ties are given (YtlhjgajhcabhoaaDoorTie.lean); close each card by the builder's one call (the guide's Derived/Test/ToyasCard.lean, 'card_holds'). Laid BY PROGRAM, IN A SANDBOX (cutbox-door.mjs). By AI agents, Wed Nov 11 2026. No macro, syntax, notation, axiom, sorry.
-/
import Derived.Test.YtlhjgajhcabhoaaDoorRows
import GoSem.ClaimSeven
namespace Go.Proofs.YtlhjgajhcabhoaaDoor
namespace Rows

/-- THE TIED CARD OF 'slotlaw10.MatchTells'. -/
def matchTellsCard : Claim7 := { stood := { row := matchTellsRow, standIns := [], harness := (true, "73b6d3e2f5ae1bc7053948c734ea6577b561420bbfb23cc8fc1d9739ca2ddd2a"), looks := false }, kinds := [], alts := [], laidByText := true, laidKinds := [.data], laidTests := true, laidLooks := .later }
def MatchTellsCardSaid : Prop := Claim7.holds Tryd.pinned (.plain (OpenSpec.ofChange matchTellsSpec)) matchTellsCard

/-- THE TIED CARD OF 'slotlaw10.MatchFits'. -/
def matchFitsCard : Claim7 := { stood := { row := matchFitsRow, standIns := [], harness := (true, "73b6d3e2f5ae1bc7053948c734ea6577b561420bbfb23cc8fc1d9739ca2ddd2a"), looks := false }, kinds := [], alts := [], laidByText := true, laidKinds := [.data], laidTests := true, laidLooks := .later }
def MatchFitsCardSaid : Prop := Claim7.holds Tryd.pinned (.plain (OpenSpec.ofChange matchFitsSpec)) matchFitsCard

/-- THE TIED CARD OF 'slotlaw10.MatchFirst'. -/
def matchFirstCard : Claim7 := { stood := { row := matchFirstRow, standIns := [], harness := (true, "73b6d3e2f5ae1bc7053948c734ea6577b561420bbfb23cc8fc1d9739ca2ddd2a"), looks := false }, kinds := [], alts := [], laidByText := true, laidKinds := [.data], laidTests := true, laidLooks := .later }
def MatchFirstCardSaid : Prop := Claim7.holds Tryd.pinned (.plain (OpenSpec.ofChange matchFirstSpec)) matchFirstCard

/-- THE TIED CARD OF 'slotlaw10.MatchMore'. -/
def matchMoreCard : Claim7 := { stood := { row := matchMoreRow, standIns := [], harness := (true, "73b6d3e2f5ae1bc7053948c734ea6577b561420bbfb23cc8fc1d9739ca2ddd2a"), looks := false }, kinds := [], alts := [], laidByText := true, laidKinds := [.data], laidTests := true, laidLooks := .later }
def MatchMoreCardSaid : Prop := Claim7.holds Tryd.pinned (.plain (OpenSpec.ofChange matchMoreSpec)) matchMoreCard

/-- THE TIED CARD OF 'slotlaw10.MatchDays'. -/
def matchDaysCard : Claim7 := { stood := { row := matchDaysRow, standIns := [], harness := (true, "73b6d3e2f5ae1bc7053948c734ea6577b561420bbfb23cc8fc1d9739ca2ddd2a"), looks := false }, kinds := [], alts := [], laidByText := true, laidKinds := [.data], laidTests := true, laidLooks := .later }
def MatchDaysCardSaid : Prop := Claim7.holds Tryd.pinned (.plain (OpenSpec.ofChange matchDaysSpec)) matchDaysCard

/-- THE SECOND FORM's CARD OF 'slotlaw10.MatchTells'. -/
def matchTellsUptoCard : Claim7 := { stood := { row := matchTellsUptoRow, standIns := [], harness := (true, "73b6d3e2f5ae1bc7053948c734ea6577b561420bbfb23cc8fc1d9739ca2ddd2a"), looks := false }, kinds := [], alts := [], laidByText := true, laidKinds := [.data], laidTests := true, laidLooks := .later }
def MatchTellsUptoCardSaid : Prop := Claim7.holds Tryd.pinned (.plain (OpenSpec.upto matchTellsSpec)) matchTellsUptoCard

/-- THE SECOND FORM's CARD OF 'slotlaw10.MatchFits'. -/
def matchFitsUptoCard : Claim7 := { stood := { row := matchFitsUptoRow, standIns := [], harness := (true, "73b6d3e2f5ae1bc7053948c734ea6577b561420bbfb23cc8fc1d9739ca2ddd2a"), looks := false }, kinds := [], alts := [], laidByText := true, laidKinds := [.data], laidTests := true, laidLooks := .later }
def MatchFitsUptoCardSaid : Prop := Claim7.holds Tryd.pinned (.plain (OpenSpec.upto matchFitsSpec)) matchFitsUptoCard

/-- THE SECOND FORM's CARD OF 'slotlaw10.MatchFirst'. -/
def matchFirstUptoCard : Claim7 := { stood := { row := matchFirstUptoRow, standIns := [], harness := (true, "73b6d3e2f5ae1bc7053948c734ea6577b561420bbfb23cc8fc1d9739ca2ddd2a"), looks := false }, kinds := [], alts := [], laidByText := true, laidKinds := [.data], laidTests := true, laidLooks := .later }
def MatchFirstUptoCardSaid : Prop := Claim7.holds Tryd.pinned (.plain (OpenSpec.upto matchFirstSpec)) matchFirstUptoCard

/-- THE SECOND FORM's CARD OF 'slotlaw10.MatchMore'. -/
def matchMoreUptoCard : Claim7 := { stood := { row := matchMoreUptoRow, standIns := [], harness := (true, "73b6d3e2f5ae1bc7053948c734ea6577b561420bbfb23cc8fc1d9739ca2ddd2a"), looks := false }, kinds := [], alts := [], laidByText := true, laidKinds := [.data], laidTests := true, laidLooks := .later }
def MatchMoreUptoCardSaid : Prop := Claim7.holds Tryd.pinned (.plain (OpenSpec.upto matchMoreSpec)) matchMoreUptoCard

/-- THE SECOND FORM's CARD OF 'slotlaw10.MatchDays'. -/
def matchDaysUptoCard : Claim7 := { stood := { row := matchDaysUptoRow, standIns := [], harness := (true, "73b6d3e2f5ae1bc7053948c734ea6577b561420bbfb23cc8fc1d9739ca2ddd2a"), looks := false }, kinds := [], alts := [], laidByText := true, laidKinds := [.data], laidTests := true, laidLooks := .later }
def MatchDaysUptoCardSaid : Prop := Claim7.holds Tryd.pinned (.plain (OpenSpec.upto matchDaysSpec)) matchDaysUptoCard
end Rows
end Go.Proofs.YtlhjgajhcabhoaaDoor
