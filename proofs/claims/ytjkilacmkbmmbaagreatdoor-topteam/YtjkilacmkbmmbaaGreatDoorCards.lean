/-
  DERIVED. GIVEN WITH THE SEED: THE CARDS: each row of YtjkilacmkbmmbaaGreatDoorRows.lean that lists a variable, with what it lists TIED to the program's text (the seventh form; the later family's looks); each row that meets fmt, with fmt's text TOLD by the authors' own Lean function (tested against real Go, not proved from fmt's source: count such statements apart). THE CARD IS WHAT COUNTS. Prove the row's statement (the work); the ties are given (YtjkilacmkbmmbaaGreatDoorTie.lean); close each card by the builder's one call (the guide's Derived/Test/ToyasCard.lean, 'card_holds'). Laid BY PROGRAM, IN A SANDBOX (cutbox-door.mjs). By AI agents, Wed Nov 11 2026. No macro, syntax, notation, axiom, sorry.
-/
import Derived.Test.YtjkilacmkbmmbaaGreatDoorRows
import GoSem.ClaimSeven
namespace Go.Proofs.YtjkilacmkbmmbaaGreatDoor
namespace Rows

/-- THE TIED CARD OF 'slottop.TopHours'. -/
def topHoursCard : Claim7 := { stood := { row := topHoursRow, standIns := [], harness := (true, "e2a9a7b884b0fa4e3095bfc5feccf1bdcd2cf42aa22bbce9347c1f18b8240fc4"), looks := true }, kinds := [], alts := [], laidByText := true, laidKinds := [.data, .data, .data, .data, .data], laidTests := true, laidLooks := .later }
def TopHoursCardSaid : Prop := Claim7.holds Tryz.pinned (.plain (OpenSpec.ofChange topHoursSpec)) topHoursCard

/-- THE TIED CARD OF 'slottop.TopFull'. -/
def topFullCard : Claim7 := { stood := { row := topFullRow, standIns := [], harness := (true, "e2a9a7b884b0fa4e3095bfc5feccf1bdcd2cf42aa22bbce9347c1f18b8240fc4"), looks := true }, kinds := [], alts := [], laidByText := true, laidKinds := [.data, .data, .data, .data, .data], laidTests := true, laidLooks := .later }
def TopFullCardSaid : Prop := Claim7.holds Tryz.pinned (.plain (OpenSpec.ofChange topFullSpec)) topFullCard

/-- THE TIED CARD OF 'slottop.TopBreak'. -/
def topBreakCard : Claim7 := { stood := { row := topBreakRow, standIns := [], harness := (true, "e2a9a7b884b0fa4e3095bfc5feccf1bdcd2cf42aa22bbce9347c1f18b8240fc4"), looks := true }, kinds := [], alts := [], laidByText := true, laidKinds := [.data, .data, .data, .data, .data], laidTests := true, laidLooks := .later }
def TopBreakCardSaid : Prop := Claim7.holds Tryz.pinned (.plain (OpenSpec.ofChange topBreakSpec)) topBreakCard

/-- THE TIED CARD OF 'slottop.TopDays'. -/
def topDaysCard : Claim7 := { stood := { row := topDaysRow, standIns := [], harness := (true, "e2a9a7b884b0fa4e3095bfc5feccf1bdcd2cf42aa22bbce9347c1f18b8240fc4"), looks := true }, kinds := [], alts := [], laidByText := true, laidKinds := [.data, .data, .data], laidTests := true, laidLooks := .later }
def TopDaysCardSaid : Prop := Claim7.holds Tryz.pinned (.plain (OpenSpec.ofChange topDaysSpec)) topDaysCard

/-- THE TIED CARD OF 'slottop.TopHoliday'. -/
def topHolidayCard : Claim7 := { stood := { row := topHolidayRow, standIns := [], harness := (true, "e2a9a7b884b0fa4e3095bfc5feccf1bdcd2cf42aa22bbce9347c1f18b8240fc4"), looks := true }, kinds := [], alts := [], laidByText := true, laidKinds := [.data, .data, .data], laidTests := true, laidLooks := .later }
def TopHolidayCardSaid : Prop := Claim7.holds Tryz.pinned (.plain (OpenSpec.ofChange topHolidaySpec)) topHolidayCard

/-- THE TIED CARD OF 'slottop.TopTeam'. -/
def topTeamCard : Claim7 := { stood := { row := topTeamRow, standIns := [], harness := (true, "e2a9a7b884b0fa4e3095bfc5feccf1bdcd2cf42aa22bbce9347c1f18b8240fc4"), looks := true }, kinds := [], alts := [], laidByText := true, laidKinds := [.data, .data, .data], laidTests := true, laidLooks := .later }
def TopTeamCardSaid : Prop := Claim7.holds Tryz.pinned (.plain (OpenSpec.ofChange topTeamSpec)) topTeamCard

/-- THE TIED CARD OF 'slottop.TopMoved'. -/
def topMovedCard : Claim7 := { stood := { row := topMovedRow, standIns := [], harness := (true, "e2a9a7b884b0fa4e3095bfc5feccf1bdcd2cf42aa22bbce9347c1f18b8240fc4"), looks := true }, kinds := [], alts := [], laidByText := true, laidKinds := [.data, .data, .data], laidTests := true, laidLooks := .later }
def TopMovedCardSaid : Prop := Claim7.holds Tryz.pinned (.plain (OpenSpec.ofChange topMovedSpec)) topMovedCard

/-- THE SECOND FORM's CARD OF 'slottop.TopHours'. -/
def topHoursUptoCard : Claim7 := { stood := { row := topHoursUptoRow, standIns := [], harness := (true, "e2a9a7b884b0fa4e3095bfc5feccf1bdcd2cf42aa22bbce9347c1f18b8240fc4"), looks := true }, kinds := [], alts := [], laidByText := true, laidKinds := [.data, .data, .data, .data, .data], laidTests := true, laidLooks := .later }
def TopHoursUptoCardSaid : Prop := Claim7.holds Tryz.pinned (.plain (OpenSpec.upto topHoursSpec)) topHoursUptoCard

/-- THE SECOND FORM's CARD OF 'slottop.TopFull'. -/
def topFullUptoCard : Claim7 := { stood := { row := topFullUptoRow, standIns := [], harness := (true, "e2a9a7b884b0fa4e3095bfc5feccf1bdcd2cf42aa22bbce9347c1f18b8240fc4"), looks := true }, kinds := [], alts := [], laidByText := true, laidKinds := [.data, .data, .data, .data, .data], laidTests := true, laidLooks := .later }
def TopFullUptoCardSaid : Prop := Claim7.holds Tryz.pinned (.plain (OpenSpec.upto topFullSpec)) topFullUptoCard

/-- THE SECOND FORM's CARD OF 'slottop.TopBreak'. -/
def topBreakUptoCard : Claim7 := { stood := { row := topBreakUptoRow, standIns := [], harness := (true, "e2a9a7b884b0fa4e3095bfc5feccf1bdcd2cf42aa22bbce9347c1f18b8240fc4"), looks := true }, kinds := [], alts := [], laidByText := true, laidKinds := [.data, .data, .data, .data, .data], laidTests := true, laidLooks := .later }
def TopBreakUptoCardSaid : Prop := Claim7.holds Tryz.pinned (.plain (OpenSpec.upto topBreakSpec)) topBreakUptoCard

/-- THE SECOND FORM's CARD OF 'slottop.TopDays'. -/
def topDaysUptoCard : Claim7 := { stood := { row := topDaysUptoRow, standIns := [], harness := (true, "e2a9a7b884b0fa4e3095bfc5feccf1bdcd2cf42aa22bbce9347c1f18b8240fc4"), looks := true }, kinds := [], alts := [], laidByText := true, laidKinds := [.data, .data, .data], laidTests := true, laidLooks := .later }
def TopDaysUptoCardSaid : Prop := Claim7.holds Tryz.pinned (.plain (OpenSpec.upto topDaysSpec)) topDaysUptoCard

/-- THE SECOND FORM's CARD OF 'slottop.TopHoliday'. -/
def topHolidayUptoCard : Claim7 := { stood := { row := topHolidayUptoRow, standIns := [], harness := (true, "e2a9a7b884b0fa4e3095bfc5feccf1bdcd2cf42aa22bbce9347c1f18b8240fc4"), looks := true }, kinds := [], alts := [], laidByText := true, laidKinds := [.data, .data, .data], laidTests := true, laidLooks := .later }
def TopHolidayUptoCardSaid : Prop := Claim7.holds Tryz.pinned (.plain (OpenSpec.upto topHolidaySpec)) topHolidayUptoCard

/-- THE SECOND FORM's CARD OF 'slottop.TopTeam'. -/
def topTeamUptoCard : Claim7 := { stood := { row := topTeamUptoRow, standIns := [], harness := (true, "e2a9a7b884b0fa4e3095bfc5feccf1bdcd2cf42aa22bbce9347c1f18b8240fc4"), looks := true }, kinds := [], alts := [], laidByText := true, laidKinds := [.data, .data, .data], laidTests := true, laidLooks := .later }
def TopTeamUptoCardSaid : Prop := Claim7.holds Tryz.pinned (.plain (OpenSpec.upto topTeamSpec)) topTeamUptoCard

/-- THE SECOND FORM's CARD OF 'slottop.TopMoved'. -/
def topMovedUptoCard : Claim7 := { stood := { row := topMovedUptoRow, standIns := [], harness := (true, "e2a9a7b884b0fa4e3095bfc5feccf1bdcd2cf42aa22bbce9347c1f18b8240fc4"), looks := true }, kinds := [], alts := [], laidByText := true, laidKinds := [.data, .data, .data], laidTests := true, laidLooks := .later }
def TopMovedUptoCardSaid : Prop := Claim7.holds Tryz.pinned (.plain (OpenSpec.upto topMovedSpec)) topMovedUptoCard
end Rows
end Go.Proofs.YtjkilacmkbmmbaaGreatDoor
