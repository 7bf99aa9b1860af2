/-
  NARROWER THAN 'FOR EVERY INPUT', by the rows' own cells (each row's printed sentence says how): MeanSets: loops, laid · MeanDays: loops, laid · MeanWeeks: loops, laid · MeanShift: loops, laid · MeanMore: loops, laid.
  DERIVED. THE GIVEN ROWS OF THIS SEAT. 5 by the template 'for every input the law returns true; each argument reads behind the call as it read before'; 0 by the template 'total and deterministic' (their statements: YtllcpoibnmhghaaGreatDoorTotals.lean).
  GIVEN WITH THE SEED: the statements are not yours to turn. If you find one false, say at which input.
  Laid BY PROGRAM, IN A SANDBOX (cutbox-rows.mjs): the forced cells as the released guide's own fill.sh prints them over the translation ea4075f704eebcab… (all of the seat's roots in one cut). By AI agents, Wed Nov 11 2026. No macro, syntax, notation, axiom, sorry.
-/
import Derived.Test.YtllcpoibnmhghaaGreatDoorChecked
import GoSem.Claim
import GoSem.ClaimJoined
import GoSem.ClaimMapViews
import Derived.JoinedTies
import Derived.KernelRfl
namespace Go.Proofs.YtllcpoibnmhghaaGreatDoor
/- THE CELL 'sum', in the pinned program and in every row, IS THE sha256 OF THE DUMP (.gsa) THAT YtllcpoibnmhghaaGreatDoorProg.lean LOADS. Nothing in Lean hashes anything: it is a label: what it is worth is what the hold of that sum in a sandbox is worth. -/
noncomputable def Tryz.pinned : Pinned := { name := "ytllcpoibnmhghaagreatdoor", sum := "ea4075f704eebcab1a951ee0519202880a8305e66af59aafcd99fb8439212274", checked := Tryz.checked }
namespace Rows
def none {H : Type} : Left H := { results := [], args := [] }

/- WHAT THE LISTED PACKAGE-LEVEL VARIABLES READ AS WHEN THE CALL BEGINS. Each datum BY PROGRAM (the guide's laid-datum.mjs) off the statement by which the dump's own 'gosem.cut.vars' lays the variable. In a bare row this is a premise. The card (YtllcpoibnmhghaaGreatDoorCards.lean) ties it to the program's text. -/
def laid_slotrules_civil_lengths {H : Type} : DataW H := .agg [.lit (.int .i64 31), .lit (.int .i64 28), .lit (.int .i64 31), .lit (.int .i64 30), .lit (.int .i64 31), .lit (.int .i64 30), .lit (.int .i64 31), .lit (.int .i64 31), .lit (.int .i64 30), .lit (.int .i64 31), .lit (.int .i64 30), .lit (.int .i64 31)]
def laid_slotrules_parse_dayNames {H : Type} : DataW H := .agg [.lit (.string [109, 111, 110]), .lit (.string [116, 117, 101]), .lit (.string [119, 101, 100]), .lit (.string [116, 104, 117]), .lit (.string [102, 114, 105]), .lit (.string [115, 97, 116]), .lit (.string [115, 117, 110])]

/-- 'slotlaw6.MeanSets': WHATEVER THE INPUT: true; the input reads as it did. -/
def meanSetsSpec : ChangeSpec := { name := "meanSets", fn := fun _ => fun
  | [d1, d2, d3, d4] => { results := [.lit (.bool true)], args := [d1, d2, d3, d4] }
  | _ => none }
def meanSetsRow : OpenClaim := { program := "ytllcpoibnmhghaagreatdoor", sum := "ea4075f704eebcab1a951ee0519202880a8305e66af59aafcd99fb8439212274", func := "slotrules/slotlaw6.MeanSets", spec := "meanSets", inPlace := ["internal/bytealg.IndexByteString"], unfollowed := true, recurses := true, named := ["slotrules/civil.lengths", "slotrules/parse.dayNames"], loops := true, apart := false, laid := [("slotrules/civil.lengths", laid_slotrules_civil_lengths), ("slotrules/parse.dayNames", laid_slotrules_parse_dayNames)] }
def MeanSetsSaid : Prop := meanSetsRow.holds Tryz.pinned (OpenSpec.ofChange meanSetsSpec)

/-- ITS FALSE NEIGHBOUR: 'it returns false'. Refute it at one input. -/
def meanSetsWrong : ChangeSpec := { name := "meanSets", fn := fun _ => fun
  | [d1, d2, d3, d4] => { results := [.lit (.bool false)], args := [d1, d2, d3, d4] }
  | _ => none }
def MeanSetsWrongFalsely : Prop := meanSetsRow.holds Tryz.pinned (OpenSpec.ofChange meanSetsWrong)

/-- 'slotlaw6.MeanDays': WHATEVER THE INPUT: true; the input reads as it did. -/
def meanDaysSpec : ChangeSpec := { name := "meanDays", fn := fun _ => fun
  | [d1, d2, d3, d4, d5, d6] => { results := [.lit (.bool true)], args := [d1, d2, d3, d4, d5, d6] }
  | _ => none }
def meanDaysRow : OpenClaim := { program := "ytllcpoibnmhghaagreatdoor", sum := "ea4075f704eebcab1a951ee0519202880a8305e66af59aafcd99fb8439212274", func := "slotrules/slotlaw6.MeanDays", spec := "meanDays", inPlace := ["internal/bytealg.IndexByteString"], unfollowed := true, recurses := true, named := ["slotrules/civil.lengths", "slotrules/parse.dayNames"], loops := true, apart := false, laid := [("slotrules/civil.lengths", laid_slotrules_civil_lengths), ("slotrules/parse.dayNames", laid_slotrules_parse_dayNames)] }
def MeanDaysSaid : Prop := meanDaysRow.holds Tryz.pinned (OpenSpec.ofChange meanDaysSpec)

/-- ITS FALSE NEIGHBOUR: 'it returns false'. Refute it at one input. -/
def meanDaysWrong : ChangeSpec := { name := "meanDays", fn := fun _ => fun
  | [d1, d2, d3, d4, d5, d6] => { results := [.lit (.bool false)], args := [d1, d2, d3, d4, d5, d6] }
  | _ => none }
def MeanDaysWrongFalsely : Prop := meanDaysRow.holds Tryz.pinned (OpenSpec.ofChange meanDaysWrong)

/-- 'slotlaw6.MeanWeeks': WHATEVER THE INPUT: true; the input reads as it did. -/
def meanWeeksSpec : ChangeSpec := { name := "meanWeeks", fn := fun _ => fun
  | [d1, d2, d3] => { results := [.lit (.bool true)], args := [d1, d2, d3] }
  | _ => none }
def meanWeeksRow : OpenClaim := { program := "ytllcpoibnmhghaagreatdoor", sum := "ea4075f704eebcab1a951ee0519202880a8305e66af59aafcd99fb8439212274", func := "slotrules/slotlaw6.MeanWeeks", spec := "meanWeeks", inPlace := ["internal/bytealg.IndexByteString"], unfollowed := true, recurses := true, named := ["slotrules/civil.lengths", "slotrules/parse.dayNames"], loops := true, apart := false, laid := [("slotrules/civil.lengths", laid_slotrules_civil_lengths), ("slotrules/parse.dayNames", laid_slotrules_parse_dayNames)] }
def MeanWeeksSaid : Prop := meanWeeksRow.holds Tryz.pinned (OpenSpec.ofChange meanWeeksSpec)

/-- ITS FALSE NEIGHBOUR: 'it returns false'. Refute it at one input. -/
def meanWeeksWrong : ChangeSpec := { name := "meanWeeks", fn := fun _ => fun
  | [d1, d2, d3] => { results := [.lit (.bool false)], args := [d1, d2, d3] }
  | _ => none }
def MeanWeeksWrongFalsely : Prop := meanWeeksRow.holds Tryz.pinned (OpenSpec.ofChange meanWeeksWrong)

/-- 'slotlaw6.MeanShift': WHATEVER THE INPUT: true; the input reads as it did. -/
def meanShiftSpec : ChangeSpec := { name := "meanShift", fn := fun _ => fun
  | [d1, d2, d3, d4, d5, d6] => { results := [.lit (.bool true)], args := [d1, d2, d3, d4, d5, d6] }
  | _ => none }
def meanShiftRow : OpenClaim := { program := "ytllcpoibnmhghaagreatdoor", sum := "ea4075f704eebcab1a951ee0519202880a8305e66af59aafcd99fb8439212274", func := "slotrules/slotlaw6.MeanShift", spec := "meanShift", inPlace := ["internal/bytealg.IndexByteString"], unfollowed := true, recurses := true, named := ["slotrules/civil.lengths", "slotrules/parse.dayNames"], loops := true, apart := false, laid := [("slotrules/civil.lengths", laid_slotrules_civil_lengths), ("slotrules/parse.dayNames", laid_slotrules_parse_dayNames)] }
def MeanShiftSaid : Prop := meanShiftRow.holds Tryz.pinned (OpenSpec.ofChange meanShiftSpec)

/-- ITS FALSE NEIGHBOUR: 'it returns false'. Refute it at one input. -/
def meanShiftWrong : ChangeSpec := { name := "meanShift", fn := fun _ => fun
  | [d1, d2, d3, d4, d5, d6] => { results := [.lit (.bool false)], args := [d1, d2, d3, d4, d5, d6] }
  | _ => none }
def MeanShiftWrongFalsely : Prop := meanShiftRow.holds Tryz.pinned (OpenSpec.ofChange meanShiftWrong)

/-- 'slotlaw6.MeanMore': WHATEVER THE INPUT: true; the input reads as it did. -/
def meanMoreSpec : ChangeSpec := { name := "meanMore", fn := fun _ => fun
  | [d1, d2, d3, d4] => { results := [.lit (.bool true)], args := [d1, d2, d3, d4] }
  | _ => none }
def meanMoreRow : OpenClaim := { program := "ytllcpoibnmhghaagreatdoor", sum := "ea4075f704eebcab1a951ee0519202880a8305e66af59aafcd99fb8439212274", func := "slotrules/slotlaw6.MeanMore", spec := "meanMore", inPlace := ["internal/bytealg.IndexByteString"], unfollowed := true, recurses := true, named := ["slotrules/civil.lengths", "slotrules/parse.dayNames"], loops := true, apart := false, laid := [("slotrules/civil.lengths", laid_slotrules_civil_lengths), ("slotrules/parse.dayNames", laid_slotrules_parse_dayNames)] }
def MeanMoreSaid : Prop := meanMoreRow.holds Tryz.pinned (OpenSpec.ofChange meanMoreSpec)

/-- ITS FALSE NEIGHBOUR: 'it returns false'. Refute it at one input. -/
def meanMoreWrong : ChangeSpec := { name := "meanMore", fn := fun _ => fun
  | [d1, d2, d3, d4] => { results := [.lit (.bool false)], args := [d1, d2, d3, d4] }
  | _ => none }
def MeanMoreWrongFalsely : Prop := meanMoreRow.holds Tryz.pinned (OpenSpec.ofChange meanMoreWrong)

/- THE SECOND FORM. 'bulk': how many values and letters a reading holds, each counted each time it is reached (what is shared counts as often as it is met; a slice's spare places count too). A statement '..UptoSaid' is the law's where the arguments, and the package variables that the reading takes, are together of bulk at most 1048576: NARROWER than '..Said'. Prove '..Said' where nothing that the law and all that it calls make is longer than what came in: it says more and counts as full. Else prove '..UptoSaid'. A law counts once. -/
mutual
def uptoBulk {H : Type} : DataW H → Nat
  | .lit (.string bytes) => bytes.length + 1
  | .lit _ => 1
  | .nil => 1
  | .ptr d => uptoBulk d + 1
  | .slice elems spare => uptoBulkAll elems + uptoBulkAll spare + 1
  | .agg parts => uptoBulkAll parts + 1
  | .iface _ d => uptoBulk d + 1
  | .map entries => uptoBulkEntries entries + 1
  | .held _ => 1
def uptoBulkAll {H : Type} : List (DataW H) → Nat
  | [] => 0
  | d :: r => uptoBulk d + uptoBulkAll r
def uptoBulkEntries {H : Type} : List (Lit × DataW H) → Nat
  | [] => 0
  | x :: r => uptoBulkEntry x + uptoBulkEntries r
def uptoBulkEntry {H : Type} : Lit × DataW H → Nat
  | (.string bytes, d) => bytes.length + uptoBulk d + 1
  | (_, d) => uptoBulk d + 1
 end
def uptoSmall : (H : Type) → List (DataW H) → Bool := fun _ ds => decide (uptoBulkAll ds ≤ 1048576)
def OpenSpec.upto (s : _root_.Go.ChangeSpec) : _root_.Go.OpenSpec := { _root_.Go.OpenSpec.ofChange s with cond := some uptoSmall }

/-- 'slotlaw6.MeanSets', WHERE WHAT IT READS IS OF BULK AT MOST 1048576: true; the input reads as it did. -/
def meanSetsUptoRow : OpenClaim := { program := "ytllcpoibnmhghaagreatdoor", sum := "ea4075f704eebcab1a951ee0519202880a8305e66af59aafcd99fb8439212274", func := "slotrules/slotlaw6.MeanSets", spec := "meanSets", inPlace := ["internal/bytealg.IndexByteString"], unfollowed := true, recurses := true, named := ["slotrules/civil.lengths", "slotrules/parse.dayNames"], loops := true, apart := false, laid := [("slotrules/civil.lengths", laid_slotrules_civil_lengths), ("slotrules/parse.dayNames", laid_slotrules_parse_dayNames)], narrowed := true }
def MeanSetsUptoSaid : Prop := meanSetsUptoRow.holds Tryz.pinned (OpenSpec.upto meanSetsSpec)

/-- 'slotlaw6.MeanDays', WHERE WHAT IT READS IS OF BULK AT MOST 1048576: true; the input reads as it did. -/
def meanDaysUptoRow : OpenClaim := { program := "ytllcpoibnmhghaagreatdoor", sum := "ea4075f704eebcab1a951ee0519202880a8305e66af59aafcd99fb8439212274", func := "slotrules/slotlaw6.MeanDays", spec := "meanDays", inPlace := ["internal/bytealg.IndexByteString"], unfollowed := true, recurses := true, named := ["slotrules/civil.lengths", "slotrules/parse.dayNames"], loops := true, apart := false, laid := [("slotrules/civil.lengths", laid_slotrules_civil_lengths), ("slotrules/parse.dayNames", laid_slotrules_parse_dayNames)], narrowed := true }
def MeanDaysUptoSaid : Prop := meanDaysUptoRow.holds Tryz.pinned (OpenSpec.upto meanDaysSpec)

/-- 'slotlaw6.MeanWeeks', WHERE WHAT IT READS IS OF BULK AT MOST 1048576: true; the input reads as it did. -/
def meanWeeksUptoRow : OpenClaim := { program := "ytllcpoibnmhghaagreatdoor", sum := "ea4075f704eebcab1a951ee0519202880a8305e66af59aafcd99fb8439212274", func := "slotrules/slotlaw6.MeanWeeks", spec := "meanWeeks", inPlace := ["internal/bytealg.IndexByteString"], unfollowed := true, recurses := true, named := ["slotrules/civil.lengths", "slotrules/parse.dayNames"], loops := true, apart := false, laid := [("slotrules/civil.lengths", laid_slotrules_civil_lengths), ("slotrules/parse.dayNames", laid_slotrules_parse_dayNames)], narrowed := true }
def MeanWeeksUptoSaid : Prop := meanWeeksUptoRow.holds Tryz.pinned (OpenSpec.upto meanWeeksSpec)

/-- 'slotlaw6.MeanShift', WHERE WHAT IT READS IS OF BULK AT MOST 1048576: true; the input reads as it did. -/
def meanShiftUptoRow : OpenClaim := { program := "ytllcpoibnmhghaagreatdoor", sum := "ea4075f704eebcab1a951ee0519202880a8305e66af59aafcd99fb8439212274", func := "slotrules/slotlaw6.MeanShift", spec := "meanShift", inPlace := ["internal/bytealg.IndexByteString"], unfollowed := true, recurses := true, named := ["slotrules/civil.lengths", "slotrules/parse.dayNames"], loops := true, apart := false, laid := [("slotrules/civil.lengths", laid_slotrules_civil_lengths), ("slotrules/parse.dayNames", laid_slotrules_parse_dayNames)], narrowed := true }
def MeanShiftUptoSaid : Prop := meanShiftUptoRow.holds Tryz.pinned (OpenSpec.upto meanShiftSpec)

/-- 'slotlaw6.MeanMore', WHERE WHAT IT READS IS OF BULK AT MOST 1048576: true; the input reads as it did. -/
def meanMoreUptoRow : OpenClaim := { program := "ytllcpoibnmhghaagreatdoor", sum := "ea4075f704eebcab1a951ee0519202880a8305e66af59aafcd99fb8439212274", func := "slotrules/slotlaw6.MeanMore", spec := "meanMore", inPlace := ["internal/bytealg.IndexByteString"], unfollowed := true, recurses := true, named := ["slotrules/civil.lengths", "slotrules/parse.dayNames"], loops := true, apart := false, laid := [("slotrules/civil.lengths", laid_slotrules_civil_lengths), ("slotrules/parse.dayNames", laid_slotrules_parse_dayNames)], narrowed := true }
def MeanMoreUptoSaid : Prop := meanMoreUptoRow.holds Tryz.pinned (OpenSpec.upto meanMoreSpec)

end Rows
end Go.Proofs.YtllcpoibnmhghaaGreatDoor
