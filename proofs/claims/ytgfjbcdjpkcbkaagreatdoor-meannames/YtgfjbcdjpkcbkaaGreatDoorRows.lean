/-
  NARROWER THAN 'FOR EVERY INPUT', by the rows' own cells (each row's printed sentence says how): MeanNames: loops, laid · MeanShift: loops, laid.
  DERIVED. THE GIVEN ROWS OF THIS SEAT. 2 by the template 'for every input the law returns true; each argument reads behind the call as it read before'; 0 by the template 'total and deterministic' (their statements: YtgfjbcdjpkcbkaaGreatDoorTotals.lean).
  GIVEN WITH THE SEED: the statements are not yours to turn. If you find one false, say at which input.
  Laid BY PROGRAM, IN A SANDBOX (cutbox-rows.mjs): the forced cells as the released guide's own fill.sh prints them over the translation 141350465120dcf1… (all of the seat's roots in one cut). By AI agents, Wed Nov 11 2026. No macro, syntax, notation, axiom, sorry.
-/
import Derived.Test.YtgfjbcdjpkcbkaaGreatDoorChecked
import GoSem.Claim
import GoSem.ClaimJoined
import GoSem.ClaimMapViews
import Derived.JoinedTies
import Derived.KernelRfl
namespace Go.Proofs.YtgfjbcdjpkcbkaaGreatDoor
/- THE CELL 'sum', in the pinned program and in every row, IS THE sha256 OF THE DUMP (.gsa) THAT YtgfjbcdjpkcbkaaGreatDoorProg.lean LOADS. Nothing in Lean hashes anything: it is a label: what it is worth is what the hold of that sum in a sandbox is worth. -/
noncomputable def Tryz.pinned : Pinned := { name := "ytgfjbcdjpkcbkaagreatdoor", sum := "141350465120dcf1332be620506cf341bba2478ed2395c9627e53b64e972164d", checked := Tryz.checked }
namespace Rows
def none {H : Type} : Left H := { results := [], args := [] }

/- WHAT THE LISTED PACKAGE-LEVEL VARIABLES READ AS WHEN THE CALL BEGINS. Each datum BY PROGRAM (the guide's laid-datum.mjs) off the statement by which the dump's own 'gosem.cut.vars' lays the variable. In a bare row this is a premise. The card (YtgfjbcdjpkcbkaaGreatDoorCards.lean) ties it to the program's text. -/
def laid_slotrules_civil_lengths {H : Type} : DataW H := .agg [.lit (.int .i64 31), .lit (.int .i64 28), .lit (.int .i64 31), .lit (.int .i64 30), .lit (.int .i64 31), .lit (.int .i64 30), .lit (.int .i64 31), .lit (.int .i64 31), .lit (.int .i64 30), .lit (.int .i64 31), .lit (.int .i64 30), .lit (.int .i64 31)]
def laid_slotrules_parse_dayNames {H : Type} : DataW H := .agg [.lit (.string [109, 111, 110]), .lit (.string [116, 117, 101]), .lit (.string [119, 101, 100]), .lit (.string [116, 104, 117]), .lit (.string [102, 114, 105]), .lit (.string [115, 97, 116]), .lit (.string [115, 117, 110])]

/-- 'slotlaw6.MeanNames': WHATEVER THE INPUT: true; the input reads as it did. -/
def meanNamesSpec : ChangeSpec := { name := "meanNames", fn := fun _ => fun
  | [d1, d2, d3] => { results := [.lit (.bool true)], args := [d1, d2, d3] }
  | _ => none }
def meanNamesRow : OpenClaim := { program := "ytgfjbcdjpkcbkaagreatdoor", sum := "141350465120dcf1332be620506cf341bba2478ed2395c9627e53b64e972164d", func := "slotrules/slotlaw6.MeanNames", spec := "meanNames", inPlace := ["internal/bytealg.IndexByteString"], unfollowed := true, recurses := true, named := ["slotrules/civil.lengths", "slotrules/parse.dayNames"], loops := true, apart := false, laid := [("slotrules/civil.lengths", laid_slotrules_civil_lengths), ("slotrules/parse.dayNames", laid_slotrules_parse_dayNames)] }
def MeanNamesSaid : Prop := meanNamesRow.holds Tryz.pinned (OpenSpec.ofChange meanNamesSpec)

/-- ITS FALSE NEIGHBOUR: 'it returns false'. Refute it at one input. -/
def meanNamesWrong : ChangeSpec := { name := "meanNames", fn := fun _ => fun
  | [d1, d2, d3] => { results := [.lit (.bool false)], args := [d1, d2, d3] }
  | _ => none }
def MeanNamesWrongFalsely : Prop := meanNamesRow.holds Tryz.pinned (OpenSpec.ofChange meanNamesWrong)

/-- 'slotlaw6.MeanShift': WHATEVER THE INPUT: true; the input reads as it did. -/
def meanShiftSpec : ChangeSpec := { name := "meanShift", fn := fun _ => fun
  | [d1, d2, d3, d4, d5, d6] => { results := [.lit (.bool true)], args := [d1, d2, d3, d4, d5, d6] }
  | _ => none }
def meanShiftRow : OpenClaim := { program := "ytgfjbcdjpkcbkaagreatdoor", sum := "141350465120dcf1332be620506cf341bba2478ed2395c9627e53b64e972164d", func := "slotrules/slotlaw6.MeanShift", spec := "meanShift", inPlace := ["internal/bytealg.IndexByteString"], unfollowed := true, recurses := true, named := ["slotrules/civil.lengths", "slotrules/parse.dayNames"], loops := true, apart := false, laid := [("slotrules/civil.lengths", laid_slotrules_civil_lengths), ("slotrules/parse.dayNames", laid_slotrules_parse_dayNames)] }
def MeanShiftSaid : Prop := meanShiftRow.holds Tryz.pinned (OpenSpec.ofChange meanShiftSpec)

/-- ITS FALSE NEIGHBOUR: 'it returns false'. Refute it at one input. -/
def meanShiftWrong : ChangeSpec := { name := "meanShift", fn := fun _ => fun
  | [d1, d2, d3, d4, d5, d6] => { results := [.lit (.bool false)], args := [d1, d2, d3, d4, d5, d6] }
  | _ => none }
def MeanShiftWrongFalsely : Prop := meanShiftRow.holds Tryz.pinned (OpenSpec.ofChange meanShiftWrong)

/- THE SECOND FORM. 'bulk': how many values and letters a reading holds, each counted each time it is reached (what is shared counts as often as it is met; a slice's spare places count too). A statement '..UptoSaid' is the law's where the arguments, and the package variables that the reading takes, are together of bulk at most 1048576: NARROWER than '..Said'. Prove '..Said' where nothing that the law and all that it calls make is longer than what came in: it says more and counts as full. Else prove '..UptoSaid'. A law counts once. -/
mutual
def uptoBulk {H : Type} : DataW H → Nat
  | .lit (.string bytes) => bytes.length + 1
  | .lit _ => 1
  | .nil => 1
  | .ptr d => uptoBulk d + 1
  | .slice elems spare => uptoBulkAll elems + uptoBulkAll spare + 1
  | .agg parts => uptoBulkAll parts + 1
  | .iface _ d => uptoBulk d + 1
  | .map entries => uptoBulkEntries entries + 1
  | .held _ => 1
def uptoBulkAll {H : Type} : List (DataW H) → Nat
  | [] => 0
  | d :: r => uptoBulk d + uptoBulkAll r
def uptoBulkEntries {H : Type} : List (Lit × DataW H) → Nat
  | [] => 0
  | x :: r => uptoBulkEntry x + uptoBulkEntries r
def uptoBulkEntry {H : Type} : Lit × DataW H → Nat
  | (.string bytes, d) => bytes.length + uptoBulk d + 1
  | (_, d) => uptoBulk d + 1
 end
def uptoSmall : (H : Type) → List (DataW H) → Bool := fun _ ds => decide (uptoBulkAll ds ≤ 1048576)
def OpenSpec.upto (s : _root_.Go.ChangeSpec) : _root_.Go.OpenSpec := { _root_.Go.OpenSpec.ofChange s with cond := some uptoSmall }

/-- 'slotlaw6.MeanNames', WHERE WHAT IT READS IS OF BULK AT MOST 1048576: true; the input reads as it did. -/
def meanNamesUptoRow : OpenClaim := { program := "ytgfjbcdjpkcbkaagreatdoor", sum := "141350465120dcf1332be620506cf341bba2478ed2395c9627e53b64e972164d", func := "slotrules/slotlaw6.MeanNames", spec := "meanNames", inPlace := ["internal/bytealg.IndexByteString"], unfollowed := true, recurses := true, named := ["slotrules/civil.lengths", "slotrules/parse.dayNames"], loops := true, apart := false, laid := [("slotrules/civil.lengths", laid_slotrules_civil_lengths), ("slotrules/parse.dayNames", laid_slotrules_parse_dayNames)], narrowed := true }
def MeanNamesUptoSaid : Prop := meanNamesUptoRow.holds Tryz.pinned (OpenSpec.upto meanNamesSpec)

/-- 'slotlaw6.MeanShift', WHERE WHAT IT READS IS OF BULK AT MOST 1048576: true; the input reads as it did. -/
def meanShiftUptoRow : OpenClaim := { program := "ytgfjbcdjpkcbkaagreatdoor", sum := "141350465120dcf1332be620506cf341bba2478ed2395c9627e53b64e972164d", func := "slotrules/slotlaw6.MeanShift", spec := "meanShift", inPlace := ["internal/bytealg.IndexByteString"], unfollowed := true, recurses := true, named := ["slotrules/civil.lengths", "slotrules/parse.dayNames"], loops := true, apart := false, laid := [("slotrules/civil.lengths", laid_slotrules_civil_lengths), ("slotrules/parse.dayNames", laid_slotrules_parse_dayNames)], narrowed := true }
def MeanShiftUptoSaid : Prop := meanShiftUptoRow.holds Tryz.pinned (OpenSpec.upto meanShiftSpec)

end Rows
end Go.Proofs.YtgfjbcdjpkcbkaaGreatDoor
