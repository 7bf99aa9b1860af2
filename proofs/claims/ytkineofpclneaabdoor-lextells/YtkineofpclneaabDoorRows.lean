/-
  NARROWER THAN 'FOR EVERY INPUT', by the rows' own cells (each row's printed sentence says how): MaskSets: laid · MaskShift: laid · MaskNext: laid · MaskPart: laid · LexTells: laid · LexPlaces: laid.
  DERIVED. THE GIVEN ROWS OF THIS SEAT. 6 by the template 'for every input the law returns true; each argument reads behind the call as it read before'; 0 by the template 'total and deterministic' (their statements: YtkineofpclneaabDoorTotals.lean).
  GIVEN WITH THE SEED: the statements are not yours to turn. If you find one false, say at which input.
  Laid BY PROGRAM, IN A SANDBOX (cutbox-rows.mjs): the forced cells as the released guide's own fill.sh prints them over the translation 21d24aa3a41bc011… (all of the seat's roots in one cut). By AI agents, Wed Nov 11 2026. No macro, syntax, notation, axiom, sorry.
-/
import Derived.Test.YtkineofpclneaabDoorChecked
import GoSem.Claim
import GoSem.ClaimJoined
import GoSem.ClaimMapViews
import Derived.JoinedTies
import Derived.KernelRfl
namespace Go.Proofs.YtkineofpclneaabDoor
/- THE CELL 'sum', in the pinned program and in every row, IS THE sha256 OF THE DUMP (.gsa) THAT YtkineofpclneaabDoorProg.lean LOADS. Nothing in Lean hashes anything: it is a label: what it is worth is what the hold of that sum in a sandbox is worth. -/
noncomputable def Tryd.pinned : Pinned := { name := "ytkineofpclneaabdoor", sum := "21d24aa3a41bc01113c0ddbfeb5a964ac6f636c2a6a637730eef7f4c0312c4a9", checked := Tryd.checked }
namespace Rows
def none {H : Type} : Left H := { results := [], args := [] }

/- WHAT THE LISTED PACKAGE-LEVEL VARIABLES READ AS WHEN THE CALL BEGINS. Each datum BY PROGRAM (the guide's laid-datum.mjs) off the statement by which the dump's own 'gosem.cut.vars' lays the variable. In a bare row this is a premise. The card (YtkineofpclneaabDoorCards.lean) ties it to the program's text. -/
def laid_math_bits_deBruijn64tab {H : Type} : DataW H := .agg [.lit (.int .u8 0), .lit (.int .u8 1), .lit (.int .u8 56), .lit (.int .u8 2), .lit (.int .u8 57), .lit (.int .u8 49), .lit (.int .u8 28), .lit (.int .u8 3), .lit (.int .u8 61), .lit (.int .u8 58), .lit (.int .u8 42), .lit (.int .u8 50), .lit (.int .u8 38), .lit (.int .u8 29), .lit (.int .u8 17), .lit (.int .u8 4), .lit (.int .u8 62), .lit (.int .u8 47), .lit (.int .u8 59), .lit (.int .u8 36), .lit (.int .u8 45), .lit (.int .u8 43), .lit (.int .u8 51), .lit (.int .u8 22), .lit (.int .u8 53), .lit (.int .u8 39), .lit (.int .u8 33), .lit (.int .u8 30), .lit (.int .u8 24), .lit (.int .u8 18), .lit (.int .u8 12), .lit (.int .u8 5), .lit (.int .u8 63), .lit (.int .u8 55), .lit (.int .u8 48), .lit (.int .u8 27), .lit (.int .u8 60), .lit (.int .u8 41), .lit (.int .u8 37), .lit (.int .u8 16), .lit (.int .u8 46), .lit (.int .u8 35), .lit (.int .u8 44), .lit (.int .u8 21), .lit (.int .u8 52), .lit (.int .u8 32), .lit (.int .u8 23), .lit (.int .u8 11), .lit (.int .u8 54), .lit (.int .u8 26), .lit (.int .u8 40), .lit (.int .u8 15), .lit (.int .u8 34), .lit (.int .u8 20), .lit (.int .u8 31), .lit (.int .u8 10), .lit (.int .u8 25), .lit (.int .u8 14), .lit (.int .u8 19), .lit (.int .u8 9), .lit (.int .u8 13), .lit (.int .u8 8), .lit (.int .u8 7), .lit (.int .u8 6)]
def laid_slotrules_civil_lengths {H : Type} : DataW H := .agg [.lit (.int .i64 31), .lit (.int .i64 28), .lit (.int .i64 31), .lit (.int .i64 30), .lit (.int .i64 31), .lit (.int .i64 30), .lit (.int .i64 31), .lit (.int .i64 31), .lit (.int .i64 30), .lit (.int .i64 31), .lit (.int .i64 30), .lit (.int .i64 31)]

/-- 'slotlaw2.MaskSets': WHATEVER THE INPUT: true; the input reads as it did. -/
def maskSetsSpec : ChangeSpec := { name := "maskSets", fn := fun _ => fun
  | [d1, d2, d3] => { results := [.lit (.bool true)], args := [d1, d2, d3] }
  | _ => none }
def maskSetsRow : OpenClaim := { program := "ytkineofpclneaabdoor", sum := "21d24aa3a41bc01113c0ddbfeb5a964ac6f636c2a6a637730eef7f4c0312c4a9", func := "slotrules/slotlaw2.MaskSets", spec := "maskSets", unfollowed := true, recurses := true, named := ["math/bits.deBruijn64tab"], apart := false, laid := [("math/bits.deBruijn64tab", laid_math_bits_deBruijn64tab)] }
def MaskSetsSaid : Prop := maskSetsRow.holds Tryd.pinned (OpenSpec.ofChange maskSetsSpec)

/-- ITS FALSE NEIGHBOUR: 'it returns false'. Refute it at one input. -/
def maskSetsWrong : ChangeSpec := { name := "maskSets", fn := fun _ => fun
  | [d1, d2, d3] => { results := [.lit (.bool false)], args := [d1, d2, d3] }
  | _ => none }
def MaskSetsWrongFalsely : Prop := maskSetsRow.holds Tryd.pinned (OpenSpec.ofChange maskSetsWrong)

/-- 'slotlaw2.MaskShift': WHATEVER THE INPUT: true; the input reads as it did. -/
def maskShiftSpec : ChangeSpec := { name := "maskShift", fn := fun _ => fun
  | [d1, d2, d3, d4] => { results := [.lit (.bool true)], args := [d1, d2, d3, d4] }
  | _ => none }
def maskShiftRow : OpenClaim := { program := "ytkineofpclneaabdoor", sum := "21d24aa3a41bc01113c0ddbfeb5a964ac6f636c2a6a637730eef7f4c0312c4a9", func := "slotrules/slotlaw2.MaskShift", spec := "maskShift", unfollowed := true, recurses := true, named := ["math/bits.deBruijn64tab"], apart := false, laid := [("math/bits.deBruijn64tab", laid_math_bits_deBruijn64tab)] }
def MaskShiftSaid : Prop := maskShiftRow.holds Tryd.pinned (OpenSpec.ofChange maskShiftSpec)

/-- ITS FALSE NEIGHBOUR: 'it returns false'. Refute it at one input. -/
def maskShiftWrong : ChangeSpec := { name := "maskShift", fn := fun _ => fun
  | [d1, d2, d3, d4] => { results := [.lit (.bool false)], args := [d1, d2, d3, d4] }
  | _ => none }
def MaskShiftWrongFalsely : Prop := maskShiftRow.holds Tryd.pinned (OpenSpec.ofChange maskShiftWrong)

/-- 'slotlaw2.MaskNext': WHATEVER THE INPUT: true; the input reads as it did. -/
def maskNextSpec : ChangeSpec := { name := "maskNext", fn := fun _ => fun
  | [d1, d2, d3] => { results := [.lit (.bool true)], args := [d1, d2, d3] }
  | _ => none }
def maskNextRow : OpenClaim := { program := "ytkineofpclneaabdoor", sum := "21d24aa3a41bc01113c0ddbfeb5a964ac6f636c2a6a637730eef7f4c0312c4a9", func := "slotrules/slotlaw2.MaskNext", spec := "maskNext", unfollowed := true, recurses := true, named := ["math/bits.deBruijn64tab"], apart := false, laid := [("math/bits.deBruijn64tab", laid_math_bits_deBruijn64tab)] }
def MaskNextSaid : Prop := maskNextRow.holds Tryd.pinned (OpenSpec.ofChange maskNextSpec)

/-- ITS FALSE NEIGHBOUR: 'it returns false'. Refute it at one input. -/
def maskNextWrong : ChangeSpec := { name := "maskNext", fn := fun _ => fun
  | [d1, d2, d3] => { results := [.lit (.bool false)], args := [d1, d2, d3] }
  | _ => none }
def MaskNextWrongFalsely : Prop := maskNextRow.holds Tryd.pinned (OpenSpec.ofChange maskNextWrong)

/-- 'slotlaw2.MaskPart': WHATEVER THE INPUT: true; the input reads as it did. -/
def maskPartSpec : ChangeSpec := { name := "maskPart", fn := fun _ => fun
  | [d1, d2, d3, d4] => { results := [.lit (.bool true)], args := [d1, d2, d3, d4] }
  | _ => none }
def maskPartRow : OpenClaim := { program := "ytkineofpclneaabdoor", sum := "21d24aa3a41bc01113c0ddbfeb5a964ac6f636c2a6a637730eef7f4c0312c4a9", func := "slotrules/slotlaw2.MaskPart", spec := "maskPart", unfollowed := true, recurses := true, named := ["math/bits.deBruijn64tab"], apart := false, laid := [("math/bits.deBruijn64tab", laid_math_bits_deBruijn64tab)] }
def MaskPartSaid : Prop := maskPartRow.holds Tryd.pinned (OpenSpec.ofChange maskPartSpec)

/-- ITS FALSE NEIGHBOUR: 'it returns false'. Refute it at one input. -/
def maskPartWrong : ChangeSpec := { name := "maskPart", fn := fun _ => fun
  | [d1, d2, d3, d4] => { results := [.lit (.bool false)], args := [d1, d2, d3, d4] }
  | _ => none }
def MaskPartWrongFalsely : Prop := maskPartRow.holds Tryd.pinned (OpenSpec.ofChange maskPartWrong)

/-- 'slotlaw3.LexTells': WHATEVER THE INPUT: true; the input reads as it did. -/
def lexTellsSpec : ChangeSpec := { name := "lexTells", fn := fun _ => fun
  | [d] => { results := [.lit (.bool true)], args := [d] }
  | _ => none }
def lexTellsRow : OpenClaim := { program := "ytkineofpclneaabdoor", sum := "21d24aa3a41bc01113c0ddbfeb5a964ac6f636c2a6a637730eef7f4c0312c4a9", func := "slotrules/slotlaw3.LexTells", spec := "lexTells", inPlace := ["internal/bytealg.IndexByteString"], named := ["slotrules/civil.lengths"], apart := false, laid := [("slotrules/civil.lengths", laid_slotrules_civil_lengths)] }
def LexTellsSaid : Prop := lexTellsRow.holds Tryd.pinned (OpenSpec.ofChange lexTellsSpec)

/-- ITS FALSE NEIGHBOUR: 'it returns false'. Refute it at one input. -/
def lexTellsWrong : ChangeSpec := { name := "lexTells", fn := fun _ => fun
  | [d] => { results := [.lit (.bool false)], args := [d] }
  | _ => none }
def LexTellsWrongFalsely : Prop := lexTellsRow.holds Tryd.pinned (OpenSpec.ofChange lexTellsWrong)

/-- 'slotlaw3.LexPlaces': WHATEVER THE INPUT: true; the input reads as it did. -/
def lexPlacesSpec : ChangeSpec := { name := "lexPlaces", fn := fun _ => fun
  | [d] => { results := [.lit (.bool true)], args := [d] }
  | _ => none }
def lexPlacesRow : OpenClaim := { program := "ytkineofpclneaabdoor", sum := "21d24aa3a41bc01113c0ddbfeb5a964ac6f636c2a6a637730eef7f4c0312c4a9", func := "slotrules/slotlaw3.LexPlaces", spec := "lexPlaces", inPlace := ["internal/bytealg.IndexByteString"], named := ["slotrules/civil.lengths"], apart := false, laid := [("slotrules/civil.lengths", laid_slotrules_civil_lengths)] }
def LexPlacesSaid : Prop := lexPlacesRow.holds Tryd.pinned (OpenSpec.ofChange lexPlacesSpec)

/-- ITS FALSE NEIGHBOUR: 'it returns false'. Refute it at one input. -/
def lexPlacesWrong : ChangeSpec := { name := "lexPlaces", fn := fun _ => fun
  | [d] => { results := [.lit (.bool false)], args := [d] }
  | _ => none }
def LexPlacesWrongFalsely : Prop := lexPlacesRow.holds Tryd.pinned (OpenSpec.ofChange lexPlacesWrong)

/- THE SECOND FORM. 'bulk': how many values and letters a reading holds, each counted each time it is reached (what is shared counts as often as it is met; a slice's spare places count too). A statement '..UptoSaid' is the law's where the arguments, and the package variables that the reading takes, are together of bulk at most 1048576: NARROWER than '..Said'. Prove '..Said' where nothing that the law and all that it calls make is longer than what came in: it says more and counts as full. Else prove '..UptoSaid'. A law counts once. -/
mutual
def uptoBulk {H : Type} : DataW H → Nat
  | .lit (.string bytes) => bytes.length + 1
  | .lit _ => 1
  | .nil => 1
  | .ptr d => uptoBulk d + 1
  | .slice elems spare => uptoBulkAll elems + uptoBulkAll spare + 1
  | .agg parts => uptoBulkAll parts + 1
  | .iface _ d => uptoBulk d + 1
  | .map entries => uptoBulkEntries entries + 1
  | .held _ => 1
def uptoBulkAll {H : Type} : List (DataW H) → Nat
  | [] => 0
  | d :: r => uptoBulk d + uptoBulkAll r
def uptoBulkEntries {H : Type} : List (Lit × DataW H) → Nat
  | [] => 0
  | x :: r => uptoBulkEntry x + uptoBulkEntries r
def uptoBulkEntry {H : Type} : Lit × DataW H → Nat
  | (.string bytes, d) => bytes.length + uptoBulk d + 1
  | (_, d) => uptoBulk d + 1
 end
def uptoSmall : (H : Type) → List (DataW H) → Bool := fun _ ds => decide (uptoBulkAll ds ≤ 1048576)
def OpenSpec.upto (s : _root_.Go.ChangeSpec) : _root_.Go.OpenSpec := { _root_.Go.OpenSpec.ofChange s with cond := some uptoSmall }

/-- 'slotlaw2.MaskSets', WHERE WHAT IT READS IS OF BULK AT MOST 1048576: true; the input reads as it did. -/
def maskSetsUptoRow : OpenClaim := { program := "ytkineofpclneaabdoor", sum := "21d24aa3a41bc01113c0ddbfeb5a964ac6f636c2a6a637730eef7f4c0312c4a9", func := "slotrules/slotlaw2.MaskSets", spec := "maskSets", unfollowed := true, recurses := true, named := ["math/bits.deBruijn64tab"], apart := false, laid := [("math/bits.deBruijn64tab", laid_math_bits_deBruijn64tab)], narrowed := true }
def MaskSetsUptoSaid : Prop := maskSetsUptoRow.holds Tryd.pinned (OpenSpec.upto maskSetsSpec)

/-- 'slotlaw2.MaskShift', WHERE WHAT IT READS IS OF BULK AT MOST 1048576: true; the input reads as it did. -/
def maskShiftUptoRow : OpenClaim := { program := "ytkineofpclneaabdoor", sum := "21d24aa3a41bc01113c0ddbfeb5a964ac6f636c2a6a637730eef7f4c0312c4a9", func := "slotrules/slotlaw2.MaskShift", spec := "maskShift", unfollowed := true, recurses := true, named := ["math/bits.deBruijn64tab"], apart := false, laid := [("math/bits.deBruijn64tab", laid_math_bits_deBruijn64tab)], narrowed := true }
def MaskShiftUptoSaid : Prop := maskShiftUptoRow.holds Tryd.pinned (OpenSpec.upto maskShiftSpec)

/-- 'slotlaw2.MaskNext', WHERE WHAT IT READS IS OF BULK AT MOST 1048576: true; the input reads as it did. -/
def maskNextUptoRow : OpenClaim := { program := "ytkineofpclneaabdoor", sum := "21d24aa3a41bc01113c0ddbfeb5a964ac6f636c2a6a637730eef7f4c0312c4a9", func := "slotrules/slotlaw2.MaskNext", spec := "maskNext", unfollowed := true, recurses := true, named := ["math/bits.deBruijn64tab"], apart := false, laid := [("math/bits.deBruijn64tab", laid_math_bits_deBruijn64tab)], narrowed := true }
def MaskNextUptoSaid : Prop := maskNextUptoRow.holds Tryd.pinned (OpenSpec.upto maskNextSpec)

/-- 'slotlaw2.MaskPart', WHERE WHAT IT READS IS OF BULK AT MOST 1048576: true; the input reads as it did. -/
def maskPartUptoRow : OpenClaim := { program := "ytkineofpclneaabdoor", sum := "21d24aa3a41bc01113c0ddbfeb5a964ac6f636c2a6a637730eef7f4c0312c4a9", func := "slotrules/slotlaw2.MaskPart", spec := "maskPart", unfollowed := true, recurses := true, named := ["math/bits.deBruijn64tab"], apart := false, laid := [("math/bits.deBruijn64tab", laid_math_bits_deBruijn64tab)], narrowed := true }
def MaskPartUptoSaid : Prop := maskPartUptoRow.holds Tryd.pinned (OpenSpec.upto maskPartSpec)

/-- 'slotlaw3.LexTells', WHERE WHAT IT READS IS OF BULK AT MOST 1048576: true; the input reads as it did. -/
def lexTellsUptoRow : OpenClaim := { program := "ytkineofpclneaabdoor", sum := "21d24aa3a41bc01113c0ddbfeb5a964ac6f636c2a6a637730eef7f4c0312c4a9", func := "slotrules/slotlaw3.LexTells", spec := "lexTells", inPlace := ["internal/bytealg.IndexByteString"], named := ["slotrules/civil.lengths"], apart := false, laid := [("slotrules/civil.lengths", laid_slotrules_civil_lengths)], narrowed := true }
def LexTellsUptoSaid : Prop := lexTellsUptoRow.holds Tryd.pinned (OpenSpec.upto lexTellsSpec)

/-- 'slotlaw3.LexPlaces', WHERE WHAT IT READS IS OF BULK AT MOST 1048576: true; the input reads as it did. -/
def lexPlacesUptoRow : OpenClaim := { program := "ytkineofpclneaabdoor", sum := "21d24aa3a41bc01113c0ddbfeb5a964ac6f636c2a6a637730eef7f4c0312c4a9", func := "slotrules/slotlaw3.LexPlaces", spec := "lexPlaces", inPlace := ["internal/bytealg.IndexByteString"], named := ["slotrules/civil.lengths"], apart := false, laid := [("slotrules/civil.lengths", laid_slotrules_civil_lengths)], narrowed := true }
def LexPlacesUptoSaid : Prop := lexPlacesUptoRow.holds Tryd.pinned (OpenSpec.upto lexPlacesSpec)

end Rows
end Go.Proofs.YtkineofpclneaabDoor
