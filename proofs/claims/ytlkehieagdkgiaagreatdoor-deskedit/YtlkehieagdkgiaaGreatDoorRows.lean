/-
  NARROWER THAN 'FOR EVERY INPUT', by the rows' own cells (each row's printed sentence says how): DeskFree: laid · DeskEdit: laid · DeskFound: laid · DeskTwice: laid · DeskRefused: laid.
  DERIVED. THE GIVEN ROWS OF THIS SEAT. 5 by the template 'for every input the law returns true; each argument reads behind the call as it read before'; 0 by the template 'total and deterministic' (their statements: YtlkehieagdkgiaaGreatDoorTotals.lean).
  GIVEN WITH THE SEED: the statements are not yours to turn. If you find one false, say at which input.
  Laid BY PROGRAM, IN A SANDBOX (cutbox-rows.mjs): the forced cells as the released guide's own fill.sh prints them over the translation 775afc75b21926b1… (all of the seat's roots in one cut). By AI agents, Wed Nov 11 2026. No macro, syntax, notation, axiom, sorry.
-/
import Derived.Test.YtlkehieagdkgiaaGreatDoorChecked
import GoSem.Claim
import GoSem.ClaimJoined
import GoSem.ClaimMapViews
import Derived.JoinedTies
import Derived.KernelRfl
namespace Go.Proofs.YtlkehieagdkgiaaGreatDoor
/- THE CELL 'sum', in the pinned program and in every row, IS THE sha256 OF THE DUMP (.gsa) THAT YtlkehieagdkgiaaGreatDoorProg.lean LOADS. Nothing in Lean hashes anything: it is a label: what it is worth is what the hold of that sum in a sandbox is worth. -/
noncomputable def Tryz.pinned : Pinned := { name := "ytlkehieagdkgiaagreatdoor", sum := "775afc75b21926b15565e03fedf8951fbf48ac66026fbe88efaaf1a3e287e431", checked := Tryz.checked }
namespace Rows
def none {H : Type} : Left H := { results := [], args := [] }

/- WHAT THE LISTED PACKAGE-LEVEL VARIABLES READ AS WHEN THE CALL BEGINS. Each datum BY PROGRAM (the guide's laid-datum.mjs) off the statement by which the dump's own 'gosem.cut.vars' lays the variable. In a bare row this is a premise. The card (YtlkehieagdkgiaaGreatDoorCards.lean) ties it to the program's text. -/
def laid_math_bits_deBruijn64tab {H : Type} : DataW H := .agg [.lit (.int .u8 0), .lit (.int .u8 1), .lit (.int .u8 56), .lit (.int .u8 2), .lit (.int .u8 57), .lit (.int .u8 49), .lit (.int .u8 28), .lit (.int .u8 3), .lit (.int .u8 61), .lit (.int .u8 58), .lit (.int .u8 42), .lit (.int .u8 50), .lit (.int .u8 38), .lit (.int .u8 29), .lit (.int .u8 17), .lit (.int .u8 4), .lit (.int .u8 62), .lit (.int .u8 47), .lit (.int .u8 59), .lit (.int .u8 36), .lit (.int .u8 45), .lit (.int .u8 43), .lit (.int .u8 51), .lit (.int .u8 22), .lit (.int .u8 53), .lit (.int .u8 39), .lit (.int .u8 33), .lit (.int .u8 30), .lit (.int .u8 24), .lit (.int .u8 18), .lit (.int .u8 12), .lit (.int .u8 5), .lit (.int .u8 63), .lit (.int .u8 55), .lit (.int .u8 48), .lit (.int .u8 27), .lit (.int .u8 60), .lit (.int .u8 41), .lit (.int .u8 37), .lit (.int .u8 16), .lit (.int .u8 46), .lit (.int .u8 35), .lit (.int .u8 44), .lit (.int .u8 21), .lit (.int .u8 52), .lit (.int .u8 32), .lit (.int .u8 23), .lit (.int .u8 11), .lit (.int .u8 54), .lit (.int .u8 26), .lit (.int .u8 40), .lit (.int .u8 15), .lit (.int .u8 34), .lit (.int .u8 20), .lit (.int .u8 31), .lit (.int .u8 10), .lit (.int .u8 25), .lit (.int .u8 14), .lit (.int .u8 19), .lit (.int .u8 9), .lit (.int .u8 13), .lit (.int .u8 8), .lit (.int .u8 7), .lit (.int .u8 6)]
def laid_slotrules_civil_lengths {H : Type} : DataW H := .agg [.lit (.int .i64 31), .lit (.int .i64 28), .lit (.int .i64 31), .lit (.int .i64 30), .lit (.int .i64 31), .lit (.int .i64 30), .lit (.int .i64 31), .lit (.int .i64 31), .lit (.int .i64 30), .lit (.int .i64 31), .lit (.int .i64 30), .lit (.int .i64 31)]
def laid_slotrules_parse_dayNames {H : Type} : DataW H := .agg [.lit (.string [109, 111, 110]), .lit (.string [116, 117, 101]), .lit (.string [119, 101, 100]), .lit (.string [116, 104, 117]), .lit (.string [102, 114, 105]), .lit (.string [115, 97, 116]), .lit (.string [115, 117, 110])]

/-- 'slotlaw11.DeskFree': WHATEVER THE INPUT: true; the input reads as it did. -/
def deskFreeSpec : ChangeSpec := { name := "deskFree", fn := fun _ => fun
  | [d] => { results := [.lit (.bool true)], args := [d] }
  | _ => none }
def deskFreeRow : OpenClaim := { program := "ytlkehieagdkgiaagreatdoor", sum := "775afc75b21926b15565e03fedf8951fbf48ac66026fbe88efaaf1a3e287e431", func := "slotrules/slotlaw11.DeskFree", spec := "deskFree", inPlace := ["internal/bytealg.IndexByteString"], unfollowed := true, recurses := true, named := ["slotrules/civil.lengths", "slotrules/parse.dayNames", "math/bits.deBruijn64tab"], apart := false, laid := [("math/bits.deBruijn64tab", laid_math_bits_deBruijn64tab), ("slotrules/civil.lengths", laid_slotrules_civil_lengths), ("slotrules/parse.dayNames", laid_slotrules_parse_dayNames)] }
def DeskFreeSaid : Prop := deskFreeRow.holds Tryz.pinned (OpenSpec.ofChange deskFreeSpec)

/-- ITS FALSE NEIGHBOUR: 'it returns false'. Refute it at one input. -/
def deskFreeWrong : ChangeSpec := { name := "deskFree", fn := fun _ => fun
  | [d] => { results := [.lit (.bool false)], args := [d] }
  | _ => none }
def DeskFreeWrongFalsely : Prop := deskFreeRow.holds Tryz.pinned (OpenSpec.ofChange deskFreeWrong)

/-- 'slotlaw11.DeskEdit': WHATEVER THE INPUT: true; the input reads as it did. -/
def deskEditSpec : ChangeSpec := { name := "deskEdit", fn := fun _ => fun
  | [d1, d2] => { results := [.lit (.bool true)], args := [d1, d2] }
  | _ => none }
def deskEditRow : OpenClaim := { program := "ytlkehieagdkgiaagreatdoor", sum := "775afc75b21926b15565e03fedf8951fbf48ac66026fbe88efaaf1a3e287e431", func := "slotrules/slotlaw11.DeskEdit", spec := "deskEdit", inPlace := ["internal/bytealg.IndexByteString"], unfollowed := true, recurses := true, named := ["slotrules/civil.lengths", "slotrules/parse.dayNames", "math/bits.deBruijn64tab"], apart := false, laid := [("math/bits.deBruijn64tab", laid_math_bits_deBruijn64tab), ("slotrules/civil.lengths", laid_slotrules_civil_lengths), ("slotrules/parse.dayNames", laid_slotrules_parse_dayNames)] }
def DeskEditSaid : Prop := deskEditRow.holds Tryz.pinned (OpenSpec.ofChange deskEditSpec)

/-- ITS FALSE NEIGHBOUR: 'it returns false'. Refute it at one input. -/
def deskEditWrong : ChangeSpec := { name := "deskEdit", fn := fun _ => fun
  | [d1, d2] => { results := [.lit (.bool false)], args := [d1, d2] }
  | _ => none }
def DeskEditWrongFalsely : Prop := deskEditRow.holds Tryz.pinned (OpenSpec.ofChange deskEditWrong)

/-- 'slotlaw11.DeskFound': WHATEVER THE INPUT: true; the input reads as it did. -/
def deskFoundSpec : ChangeSpec := { name := "deskFound", fn := fun _ => fun
  | [d1, d2, d3, d4] => { results := [.lit (.bool true)], args := [d1, d2, d3, d4] }
  | _ => none }
def deskFoundRow : OpenClaim := { program := "ytlkehieagdkgiaagreatdoor", sum := "775afc75b21926b15565e03fedf8951fbf48ac66026fbe88efaaf1a3e287e431", func := "slotrules/slotlaw11.DeskFound", spec := "deskFound", inPlace := ["internal/bytealg.IndexByteString"], unfollowed := true, recurses := true, named := ["slotrules/civil.lengths", "slotrules/parse.dayNames", "math/bits.deBruijn64tab"], apart := false, laid := [("math/bits.deBruijn64tab", laid_math_bits_deBruijn64tab), ("slotrules/civil.lengths", laid_slotrules_civil_lengths), ("slotrules/parse.dayNames", laid_slotrules_parse_dayNames)] }
def DeskFoundSaid : Prop := deskFoundRow.holds Tryz.pinned (OpenSpec.ofChange deskFoundSpec)

/-- ITS FALSE NEIGHBOUR: 'it returns false'. Refute it at one input. -/
def deskFoundWrong : ChangeSpec := { name := "deskFound", fn := fun _ => fun
  | [d1, d2, d3, d4] => { results := [.lit (.bool false)], args := [d1, d2, d3, d4] }
  | _ => none }
def DeskFoundWrongFalsely : Prop := deskFoundRow.holds Tryz.pinned (OpenSpec.ofChange deskFoundWrong)

/-- 'slotlaw11.DeskTwice': WHATEVER THE INPUT: true; the input reads as it did. -/
def deskTwiceSpec : ChangeSpec := { name := "deskTwice", fn := fun _ => fun
  | [d1, d2, d3, d4] => { results := [.lit (.bool true)], args := [d1, d2, d3, d4] }
  | _ => none }
def deskTwiceRow : OpenClaim := { program := "ytlkehieagdkgiaagreatdoor", sum := "775afc75b21926b15565e03fedf8951fbf48ac66026fbe88efaaf1a3e287e431", func := "slotrules/slotlaw11.DeskTwice", spec := "deskTwice", inPlace := ["internal/bytealg.IndexByteString"], unfollowed := true, recurses := true, named := ["slotrules/civil.lengths", "slotrules/parse.dayNames", "math/bits.deBruijn64tab"], apart := false, laid := [("math/bits.deBruijn64tab", laid_math_bits_deBruijn64tab), ("slotrules/civil.lengths", laid_slotrules_civil_lengths), ("slotrules/parse.dayNames", laid_slotrules_parse_dayNames)] }
def DeskTwiceSaid : Prop := deskTwiceRow.holds Tryz.pinned (OpenSpec.ofChange deskTwiceSpec)

/-- ITS FALSE NEIGHBOUR: 'it returns false'. Refute it at one input. -/
def deskTwiceWrong : ChangeSpec := { name := "deskTwice", fn := fun _ => fun
  | [d1, d2, d3, d4] => { results := [.lit (.bool false)], args := [d1, d2, d3, d4] }
  | _ => none }
def DeskTwiceWrongFalsely : Prop := deskTwiceRow.holds Tryz.pinned (OpenSpec.ofChange deskTwiceWrong)

/-- 'slotlaw11.DeskRefused': WHATEVER THE INPUT: true; the input reads as it did. -/
def deskRefusedSpec : ChangeSpec := { name := "deskRefused", fn := fun _ => fun
  | [d] => { results := [.lit (.bool true)], args := [d] }
  | _ => none }
def deskRefusedRow : OpenClaim := { program := "ytlkehieagdkgiaagreatdoor", sum := "775afc75b21926b15565e03fedf8951fbf48ac66026fbe88efaaf1a3e287e431", func := "slotrules/slotlaw11.DeskRefused", spec := "deskRefused", inPlace := ["internal/bytealg.IndexByteString"], unfollowed := true, recurses := true, named := ["slotrules/civil.lengths", "slotrules/parse.dayNames", "math/bits.deBruijn64tab"], apart := false, laid := [("math/bits.deBruijn64tab", laid_math_bits_deBruijn64tab), ("slotrules/civil.lengths", laid_slotrules_civil_lengths), ("slotrules/parse.dayNames", laid_slotrules_parse_dayNames)] }
def DeskRefusedSaid : Prop := deskRefusedRow.holds Tryz.pinned (OpenSpec.ofChange deskRefusedSpec)

/-- ITS FALSE NEIGHBOUR: 'it returns false'. Refute it at one input. -/
def deskRefusedWrong : ChangeSpec := { name := "deskRefused", fn := fun _ => fun
  | [d] => { results := [.lit (.bool false)], args := [d] }
  | _ => none }
def DeskRefusedWrongFalsely : Prop := deskRefusedRow.holds Tryz.pinned (OpenSpec.ofChange deskRefusedWrong)

/- THE SECOND FORM. 'bulk': how many values and letters a reading holds, each counted each time it is reached (what is shared counts as often as it is met; a slice's spare places count too). A statement '..UptoSaid' is the law's where the arguments, and the package variables that the reading takes, are together of bulk at most 1048576: NARROWER than '..Said'. Prove '..Said' where nothing that the law and all that it calls make is longer than what came in: it says more and counts as full. Else prove '..UptoSaid'. A law counts once. -/
mutual
def uptoBulk {H : Type} : DataW H → Nat
  | .lit (.string bytes) => bytes.length + 1
  | .lit _ => 1
  | .nil => 1
  | .ptr d => uptoBulk d + 1
  | .slice elems spare => uptoBulkAll elems + uptoBulkAll spare + 1
  | .agg parts => uptoBulkAll parts + 1
  | .iface _ d => uptoBulk d + 1
  | .map entries => uptoBulkEntries entries + 1
  | .held _ => 1
def uptoBulkAll {H : Type} : List (DataW H) → Nat
  | [] => 0
  | d :: r => uptoBulk d + uptoBulkAll r
def uptoBulkEntries {H : Type} : List (Lit × DataW H) → Nat
  | [] => 0
  | x :: r => uptoBulkEntry x + uptoBulkEntries r
def uptoBulkEntry {H : Type} : Lit × DataW H → Nat
  | (.string bytes, d) => bytes.length + uptoBulk d + 1
  | (_, d) => uptoBulk d + 1
 end
def uptoSmall : (H : Type) → List (DataW H) → Bool := fun _ ds => decide (uptoBulkAll ds ≤ 1048576)
def OpenSpec.upto (s : _root_.Go.ChangeSpec) : _root_.Go.OpenSpec := { _root_.Go.OpenSpec.ofChange s with cond := some uptoSmall }

/-- 'slotlaw11.DeskFree', WHERE WHAT IT READS IS OF BULK AT MOST 1048576: true; the input reads as it did. -/
def deskFreeUptoRow : OpenClaim := { program := "ytlkehieagdkgiaagreatdoor", sum := "775afc75b21926b15565e03fedf8951fbf48ac66026fbe88efaaf1a3e287e431", func := "slotrules/slotlaw11.DeskFree", spec := "deskFree", inPlace := ["internal/bytealg.IndexByteString"], unfollowed := true, recurses := true, named := ["slotrules/civil.lengths", "slotrules/parse.dayNames", "math/bits.deBruijn64tab"], apart := false, laid := [("math/bits.deBruijn64tab", laid_math_bits_deBruijn64tab), ("slotrules/civil.lengths", laid_slotrules_civil_lengths), ("slotrules/parse.dayNames", laid_slotrules_parse_dayNames)], narrowed := true }
def DeskFreeUptoSaid : Prop := deskFreeUptoRow.holds Tryz.pinned (OpenSpec.upto deskFreeSpec)

/-- 'slotlaw11.DeskEdit', WHERE WHAT IT READS IS OF BULK AT MOST 1048576: true; the input reads as it did. -/
def deskEditUptoRow : OpenClaim := { program := "ytlkehieagdkgiaagreatdoor", sum := "775afc75b21926b15565e03fedf8951fbf48ac66026fbe88efaaf1a3e287e431", func := "slotrules/slotlaw11.DeskEdit", spec := "deskEdit", inPlace := ["internal/bytealg.IndexByteString"], unfollowed := true, recurses := true, named := ["slotrules/civil.lengths", "slotrules/parse.dayNames", "math/bits.deBruijn64tab"], apart := false, laid := [("math/bits.deBruijn64tab", laid_math_bits_deBruijn64tab), ("slotrules/civil.lengths", laid_slotrules_civil_lengths), ("slotrules/parse.dayNames", laid_slotrules_parse_dayNames)], narrowed := true }
def DeskEditUptoSaid : Prop := deskEditUptoRow.holds Tryz.pinned (OpenSpec.upto deskEditSpec)

/-- 'slotlaw11.DeskFound', WHERE WHAT IT READS IS OF BULK AT MOST 1048576: true; the input reads as it did. -/
def deskFoundUptoRow : OpenClaim := { program := "ytlkehieagdkgiaagreatdoor", sum := "775afc75b21926b15565e03fedf8951fbf48ac66026fbe88efaaf1a3e287e431", func := "slotrules/slotlaw11.DeskFound", spec := "deskFound", inPlace := ["internal/bytealg.IndexByteString"], unfollowed := true, recurses := true, named := ["slotrules/civil.lengths", "slotrules/parse.dayNames", "math/bits.deBruijn64tab"], apart := false, laid := [("math/bits.deBruijn64tab", laid_math_bits_deBruijn64tab), ("slotrules/civil.lengths", laid_slotrules_civil_lengths), ("slotrules/parse.dayNames", laid_slotrules_parse_dayNames)], narrowed := true }
def DeskFoundUptoSaid : Prop := deskFoundUptoRow.holds Tryz.pinned (OpenSpec.upto deskFoundSpec)

/-- 'slotlaw11.DeskTwice', WHERE WHAT IT READS IS OF BULK AT MOST 1048576: true; the input reads as it did. -/
def deskTwiceUptoRow : OpenClaim := { program := "ytlkehieagdkgiaagreatdoor", sum := "775afc75b21926b15565e03fedf8951fbf48ac66026fbe88efaaf1a3e287e431", func := "slotrules/slotlaw11.DeskTwice", spec := "deskTwice", inPlace := ["internal/bytealg.IndexByteString"], unfollowed := true, recurses := true, named := ["slotrules/civil.lengths", "slotrules/parse.dayNames", "math/bits.deBruijn64tab"], apart := false, laid := [("math/bits.deBruijn64tab", laid_math_bits_deBruijn64tab), ("slotrules/civil.lengths", laid_slotrules_civil_lengths), ("slotrules/parse.dayNames", laid_slotrules_parse_dayNames)], narrowed := true }
def DeskTwiceUptoSaid : Prop := deskTwiceUptoRow.holds Tryz.pinned (OpenSpec.upto deskTwiceSpec)

/-- 'slotlaw11.DeskRefused', WHERE WHAT IT READS IS OF BULK AT MOST 1048576: true; the input reads as it did. -/
def deskRefusedUptoRow : OpenClaim := { program := "ytlkehieagdkgiaagreatdoor", sum := "775afc75b21926b15565e03fedf8951fbf48ac66026fbe88efaaf1a3e287e431", func := "slotrules/slotlaw11.DeskRefused", spec := "deskRefused", inPlace := ["internal/bytealg.IndexByteString"], unfollowed := true, recurses := true, named := ["slotrules/civil.lengths", "slotrules/parse.dayNames", "math/bits.deBruijn64tab"], apart := false, laid := [("math/bits.deBruijn64tab", laid_math_bits_deBruijn64tab), ("slotrules/civil.lengths", laid_slotrules_civil_lengths), ("slotrules/parse.dayNames", laid_slotrules_parse_dayNames)], narrowed := true }
def DeskRefusedUptoSaid : Prop := deskRefusedUptoRow.holds Tryz.pinned (OpenSpec.upto deskRefusedSpec)

end Rows
end Go.Proofs.YtlkehieagdkgiaaGreatDoor
