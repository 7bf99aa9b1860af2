/- What the condition on the listed table gives the walks, the start that meets it, and how a date reads. -/
import Derived.Test.YtopflhcgonokgaaDoorWalks
import Derived.Test.YtopflhcgonokgaaDoorCards
import Derived.Test.YtopflhcgonokgaaDoorTie
import Derived.ProofKit
import Derived.LaidMore
import Derived.OpenShut
import Derived.Stop.Joined
import Derived.SevenTiedAt
import Derived.Lib.SmallJoins
namespace Go.Proofs.YtopflhcgonokgaaDoor
open Go.ChangeShapes Go.WideShapes Go.ChangeAt Go.WideMaps Go.WideElems Go.RowKit Go.Joins

/-- The listed variable, as every row of the seat lists it. -/
abbrev laid1 : List (String × DataW Unit) := Rows.civilYearsRow.laid
def lenName : String := (Rows.civilYearsRow.named.headD default)
theorem own : ownKnob Tryd.prog.godebug = none := by kernel_rfl
theorem gLen : Tryd.prog.globalNamed lenName = some 0 := by kernel_rfl
theorem tLen : (Tryd.prog.globals[0]?).map (·.type) = some 34 := by kernel_rfl
theorem c3 : Tryd.prog.cellsOf 3 = 1 := by kernel_rfl
theorem c23 : Tryd.prog.cellsOf 23 = 3 := by kernel_rfl
theorem c34 : Tryd.prog.cellsOf 34 = 12 := by kernel_rfl

theorem door_met (os : Os) (args : Array Value) : laidMetH Tryd.prog laid1 ((World.doorLaid Tryd.prog 400 os).forCall (fun _ _ => 0) ⟨#[], args, []⟩).memory :=
  laidMetH_of_parts3 (fuel := 8) (laidMet_of_run' 8 (by kernel_rfl) (by kernel_rfl)) (by kernel_rfl) (by kernel_rfl)

theorem tab_of_laid {W : World} (h : laidMetH Tryd.prog laid1 W) : Tab W := by
  rw [MakeChecks.laidMetH_plain _ _ _ (by kernel_rfl)] at h
  have t : Lib.TabIs Tryd.prog W lenName .i64 tab := Lib.tabIs_of_head (name := lenName) (rest := []) gLen tLen Tryd.underlying34 Tryd.underlying3 c3 c34 h
  intro i hi
  exact t.cell gLen i (by simpa [tab] using hi)

theorem date_reads {H : Type} {enc : TypeId × Value → H} {W : World} {sp : Nat → Bool} {a b g : Int} (wa : (Lit.int .i64 a).wf = true) (wb : (Lit.int .i64 b).wf = true) (wg : (Lit.int .i64 g).wf = true) :
    DataW.Trod enc Tryd.prog W 0 sp true 23 (.agg #[.int .i64 a, .int .i64 b, .int .i64 g]) (.agg [.lit (.int .i64 a), .lit (.int .i64 b), .lit (.int .i64 g)]) [] :=
  shut_agg3 (y0 := (.lit (.int .i64 a), [])) (y1 := (.lit (.int .i64 b), [])) (y2 := (.lit (.int .i64 g), [])) Tryd.underlying23 (by kernel_rfl) c23
    ⟨1, by simp [DataW.trod, Tryd.underlying3, wa]⟩ ⟨1, by simp [DataW.trod, Tryd.underlying3, wb]⟩ ⟨1, by simp [DataW.trod, Tryd.underlying3, wg]⟩
end Go.Proofs.YtopflhcgonokgaaDoor
