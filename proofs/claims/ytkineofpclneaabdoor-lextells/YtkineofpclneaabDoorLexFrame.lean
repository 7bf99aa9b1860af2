/- What the condition on the listed table of months gives the walks, and the start that meets it. -/
import Derived.Test.YtkineofpclneaabDoorCWalks
import Derived.Test.YtkineofpclneaabDoorCards
import Derived.Test.YtkineofpclneaabDoorTie
import Derived.ProofKit
import Derived.LaidMore
import Derived.OpenShut
import Derived.Stop.Joined
import Derived.SevenTiedAt
import Derived.Lib.SmallJoins
import Derived.Lib.LaidTab
namespace Go.Proofs.YtkineofpclneaabDoor
open Go.ChangeShapes Go.WideShapes Go.ChangeAt Go.WideMaps Go.WideElems Go.RowKit Go.Joins

/-- The listed variable. -/
abbrev laid2 : List (String × DataW Unit) := Rows.lexPlacesRow.laid
def lenName : String := (Rows.lexPlacesRow.named.headD default)
theorem own : ownKnob Tryd.prog.godebug = none := by kernel_rfl
theorem gLen : Tryd.prog.globalNamed lenName = some 1 := by kernel_rfl
theorem tLen : (Tryd.prog.globals[1]?).map (·.type) = some 88 := by kernel_rfl
theorem c3 : Tryd.prog.cellsOf 3 = 1 := by kernel_rfl
theorem c34 : Tryd.prog.cellsOf 88 = 12 := by kernel_rfl
theorem door_met (os : Os) (args : Array Value) : laidMetH Tryd.prog laid2 ((World.doorLaid Tryd.prog 400 os).forCall (fun _ _ => 0) ⟨#[], args, []⟩).memory :=
  laidMetH_of_parts3 (fuel := 8) (laidMet_of_run' 8 (by kernel_rfl) (by kernel_rfl)) (by kernel_rfl) (by kernel_rfl)
theorem ctab_of_laid {W : World} (h : laidMetH Tryd.prog laid2 W) : CTab W := by
  rw [MakeChecks.laidMetH_plain _ _ _ (by kernel_rfl)] at h
  have t : Lib.TabIs Tryd.prog W lenName .i64 tab := Lib.tabIs_of_head (name := lenName) (rest := []) gLen tLen Tryd.underlying88 Tryd.underlying3 c3 c34 h
  intro i hi
  exact t.cell gLen i (by simpa [tab] using hi)
end Go.Proofs.YtkineofpclneaabDoor
