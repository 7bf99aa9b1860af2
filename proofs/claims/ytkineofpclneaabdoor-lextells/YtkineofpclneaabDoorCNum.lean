/- What Number, Of, Week and the smaller functions beside them come to. -/
import Derived.Test.YtkineofpclneaabDoorCWalks
namespace Go.Proofs.YtkineofpclneaabDoor
open Go.RowKit

theorem CTab.below {w w' : World} (h : CTab w) (hb : Below w.heap.size w w') : CTab w' := fun i hi => cell_later hb (h i hi)
theorem CTab.alloc {w : World} (h : CTab w) (o : Obj) : CTab (w.alloc o) := h.below ((Below.refl _ _).alloc (Nat.le_refl _) o)
theorem CTab.drew {w : World} (h : CTab w) : CTab w.drew := fun i hi => h i hi

set_option maxHeartbeats 400000 in
theorem number_yes (y m d : Int) (w : World) (hT : CTab w) (a : 1 ≤ d) (b : d ≤ Cal.dim y m) :
    Calls Tryd.prog 66 #[.agg #[.int .i64 y, .int .i64 m, .int .i64 d]] w fun e w' => e = .returned (.tuple #[.int .i64 (Cal.num y m d), .int .i64 0]) ∧ Below w.heap.size w w' := by
  have H : Hid (CTab w) := hT
  clear hT
  obtain ⟨r1, r2, r3, r4⟩ := Cal.dim_pos y m (by omega)
  have d31 := Cal.dim_31 y m
  have yb := Cal.ys_bd y r1 (by omega)
  have cb := Cal.cum_bd y m r3 (by omega)
  have n1 : decide (d < 1) = false := by simp; omega
  have n2 : decide (Cal.dim y m < d) = false := by simp; omega
  go_enter Tryd.func66, Tryd.ntmps66
  go_wp2
  go_quiet ((go_at_call 74; exact Calls.quiet_of_same (length_any _ _ _ (H.out.alloc _))))
  go_wp2
  generalize hw : (w.alloc (.cells #[.int .i64 y, .int .i64 m, .int .i64 d] 80)).drewN nq = w1
  have c0 : w1.cell? ⟨w.heap.size, 0, none⟩ = some (.int .i64 y) := by rw [← hw]; simp
  have c1 : w1.cell? ⟨w.heap.size, 1, none⟩ = some (.int .i64 m) := by rw [← hw]; simp
  have c2 : w1.cell? ⟨w.heap.size, 2, none⟩ = some (.int .i64 d) := by rw [← hw]; simp
  have hb : Below w.heap.size w w1 := by rw [← hw]; exact below_drewN ((Below.refl _ _).alloc (Nat.le_refl _) _) _
  have H1 : Hid (CTab w1) := H.out.below hb
  clear hw H
  go_quiet ((first | (go_at_call 75; exact Calls.quiet_of_same (ys_any y _ r1 (by omega))) | (go_at_call 76; exact Calls.quiet_of_same (cum_any y m _ H1.out r1 r2 r3 (by omega)))))
  go_wp2
  go_ret2
  exact ⟨rfl, below_drewN hb _⟩

set_option maxHeartbeats 400000 in
theorem number_no (y m d : Int) (w : World) (hT : CTab w) (a : d < 1 ∨ Cal.dim y m < d) :
    Calls Tryd.prog 66 #[.agg #[.int .i64 y, .int .i64 m, .int .i64 d]] w fun e w' => e = .returned (.tuple #[.int .i64 0, .int .i64 3]) ∧ Below w.heap.size w w' := by
  have H : Hid (CTab w) := hT
  clear hT
  by_cases a1 : d < 1
  · have n1 : decide (d < 1) = true := by simp; omega
    clear a
    go_enter Tryd.func66, Tryd.ntmps66
    go_wp2
    go_quiet (fail)
    go_wp2
    go_ret2
    exact ⟨rfl, below_drewN ((Below.refl _ _).alloc (Nat.le_refl _) _) _⟩
  · have n1 : decide (d < 1) = false := by simp; omega
    have n2 : decide (Cal.dim y m < d) = true := by simp; omega
    clear a
    go_enter Tryd.func66, Tryd.ntmps66
    go_wp2
    go_quiet ((go_at_call 74; exact Calls.quiet_of_same (length_any _ _ _ (H.out.alloc _))))
    go_wp2
    go_ret2
    exact ⟨rfl, below_drewN ((Below.refl _ _).alloc (Nat.le_refl _) _) _⟩

end Go.Proofs.YtkineofpclneaabDoor
