/- What Number, Of, Week and the smaller functions beside them come to. -/
import Derived.Test.YtopflhcgonokgaaDoorWalks
namespace Go.Proofs.YtopflhcgonokgaaDoor
open Go.RowKit

theorem Tab.below {w w' : World} (h : Tab w) (hb : Below w.heap.size w w') : Tab w' := fun i hi => cell_later hb (h i hi)
theorem Tab.alloc {w : World} (h : Tab w) (o : Obj) : Tab (w.alloc o) := h.below ((Below.refl _ _).alloc (Nat.le_refl _) o)
theorem Tab.drew {w : World} (h : Tab w) : Tab w.drew := fun i hi => h i hi

set_option maxHeartbeats 400000 in
theorem number_yes (y m d : Int) (w : World) (hT : Tab w) (a : 1 ≤ d) (b : d ≤ Cal.dim y m) :
    Calls Tryd.prog 7 #[.agg #[.int .i64 y, .int .i64 m, .int .i64 d]] w fun e w' => e = .returned (.tuple #[.int .i64 (Cal.num y m d), .int .i64 0]) ∧ Below w.heap.size w w' := by
  have H : Hid (Tab w) := hT
  clear hT
  obtain ⟨r1, r2, r3, r4⟩ := Cal.dim_pos y m (by omega)
  have d31 := Cal.dim_31 y m
  have yb := Cal.ys_bd y r1 (by omega)
  have cb := Cal.cum_bd y m r3 (by omega)
  have n1 : decide (d < 1) = false := by simp; omega
  have n2 : decide (Cal.dim y m < d) = false := by simp; omega
  go_enter Tryd.func7, Tryd.ntmps7
  go_wp2
  go_quiet ((go_at_call 9; exact Calls.quiet_of_same (length_any _ _ _ (H.out.alloc _))))
  go_wp2
  generalize hw : (w.alloc (.cells #[.int .i64 y, .int .i64 m, .int .i64 d] 23)).drewN nq = w1
  have c0 : w1.cell? ⟨w.heap.size, 0, none⟩ = some (.int .i64 y) := by rw [← hw]; simp
  have c1 : w1.cell? ⟨w.heap.size, 1, none⟩ = some (.int .i64 m) := by rw [← hw]; simp
  have c2 : w1.cell? ⟨w.heap.size, 2, none⟩ = some (.int .i64 d) := by rw [← hw]; simp
  have hb : Below w.heap.size w w1 := by rw [← hw]; exact below_drewN ((Below.refl _ _).alloc (Nat.le_refl _) _) _
  have H1 : Hid (Tab w1) := H.out.below hb
  clear hw H
  go_quiet ((first | (go_at_call 18; exact Calls.quiet_of_same (ys_any y _ r1 (by omega))) | (go_at_call 19; exact Calls.quiet_of_same (cum_any y m _ H1.out r1 r2 r3 (by omega)))))
  go_wp2
  go_ret2
  exact ⟨rfl, below_drewN hb _⟩

set_option maxHeartbeats 400000 in
theorem number_no (y m d : Int) (w : World) (hT : Tab w) (a : d < 1 ∨ Cal.dim y m < d) :
    Calls Tryd.prog 7 #[.agg #[.int .i64 y, .int .i64 m, .int .i64 d]] w fun e w' => e = .returned (.tuple #[.int .i64 0, .int .i64 3]) ∧ Below w.heap.size w w' := by
  have H : Hid (Tab w) := hT
  clear hT
  by_cases a1 : d < 1
  · have n1 : decide (d < 1) = true := by simp; omega
    clear a
    go_enter Tryd.func7, Tryd.ntmps7
    go_wp2
    go_quiet (fail)
    go_wp2
    go_ret2
    exact ⟨rfl, below_drewN ((Below.refl _ _).alloc (Nat.le_refl _) _) _⟩
  · have n1 : decide (d < 1) = false := by simp; omega
    have n2 : decide (Cal.dim y m < d) = true := by simp; omega
    clear a
    go_enter Tryd.func7, Tryd.ntmps7
    go_wp2
    go_quiet ((go_at_call 9; exact Calls.quiet_of_same (length_any _ _ _ (H.out.alloc _))))
    go_wp2
    go_ret2
    exact ⟨rfl, below_drewN ((Below.refl _ _).alloc (Nat.le_refl _) _) _⟩

set_option maxHeartbeats 400000 in
theorem isDay_yes (n : Int) (w : World) (a : 0 ≤ n) (b : n < 146097) :
    Calls Tryd.prog 21 #[.int .i64 n] w fun e w' => e = .returned (.bool true) ∧ w' = w := by
  go_enter Tryd.func21, Tryd.ntmps21
  go_wp2
  go_ret
  exact ⟨rfl, rfl⟩
set_option maxHeartbeats 400000 in
theorem isDay_no (n : Int) (w : World) (a : n < 0 ∨ 146097 ≤ n) :
    Calls Tryd.prog 21 #[.int .i64 n] w fun e w' => e = .returned (.bool false) ∧ w' = w := by
  by_cases h : n < 0
  · go_enter Tryd.func21, Tryd.ntmps21
    go_wp2
    go_ret
    exact ⟨rfl, rfl⟩
  · have h' : decide (n < 146097) = false := by simp; omega
    clear a
    go_enter Tryd.func21, Tryd.ntmps21
    go_wp2
    go_ret
    exact ⟨rfl, rfl⟩

set_option maxHeartbeats 400000 in
theorem week_yes (n : Int) (w : World) (a : 0 ≤ n) (b : n < 146097) :
    Calls Tryd.prog 15 #[.int .i64 n] w fun e w' => e = .returned (.int .i64 ((n + 5) % 7)) ∧ w' = w := by
  go_enter Tryd.func15, Tryd.ntmps15
  go_wp2_with (go_at_call 21; refine (isDay_yes _ _ a b).mono ?_; rintro e w' ⟨rfl, rfl⟩)
  go_ret
  exact ⟨rfl, rfl⟩

set_option maxHeartbeats 400000 in
theorem yearOf_any (n : Int) (w : World) (a : 0 ≤ n) (b : n < 146097) :
    Calls Tryd.prog 22 #[.int .i64 n] w fun e w' => e = .returned (.int .i64 (Cal.yearOf n)) ∧ w' = w := by
  unfold Cal.yearOf
  by_cases h : Cal.ys (2000 + n / 366 + 1) ≤ n
  · rw [if_pos h]
    go_enter Tryd.func22, Tryd.ntmps22
    go_wp2_with (go_at_call 18; refine (ys_any _ _ (by omega) (by omega)).mono ?_; rintro e w' ⟨rfl, rfl⟩)
    go_ret
    exact ⟨rfl, rfl⟩
  · rw [if_neg h]
    go_enter Tryd.func22, Tryd.ntmps22
    go_wp2_with (go_at_call 18; refine (ys_any _ _ (by omega) (by omega)).mono ?_; rintro e w' ⟨rfl, rfl⟩)
    go_ret
    exact ⟨rfl, rfl⟩

set_option maxHeartbeats 400000 in
theorem monthOf_any (y r : Int) (w : World) (hT : Tab w) (a : 2000 ≤ y) (b : y ≤ 2399) (c : 0 ≤ r) (d : r < 365 + Cal.lp y) :
    Calls Tryd.prog 23 #[.int .i64 y, .int .i64 r] w fun e w' => ∃ m : Int, e = .returned (.int .i64 m) ∧ 1 ≤ m ∧ m ≤ 12 ∧ Cal.cum y m ≤ r ∧ r < Cal.cum y m + Cal.dim y m ∧ w' = w := by
  have H : Hid (Tab w) := hT
  have D : Hid (r < 365 + Cal.lp y) := d
  clear hT d
  go_enter Tryd.func23, Tryd.ntmps23
  go_wp2
  go_loop [5] (fun i => ∃ k : Int, 1 ≤ k ∧ k ≤ 12 ∧ i = .int .i64 k ∧ Cal.cum y k ≤ r) (fun i => (12 - intOf i).toNat)
  case atStart => exact ⟨1, by omega, by omega, rfl, by rw [Cal.cum_one]; exact c⟩
  case round =>
    obtain ⟨k, hk1, hk2, rfl, hk3⟩ := hrel
    have cs : Hid (Cal.cum y (k + 1) = Cal.cum y k + Cal.dim y k) := Cal.cum_succ y k a b hk1 hk2
    by_cases hc : k < 12 ∧ Cal.cum y (k + 1) ≤ r
    · obtain ⟨h1, h2⟩ := hc
      go_wp2_with (go_at_call 19; refine (cum_any _ _ _ H.out a b (by omega) (by omega)).mono ?_; rintro e w' ⟨rfl, rfl⟩)
      go_round
      case rel => exact ⟨k + 1, by omega, by omega, rfl, h2⟩
      case measure => simp [intOf]; omega
    · have hv : Hid (r < Cal.cum y k + Cal.dim y k) := by
        have h := cs.out
        have h' := D.out
        by_cases e : k = 12
        · subst e
          have h13 : Cal.cum y (12 + 1) = 365 + Cal.lp y := rfl
          show r < _
          omega
        · show r < _
          omega
      by_cases h1 : k < 12
      · have h2 : r < Cal.cum y (k + 1) := by omega
        clear hc
        go_wp2_with (go_at_call 19; refine (cum_any _ _ _ H.out a b (by omega) (by omega)).mono ?_; rintro e w' ⟨rfl, rfl⟩)
        go_ret
        exact ⟨k, rfl, hk1, hk2, hk3, hv.out, rfl⟩
      · clear hc
        go_wp2
        go_ret
        exact ⟨k, rfl, hk1, hk2, hk3, hv.out, rfl⟩

set_option maxHeartbeats 400000 in
theorem of_no (n : Int) (w : World) (a : n < 0 ∨ 146097 ≤ n) :
    Calls Tryd.prog 13 #[.int .i64 n] w fun e w' => e = .returned (.tuple #[.agg #[.int .i64 0, .int .i64 0, .int .i64 0], .int .i64 3]) ∧ Below w.heap.size w w' := by
  go_enter Tryd.func13, Tryd.ntmps13
  go_wp2_with (go_at_call 21; refine (isDay_no _ _ a).mono ?_; rintro e w' ⟨rfl, rfl⟩)
  exact bodyPost_ret (v := .tuple #[.agg #[.int .i64 0, .int .i64 0, .int .i64 0], .int .i64 3]) (by simp [results, Tryd.results13, go_sem]) rfl ⟨rfl, (Below.refl _ _).alloc (Nat.le_refl _) _⟩

theorem num_of (n y m : Int) : Cal.num y m (n - Cal.ys y - Cal.cum y m + 1) = n := by unfold Cal.num; omega

set_option maxHeartbeats 400000 in
theorem of_yes (n : Int) (w : World) (hT : Tab w) (a : 0 ≤ n) (b : n < 146097) :
    Calls Tryd.prog 13 #[.int .i64 n] w fun e w' => ∃ y m d : Int, e = .returned (.tuple #[.agg #[.int .i64 y, .int .i64 m, .int .i64 d], .int .i64 0]) ∧ 1 ≤ d ∧ d ≤ Cal.dim y m ∧ Cal.num y m d = n ∧ Below w.heap.size w w' := by
  have H : Hid (Tab w) := hT
  clear hT
  obtain ⟨y1, y2, y3, y4⟩ := Cal.yearOf_ok n a b
  have ysu := Cal.ys_succ (Cal.yearOf n)
  have r2 : n - Cal.ys (Cal.yearOf n) < 365 + Cal.lp (Cal.yearOf n) := by omega
  have R2 : Hid (n - Cal.ys (Cal.yearOf n) < 365 + Cal.lp (Cal.yearOf n)) := r2
  have yb := Cal.ys_bd (Cal.yearOf n) y1 (by omega)
  clear ysu r2 y4
  go_enter Tryd.func13, Tryd.ntmps13
  go_wp2_with fail
  refine (isDay_yes _ _ a b).mono ?_
  rintro e w' ⟨rfl, rfl⟩
  go_wp2_with fail
  refine (yearOf_any _ _ a b).mono ?_
  rintro e w' ⟨rfl, rfl⟩
  go_wp2_with fail
  refine (ys_any _ _ y1 (by omega)).mono ?_
  rintro e w' ⟨rfl, rfl⟩
  go_wp2_with fail
  refine (monthOf_any _ _ _ (H.out.alloc _) y1 y2 (by omega) R2.out).mono ?_
  rintro e w' ⟨m, rfl, m1, m2, m3, m4, rfl⟩
  have cb := Cal.cum_bd (Cal.yearOf n) m m1 (by omega)
  go_wp2_with fail
  refine (cum_any _ _ _ (H.out.alloc _) y1 y2 m1 (by omega)).mono ?_
  rintro e w' ⟨rfl, rfl⟩
  go_wp2
  refine bodyPost_ret (v := .tuple #[.agg #[.int .i64 (Cal.yearOf n), .int .i64 m, .int .i64 (n - Cal.ys (Cal.yearOf n) - Cal.cum (Cal.yearOf n) m + 1)], .int .i64 0]) (by simp [results, Tryd.results13, go_sem]) rfl ⟨_, _, _, rfl, by omega, by omega, num_of n _ _, ?_⟩
  exact (Below.refl _ _).alloc (Nat.le_refl _) _

set_option maxHeartbeats 400000 in
theorem alive_any (w : World) (hT : Tab w) :
    Calls Tryd.prog 17 #[] w fun e w' => e = .returned (.bool true) ∧ Below w.heap.size w w' := by
  have H : Hid (Tab w) := hT
  clear hT
  go_enter Tryd.func17, Tryd.ntmps17
  go_wp2_with fail
  refine (number_yes _ _ _ _ H.out (by decide) (by decide)).mono ?_
  rw [show Cal.num 2026 11 15 = 9815 from by decide]
  rintro e w' ⟨rfl, hb⟩
  go_wp2_with fail
  refine (week_yes _ _ (by omega) (by omega)).mono ?_
  rintro e w2 ⟨rfl, rfl⟩
  go_wp2
  go_ret
  exact ⟨rfl, hb⟩

end Go.Proofs.YtopflhcgonokgaaDoor
