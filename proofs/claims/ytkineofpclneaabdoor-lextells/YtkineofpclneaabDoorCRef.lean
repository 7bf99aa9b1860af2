/- What the document's answer (package slotref1) comes to: the same plain functions. -/
import Derived.Test.YtkineofpclneaabDoorCNum
namespace Go.Proofs.YtkineofpclneaabDoor
open Go.RowKit

set_option maxHeartbeats 400000 in
theorem rleap_any (y : Int) (w : World) (h0 : 0 ≤ y) (h1 : y ≤ 9223372036854775807) :
    Calls Tryd.prog 79 #[.int .i64 y] w fun e w' => e = .returned (.bool (Cal.lpB y)) ∧ w' = w := by
  by_cases h400 : y % 400 = 0
  · have e : Cal.lpB y = true := by unfold Cal.lpB; exact decide_eq_true ⟨by omega, .inr h400⟩
    rw [e]
    have a2 : (y % 400 == 0) = true := by simp [h400]
    clear e h400
    go_enter Tryd.func79, Tryd.ntmps79
    go_wp2
    go_ret
    exact ⟨rfl, rfl⟩
  · have a2 : (y % 400 == 0) = false := by simp [h400]
    by_cases h100 : y % 100 = 0
    · have e : Cal.lpB y = false := by unfold Cal.lpB; exact decide_eq_false (fun h => by omega)
      rw [e]
      have a1 : (y % 100 == 0) = true := by simp [h100]
      clear e h400 h100
      go_enter Tryd.func79, Tryd.ntmps79
      go_wp2
      go_ret
      exact ⟨rfl, rfl⟩
    · have a1 : (y % 100 == 0) = false := by simp [h100]
      have e : Cal.lpB y = (y % 4 == 0) := by unfold Cal.lpB; by_cases h4 : y % 4 = 0 <;> simp [h4, h100]
      rw [e]
      clear e h400 h100
      go_enter Tryd.func79, Tryd.ntmps79
      go_wp2
      go_ret
      exact ⟨rfl, rfl⟩

set_option maxHeartbeats 400000 in
theorem ryear_any (y : Int) (w : World) (h0 : 0 ≤ y) (h1 : y ≤ 9223372036854775807) :
    Calls Tryd.prog 71 #[.int .i64 y] w fun e w' => e = .returned (.int .i64 (365 + Cal.lp y)) ∧ w' = w := by
  have hl := Cal.lp_of y
  cases hb : Cal.lpB y
  all_goals
    rw [hb] at hl
    simp at hl
    rw [hl]
    clear hl
    go_enter Tryd.func71, Tryd.ntmps71
    go_wp2_with (go_at_call 79; refine (rleap_any _ _ h0 h1).mono ?_; rw [hb]; rintro e w' ⟨rfl, rfl⟩)
    go_ret
    exact ⟨rfl, rfl⟩

set_option maxHeartbeats 400000 in
theorem rlength_out (y m : Int) (w : World) (h : y < 2000 ∨ 2399 < y) :
    Calls Tryd.prog 70 #[.int .i64 y, .int .i64 m] w fun e w' => e = .returned (.int .i64 0) ∧ w' = w := by
  by_cases a : y < 2000
  · go_enter Tryd.func70, Tryd.ntmps70
    go_wp2
    go_ret
    exact ⟨rfl, rfl⟩
  · have b : 2399 < y := by omega
    go_enter Tryd.func70, Tryd.ntmps70
    go_wp2
    go_ret
    exact ⟨rfl, rfl⟩

set_option maxHeartbeats 800000 in
theorem rlength_no (y m : Int) (w : World) (a : 2000 ≤ y) (b : y ≤ 2399) (h : m < 1 ∨ 12 < m) :
    Calls Tryd.prog 70 #[.int .i64 y, .int .i64 m] w fun e w' => e = .returned (.int .i64 0) ∧ w' = w := by
  have t1 : (m == 1) = false := by simp; omega
  have t2 : (m == 2) = false := by simp; omega
  have t3 : (m == 3) = false := by simp; omega
  have t4 : (m == 4) = false := by simp; omega
  have t5 : (m == 5) = false := by simp; omega
  have t6 : (m == 6) = false := by simp; omega
  have t7 : (m == 7) = false := by simp; omega
  have t8 : (m == 8) = false := by simp; omega
  have t9 : (m == 9) = false := by simp; omega
  have t10 : (m == 10) = false := by simp; omega
  have t11 : (m == 11) = false := by simp; omega
  have t12 : (m == 12) = false := by simp; omega
  clear h
  go_enter Tryd.func70, Tryd.ntmps70
  go_wp2
  go_ret
  exact ⟨rfl, rfl⟩

set_option maxHeartbeats 400000 in
theorem rlength_two (y : Int) (w : World) (a : 2000 ≤ y) (b : y ≤ 2399) :
    Calls Tryd.prog 70 #[.int .i64 y, .int .i64 2] w fun e w' => e = .returned (.int .i64 (28 + Cal.lp y)) ∧ w' = w := by
  have hl := Cal.lp_of y
  cases hb : Cal.lpB y
  all_goals
    rw [hb] at hl
    simp at hl
    rw [hl]
    clear hl
    go_enter Tryd.func70, Tryd.ntmps70
    go_wp2_with (go_at_call 79; refine (rleap_any _ _ (by omega) (by omega)).mono ?_; rw [hb]; rintro e w' ⟨rfl, rfl⟩)
    go_ret
    exact ⟨rfl, rfl⟩

set_option maxHeartbeats 1000000 in
theorem rlength_in (y m : Int) (w : World) (a : 2000 ≤ y) (b : y ≤ 2399) (c : 1 ≤ m) (d : m ≤ 12) :
    Calls Tryd.prog 70 #[.int .i64 y, .int .i64 m] w fun e w' => e = .returned (.int .i64 (Cal.dim y m)) ∧ w' = w := by
  have h : m = 1 ∨ m = 2 ∨ m = 3 ∨ m = 4 ∨ m = 5 ∨ m = 6 ∨ m = 7 ∨ m = 8 ∨ m = 9 ∨ m = 10 ∨ m = 11 ∨ m = 12 := by omega
  have e : Cal.dim y m = if m = 2 then 28 + Cal.lp y else if m = 4 ∨ m = 6 ∨ m = 9 ∨ m = 11 then 30 else 31 := by unfold Cal.dim; rw [if_neg (by omega)]
  rw [e]
  clear e
  rcases h with rfl | h
  · rw [if_neg (by decide), if_neg (by decide)]
    go_enter Tryd.func70, Tryd.ntmps70
    go_wp2
    go_ret
    exact ⟨rfl, rfl⟩
  rcases h with rfl | h
  · exact rlength_two y w a b
  rcases h with rfl | h
  · rw [if_neg (by decide), if_neg (by decide)]
    go_enter Tryd.func70, Tryd.ntmps70
    go_wp2
    go_ret
    exact ⟨rfl, rfl⟩
  rcases h with rfl | h
  · rw [if_neg (by decide), if_pos (by decide)]
    go_enter Tryd.func70, Tryd.ntmps70
    go_wp2
    go_ret
    exact ⟨rfl, rfl⟩
  rcases h with rfl | h
  · rw [if_neg (by decide), if_neg (by decide)]
    go_enter Tryd.func70, Tryd.ntmps70
    go_wp2
    go_ret
    exact ⟨rfl, rfl⟩
  rcases h with rfl | h
  · rw [if_neg (by decide), if_pos (by decide)]
    go_enter Tryd.func70, Tryd.ntmps70
    go_wp2
    go_ret
    exact ⟨rfl, rfl⟩
  rcases h with rfl | h
  · rw [if_neg (by decide), if_neg (by decide)]
    go_enter Tryd.func70, Tryd.ntmps70
    go_wp2
    go_ret
    exact ⟨rfl, rfl⟩
  rcases h with rfl | h
  · rw [if_neg (by decide), if_neg (by decide)]
    go_enter Tryd.func70, Tryd.ntmps70
    go_wp2
    go_ret
    exact ⟨rfl, rfl⟩
  rcases h with rfl | h
  · rw [if_neg (by decide), if_pos (by decide)]
    go_enter Tryd.func70, Tryd.ntmps70
    go_wp2
    go_ret
    exact ⟨rfl, rfl⟩
  rcases h with rfl | h
  · rw [if_neg (by decide), if_neg (by decide)]
    go_enter Tryd.func70, Tryd.ntmps70
    go_wp2
    go_ret
    exact ⟨rfl, rfl⟩
  rcases h with rfl | h
  · rw [if_neg (by decide), if_pos (by decide)]
    go_enter Tryd.func70, Tryd.ntmps70
    go_wp2
    go_ret
    exact ⟨rfl, rfl⟩
  subst h
  rw [if_neg (by decide), if_neg (by decide)]
  go_enter Tryd.func70, Tryd.ntmps70
  go_wp2
  go_ret
  exact ⟨rfl, rfl⟩

theorem rlength_any (y m : Int) (w : World) :
    Calls Tryd.prog 70 #[.int .i64 y, .int .i64 m] w fun e w' => e = .returned (.int .i64 (Cal.dim y m)) ∧ w' = w := by
  by_cases h : y < 2000 ∨ 2399 < y
  · rw [Cal.dim_out y m (by omega)]; exact rlength_out y m w h
  · by_cases g : m < 1 ∨ 12 < m
    · rw [Cal.dim_out y m (by omega)]; exact rlength_no y m w (by omega) (by omega) g
    · exact rlength_in y m w (by omega) (by omega) (by omega) (by omega)

set_option maxHeartbeats 400000 in
theorem rnumber_no (y m d : Int) (w : World) (a : d < 1 ∨ Cal.dim y m < d) :
    Calls Tryd.prog 62 #[.agg #[.int .i64 y, .int .i64 m, .int .i64 d]] w fun e w' => e = .returned (.tuple #[.int .i64 0, .int .i64 3]) ∧ Below w.heap.size w w' := by
  by_cases z : Cal.dim y m = 0
  · have z1 : (Cal.dim y m == 0) = true := by simp [z]
    clear z a
    go_enter Tryd.func62, Tryd.ntmps62
    go_wp2
    go_quiet ((go_at_call 70; exact Calls.quiet_of_same (rlength_any _ _ _)))
    go_wp2
    go_ret2
    exact ⟨rfl, below_drewN ((Below.refl _ _).alloc (Nat.le_refl _) _) _⟩
  · have z1 : (Cal.dim y m == 0) = false := by simp [z]
    by_cases a1 : d < 1
    · have n1 : decide (d < 1) = true := by simp; omega
      clear a z
      go_enter Tryd.func62, Tryd.ntmps62
      go_wp2
      go_quiet ((go_at_call 70; exact Calls.quiet_of_same (rlength_any _ _ _)))
      go_wp2
      go_ret2
      exact ⟨rfl, below_drewN ((Below.refl _ _).alloc (Nat.le_refl _) _) _⟩
    · have n1 : decide (d < 1) = false := by simp; omega
      have n2 : decide (Cal.dim y m < d) = true := by simp; omega
      clear a z
      go_enter Tryd.func62, Tryd.ntmps62
      go_wp2
      go_quiet ((go_at_call 70; exact Calls.quiet_of_same (rlength_any _ _ _)))
      go_wp2
      go_ret2
      exact ⟨rfl, below_drewN ((Below.refl _ _).alloc (Nat.le_refl _) _) _⟩

theorem ret2 {a b : Int} (h : a = b) : Ending.returned (.tuple #[.int .i64 a, .int .i64 0]) = .returned (.tuple #[.int .i64 b, .int .i64 0]) := by rw [h]
set_option maxHeartbeats 800000 in
theorem rnumber_yes (y m d : Int) (w : World) (a : 1 ≤ d) (b : d ≤ Cal.dim y m) :
    Calls Tryd.prog 62 #[.agg #[.int .i64 y, .int .i64 m, .int .i64 d]] w fun e w' => e = .returned (.tuple #[.int .i64 (Cal.num y m d), .int .i64 0]) ∧ Below w.heap.size w w' := by
  obtain ⟨r1, r2, r3, r4⟩ := Cal.dim_pos y m (by omega)
  have d31 := Cal.dim_31 y m
  have yb := Cal.ys_bd y r1 (by omega)
  have cb := Cal.cum_bd y m r3 (by omega)
  have z1 : (Cal.dim y m == 0) = false := by simp; omega
  have n1 : decide (d < 1) = false := by simp; omega
  have n2 : decide (Cal.dim y m < d) = false := by simp; omega
  go_enter Tryd.func62, Tryd.ntmps62
  go_wp2
  go_quiet ((go_at_call 70; exact Calls.quiet_of_same (rlength_any _ _ _)))
  go_wp2
  generalize hw : (w.alloc (.cells #[.int .i64 y, .int .i64 m, .int .i64 d] 80)).drewN nq = w1
  have c0 : w1.cell? ⟨w.heap.size, 0, none⟩ = some (.int .i64 y) := by rw [← hw]; simp
  have c1 : w1.cell? ⟨w.heap.size, 1, none⟩ = some (.int .i64 m) := by rw [← hw]; simp
  have c2 : w1.cell? ⟨w.heap.size, 2, none⟩ = some (.int .i64 d) := by rw [← hw]; simp
  have hb : Hid (Below w.heap.size w w1) := by show Below _ _ _; rw [← hw]; exact below_drewN ((Below.refl _ _).alloc (Nat.le_refl _) _) _
  clear hw z1 n1 n2
  go_wp2
  go_loop [4, 5] (fun t i => ∃ k : Int, 2000 ≤ k ∧ k ≤ y ∧ i = .int .i64 k ∧ t = .int .i64 (d - 1 + Cal.ys k)) (fun _ i => (2400 - intOf i).toNat)
  case atStart => exact ⟨2000, by omega, by omega, rfl, by rw [Cal.ys_2000]; go_num⟩
  case round =>
    obtain ⟨k, hk1, hk2, rfl, rfl⟩ := hrel
    have kb := Cal.ys_bd k hk1 (by omega)
    have lb := Cal.lp_01 k
    by_cases hlt : k < y
    · have cs : Hid (Cal.ys (k + 1) = Cal.ys k + 365 + Cal.lp k) := Cal.ys_succ k
      go_wp2_with (go_at_call 71; refine (ryear_any _ _ (by omega) (by omega)).mono ?_; rintro e w' ⟨rfl, rfl⟩)
      go_round
      case rel => exact ⟨k + 1, by omega, by omega, rfl, by rw [cs.out]; go_num⟩
      case measure => simp [intOf]; omega
    · have e : k = y := by omega
      subst e
      go_wp2
      go_loop [4, 6] (fun t i => ∃ j : Int, 1 ≤ j ∧ j ≤ m ∧ i = .int .i64 j ∧ t = .int .i64 (d - 1 + Cal.ys k + Cal.cum k j)) (fun _ i => (13 - intOf i).toNat)
      case atStart => exact ⟨1, by omega, by omega, rfl, by rw [Cal.cum_one]; go_num⟩
      case round =>
        obtain ⟨j, hj1, hj2, rfl, rfl⟩ := hrel
        have jb := Cal.cum_bd k j hj1 (by omega)
        have db := Cal.dim_31 k j
        by_cases hjm : j < m
        · have cs : Hid (Cal.cum k (j + 1) = Cal.cum k j + Cal.dim k j) := Cal.cum_succ k j (by omega) (by omega) hj1 (by omega)
          go_wp2_with (go_at_call 70; refine (rlength_any _ _ _).mono ?_; rintro e w' ⟨rfl, rfl⟩)
          go_round
          case rel => exact ⟨j + 1, by omega, by omega, rfl, by rw [cs.out]; go_num⟩
          case measure => simp [intOf]; omega
        · have e : j = m := by omega
          subst e
          go_wp2
          go_ret2
          exact ⟨ret2 (by unfold Cal.num; omega), hb.out⟩

end Go.Proofs.YtkineofpclneaabDoor
