/- What the document's answer (package slotref1) comes to: the same plain functions. -/
import Derived.Test.YtfibbmdkpgageaaDoorPq05
import Derived.Test.YtfibbmdkpgageaaDoorPq09
namespace Go.Proofs.YtfibbmdkpgageaaDoor
open Go.RowKit

set_option maxHeartbeats 400000 in
theorem rleap_any (y : Int) (w : World) (h0 : 0 ≤ y) (h1 : y ≤ 9223372036854775807) :
    Calls Tryd.prog 114 #[.int .i64 y] w fun e w' => e = .returned (.bool (Cal.lpB y)) ∧ w' = w := by
  by_cases h400 : y % 400 = 0
  · have e : Cal.lpB y = true := by unfold Cal.lpB; exact decide_eq_true ⟨by omega, .inr h400⟩
    rw [e]
    have a2 : (y % 400 == 0) = true := by simp [h400]
    clear e h400
    go_enter Tryd.func114, Tryd.ntmps114
    go_wp2
    go_ret
    exact ⟨rfl, rfl⟩
  · have a2 : (y % 400 == 0) = false := by simp [h400]
    by_cases h100 : y % 100 = 0
    · have e : Cal.lpB y = false := by unfold Cal.lpB; exact decide_eq_false (fun h => by omega)
      rw [e]
      have a1 : (y % 100 == 0) = true := by simp [h100]
      clear e h400 h100
      go_enter Tryd.func114, Tryd.ntmps114
      go_wp2
      go_ret
      exact ⟨rfl, rfl⟩
    · have a1 : (y % 100 == 0) = false := by simp [h100]
      have e : Cal.lpB y = (y % 4 == 0) := by unfold Cal.lpB; by_cases h4 : y % 4 = 0 <;> simp [h4, h100]
      rw [e]
      clear e h400 h100
      go_enter Tryd.func114, Tryd.ntmps114
      go_wp2
      go_ret
      exact ⟨rfl, rfl⟩

set_option maxHeartbeats 400000 in
theorem ryear_any (y : Int) (w : World) (h0 : 0 ≤ y) (h1 : y ≤ 9223372036854775807) :
    Calls Tryd.prog 102 #[.int .i64 y] w fun e w' => e = .returned (.int .i64 (365 + Cal.lp y)) ∧ w' = w := by
  have hl := Cal.lp_of y
  cases hb : Cal.lpB y
  all_goals
    rw [hb] at hl
    simp at hl
    rw [hl]
    clear hl
    go_enter Tryd.func102, Tryd.ntmps102
    go_wp2_with (go_at_call 114; refine (rleap_any _ _ h0 h1).mono ?_; rw [hb]; rintro e w' ⟨rfl, rfl⟩)
    go_ret
    exact ⟨rfl, rfl⟩

set_option maxHeartbeats 400000 in
theorem rlength_out (y m : Int) (w : World) (h : y < 2000 ∨ 2399 < y) :
    Calls Tryd.prog 101 #[.int .i64 y, .int .i64 m] w fun e w' => e = .returned (.int .i64 0) ∧ w' = w := by
  by_cases a : y < 2000
  · go_enter Tryd.func101, Tryd.ntmps101
    go_wp2
    go_ret
    exact ⟨rfl, rfl⟩
  · have b : 2399 < y := by omega
    go_enter Tryd.func101, Tryd.ntmps101
    go_wp2
    go_ret
    exact ⟨rfl, rfl⟩

set_option maxHeartbeats 800000 in
theorem rlength_no (y m : Int) (w : World) (a : 2000 ≤ y) (b : y ≤ 2399) (h : m < 1 ∨ 12 < m) :
    Calls Tryd.prog 101 #[.int .i64 y, .int .i64 m] w fun e w' => e = .returned (.int .i64 0) ∧ w' = w := by
  have t1 : (m == 1) = false := by simp; omega
  have t2 : (m == 2) = false := by simp; omega
  have t3 : (m == 3) = false := by simp; omega
  have t4 : (m == 4) = false := by simp; omega
  have t5 : (m == 5) = false := by simp; omega
  have t6 : (m == 6) = false := by simp; omega
  have t7 : (m == 7) = false := by simp; omega
  have t8 : (m == 8) = false := by simp; omega
  have t9 : (m == 9) = false := by simp; omega
  have t10 : (m == 10) = false := by simp; omega
  have t11 : (m == 11) = false := by simp; omega
  have t12 : (m == 12) = false := by simp; omega
  clear h
  go_enter Tryd.func101, Tryd.ntmps101
  go_wp2
  go_ret
  exact ⟨rfl, rfl⟩

set_option maxHeartbeats 400000 in
theorem rlength_two (y : Int) (w : World) (a : 2000 ≤ y) (b : y ≤ 2399) :
    Calls Tryd.prog 101 #[.int .i64 y, .int .i64 2] w fun e w' => e = .returned (.int .i64 (28 + Cal.lp y)) ∧ w' = w := by
  have hl := Cal.lp_of y
  cases hb : Cal.lpB y
  all_goals
    rw [hb] at hl
    simp at hl
    rw [hl]
    clear hl
    go_enter Tryd.func101, Tryd.ntmps101
    go_wp2_with (go_at_call 114; refine (rleap_any _ _ (by omega) (by omega)).mono ?_; rw [hb]; rintro e w' ⟨rfl, rfl⟩)
    go_ret
    exact ⟨rfl, rfl⟩

set_option maxHeartbeats 1000000 in
theorem rlength_in (y m : Int) (w : World) (a : 2000 ≤ y) (b : y ≤ 2399) (c : 1 ≤ m) (d : m ≤ 12) :
    Calls Tryd.prog 101 #[.int .i64 y, .int .i64 m] w fun e w' => e = .returned (.int .i64 (Cal.dim y m)) ∧ w' = w := by
  have h : m = 1 ∨ m = 2 ∨ m = 3 ∨ m = 4 ∨ m = 5 ∨ m = 6 ∨ m = 7 ∨ m = 8 ∨ m = 9 ∨ m = 10 ∨ m = 11 ∨ m = 12 := by omega
  have e : Cal.dim y m = if m = 2 then 28 + Cal.lp y else if m = 4 ∨ m = 6 ∨ m = 9 ∨ m = 11 then 30 else 31 := by unfold Cal.dim; rw [if_neg (by omega)]
  rw [e]
  clear e
  rcases h with rfl | h
  · rw [if_neg (by decide), if_neg (by decide)]
    go_enter Tryd.func101, Tryd.ntmps101
    go_wp2
    go_ret
    exact ⟨rfl, rfl⟩
  rcases h with rfl | h
  · exact rlength_two y w a b
  rcases h with rfl | h
  · rw [if_neg (by decide), if_neg (by decide)]
    go_enter Tryd.func101, Tryd.ntmps101
    go_wp2
    go_ret
    exact ⟨rfl, rfl⟩
  rcases h with rfl | h
  · rw [if_neg (by decide), if_pos (by decide)]
    go_enter Tryd.func101, Tryd.ntmps101
    go_wp2
    go_ret
    exact ⟨rfl, rfl⟩
  rcases h with rfl | h
  · rw [if_neg (by decide), if_neg (by decide)]
    go_enter Tryd.func101, Tryd.ntmps101
    go_wp2
    go_ret
    exact ⟨rfl, rfl⟩
  rcases h with rfl | h
  · rw [if_neg (by decide), if_pos (by decide)]
    go_enter Tryd.func101, Tryd.ntmps101
    go_wp2
    go_ret
    exact ⟨rfl, rfl⟩
  rcases h with rfl | h
  · rw [if_neg (by decide), if_neg (by decide)]
    go_enter Tryd.func101, Tryd.ntmps101
    go_wp2
    go_ret
    exact ⟨rfl, rfl⟩
  rcases h with rfl | h
  · rw [if_neg (by decide), if_neg (by decide)]
    go_enter Tryd.func101, Tryd.ntmps101
    go_wp2
    go_ret
    exact ⟨rfl, rfl⟩
  rcases h with rfl | h
  · rw [if_neg (by decide), if_pos (by decide)]
    go_enter Tryd.func101, Tryd.ntmps101
    go_wp2
    go_ret
    exact ⟨rfl, rfl⟩
  rcases h with rfl | h
  · rw [if_neg (by decide), if_neg (by decide)]
    go_enter Tryd.func101, Tryd.ntmps101
    go_wp2
    go_ret
    exact ⟨rfl, rfl⟩
  rcases h with rfl | h
  · rw [if_neg (by decide), if_pos (by decide)]
    go_enter Tryd.func101, Tryd.ntmps101
    go_wp2
    go_ret
    exact ⟨rfl, rfl⟩
  subst h
  rw [if_neg (by decide), if_neg (by decide)]
  go_enter Tryd.func101, Tryd.ntmps101
  go_wp2
  go_ret
  exact ⟨rfl, rfl⟩

theorem rlength_any (y m : Int) (w : World) :
    Calls Tryd.prog 101 #[.int .i64 y, .int .i64 m] w fun e w' => e = .returned (.int .i64 (Cal.dim y m)) ∧ w' = w := by
  by_cases h : y < 2000 ∨ 2399 < y
  · rw [Cal.dim_out y m (by omega)]; exact rlength_out y m w h
  · by_cases g : m < 1 ∨ 12 < m
    · rw [Cal.dim_out y m (by omega)]; exact rlength_no y m w (by omega) (by omega) g
    · exact rlength_in y m w (by omega) (by omega) (by omega) (by omega)

set_option maxHeartbeats 400000 in
theorem rnumber_no (y m d : Int) (w : World) (a : d < 1 ∨ Cal.dim y m < d) :
    Calls Tryd.prog 80 #[.agg #[.int .i64 y, .int .i64 m, .int .i64 d]] w fun e w' => e = .returned (.tuple #[.int .i64 0, .int .i64 3]) ∧ Below w.heap.size w w' := by
  by_cases z : Cal.dim y m = 0
  · have z1 : (Cal.dim y m == 0) = true := by simp [z]
    clear z a
    go_enter Tryd.func80, Tryd.ntmps80
    go_wp2
    go_quiet ((go_at_call 101; exact Calls.quiet_of_same (rlength_any _ _ _)))
    go_wp2
    go_ret2
    exact ⟨rfl, below_drewN ((Below.refl _ _).alloc (Nat.le_refl _) _) _⟩
  · have z1 : (Cal.dim y m == 0) = false := by simp [z]
    by_cases a1 : d < 1
    · have n1 : decide (d < 1) = true := by simp; omega
      clear a z
      go_enter Tryd.func80, Tryd.ntmps80
      go_wp2
      go_quiet ((go_at_call 101; exact Calls.quiet_of_same (rlength_any _ _ _)))
      go_wp2
      go_ret2
      exact ⟨rfl, below_drewN ((Below.refl _ _).alloc (Nat.le_refl _) _) _⟩
    · have n1 : decide (d < 1) = false := by simp; omega
      have n2 : decide (Cal.dim y m < d) = true := by simp; omega
      clear a z
      go_enter Tryd.func80, Tryd.ntmps80
      go_wp2
      go_quiet ((go_at_call 101; exact Calls.quiet_of_same (rlength_any _ _ _)))
      go_wp2
      go_ret2
      exact ⟨rfl, below_drewN ((Below.refl _ _).alloc (Nat.le_refl _) _) _⟩

theorem ret2 {a b : Int} (h : a = b) : Ending.returned (.tuple #[.int .i64 a, .int .i64 0]) = .returned (.tuple #[.int .i64 b, .int .i64 0]) := by rw [h]
set_option maxHeartbeats 800000 in
theorem rnumber_yes (y m d : Int) (w : World) (a : 1 ≤ d) (b : d ≤ Cal.dim y m) :
    Calls Tryd.prog 80 #[.agg #[.int .i64 y, .int .i64 m, .int .i64 d]] w fun e w' => e = .returned (.tuple #[.int .i64 (Cal.num y m d), .int .i64 0]) ∧ Below w.heap.size w w' := by
  obtain ⟨r1, r2, r3, r4⟩ := Cal.dim_pos y m (by omega)
  have d31 := Cal.dim_31 y m
  have yb := Cal.ys_bd y r1 (by omega)
  have cb := Cal.cum_bd y m r3 (by omega)
  have z1 : (Cal.dim y m == 0) = false := by simp; omega
  have n1 : decide (d < 1) = false := by simp; omega
  have n2 : decide (Cal.dim y m < d) = false := by simp; omega
  go_enter Tryd.func80, Tryd.ntmps80
  go_wp2
  go_quiet ((go_at_call 101; exact Calls.quiet_of_same (rlength_any _ _ _)))
  go_wp2
  generalize hw : (w.alloc (.cells #[.int .i64 y, .int .i64 m, .int .i64 d] 102)).drewN nq = w1
  have c0 : w1.cell? ⟨w.heap.size, 0, none⟩ = some (.int .i64 y) := by rw [← hw]; simp
  have c1 : w1.cell? ⟨w.heap.size, 1, none⟩ = some (.int .i64 m) := by rw [← hw]; simp
  have c2 : w1.cell? ⟨w.heap.size, 2, none⟩ = some (.int .i64 d) := by rw [← hw]; simp
  have hb : Hid (Below w.heap.size w w1) := by show Below _ _ _; rw [← hw]; exact below_drewN ((Below.refl _ _).alloc (Nat.le_refl _) _) _
  clear hw z1 n1 n2
  go_wp2
  go_loop [4, 5] (fun t i => ∃ k : Int, 2000 ≤ k ∧ k ≤ y ∧ i = .int .i64 k ∧ t = .int .i64 (d - 1 + Cal.ys k)) (fun _ i => (2400 - intOf i).toNat)
  case atStart => exact ⟨2000, by omega, by omega, rfl, by rw [Cal.ys_2000]; go_num⟩
  case round =>
    obtain ⟨k, hk1, hk2, rfl, rfl⟩ := hrel
    have kb := Cal.ys_bd k hk1 (by omega)
    have lb := Cal.lp_01 k
    by_cases hlt : k < y
    · have cs : Hid (Cal.ys (k + 1) = Cal.ys k + 365 + Cal.lp k) := Cal.ys_succ k
      go_wp2_with (go_at_call 102; refine (ryear_any _ _ (by omega) (by omega)).mono ?_; rintro e w' ⟨rfl, rfl⟩)
      go_round
      case rel => exact ⟨k + 1, by omega, by omega, rfl, by rw [cs.out]; go_num⟩
      case measure => simp [intOf]; omega
    · have e : k = y := by omega
      subst e
      go_wp2
      go_loop [4, 6] (fun t i => ∃ j : Int, 1 ≤ j ∧ j ≤ m ∧ i = .int .i64 j ∧ t = .int .i64 (d - 1 + Cal.ys k + Cal.cum k j)) (fun _ i => (13 - intOf i).toNat)
      case atStart => exact ⟨1, by omega, by omega, rfl, by rw [Cal.cum_one]; go_num⟩
      case round =>
        obtain ⟨j, hj1, hj2, rfl, rfl⟩ := hrel
        have jb := Cal.cum_bd k j hj1 (by omega)
        have db := Cal.dim_31 k j
        by_cases hjm : j < m
        · have cs : Hid (Cal.cum k (j + 1) = Cal.cum k j + Cal.dim k j) := Cal.cum_succ k j (by omega) (by omega) hj1 (by omega)
          go_wp2_with (go_at_call 101; refine (rlength_any _ _ _).mono ?_; rintro e w' ⟨rfl, rfl⟩)
          go_round
          case rel => exact ⟨j + 1, by omega, by omega, rfl, by rw [cs.out]; go_num⟩
          case measure => simp [intOf]; omega
        · have e : j = m := by omega
          subst e
          go_wp2
          go_ret2
          exact ⟨ret2 (by unfold Cal.num; omega), hb.out⟩

end Go.Proofs.YtfibbmdkpgageaaDoor

/- What the document's answer to Of comes to. -/
namespace Go.Proofs.YtfibbmdkpgageaaDoor
open Go.RowKit

set_option maxHeartbeats 400000 in
theorem rof_no (n : Int) (w : World) (a : n < 0 ∨ 146097 ≤ n) :
    Calls Tryd.prog 89 #[.int .i64 n] w fun e w' => e = .returned (.tuple #[.agg #[.int .i64 0, .int .i64 0, .int .i64 0], .int .i64 3]) ∧ Below w.heap.size w w' := by
  by_cases h : n < 0
  · clear a
    go_enter Tryd.func89, Tryd.ntmps89
    go_wp2
    exact bodyPost_ret (v := .tuple #[.agg #[.int .i64 0, .int .i64 0, .int .i64 0], .int .i64 3]) (by simp [results, Tryd.results89, go_sem]) rfl ⟨rfl, (Below.refl _ _).alloc (Nat.le_refl _) _⟩
  · have h' : decide (146097 ≤ n) = true := by simp; omega
    clear a
    go_enter Tryd.func89, Tryd.ntmps89
    go_wp2
    exact bodyPost_ret (v := .tuple #[.agg #[.int .i64 0, .int .i64 0, .int .i64 0], .int .i64 3]) (by simp [results, Tryd.results89, go_sem]) rfl ⟨rfl, (Below.refl _ _).alloc (Nat.le_refl _) _⟩

theorem setCell_drewN (w : World) (n : Nat) (a : Addr) (v : Value) : (w.drewN n).setCell a v = (w.setCell a v).drewN n := rfl
theorem quiet_sum {P : Program} {f : FuncId} {args : Array Value} {X : World} {k n : Nat} {v : Value}
    (h : Calls P f args (X.drewN (k + n)) fun e w' => e = .returned v ∧ w' = X.drewN (k + n)) : Calls P f args (X.drewN (k + n)) fun e w'' => e = .returned v ∧ ∃ m, w'' = X.drewN (k + m) :=
  h.mono fun _ _ ⟨he, hm⟩ => ⟨he, n, hm⟩
attribute [local go_sem] setCell_drewN
set_option maxHeartbeats 800000 in
theorem rof_yes (n : Int) (w : World) (a : 0 ≤ n) (b : n < 146097) :
    Calls Tryd.prog 89 #[.int .i64 n] w fun e w' => ∃ y m d : Int, e = .returned (.tuple #[.agg #[.int .i64 y, .int .i64 m, .int .i64 d], .int .i64 0]) ∧ 1 ≤ d ∧ d ≤ Cal.dim y m ∧ Cal.num y m d = n ∧ Below w.heap.size w w' := by
  go_enter Tryd.func89, Tryd.ntmps89
  go_wp2
  go_loopw [0] (fun t w' => ∃ y : Int, 2000 ≤ y ∧ y ≤ 2399 ∧ Cal.ys y ≤ n ∧ t = .int .i64 (n - Cal.ys y) ∧ w' = (w.alloc (.cells #[.int .i64 0, .int .i64 0, .int .i64 0] 102)).alloc (.cells #[.int .i64 y, .int .i64 1, .int .i64 1] 102)) (fun t _ => (intOf t).toNat)
  case atStart => exact ⟨2000, by omega, by omega, by rw [Cal.ys_2000]; exact a, by rw [Cal.ys_2000]; go_num, rfl⟩
  case round =>
    obtain ⟨y, hy1, hy2, hy3, rfl, rfl⟩ := hrel
    have kb := Cal.ys_bd y hy1 (by omega)
    have lb := Cal.lp_01 y
    have cs : Hid (Cal.ys (y + 1) = Cal.ys y + 365 + Cal.lp y) := Cal.ys_succ y
    by_cases hlt : 365 + Cal.lp y ≤ n - Cal.ys y
    · go_wp2_with (go_at_call 102; refine (ryear_any _ _ (by omega) (by omega)).mono ?_; rintro e w' ⟨rfl, rfl⟩)
      have h1 := cs.out
      have h2 : y + 1 ≤ 2399 := by
        by_cases g : y + 1 ≤ 2399
        · exact g
        · have := Cal.ys_mono 2400 (y + 1) (by omega)
          rw [Cal.ys_2400] at this
          omega
      exact ⟨⟨y + 1, by omega, h2, by omega, by rw [h1]; go_num, rfl⟩, by simp [intOf]; omega⟩
    · have hn : Hid (n < Cal.ys (y + 1)) := by
        have h1 := cs.out
        show n < _
        omega
      go_wp2_with (go_at_call 102; refine (ryear_any _ _ (by omega) (by omega)).mono ?_; rintro e w' ⟨rfl, rfl⟩)
      clear cs hlt lb
      go_loopw [0] (fun t w' => ∃ m d r : Int, ∃ k : Nat, 1 ≤ d ∧ d ≤ Cal.dim y m ∧ 0 ≤ r ∧ r ≤ 400 ∧ Cal.num y m d + r = n ∧ t = .int .i64 r ∧ w' = ((w.alloc (.cells #[.int .i64 0, .int .i64 0, .int .i64 0] 102)).alloc (.cells #[.int .i64 y, .int .i64 m, .int .i64 d] 102)).drewN k) (fun t _ => (intOf t).toNat)
      case atStart =>
        have h28 := Cal.dim_28 y 1 hy1 hy2 (by omega) (by omega)
        have h1 := Cal.ys_succ y
        have h2 := Cal.lp_01 y
        have h3 := hn.out
        exact ⟨1, 1, _, 0, by omega, by omega, by omega, by omega, by unfold Cal.num; rw [Cal.cum_one]; omega, rfl, rfl⟩
      case round =>
        obtain ⟨m, d, r, k, hd1, hd2, hr1, hr2, hnum, rfl, rfl⟩ := hrel
        have HN : Hid (Cal.num y m d + r = n) := hnum
        clear hnum
        obtain ⟨_, _, m1, m2⟩ := Cal.dim_pos y m (by omega)
        have d31 := Cal.dim_31 y m
        by_cases hr : 0 < r
        · by_cases hd : Cal.dim y m < d + 1
          · have hdd : decide (Cal.dim y m < d + 1) = true := by simp; omega
            have hm12 : m < 12 := by
              have h1 := hn.out
              have h2 := HN.out
              have h3 := Cal.ys_succ y
              by_cases e : m = 12
              · subst e
                have h4 := Cal.cum_succ y 12 hy1 hy2 (by omega) (by omega)
                have h5 : Cal.cum y (12 + 1) = 365 + Cal.lp y := rfl
                unfold Cal.num at h2
                omega
              · omega
            have h28 := Cal.dim_28 y (m + 1) hy1 hy2 (by omega) (by omega)
            have hnx : Hid (Cal.num y (m + 1) 1 + (r - 1) = n) := by
              have h2 := HN.out
              have h4 := Cal.cum_succ y m hy1 hy2 m1 m2
              show Cal.num y (m + 1) 1 + (r - 1) = n
              unfold Cal.num at h2 ⊢
              omega
            go_wp2_with fail
            go_quiet ((go_at_call 101; exact quiet_sum (rlength_any _ _ _)))
            go_wp2
            exact ⟨⟨m + 1, 1, r - 1, _, by omega, by omega, by omega, by omega, hnx.out, rfl, (by first | exact World.drewN_drewN .. | rfl)⟩, by simp [intOf]; omega⟩
          · have hdd : decide (Cal.dim y m < d + 1) = false := by simp; omega
            have hnx : Hid (Cal.num y m (d + 1) + (r - 1) = n) := by
              have h2 := HN.out
              show Cal.num y m (d + 1) + (r - 1) = n
              unfold Cal.num at h2 ⊢
              omega
            go_wp2_with fail
            go_quiet ((go_at_call 101; exact quiet_sum (rlength_any _ _ _)))
            go_wp2
            exact ⟨⟨m, d + 1, r - 1, _, by omega, by omega, by omega, by omega, hnx.out, rfl, (by first | exact World.drewN_drewN .. | rfl)⟩, by simp [intOf]; omega⟩
        · have hnx : Hid (Cal.num y m d = n) := by
            have h2 := HN.out
            show Cal.num y m d = n
            omega
          go_wp2
          refine bodyPost_ret (v := .tuple #[.agg #[.int .i64 y, .int .i64 m, .int .i64 d], .int .i64 0]) (by simp [results, Tryd.results89, go_sem]) rfl ⟨y, m, d, rfl, hd1, hd2, hnx.out, ?_⟩
          exact below_drewN (((Below.refl _ _).alloc (Nat.le_refl _) _).alloc (by simp) _) _

end Go.Proofs.YtfibbmdkpgageaaDoor

/- What the document's texts of times and dates come to. -/
namespace Go.Proofs.YtfibbmdkpgageaaDoor
open Go.RowKit Lx

set_option maxRecDepth 100000 in
set_option maxHeartbeats 1000000 in
theorem rtwo_any (a : Int) (h0 : 0 ≤ a) (h1 : a < 100) (w : World) :
    Calls Tryd.prog 87 #[.int .i64 a] w fun e w' => e = .returned (.string ⟨(pad2 a.toNat).toArray⟩) ∧ w' = w := by
  have c := itoa_small a.toNat (by omega) w
  rw [show ((a.toNat : Nat) : Int) = a by omega] at c
  by_cases h : a < 10
  · have hn : a.toNat < 10 := by omega
    rw [Lib.decDigits_one hn] at c
    rw [pad_one hn]
    generalize UInt8.ofNat (48 + a.toNat) = x at *
    clear hn h0 h1
    go_enter Tryd.func87, Tryd.ntmps87
    go_wp2_with fail
    refine c.mono ?_
    rintro e w' ⟨rfl, rfl⟩
    clear c
    go_wp2_with fail
    go_ret
    exact ⟨congrArg Ending.returned (str_of (by first | with_reducible rfl | simp)), rfl⟩
  · rw [pad_two (by omega) (by omega)] at c
    generalize pad2 a.toNat = P at *
    clear h0 h1
    go_enter Tryd.func87, Tryd.ntmps87
    go_wp2_with fail
    refine c.mono ?_
    rintro e w' ⟨rfl, rfl⟩
    clear c
    go_wp2_with fail
    go_ret
    exact ⟨rfl, rfl⟩
set_option maxRecDepth 100000 in
set_option maxHeartbeats 1000000 in
theorem rclock_any (a : Int) (h0 : 0 ≤ a) (h1 : a ≤ 1440) (w : World) :
    Calls Tryd.prog 59 #[.int .i64 a] w fun e w' => e = .returned (.string ⟨(clockL a).toArray⟩) ∧ w' = w := by
  have c1 := rtwo_any (a / 60) (by omega) (by omega) w
  have c2 := rtwo_any (a % 60) (by omega) (by omega) w
  have e : clockL a = pad2 (a / 60).toNat ++ 58 :: pad2 (a % 60).toNat := by
    unfold clockL
    rw [show (a / 60).toNat = a.toNat / 60 by omega, show (a % 60).toNat = a.toNat % 60 by omega]
  rw [e]
  have l1 := pad2_len (a / 60).toNat
  have l2 := pad2_len (a % 60).toNat
  clear e
  generalize pad2 (a / 60).toNat = P at *
  generalize pad2 (a % 60).toNat = R at *
  go_enter Tryd.func59, Tryd.ntmps59
  go_wp2_with fail
  refine c1.mono ?_
  rintro e w' ⟨rfl, rfl⟩
  clear c1
  go_wp2_with fail
  refine c2.mono ?_
  rintro e w' ⟨rfl, rfl⟩
  clear c2
  go_wp2_with fail
  go_ret
  exact ⟨congrArg Ending.returned (str_of (by simp)), rfl⟩
set_option maxRecDepth 100000 in
set_option maxHeartbeats 4000000 in
theorem rday_any (n : Int) (h0 : 0 ≤ n) (h1 : n < 146097) (w : World) (ht : ∀ w', Below w.heap.size w w' → PowT w') :
    Calls Tryd.prog 61 #[.int .i64 n] w fun e w' => e = .returned (.string ⟨(dateL n).toArray⟩) ∧ Below w.heap.size w w' := by
  have c := rof_yes n w h0 h1
  go_enter Tryd.func61, Tryd.ntmps61
  go_wp2_with fail
  refine c.mono ?_
  rintro e w1 ⟨y, m, d, rfl, hd1, hd2, hnum, hb1⟩
  clear c
  have hym := ymd_eq hd1 hd2 hnum
  have hyb := Cal.dim_pos y m (by omega)
  have hdb := Cal.dim_31 y m
  have ED : Hid (dateL n = Lib.decDigits y.toNat ++ 45 :: (pad2 m.toNat ++ 45 :: pad2 d.toNat)) := by show _ = _; unfold dateL; rw [hym]
  clear hym hnum
  have hbA := hb1.trans (((Below.refl w1.heap.size w1).alloc (Nat.le_refl _) (.cells #[.int .i64 y, .int .i64 m, .int .i64 d] 102)).mono hb1.size)
  have hxA := heap_alloc_new w1 (.cells #[.int .i64 y, .int .i64 m, .int .i64 d] 102)
  have ei : Lib.itoa y = Lib.decDigits y.toNat := by unfold Lib.itoa; rw [if_neg (by omega)]
  have cY := fun (W : World) (h : Below (w1.alloc (.cells #[.int .i64 y, .int .i64 m, .int .i64 d] 102)).heap.size (w1.alloc (.cells #[.int .i64 y, .int .i64 m, .int .i64 d] 102)) W) => itoa_any y (by omega) (by omega) W (ht W (hbA.trans (h.mono hbA.size)))
  rw [ei] at cY
  have cM := fun (W : World) => (rtwo_any m (by omega) (by omega) W).mono (fun e w' h => (⟨h.1, h.2 ▸ Below.refl _ _⟩ : e = .returned (.string ⟨(pad2 m.toNat).toArray⟩) ∧ Below W.heap.size W w'))
  have cD := fun (W : World) => (rtwo_any d (by omega) (by omega) W).mono (fun e w' h => (⟨h.1, h.2 ▸ Below.refl _ _⟩ : e = .returned (.string ⟨(pad2 d.toNat).toArray⟩) ∧ Below W.heap.size W w'))
  have lY : (Lib.decDigits y.toNat).length ≤ 4 := dec_len (by omega)
  have lM := pad2_len m.toNat
  have lD := pad2_len d.toNat
  clear ht hd1 hd2 hyb hdb hb1 h0 h1 ei
  generalize Lib.decDigits y.toNat = Y at *
  generalize pad2 m.toNat = M at *
  generalize pad2 d.toNat = D at *
  go_wp2_with fail
  generalize hwA : w1.alloc (.cells #[.int .i64 y, .int .i64 m, .int .i64 d] 102) = wA at *
  have z0 := (cell_of_row _ _ 0 _ _ _ hxA).trans rfl
  have z1 := (cell_of_row _ _ 1 _ _ _ hxA).trans rfl
  have z2 := (cell_of_row _ _ 2 _ _ _ hxA).trans rfl
  refine wp_region_vals (by kernel_rfl) (by kernel_rfl) (by kernel_rfl) (by kernel_rfl) [(10, .pointer (some ⟨w1.heap.size, 0, none⟩)), (11, .int .i64 y), (12, .string ⟨(Y).toArray⟩), (13, .string ⟨(Y ++ [45]).toArray⟩), (14, .pointer (some ⟨w1.heap.size, 1, none⟩)), (15, .int .i64 m), (16, .string ⟨(M).toArray⟩), (17, .string ⟨(Y ++ 45 :: M).toArray⟩), (18, .string ⟨(Y ++ 45 :: (M ++ [45])).toArray⟩), (19, .pointer (some ⟨w1.heap.size, 2, none⟩)), (20, .int .i64 d), (21, .string ⟨(D).toArray⟩), (22, .string ⟨(Y ++ 45 :: (M ++ 45 :: D)).toArray⟩), (2, .string ⟨(Y ++ 45 :: (M ++ 45 :: D)).toArray⟩)] (by kernel_rfl) (by kernel_rfl) ?_ ?_
  · intro i s v o L A W ho hv hdep hJ hkept hhas
    match i, ho, hv with
    | 0, ho, hv =>
      cases Option.some.inj ho
      cases Option.some.inj hv
      have h3 : A.tmps[3]?.getD undef = .pointer (some ⟨w1.heap.size, 0, none⟩) := (gd A 3).trans (hkept 3 (by kernel_rfl))
      refine wpOp_step rfl (fun K hK => ?_)
      go_simp
      exact hK _ _ ⟨rfl, Below.refl _ _⟩
    | 1, ho, hv =>
      cases Option.some.inj ho
      cases Option.some.inj hv
      have h10 : A.tmps[10]?.getD undef = .pointer (some ⟨w1.heap.size, 0, none⟩) := (gd A 10).trans (hhas 0 10 _ rfl (hdep ⟨0, .data⟩ (by simp) rfl))
      have z : W.cell? ⟨w1.heap.size, 0, none⟩ = some (.int .i64 y) := (hJ.cell (block_lt_of_cell z0)).trans z0
      refine wpOp_step rfl (fun K hK => ?_)
      go_simp
      exact hK _ _ ⟨rfl, Below.refl _ _⟩
    | 2, ho, hv =>
      cases Option.some.inj ho
      cases Option.some.inj hv
      have h11 : A.tmps[11]?.getD undef = .int .i64 y := (gd A 11).trans (hhas 1 11 _ rfl (hdep ⟨1, .data⟩ (by simp) rfl))
      refine wpOp_step rfl (fun K hK => ?_)
      go_simp
      refine (cY W hJ).mono ?_
      rintro e' W' ⟨rfl, hb'⟩
      exact hK _ _ ⟨rfl, hb'⟩
    | 3, ho, hv =>
      cases Option.some.inj ho
      cases Option.some.inj hv
      have h12 : A.tmps[12]?.getD undef = .string ⟨(Y).toArray⟩ := (gd A 12).trans (hhas 2 12 _ rfl (hdep ⟨2, .data⟩ (by simp) rfl))
      refine wpOp_step rfl (fun K hK => ?_)
      go_simp
      try rw [if_neg (by omega)]
      exact hK _ _ ⟨congrArg (A.put (some 13)) (str_of (by simp)), Below.refl _ _⟩
    | 4, ho, hv =>
      cases Option.some.inj ho
      cases Option.some.inj hv
      have h3 : A.tmps[3]?.getD undef = .pointer (some ⟨w1.heap.size, 0, none⟩) := (gd A 3).trans (hkept 3 (by kernel_rfl))
      refine wpOp_step rfl (fun K hK => ?_)
      go_simp
      exact hK _ _ ⟨rfl, Below.refl _ _⟩
    | 5, ho, hv =>
      cases Option.some.inj ho
      cases Option.some.inj hv
      have h14 : A.tmps[14]?.getD undef = .pointer (some ⟨w1.heap.size, 1, none⟩) := (gd A 14).trans (hhas 4 14 _ rfl (hdep ⟨4, .data⟩ (by simp) rfl))
      have z : W.cell? ⟨w1.heap.size, 1, none⟩ = some (.int .i64 m) := (hJ.cell (block_lt_of_cell z1)).trans z1
      refine wpOp_step rfl (fun K hK => ?_)
      go_simp
      exact hK _ _ ⟨rfl, Below.refl _ _⟩
    | 6, ho, hv =>
      cases Option.some.inj ho
      cases Option.some.inj hv
      have h15 : A.tmps[15]?.getD undef = .int .i64 m := (gd A 15).trans (hhas 5 15 _ rfl (hdep ⟨5, .data⟩ (by simp) rfl))
      refine wpOp_step rfl (fun K hK => ?_)
      go_simp
      refine (cM W).mono ?_
      rintro e' W' ⟨rfl, hb'⟩
      exact hK _ _ ⟨rfl, hb'⟩
    | 7, ho, hv =>
      cases Option.some.inj ho
      cases Option.some.inj hv
      have h13 : A.tmps[13]?.getD undef = .string ⟨(Y ++ [45]).toArray⟩ := (gd A 13).trans (hhas 3 13 _ rfl (hdep ⟨3, .data⟩ (by simp) rfl))
      have h16 : A.tmps[16]?.getD undef = .string ⟨(M).toArray⟩ := (gd A 16).trans (hhas 6 16 _ rfl (hdep ⟨6, .data⟩ (by simp) rfl))
      refine wpOp_step rfl (fun K hK => ?_)
      go_simp
      try rw [if_neg (by omega)]
      exact hK _ _ ⟨congrArg (A.put (some 17)) (str_of (by simp)), Below.refl _ _⟩
    | 8, ho, hv =>
      cases Option.some.inj ho
      cases Option.some.inj hv
      have h17 : A.tmps[17]?.getD undef = .string ⟨(Y ++ 45 :: M).toArray⟩ := (gd A 17).trans (hhas 7 17 _ rfl (hdep ⟨7, .data⟩ (by simp) rfl))
      refine wpOp_step rfl (fun K hK => ?_)
      go_simp
      try rw [if_neg (by omega)]
      exact hK _ _ ⟨congrArg (A.put (some 18)) (str_of (by simp)), Below.refl _ _⟩
    | 9, ho, hv =>
      cases Option.some.inj ho
      cases Option.some.inj hv
      have h3 : A.tmps[3]?.getD undef = .pointer (some ⟨w1.heap.size, 0, none⟩) := (gd A 3).trans (hkept 3 (by kernel_rfl))
      refine wpOp_step rfl (fun K hK => ?_)
      go_simp
      exact hK _ _ ⟨rfl, Below.refl _ _⟩
    | 10, ho, hv =>
      cases Option.some.inj ho
      cases Option.some.inj hv
      have h19 : A.tmps[19]?.getD undef = .pointer (some ⟨w1.heap.size, 2, none⟩) := (gd A 19).trans (hhas 9 19 _ rfl (hdep ⟨9, .data⟩ (by simp) rfl))
      have z : W.cell? ⟨w1.heap.size, 2, none⟩ = some (.int .i64 d) := (hJ.cell (block_lt_of_cell z2)).trans z2
      refine wpOp_step rfl (fun K hK => ?_)
      go_simp
      exact hK _ _ ⟨rfl, Below.refl _ _⟩
    | 11, ho, hv =>
      cases Option.some.inj ho
      cases Option.some.inj hv
      have h20 : A.tmps[20]?.getD undef = .int .i64 d := (gd A 20).trans (hhas 10 20 _ rfl (hdep ⟨10, .data⟩ (by simp) rfl))
      refine wpOp_step rfl (fun K hK => ?_)
      go_simp
      refine (cD W).mono ?_
      rintro e' W' ⟨rfl, hb'⟩
      exact hK _ _ ⟨rfl, hb'⟩
    | 12, ho, hv =>
      cases Option.some.inj ho
      cases Option.some.inj hv
      have h18 : A.tmps[18]?.getD undef = .string ⟨(Y ++ 45 :: (M ++ [45])).toArray⟩ := (gd A 18).trans (hhas 8 18 _ rfl (hdep ⟨8, .data⟩ (by simp) rfl))
      have h21 : A.tmps[21]?.getD undef = .string ⟨(D).toArray⟩ := (gd A 21).trans (hhas 11 21 _ rfl (hdep ⟨11, .data⟩ (by simp) rfl))
      refine wpOp_step rfl (fun K hK => ?_)
      go_simp
      try rw [if_neg (by omega)]
      exact hK _ _ ⟨congrArg (A.put (some 22)) (str_of (by simp)), Below.refl _ _⟩
    | 13, ho, hv =>
      cases Option.some.inj ho
      cases Option.some.inj hv
      have h22 : A.tmps[22]?.getD undef = .string ⟨(Y ++ 45 :: (M ++ 45 :: D)).toArray⟩ := (gd A 22).trans (hhas 12 22 _ rfl (hdep ⟨12, .data⟩ (by simp) rfl))
      refine wpOp_step rfl (fun K hK => ?_)
      go_simp
      exact hK _ _ ⟨rfl, Below.refl _ _⟩
    | k + 14, ho, hv => simp at ho
  · intro W hJ
    simp only [putAll_cons, putAll_nil]
    go_simp
    go_wp2_with fail
    go_ret
    exact ⟨congrArg Ending.returned (str_of (by rw [ED.out])), hbA.trans (hJ.mono hbA.size)⟩
end Go.Proofs.YtfibbmdkpgageaaDoor
