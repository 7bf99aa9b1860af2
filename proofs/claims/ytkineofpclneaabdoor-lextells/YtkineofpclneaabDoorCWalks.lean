/- What each function of package civil comes to, said of the plain functions of Cal. -/
import Derived.Test.YtkineofpclneaabDoorRows
import Derived.Test.YtkineofpclneaabDoorCCal
import Derived.WalkKit
import Derived.WalkSpells
import Derived.WalkLawsBesides
import Derived.Deep.QuietTactic
import Derived.BigQuiet
import Derived.Lib.LaidTab
namespace Go.Proofs.YtkineofpclneaabDoor
open Go.RowKit

def tab : List Int := [31, 28, 31, 30, 31, 30, 31, 31, 30, 31, 30, 31]
/-- The table of months lies in memory as its text lays it. -/
def CTab (w : World) : Prop := ∀ i : Nat, i < 12 → w.cell? ⟨1, i, none⟩ = some (.int .i64 (tab.getD i 0))

set_option maxHeartbeats 400000 in
theorem leap_any (y : Int) (w : World) (h0 : 0 ≤ y) (h1 : y ≤ 9223372036854775807) :
    Calls Tryd.prog 81 #[.int .i64 y] w fun e w' => e = .returned (.bool (Cal.lpB y)) ∧ w' = w := by
  by_cases h4 : y % 4 = 0
  · by_cases h100 : y % 100 = 0
    · by_cases h400 : y % 400 = 0
      · have e : Cal.lpB y = true := by unfold Cal.lpB; exact decide_eq_true ⟨h4, .inr h400⟩
        rw [e]
        have a4 : (y % 4 == 0) = true := by simp [h4]
        have a1 : (y % 100 != 0) = false := by simp [h100]
        have a2 : (y % 400 == 0) = true := by simp [h400]
        clear e h4 h100 h400
        go_enter Tryd.func81, Tryd.ntmps81
        go_wp2
        go_ret
        exact ⟨rfl, rfl⟩
      · have e : Cal.lpB y = false := by unfold Cal.lpB; exact decide_eq_false (fun h => by omega)
        rw [e]
        have a4 : (y % 4 == 0) = true := by simp [h4]
        have a1 : (y % 100 != 0) = false := by simp [h100]
        have a2 : (y % 400 == 0) = false := by simp [h400]
        clear e h4 h100 h400
        go_enter Tryd.func81, Tryd.ntmps81
        go_wp2
        go_ret
        exact ⟨rfl, rfl⟩
    · have e : Cal.lpB y = true := by unfold Cal.lpB; exact decide_eq_true ⟨h4, .inl h100⟩
      rw [e]
      have a4 : (y % 4 == 0) = true := by simp [h4]
      have a1 : (y % 100 != 0) = true := by simp [h100]
      clear e h4 h100
      go_enter Tryd.func81, Tryd.ntmps81
      go_wp2
      go_ret
      exact ⟨rfl, rfl⟩
  · have e : Cal.lpB y = false := by unfold Cal.lpB; exact decide_eq_false (fun h => h4 h.1)
    rw [e]
    have a4 : (y % 4 == 0) = false := by simp [h4]
    clear e h4
    go_enter Tryd.func81, Tryd.ntmps81
    go_wp2
    go_ret
    exact ⟨rfl, rfl⟩

set_option maxHeartbeats 400000 in
theorem length_out (y m : Int) (w : World) (h : y < 2000 ∨ 2399 < y ∨ m < 1 ∨ 12 < m) :
    Calls Tryd.prog 74 #[.int .i64 y, .int .i64 m] w fun e w' => e = .returned (.int .i64 0) ∧ w' = w := by
  by_cases a : y < 2000
  · go_enter Tryd.func74, Tryd.ntmps74
    go_wp2
    go_ret
    exact ⟨rfl, rfl⟩
  · by_cases b : 2399 < y
    · go_enter Tryd.func74, Tryd.ntmps74
      go_wp2
      go_ret
      exact ⟨rfl, rfl⟩
    · by_cases c : m < 1
      · go_enter Tryd.func74, Tryd.ntmps74
        go_wp2
        go_ret
        exact ⟨rfl, rfl⟩
      · have d : 12 < m := by omega
        go_enter Tryd.func74, Tryd.ntmps74
        go_wp2
        go_ret
        exact ⟨rfl, rfl⟩

set_option maxHeartbeats 400000 in
theorem length_two (y : Int) (w : World) (a : 2000 ≤ y) (b : y ≤ 2399) (hc : w.cell? ⟨1, 1, none⟩ = some (.int .i64 28)) :
    Calls Tryd.prog 74 #[.int .i64 y, .int .i64 2] w fun e w' => e = .returned (.int .i64 (28 + Cal.lp y)) ∧ w' = w := by
  have hl := Cal.lp_of y
  cases hb : Cal.lpB y
  · rw [hb] at hl
    simp at hl
    rw [hl]
    clear hl
    go_enter Tryd.func74, Tryd.ntmps74
    go_wp2_with (go_at_call 81; refine (leap_any _ _ (by omega) (by omega)).mono ?_; rw [hb]; rintro e w' ⟨rfl, rfl⟩)
    go_ret
    exact ⟨rfl, rfl⟩
  · rw [hb] at hl
    simp at hl
    rw [hl]
    clear hl
    go_enter Tryd.func74, Tryd.ntmps74
    go_wp2_with (go_at_call 81; refine (leap_any _ _ (by omega) (by omega)).mono ?_; rw [hb]; rintro e w' ⟨rfl, rfl⟩)
    go_ret
    exact ⟨rfl, rfl⟩

set_option maxHeartbeats 1000000 in
theorem length_in (y m : Int) (w : World) (hT : CTab w) (a : 2000 ≤ y) (b : y ≤ 2399) (c : 1 ≤ m) (d : m ≤ 12) :
    Calls Tryd.prog 74 #[.int .i64 y, .int .i64 m] w fun e w' => e = .returned (.int .i64 (Cal.dim y m)) ∧ w' = w := by
  have h : m = 1 ∨ m = 2 ∨ m = 3 ∨ m = 4 ∨ m = 5 ∨ m = 6 ∨ m = 7 ∨ m = 8 ∨ m = 9 ∨ m = 10 ∨ m = 11 ∨ m = 12 := by omega
  have e : Cal.dim y m = if m = 2 then 28 + Cal.lp y else if m = 4 ∨ m = 6 ∨ m = 9 ∨ m = 11 then 30 else 31 := by unfold Cal.dim; rw [if_neg (by omega)]
  rw [e]
  clear e
  rcases h with rfl | h
  · have hc := hT 0 (by decide)
    simp [tab] at hc
    rw [if_neg (by decide), if_neg (by decide)]
    clear hT
    go_enter Tryd.func74, Tryd.ntmps74
    go_wp2
    go_ret
    exact ⟨rfl, rfl⟩
  rcases h with rfl | h
  · have hc := hT 1 (by decide)
    simp [tab] at hc
    exact length_two y w a b hc
  rcases h with rfl | h
  · have hc := hT 2 (by decide)
    simp [tab] at hc
    rw [if_neg (by decide), if_neg (by decide)]
    clear hT
    go_enter Tryd.func74, Tryd.ntmps74
    go_wp2
    go_ret
    exact ⟨rfl, rfl⟩
  rcases h with rfl | h
  · have hc := hT 3 (by decide)
    simp [tab] at hc
    rw [if_neg (by decide), if_pos (by decide)]
    clear hT
    go_enter Tryd.func74, Tryd.ntmps74
    go_wp2
    go_ret
    exact ⟨rfl, rfl⟩
  rcases h with rfl | h
  · have hc := hT 4 (by decide)
    simp [tab] at hc
    rw [if_neg (by decide), if_neg (by decide)]
    clear hT
    go_enter Tryd.func74, Tryd.ntmps74
    go_wp2
    go_ret
    exact ⟨rfl, rfl⟩
  rcases h with rfl | h
  · have hc := hT 5 (by decide)
    simp [tab] at hc
    rw [if_neg (by decide), if_pos (by decide)]
    clear hT
    go_enter Tryd.func74, Tryd.ntmps74
    go_wp2
    go_ret
    exact ⟨rfl, rfl⟩
  rcases h with rfl | h
  · have hc := hT 6 (by decide)
    simp [tab] at hc
    rw [if_neg (by decide), if_neg (by decide)]
    clear hT
    go_enter Tryd.func74, Tryd.ntmps74
    go_wp2
    go_ret
    exact ⟨rfl, rfl⟩
  rcases h with rfl | h
  · have hc := hT 7 (by decide)
    simp [tab] at hc
    rw [if_neg (by decide), if_neg (by decide)]
    clear hT
    go_enter Tryd.func74, Tryd.ntmps74
    go_wp2
    go_ret
    exact ⟨rfl, rfl⟩
  rcases h with rfl | h
  · have hc := hT 8 (by decide)
    simp [tab] at hc
    rw [if_neg (by decide), if_pos (by decide)]
    clear hT
    go_enter Tryd.func74, Tryd.ntmps74
    go_wp2
    go_ret
    exact ⟨rfl, rfl⟩
  rcases h with rfl | h
  · have hc := hT 9 (by decide)
    simp [tab] at hc
    rw [if_neg (by decide), if_neg (by decide)]
    clear hT
    go_enter Tryd.func74, Tryd.ntmps74
    go_wp2
    go_ret
    exact ⟨rfl, rfl⟩
  rcases h with rfl | h
  · have hc := hT 10 (by decide)
    simp [tab] at hc
    rw [if_neg (by decide), if_pos (by decide)]
    clear hT
    go_enter Tryd.func74, Tryd.ntmps74
    go_wp2
    go_ret
    exact ⟨rfl, rfl⟩
  subst h
  have hc := hT 11 (by decide)
  simp [tab] at hc
  rw [if_neg (by decide), if_neg (by decide)]
  clear hT
  go_enter Tryd.func74, Tryd.ntmps74
  go_wp2
  go_ret
  exact ⟨rfl, rfl⟩

theorem length_any (y m : Int) (w : World) (hT : CTab w) :
    Calls Tryd.prog 74 #[.int .i64 y, .int .i64 m] w fun e w' => e = .returned (.int .i64 (Cal.dim y m)) ∧ w' = w := by
  by_cases h : y < 2000 ∨ 2399 < y ∨ m < 1 ∨ 12 < m
  · rw [Cal.dim_out y m h]; exact length_out y m w h
  · exact length_in y m w hT (by omega) (by omega) (by omega) (by omega)

set_option maxHeartbeats 400000 in
theorem ys_any (y : Int) (w : World) (a : 2000 ≤ y) (b : y ≤ 2400) :
    Calls Tryd.prog 75 #[.int .i64 y] w fun e w' => e = .returned (.int .i64 (Cal.ys y)) ∧ w' = w := by
  unfold Cal.ys
  go_enter Tryd.func75, Tryd.ntmps75
  go_wp2
  go_ret
  exact ⟨rfl, rfl⟩

set_option maxHeartbeats 400000 in
theorem cum_any (y m : Int) (w : World) (hT : CTab w) (a : 2000 ≤ y) (b : y ≤ 2399) (c : 1 ≤ m) (d : m ≤ 13) :
    Calls Tryd.prog 76 #[.int .i64 y, .int .i64 m] w fun e w' => e = .returned (.int .i64 (Cal.cum y m)) ∧ w' = w := by
  have H : Hid (CTab w) := hT
  clear hT
  go_enter Tryd.func76, Tryd.ntmps76
  go_wp2
  go_loop [5, 6] (fun t i => ∃ k : Int, 1 ≤ k ∧ k ≤ m ∧ i = .int .i64 k ∧ t = .int .i64 (Cal.cum y k)) (fun _ i => (13 - intOf i).toNat)
  case atStart => exact ⟨1, by omega, by omega, rfl, rfl⟩
  case round =>
    obtain ⟨k, hk1, hk2, rfl, rfl⟩ := hrel
    have cb := Cal.cum_bd y k hk1 (by omega)
    have db := Cal.dim_31 y k
    by_cases hlt : k < m
    · have cs : Hid (Cal.cum y (k + 1) = Cal.cum y k + Cal.dim y k) := Cal.cum_succ y k a b hk1 (by omega)
      go_wp2_with (go_at_call 74; refine (length_any _ _ _ H.out).mono ?_; rintro e w' ⟨rfl, rfl⟩)
      go_round
      case rel => exact ⟨k + 1, by omega, by omega, rfl, by rw [cs.out]⟩
      case measure => simp [intOf]; omega
    · have e : k = m := by omega
      subst e
      go_wp2
      go_ret
      exact ⟨rfl, rfl⟩

end Go.Proofs.YtkineofpclneaabDoor
