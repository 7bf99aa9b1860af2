/- Plain mathematics of years, months and days of 2000 to 2399: no program in sight. -/
import Derived.Test.YtllcpoibnmhghaaGreatDoorRows
import Derived.WalkKit
import Derived.WalkSpells
import Derived.WalkLawsBesides
import Derived.Deep.QuietTactic
import Derived.BigQuiet
import Derived.Lib.LaidTab
import Derived.Deep.Quiet
import Derived.RegionTactic
namespace Go.Proofs.YtllcpoibnmhghaaGreatDoor.Cal

/-- Whether a year has a day more. -/
def lpB (y : Int) : Bool := decide (y % 4 = 0 ∧ (¬ y % 100 = 0 ∨ y % 400 = 0))
/-- How many days more a year has. -/
def lp (y : Int) : Int := if y % 4 = 0 ∧ (¬ y % 100 = 0 ∨ y % 400 = 0) then 1 else 0
/-- How many days a month has. -/
def dim (y m : Int) : Int :=
  if y < 2000 ∨ 2399 < y ∨ m < 1 ∨ 12 < m then 0
  else if m = 2 then 28 + lp y
  else if m = 4 ∨ m = 6 ∨ m = 9 ∨ m = 11 then 30 else 31
/-- How many days of the year are ahead of a month (of 1 to 13). -/
def cum (y m : Int) : Int :=
  if m ≤ 1 then 0 else if m = 2 then 31 else if m = 3 then 59 + lp y else if m = 4 then 90 + lp y
  else if m = 5 then 120 + lp y else if m = 6 then 151 + lp y else if m = 7 then 181 + lp y
  else if m = 8 then 212 + lp y else if m = 9 then 243 + lp y else if m = 10 then 273 + lp y
  else if m = 11 then 304 + lp y else if m = 12 then 334 + lp y else 365 + lp y
/-- How many days are ahead of a year. -/
def ys (y : Int) : Int := 365 * (y - 2000) + ((y - 2000 + 3) / 4 - (y - 2000 + 99) / 100 + (y - 2000 + 399) / 400)

theorem lp_01 (y : Int) : 0 ≤ lp y ∧ lp y ≤ 1 := by unfold lp; split <;> omega
theorem lp_of (y : Int) : lp y = if lpB y = true then 1 else 0 := by unfold lp lpB; simp
theorem dim_31 (y m : Int) : 0 ≤ dim y m ∧ dim y m ≤ 31 := by
  have := lp_01 y
  unfold dim; split
  · omega
  · split
    · omega
    · split <;> omega
theorem dim_out (y m : Int) (h : y < 2000 ∨ 2399 < y ∨ m < 1 ∨ 12 < m) : dim y m = 0 := by unfold dim; rw [if_pos h]
theorem dim_pos (y m : Int) (h : 1 ≤ dim y m) : 2000 ≤ y ∧ y ≤ 2399 ∧ 1 ≤ m ∧ m ≤ 12 := by
  by_cases g : y < 2000 ∨ 2399 < y ∨ m < 1 ∨ 12 < m
  · rw [dim_out y m g] at h; omega
  · omega
theorem dim_28 (y m : Int) (a : 2000 ≤ y) (b : y ≤ 2399) (c : 1 ≤ m) (d : m ≤ 12) : 28 ≤ dim y m := by
  have := lp_01 y
  unfold dim; rw [if_neg (by omega)]
  split
  · omega
  · split <;> omega
theorem cum_one (y : Int) : cum y 1 = 0 := rfl
theorem cum_13 (y : Int) : cum y 13 = 365 + lp y := rfl
theorem cum_succ (y m : Int) (a : 2000 ≤ y) (b : y ≤ 2399) (c : 1 ≤ m) (d : m ≤ 12) : cum y (m + 1) = cum y m + dim y m := by
  have h : m = 1 ∨ m = 2 ∨ m = 3 ∨ m = 4 ∨ m = 5 ∨ m = 6 ∨ m = 7 ∨ m = 8 ∨ m = 9 ∨ m = 10 ∨ m = 11 ∨ m = 12 := by omega
  unfold dim
  rw [if_neg (by omega)]
  rcases h with rfl | rfl | rfl | rfl | rfl | rfl | rfl | rfl | rfl | rfl | rfl | rfl <;> simp [cum] <;> omega
theorem cum_bd (y m : Int) (c : 1 ≤ m) (d : m ≤ 13) : 0 ≤ cum y m ∧ cum y m ≤ 366 := by
  have := lp_01 y
  have h : m = 1 ∨ m = 2 ∨ m = 3 ∨ m = 4 ∨ m = 5 ∨ m = 6 ∨ m = 7 ∨ m = 8 ∨ m = 9 ∨ m = 10 ∨ m = 11 ∨ m = 12 ∨ m = 13 := by omega
  rcases h with rfl | rfl | rfl | rfl | rfl | rfl | rfl | rfl | rfl | rfl | rfl | rfl | rfl <;> simp [cum] <;> omega
theorem cum_mono (y m k : Int) (c : 1 ≤ m) (d : m < k) (e : k ≤ 13) (a : 2000 ≤ y) (b : y ≤ 2399) : cum y m + dim y m ≤ cum y k := by
  rw [← cum_succ y m a b c (by omega)]
  have := lp_01 y
  have h : m = 1 ∨ m = 2 ∨ m = 3 ∨ m = 4 ∨ m = 5 ∨ m = 6 ∨ m = 7 ∨ m = 8 ∨ m = 9 ∨ m = 10 ∨ m = 11 ∨ m = 12 := by omega
  have g : k = 2 ∨ k = 3 ∨ k = 4 ∨ k = 5 ∨ k = 6 ∨ k = 7 ∨ k = 8 ∨ k = 9 ∨ k = 10 ∨ k = 11 ∨ k = 12 ∨ k = 13 := by omega
  rcases h with rfl | rfl | rfl | rfl | rfl | rfl | rfl | rfl | rfl | rfl | rfl | rfl <;>
    rcases g with rfl | rfl | rfl | rfl | rfl | rfl | rfl | rfl | rfl | rfl | rfl | rfl <;> first | omega | (simp [cum] <;> omega)
theorem ys_2000 : ys 2000 = 0 := by decide
theorem ys_2400 : ys 2400 = 146097 := by decide
theorem ys_succ (y : Int) : ys (y + 1) = ys y + 365 + lp y := by unfold ys lp; split <;> omega
theorem ys_mono (a b : Int) (h : a ≤ b) : ys a ≤ ys b := by unfold ys; omega
theorem ys_bd (y : Int) (a : 2000 ≤ y) (b : y ≤ 2400) : 0 ≤ ys y ∧ ys y ≤ 146097 := by
  have h1 := ys_mono _ _ a
  have h2 := ys_mono _ _ b
  rw [ys_2000] at h1; rw [ys_2400] at h2; exact ⟨h1, h2⟩
theorem ys_guess (n : Int) (a : 0 ≤ n) (b : n < 146097) : ys (2000 + n / 366) ≤ n ∧ n < ys (2000 + n / 366 + 2) := by unfold ys; omega
theorem ys_uniq (a b n : Int) (h1 : ys a ≤ n) (h2 : n < ys (a + 1)) (h3 : ys b ≤ n) (h4 : n < ys (b + 1)) : a = b := by
  by_cases h : a < b
  · have := ys_mono (a + 1) b (by omega); omega
  · by_cases g : b < a
    · have := ys_mono (b + 1) a (by omega); omega
    · omega

/-- How many days a date is behind the first one of 2000. -/
def num (y m d : Int) : Int := ys y + cum y m + d - 1
theorem num_bd (y m d : Int) (h : 1 ≤ d) (g : d ≤ dim y m) : 0 ≤ num y m d ∧ num y m d < 146097 ∧ ys y ≤ num y m d ∧ num y m d < ys (y + 1) := by
  obtain ⟨a, b, c, e⟩ := dim_pos y m (by omega)
  have h1 := ys_bd y a (by omega)
  have h2 := ys_bd (y + 1) (by omega) (by omega)
  have h3 := ys_succ y
  have h4 := cum_succ y m a b c e
  have h5 := cum_bd y m c (by omega)
  have h6 : cum y (m + 1) ≤ 365 + lp y := by
    by_cases h : m = 12
    · subst h; exact Int.le_of_eq rfl
    · have := cum_mono y (m + 1) 13 (by omega) (by omega) (by omega) a b
      rw [cum_13] at this
      have := dim_31 y (m + 1)
      omega
  unfold num
  omega
/-- A day has one date. -/
theorem num_inj (y m d y' m' d' : Int) (h : 1 ≤ d) (g : d ≤ dim y m) (h' : 1 ≤ d') (g' : d' ≤ dim y' m') (e : num y m d = num y' m' d') : y = y' ∧ m = m' ∧ d = d' := by
  have b1 := num_bd y m d h g
  have b2 := num_bd y' m' d' h' g'
  have hy : y = y' := ys_uniq y y' (num y m d) (by omega) (by omega) (by omega) (by omega)
  subst hy
  obtain ⟨a, b, c, k⟩ := dim_pos y m (by omega)
  obtain ⟨_, _, c', k'⟩ := dim_pos y m' (by omega)
  have hm : m = m' := by
    unfold num at e
    by_cases h1 : m < m'
    · have := cum_mono y m m' c h1 (by omega) a b; omega
    · by_cases h2 : m' < m
      · have := cum_mono y m' m c' h2 (by omega) a b; omega
      · omega
  subst hm
  exact ⟨rfl, rfl, by unfold num at e; omega⟩
/-- The year in which a day lies. -/
def yearOf (n : Int) : Int := if ys (2000 + n / 366 + 1) ≤ n then 2000 + n / 366 + 1 else 2000 + n / 366
theorem yearOf_ok (n : Int) (a : 0 ≤ n) (b : n < 146097) : 2000 ≤ yearOf n ∧ yearOf n ≤ 2399 ∧ ys (yearOf n) ≤ n ∧ n < ys (yearOf n + 1) := by
  have h := ys_guess n a b
  have key : ys (yearOf n) ≤ n ∧ n < ys (yearOf n + 1) := by
    unfold yearOf; split
    · have e : 2000 + n / 366 + 1 + 1 = 2000 + n / 366 + 2 := by omega
      rw [e]
      exact ⟨by assumption, h.2⟩
    · exact ⟨h.1, by omega⟩
  have lo : 2000 ≤ yearOf n := by unfold yearOf; split <;> omega
  refine ⟨lo, ?_, key⟩
  by_cases g : yearOf n ≤ 2399
  · exact g
  · have := ys_mono 2400 (yearOf n) (by omega); rw [ys_2400] at this; omega
end Go.Proofs.YtllcpoibnmhghaaGreatDoor.Cal

/- What each function of package civil comes to, said of the plain functions of Cal. -/
namespace Go.Proofs.YtllcpoibnmhghaaGreatDoor
open Go.RowKit

def tab : List Int := [31, 28, 31, 30, 31, 30, 31, 31, 30, 31, 30, 31]
/-- The table of months lies in memory as its text lays it. -/
def CTab (w : World) : Prop := ∀ i : Nat, i < 12 → w.cell? ⟨0, i, none⟩ = some (.int .i64 (tab.getD i 0))

set_option maxHeartbeats 400000 in
theorem leap_any (y : Int) (w : World) (h0 : 0 ≤ y) (h1 : y ≤ 9223372036854775807) :
    Calls Tryz.prog 104 #[.int .i64 y] w fun e w' => e = .returned (.bool (Cal.lpB y)) ∧ w' = w := by
  by_cases h4 : y % 4 = 0
  · by_cases h100 : y % 100 = 0
    · by_cases h400 : y % 400 = 0
      · have e : Cal.lpB y = true := by unfold Cal.lpB; exact decide_eq_true ⟨h4, .inr h400⟩
        rw [e]
        have a4 : (y % 4 == 0) = true := by simp [h4]
        have a1 : (y % 100 != 0) = false := by simp [h100]
        have a2 : (y % 400 == 0) = true := by simp [h400]
        clear e h4 h100 h400
        go_enter Tryz.func104, Tryz.ntmps104
        go_wp2
        go_ret
        exact ⟨rfl, rfl⟩
      · have e : Cal.lpB y = false := by unfold Cal.lpB; exact decide_eq_false (fun h => by omega)
        rw [e]
        have a4 : (y % 4 == 0) = true := by simp [h4]
        have a1 : (y % 100 != 0) = false := by simp [h100]
        have a2 : (y % 400 == 0) = false := by simp [h400]
        clear e h4 h100 h400
        go_enter Tryz.func104, Tryz.ntmps104
        go_wp2
        go_ret
        exact ⟨rfl, rfl⟩
    · have e : Cal.lpB y = true := by unfold Cal.lpB; exact decide_eq_true ⟨h4, .inl h100⟩
      rw [e]
      have a4 : (y % 4 == 0) = true := by simp [h4]
      have a1 : (y % 100 != 0) = true := by simp [h100]
      clear e h4 h100
      go_enter Tryz.func104, Tryz.ntmps104
      go_wp2
      go_ret
      exact ⟨rfl, rfl⟩
  · have e : Cal.lpB y = false := by unfold Cal.lpB; exact decide_eq_false (fun h => h4 h.1)
    rw [e]
    have a4 : (y % 4 == 0) = false := by simp [h4]
    clear e h4
    go_enter Tryz.func104, Tryz.ntmps104
    go_wp2
    go_ret
    exact ⟨rfl, rfl⟩

set_option maxHeartbeats 400000 in
theorem length_out (y m : Int) (w : World) (h : y < 2000 ∨ 2399 < y ∨ m < 1 ∨ 12 < m) :
    Calls Tryz.prog 95 #[.int .i64 y, .int .i64 m] w fun e w' => e = .returned (.int .i64 0) ∧ w' = w := by
  by_cases a : y < 2000
  · go_enter Tryz.func95, Tryz.ntmps95
    go_wp2
    go_ret
    exact ⟨rfl, rfl⟩
  · by_cases b : 2399 < y
    · go_enter Tryz.func95, Tryz.ntmps95
      go_wp2
      go_ret
      exact ⟨rfl, rfl⟩
    · by_cases c : m < 1
      · go_enter Tryz.func95, Tryz.ntmps95
        go_wp2
        go_ret
        exact ⟨rfl, rfl⟩
      · have d : 12 < m := by omega
        go_enter Tryz.func95, Tryz.ntmps95
        go_wp2
        go_ret
        exact ⟨rfl, rfl⟩

set_option maxHeartbeats 400000 in
theorem length_two (y : Int) (w : World) (a : 2000 ≤ y) (b : y ≤ 2399) (hc : w.cell? ⟨0, 1, none⟩ = some (.int .i64 28)) :
    Calls Tryz.prog 95 #[.int .i64 y, .int .i64 2] w fun e w' => e = .returned (.int .i64 (28 + Cal.lp y)) ∧ w' = w := by
  have hl := Cal.lp_of y
  cases hb : Cal.lpB y
  · rw [hb] at hl
    simp at hl
    rw [hl]
    clear hl
    go_enter Tryz.func95, Tryz.ntmps95
    go_wp2_with (go_at_call 104; refine (leap_any _ _ (by omega) (by omega)).mono ?_; rw [hb]; rintro e w' ⟨rfl, rfl⟩)
    go_ret
    exact ⟨rfl, rfl⟩
  · rw [hb] at hl
    simp at hl
    rw [hl]
    clear hl
    go_enter Tryz.func95, Tryz.ntmps95
    go_wp2_with (go_at_call 104; refine (leap_any _ _ (by omega) (by omega)).mono ?_; rw [hb]; rintro e w' ⟨rfl, rfl⟩)
    go_ret
    exact ⟨rfl, rfl⟩

set_option maxHeartbeats 1000000 in
theorem length_in (y m : Int) (w : World) (hT : CTab w) (a : 2000 ≤ y) (b : y ≤ 2399) (c : 1 ≤ m) (d : m ≤ 12) :
    Calls Tryz.prog 95 #[.int .i64 y, .int .i64 m] w fun e w' => e = .returned (.int .i64 (Cal.dim y m)) ∧ w' = w := by
  have h : m = 1 ∨ m = 2 ∨ m = 3 ∨ m = 4 ∨ m = 5 ∨ m = 6 ∨ m = 7 ∨ m = 8 ∨ m = 9 ∨ m = 10 ∨ m = 11 ∨ m = 12 := by omega
  have e : Cal.dim y m = if m = 2 then 28 + Cal.lp y else if m = 4 ∨ m = 6 ∨ m = 9 ∨ m = 11 then 30 else 31 := by unfold Cal.dim; rw [if_neg (by omega)]
  rw [e]
  clear e
  rcases h with rfl | h
  · have hc := hT 0 (by decide)
    simp [tab] at hc
    rw [if_neg (by decide), if_neg (by decide)]
    clear hT
    go_enter Tryz.func95, Tryz.ntmps95
    go_wp2
    go_ret
    exact ⟨rfl, rfl⟩
  rcases h with rfl | h
  · have hc := hT 1 (by decide)
    simp [tab] at hc
    exact length_two y w a b hc
  rcases h with rfl | h
  · have hc := hT 2 (by decide)
    simp [tab] at hc
    rw [if_neg (by decide), if_neg (by decide)]
    clear hT
    go_enter Tryz.func95, Tryz.ntmps95
    go_wp2
    go_ret
    exact ⟨rfl, rfl⟩
  rcases h with rfl | h
  · have hc := hT 3 (by decide)
    simp [tab] at hc
    rw [if_neg (by decide), if_pos (by decide)]
    clear hT
    go_enter Tryz.func95, Tryz.ntmps95
    go_wp2
    go_ret
    exact ⟨rfl, rfl⟩
  rcases h with rfl | h
  · have hc := hT 4 (by decide)
    simp [tab] at hc
    rw [if_neg (by decide), if_neg (by decide)]
    clear hT
    go_enter Tryz.func95, Tryz.ntmps95
    go_wp2
    go_ret
    exact ⟨rfl, rfl⟩
  rcases h with rfl | h
  · have hc := hT 5 (by decide)
    simp [tab] at hc
    rw [if_neg (by decide), if_pos (by decide)]
    clear hT
    go_enter Tryz.func95, Tryz.ntmps95
    go_wp2
    go_ret
    exact ⟨rfl, rfl⟩
  rcases h with rfl | h
  · have hc := hT 6 (by decide)
    simp [tab] at hc
    rw [if_neg (by decide), if_neg (by decide)]
    clear hT
    go_enter Tryz.func95, Tryz.ntmps95
    go_wp2
    go_ret
    exact ⟨rfl, rfl⟩
  rcases h with rfl | h
  · have hc := hT 7 (by decide)
    simp [tab] at hc
    rw [if_neg (by decide), if_neg (by decide)]
    clear hT
    go_enter Tryz.func95, Tryz.ntmps95
    go_wp2
    go_ret
    exact ⟨rfl, rfl⟩
  rcases h with rfl | h
  · have hc := hT 8 (by decide)
    simp [tab] at hc
    rw [if_neg (by decide), if_pos (by decide)]
    clear hT
    go_enter Tryz.func95, Tryz.ntmps95
    go_wp2
    go_ret
    exact ⟨rfl, rfl⟩
  rcases h with rfl | h
  · have hc := hT 9 (by decide)
    simp [tab] at hc
    rw [if_neg (by decide), if_neg (by decide)]
    clear hT
    go_enter Tryz.func95, Tryz.ntmps95
    go_wp2
    go_ret
    exact ⟨rfl, rfl⟩
  rcases h with rfl | h
  · have hc := hT 10 (by decide)
    simp [tab] at hc
    rw [if_neg (by decide), if_pos (by decide)]
    clear hT
    go_enter Tryz.func95, Tryz.ntmps95
    go_wp2
    go_ret
    exact ⟨rfl, rfl⟩
  subst h
  have hc := hT 11 (by decide)
  simp [tab] at hc
  rw [if_neg (by decide), if_neg (by decide)]
  clear hT
  go_enter Tryz.func95, Tryz.ntmps95
  go_wp2
  go_ret
  exact ⟨rfl, rfl⟩

theorem length_any (y m : Int) (w : World) (hT : CTab w) :
    Calls Tryz.prog 95 #[.int .i64 y, .int .i64 m] w fun e w' => e = .returned (.int .i64 (Cal.dim y m)) ∧ w' = w := by
  by_cases h : y < 2000 ∨ 2399 < y ∨ m < 1 ∨ 12 < m
  · rw [Cal.dim_out y m h]; exact length_out y m w h
  · exact length_in y m w hT (by omega) (by omega) (by omega) (by omega)

set_option maxHeartbeats 400000 in
theorem ys_any (y : Int) (w : World) (a : 2000 ≤ y) (b : y ≤ 2400) :
    Calls Tryz.prog 96 #[.int .i64 y] w fun e w' => e = .returned (.int .i64 (Cal.ys y)) ∧ w' = w := by
  unfold Cal.ys
  go_enter Tryz.func96, Tryz.ntmps96
  go_wp2
  go_ret
  exact ⟨rfl, rfl⟩

set_option maxHeartbeats 400000 in
theorem cum_any (y m : Int) (w : World) (hT : CTab w) (a : 2000 ≤ y) (b : y ≤ 2399) (c : 1 ≤ m) (d : m ≤ 13) :
    Calls Tryz.prog 97 #[.int .i64 y, .int .i64 m] w fun e w' => e = .returned (.int .i64 (Cal.cum y m)) ∧ w' = w := by
  have H : Hid (CTab w) := hT
  clear hT
  go_enter Tryz.func97, Tryz.ntmps97
  go_wp2
  go_loop [5, 6] (fun t i => ∃ k : Int, 1 ≤ k ∧ k ≤ m ∧ i = .int .i64 k ∧ t = .int .i64 (Cal.cum y k)) (fun _ i => (13 - intOf i).toNat)
  case atStart => exact ⟨1, by omega, by omega, rfl, rfl⟩
  case round =>
    obtain ⟨k, hk1, hk2, rfl, rfl⟩ := hrel
    have cb := Cal.cum_bd y k hk1 (by omega)
    have db := Cal.dim_31 y k
    by_cases hlt : k < m
    · have cs : Hid (Cal.cum y (k + 1) = Cal.cum y k + Cal.dim y k) := Cal.cum_succ y k a b hk1 (by omega)
      go_wp2_with (go_at_call 95; refine (length_any _ _ _ H.out).mono ?_; rintro e w' ⟨rfl, rfl⟩)
      go_round
      case rel => exact ⟨k + 1, by omega, by omega, rfl, by rw [cs.out]⟩
      case measure => simp [intOf]; omega
    · have e : k = m := by omega
      subst e
      go_wp2
      go_ret
      exact ⟨rfl, rfl⟩

end Go.Proofs.YtllcpoibnmhghaaGreatDoor

/- What Number, Of, Week and the smaller functions beside them come to. -/
namespace Go.Proofs.YtllcpoibnmhghaaGreatDoor
open Go.RowKit

theorem CTab.below {w w' : World} (h : CTab w) (hb : Below w.heap.size w w') : CTab w' := fun i hi => cell_later hb (h i hi)
theorem CTab.alloc {w : World} (h : CTab w) (o : Obj) : CTab (w.alloc o) := h.below ((Below.refl _ _).alloc (Nat.le_refl _) o)
theorem CTab.drew {w : World} (h : CTab w) : CTab w.drew := fun i hi => h i hi

set_option maxHeartbeats 400000 in
theorem number_yes (y m d : Int) (w : World) (hT : CTab w) (a : 1 ≤ d) (b : d ≤ Cal.dim y m) :
    Calls Tryz.prog 83 #[.agg #[.int .i64 y, .int .i64 m, .int .i64 d]] w fun e w' => e = .returned (.tuple #[.int .i64 (Cal.num y m d), .int .i64 0]) ∧ Below w.heap.size w w' := by
  have H : Hid (CTab w) := hT
  clear hT
  obtain ⟨r1, r2, r3, r4⟩ := Cal.dim_pos y m (by omega)
  have d31 := Cal.dim_31 y m
  have yb := Cal.ys_bd y r1 (by omega)
  have cb := Cal.cum_bd y m r3 (by omega)
  have n1 : decide (d < 1) = false := by simp; omega
  have n2 : decide (Cal.dim y m < d) = false := by simp; omega
  go_enter Tryz.func83, Tryz.ntmps83
  go_wp2
  go_quiet ((go_at_call 95; exact Calls.quiet_of_same (length_any _ _ _ (H.out.alloc _))))
  go_wp2
  generalize hw : (w.alloc (.cells #[.int .i64 y, .int .i64 m, .int .i64 d] 123)).drewN nq = w1
  have c0 : w1.cell? ⟨w.heap.size, 0, none⟩ = some (.int .i64 y) := by rw [← hw]; simp
  have c1 : w1.cell? ⟨w.heap.size, 1, none⟩ = some (.int .i64 m) := by rw [← hw]; simp
  have c2 : w1.cell? ⟨w.heap.size, 2, none⟩ = some (.int .i64 d) := by rw [← hw]; simp
  have hb : Below w.heap.size w w1 := by rw [← hw]; exact below_drewN ((Below.refl _ _).alloc (Nat.le_refl _) _) _
  have H1 : Hid (CTab w1) := H.out.below hb
  clear hw H
  go_quiet ((first | (go_at_call 96; exact Calls.quiet_of_same (ys_any y _ r1 (by omega))) | (go_at_call 97; exact Calls.quiet_of_same (cum_any y m _ H1.out r1 r2 r3 (by omega)))))
  go_wp2
  go_ret2
  exact ⟨rfl, below_drewN hb _⟩

set_option maxHeartbeats 400000 in
theorem number_no (y m d : Int) (w : World) (hT : CTab w) (a : d < 1 ∨ Cal.dim y m < d) :
    Calls Tryz.prog 83 #[.agg #[.int .i64 y, .int .i64 m, .int .i64 d]] w fun e w' => e = .returned (.tuple #[.int .i64 0, .int .i64 3]) ∧ Below w.heap.size w w' := by
  have H : Hid (CTab w) := hT
  clear hT
  by_cases a1 : d < 1
  · have n1 : decide (d < 1) = true := by simp; omega
    clear a
    go_enter Tryz.func83, Tryz.ntmps83
    go_wp2
    go_quiet (fail)
    go_wp2
    go_ret2
    exact ⟨rfl, below_drewN ((Below.refl _ _).alloc (Nat.le_refl _) _) _⟩
  · have n1 : decide (d < 1) = false := by simp; omega
    have n2 : decide (Cal.dim y m < d) = true := by simp; omega
    clear a
    go_enter Tryz.func83, Tryz.ntmps83
    go_wp2
    go_quiet ((go_at_call 95; exact Calls.quiet_of_same (length_any _ _ _ (H.out.alloc _))))
    go_wp2
    go_ret2
    exact ⟨rfl, below_drewN ((Below.refl _ _).alloc (Nat.le_refl _) _) _⟩

end Go.Proofs.YtllcpoibnmhghaaGreatDoor

/- A region that draws its order and makes memory: what each operation yields is said by a predicate that later operations keep; then whatever order is drawn, all that is said holds at the end. It speaks of no program. -/
namespace Go.Proofs.YtllcpoibnmhghaaGreatDoor
open Go

/-- How many are not listed yet. -/
def uc : List Bool → Nat
  | [] => 0
  | b :: l => (if b then 0 else 1) + uc l
theorem uc_set : ∀ (l : List Bool) (i : Nat), l[i]? = some false → uc (l.set i true) + 1 = uc l
  | [], i, h => by simp at h
  | b :: l, 0, h => by
    simp at h; subst h
    simp [uc]; omega
  | b :: l, i + 1, h => by
    have := uc_set l i (by simpa using h)
    simp only [List.set_cons_succ, uc]
    omega
theorem uc_zero : ∀ (l : List Bool), uc l = 0 → ∀ i : Nat, l[i]? ≠ some false
  | [], _, i => by simp
  | b :: l, h, 0 => by
    cases b
    · simp [uc] at h
    · simp
  | b :: l, h, i + 1 => by
    have : uc l = 0 := by simp only [uc] at h; omega
    simpa using uc_zero l this i
theorem uc_rep : ∀ n, uc (List.replicate n false) = n
  | 0 => rfl
  | n + 1 => by simp only [List.replicate_succ, uc, uc_rep n]; simp; omega

section
variable {P : Program} {ops : Array Oper} {Q : Exit → Act → World → Prop}

theorem ready_false {listed : Array Bool} {i : Nat} (h : i ∈ Region.ready .any ops listed) : listed.toList[i]? = some false := by
  have := (mem_ready.1 h).1
  by_cases hi : i < listed.size
  · simp [Array.getD, hi] at this
    simp [hi, this]
  · simp [Array.getD, hi] at this

/-- A step of the drawn order keeps the invariant: so the region's end is reached under it. -/
theorem wpAny_inv (I : Array Bool → Act → World → Prop) (hstep : ∀ listed a w i, I listed a w → i ∈ Region.ready .any ops listed → wpOp P ops Q i (fun a' w' => I (listed.setIfInBounds i true) a' w') a w)
    (hend : ∀ listed a w, I listed a w → Region.ready .any ops listed = [] → Q .normal a w) :
    ∀ (fuel : Nat) (listed : Array Bool) (a : Act) (w : World), uc listed.toList ≤ fuel → I listed a w → wpAny P .any ops Q fuel listed a w
  | 0, listed, a, w, hu, h => by
    have hr : Region.ready .any ops listed = [] := by
      cases hr : Region.ready .any ops listed with
      | nil => rfl
      | cons i l =>
        have h1 := ready_false (ops := ops) (listed := listed) (i := i) (by rw [hr]; simp)
        exact absurd h1 (uc_zero _ (by omega) i)
    exact ⟨hr, hend _ _ _ h hr⟩
  | fuel + 1, listed, a, w, hu, h => by
    refine ⟨fun hr => hend _ _ _ h hr, fun i hi => ?_⟩
    have h1 := ready_false hi
    have h2 := uc_set _ i h1
    refine wpOp_mono (fun a' w' h' => ?_) (hstep listed a w i h hi)
    refine wpAny_inv I hstep hend fuel _ a' w' ?_ h'
    rw [Array.toList_setIfInBounds]
    omega

/-- Each operation waits only for earlier ones. -/
def backB (ops : Array Oper) : Bool := (List.range ops.size).all fun i => match ops[i]? with | none => true | some o => o.after.all fun e => !Region.binds .any e || decide (e.on < i)
theorem ready_nil (hB : backB ops = true) {listed : Array Bool} (hr : Region.ready .any ops listed = []) : ∀ i, i < ops.size → listed.getD i true = true := by
  intro i
  induction i using Nat.strongRecOn with
  | ind i ih =>
    intro hi
    cases hb : listed.getD i true with
    | true => rfl
    | false =>
      exfalso
      have ho : ops[i]? = some ops[i] := by simp [hi]
      have hm : i ∈ Region.ready .any ops listed := mem_ready.2 ⟨hb, ops[i], ho, fun e he hbd => by
        have h1 := List.all_eq_true.1 hB i (by simpa using hi)
        rw [ho] at h1
        have h2 := Array.all_eq_true'.1 h1 e he
        have h3 : e.on < i := by rw [hbd] at h2; simpa using h2
        have h4 := ih e.on h3 (by omega)
        by_cases hs : e.on < listed.size
        · simp [Array.getD, hs] at h4 ⊢; exact h4
        · exfalso
          have h5 : i < listed.size := by
            by_cases h6 : i < listed.size
            · exact h6
            · simp [Array.getD, h6] at hb
          omega⟩
      rw [hr] at hm
      cases hm

/-- The slots that the operations write are apart, and are there. -/
def dstB (ops : Array Oper) : Bool := (List.range ops.size).all fun i => (List.range ops.size).all fun j => i == j || (match (ops[i]?).bind (·.dst), (ops[j]?).bind (·.dst) with | some s, some t => s != t | _, _ => true)
def inB (ops : Array Oper) (n : Nat) : Bool := (List.range ops.size).all fun i => (match (ops[i]?).bind (·.dst) with | some s => decide (s < n) | none => true)

/-- What is said of the frame while some operations are listed. -/
structure St (ops : Array Oper) (sp : Nat → Value → World → Prop) (a0 : Act) (listed : Array Bool) (a : Act) (w : World) : Prop where
  defs : a.defers = a0.defers
  size : a.tmps.size = a0.tmps.size
  kept : ∀ s, (∀ i o, ops[i]? = some o → listed.getD i true = true → o.dst ≠ some s) → a.tmps.getD s undef = a0.tmps.getD s undef
  has : ∀ i o, ops[i]? = some o → listed.getD i true = true → ∀ s, o.dst = some s → sp i (a.tmps.getD s undef) w

theorem getD_set_same (t : Array Value) (s : Nat) (v : Value) (h : s < t.size) : (t.setIfInBounds s v).getD s undef = v := by simp [Array.getD, h]
theorem getD_set_other (t : Array Value) (s s' : Nat) (v : Value) (h : s ≠ s') : (t.setIfInBounds s v).getD s' undef = t.getD s' undef := by
  by_cases hs : s' < t.size
  · simp [Array.getD, hs, h]
  · simp [Array.getD, hs]
theorem getD_listed (l : Array Bool) (i j : Nat) : (l.setIfInBounds i true).getD j true = (decide (i = j) || l.getD j true) := by
  by_cases hj : j < l.size
  · by_cases hij : i = j
    · subst hij; simp [Array.getD, hj]
    · simp [Array.getD, hj, hij]
  · simp [Array.getD, hj]

/-- No operation writes the slot. -/
def notDst (ops : Array Oper) (s : Nat) : Bool := ops.all fun o => o.dst != some s
theorem nd {s : Nat} (h : notDst ops s = true) (j : Nat) (p : Oper) (hp : ops[j]? = some p) : p.dst ≠ some s := by
  have := Array.all_eq_true'.1 h p (Array.mem_of_getElem? hp)
  simpa using this
theorem arr_ext (t : Array Value) (l : List Value) (hs : t.size = l.length) (h : ∀ i, i < l.length → t.getD i undef = l.getD i undef) : t = l.toArray := by
  apply Array.ext
  · simpa using hs
  · intro i h1 h2
    have := h i (by simpa using h2)
    simp only [List.size_toArray] at h2
    simpa [Array.getD, List.getD, h1, h2] using this

/-- **The law.** -/
theorem wp_region_flow {id : Nat} {a0 : Act} {w : World} (hm : P.follows .mixedOrders = true) (hback : backB ops = true) (hdst : dstB ops = true) (hin : inB ops a0.tmps.size = true)
    (J : (Nat → Bool) → Act → World → Prop) (sp : Nat → Value → World → Prop)
    (hJ : ∀ L : Nat → Bool, (∀ i, i < ops.size → L i = false) → J L a0 { w with drawn := w.drawn + 1 })
    (hstep : ∀ (i : Nat) (o : Oper) (L : Nat → Bool) (a : Act) (W : World), ops[i]? = some o → L i = false → (∀ e ∈ o.after, Region.binds .any e = true → L e.on = true) → J L a W →
      a.defers = a0.defers → (∀ s, (∀ (j : Nat) (p : Oper), ops[j]? = some p → L j = true → p.dst ≠ some s) → a.tmps.getD s undef = a0.tmps.getD s undef) → (∀ (j : Nat) (p : Oper), ops[j]? = some p → L j = true → ∀ s, p.dst = some s → sp j (a.tmps.getD s undef) W) →
      wpOp P ops Q i (fun a' W' => ∃ v, a' = a.put o.dst v ∧ (o.dst ≠ none → sp i v W') ∧ (∀ j u, L j = true → sp j u W → sp j u W') ∧ J (fun k => decide (i = k) || L k) a' W') a W)
    (hend : ∀ (L : Nat → Bool) (a : Act) (W : World), (∀ i, i < ops.size → L i = true) → J L a W → a.defers = a0.defers → a.tmps.size = a0.tmps.size → (∀ s, (∀ (j : Nat) (p : Oper), ops[j]? = some p → p.dst ≠ some s) → a.tmps.getD s undef = a0.tmps.getD s undef) →
      (∀ (j : Nat) (p : Oper), ops[j]? = some p → ∀ s, p.dst = some s → sp j (a.tmps.getD s undef) W) → Q .normal a W) : (Code.region id ops true).wp P Q a0 w := by
  refine wp_region_any hm (wpAny_inv (fun listed a W => listed.size = ops.size ∧ J (fun i => listed.getD i true) a W ∧ St ops sp a0 listed a W) ?_ ?_ _ _ _ _ ?_ ?_)
  · rintro listed a W i ⟨hs, hj, st⟩ hi
    obtain ⟨hf, o, ho, hall⟩ := mem_ready.1 hi
    have hL : ∀ e ∈ o.after, Region.binds .any e = true → listed.getD e.on true = true := fun e he hb => by
      have := hall e he hb
      by_cases hs : e.on < listed.size
      · simp [Array.getD, hs] at this ⊢; exact this
      · simp [Array.getD, hs]
    have hil : i < ops.size := (Array.getElem?_eq_some_iff.1 ho).1
    refine wpOp_mono ?_ (hstep i o (fun i => listed.getD i true) a W ho hf hL hj st.defs (fun s h => st.kept s h) (fun j p hp hl s hsd => st.has j p hp hl s hsd))
    rintro a' W' ⟨v, rfl, hv, hmono, hj'⟩
    have hfun : (fun k => (listed.setIfInBounds i true).getD k true) = fun k => decide (i = k) || listed.getD k true := funext fun k => getD_listed listed i k
    refine ⟨by simpa using hs, by rw [hfun]; exact hj', ?_⟩
    have hdd : ∀ (j : Nat) (p : Oper) s t, ops[j]? = some p → i ≠ j → o.dst = some s → p.dst = some t → s ≠ t := fun j p s t hp hij h1 h2 => by
      have q1 := List.all_eq_true.1 hdst i (by simpa using hil)
      have q2 := List.all_eq_true.1 q1 j (by simpa using (Array.getElem?_eq_some_iff.1 hp).1)
      rw [ho, hp] at q2
      simp only [Option.bind_some, h1, h2] at q2
      simpa [hij] using q2
    have hds : ∀ s, o.dst = some s → s < a.tmps.size := fun s h1 => by
      have q1 := List.all_eq_true.1 hin i (by simpa using hil)
      rw [ho] at q1
      simp only [Option.bind_some, h1] at q1
      rw [st.size]
      simpa using q1
    have hlist : ∀ j, (listed.setIfInBounds i true).getD j true = true → i = j ∨ listed.getD j true = true := fun j h => by
      rw [getD_listed] at h
      simpa using h
    cases hd : o.dst with
    | none =>
      refine ⟨st.defs, st.size, fun s h => ?_, fun j p hp hl s hps => ?_⟩
      · exact st.kept s fun j p hp hl => h j p hp (by rw [getD_listed, hl]; simp)
      · rcases hlist j hl with rfl | hl'
        · rw [ho] at hp
          have := Option.some.inj hp
          subst this
          rw [hd] at hps; cases hps
        · exact hmono j _ hl' (st.has j p hp hl' s hps)
    | some d =>
      have hdl := hds d hd
      refine ⟨st.defs, by simpa [Act.put] using st.size, fun s h => ?_, fun j p hp hl s hps => ?_⟩
      · have hsd : d ≠ s := fun e => by
          subst e
          exact h i o ho (by rw [getD_listed]; simp) hd
        show (a.tmps.setIfInBounds d v).getD s undef = _
        rw [getD_set_other _ _ _ _ hsd]
        exact st.kept s fun j p hp hl => h j p hp (by rw [getD_listed, hl]; simp)
      · show sp j ((a.tmps.setIfInBounds d v).getD s undef) W'
        rcases hlist j hl with rfl | hl'
        · rw [ho] at hp
          have := Option.some.inj hp
          subst this
          rw [hd] at hps
          have := Option.some.inj hps
          subst this
          rw [getD_set_same _ _ _ hdl]
          exact hv (by rw [hd]; simp)
        · by_cases hij : i = j
          · subst hij
            rw [hf] at hl'; cases hl'
          · rw [getD_set_other _ _ _ _ (hdd j p d s hp hij hd hps)]
            exact hmono j _ hl' (st.has j p hp hl' s hps)
  · rintro listed a W ⟨hs, hj, st⟩ hr
    have hall := ready_nil hback hr
    exact hend _ a W hall hj st.defs st.size (fun s h => st.kept s fun j p hp _ => h j p hp) (fun j p hp s hps => st.has j p hp (hall j (Array.getElem?_eq_some_iff.1 hp).1) s hps)
  · simp [uc_rep]
  · have hf : ∀ i, i < ops.size → (Array.replicate ops.size false).getD i true = false := fun i hi => by simp [Array.getD, hi]
    refine ⟨by simp, hJ _ hf, rfl, rfl, fun _ _ => rfl, fun i o ho hl s _ => ?_⟩
    rw [hf i (Array.getElem?_eq_some_iff.1 ho).1] at hl
    cases hl
end
end Go.Proofs.YtllcpoibnmhghaaGreatDoor

/- Small facts about frames and lists of values. -/
namespace Go.Proofs.YtllcpoibnmhghaaGreatDoor
open Go

theorem gd (A : Act) (s : Nat) : A.tmps[s]?.getD undef = A.tmps.getD s undef := by simp
theorem gdb {A : Act} {s : Nat} {b : Bool} (h : A.tmps.getD s undef = .bool b) : A.tmps[s]? = some (.bool b) := by
  rw [← gd] at h
  cases hx : A.tmps[s]? with
  | none => rw [hx] at h; simp [undef] at h
  | some v => rw [hx] at h; simp at h; rw [h]
/-- For all lists of so many. -/
def AllL : Nat → (List Value → Prop) → Prop
  | 0, P => P []
  | n + 1, P => ∀ u, AllL n fun l => P (u :: l)
theorem allL : ∀ (n : Nat) (P : List Value → Prop), AllL n P → ∀ l, l.length = n → P l
  | 0, P, h, l, hl => by
    have e : l = [] := List.length_eq_zero_iff.1 hl
    subst e
    exact h
  | n + 1, P, h, [], hl => by simp at hl
  | n + 1, P, h, u :: l, hl => allL n (fun l => P (u :: l)) (h u) l (by simpa using hl)
end Go.Proofs.YtllcpoibnmhghaaGreatDoor
