/- Plain mathematics of years, months and days of 2000 to 2399: no program in sight. -/
namespace Go.Proofs.YtkineofpclneaabDoor.Cal

/-- Whether a year has a day more. -/
def lpB (y : Int) : Bool := decide (y % 4 = 0 ∧ (¬ y % 100 = 0 ∨ y % 400 = 0))
/-- How many days more a year has. -/
def lp (y : Int) : Int := if y % 4 = 0 ∧ (¬ y % 100 = 0 ∨ y % 400 = 0) then 1 else 0
/-- How many days a month has. -/
def dim (y m : Int) : Int :=
  if y < 2000 ∨ 2399 < y ∨ m < 1 ∨ 12 < m then 0
  else if m = 2 then 28 + lp y
  else if m = 4 ∨ m = 6 ∨ m = 9 ∨ m = 11 then 30 else 31
/-- How many days of the year are ahead of a month (of 1 to 13). -/
def cum (y m : Int) : Int :=
  if m ≤ 1 then 0 else if m = 2 then 31 else if m = 3 then 59 + lp y else if m = 4 then 90 + lp y
  else if m = 5 then 120 + lp y else if m = 6 then 151 + lp y else if m = 7 then 181 + lp y
  else if m = 8 then 212 + lp y else if m = 9 then 243 + lp y else if m = 10 then 273 + lp y
  else if m = 11 then 304 + lp y else if m = 12 then 334 + lp y else 365 + lp y
/-- How many days are ahead of a year. -/
def ys (y : Int) : Int := 365 * (y - 2000) + ((y - 2000 + 3) / 4 - (y - 2000 + 99) / 100 + (y - 2000 + 399) / 400)

theorem lp_01 (y : Int) : 0 ≤ lp y ∧ lp y ≤ 1 := by unfold lp; split <;> omega
theorem lp_of (y : Int) : lp y = if lpB y = true then 1 else 0 := by unfold lp lpB; simp
theorem dim_31 (y m : Int) : 0 ≤ dim y m ∧ dim y m ≤ 31 := by
  have := lp_01 y
  unfold dim; split
  · omega
  · split
    · omega
    · split <;> omega
theorem dim_out (y m : Int) (h : y < 2000 ∨ 2399 < y ∨ m < 1 ∨ 12 < m) : dim y m = 0 := by unfold dim; rw [if_pos h]
theorem dim_pos (y m : Int) (h : 1 ≤ dim y m) : 2000 ≤ y ∧ y ≤ 2399 ∧ 1 ≤ m ∧ m ≤ 12 := by
  by_cases g : y < 2000 ∨ 2399 < y ∨ m < 1 ∨ 12 < m
  · rw [dim_out y m g] at h; omega
  · omega
theorem dim_28 (y m : Int) (a : 2000 ≤ y) (b : y ≤ 2399) (c : 1 ≤ m) (d : m ≤ 12) : 28 ≤ dim y m := by
  have := lp_01 y
  unfold dim; rw [if_neg (by omega)]
  split
  · omega
  · split <;> omega
theorem cum_one (y : Int) : cum y 1 = 0 := rfl
theorem cum_13 (y : Int) : cum y 13 = 365 + lp y := rfl
theorem cum_succ (y m : Int) (a : 2000 ≤ y) (b : y ≤ 2399) (c : 1 ≤ m) (d : m ≤ 12) : cum y (m + 1) = cum y m + dim y m := by
  have h : m = 1 ∨ m = 2 ∨ m = 3 ∨ m = 4 ∨ m = 5 ∨ m = 6 ∨ m = 7 ∨ m = 8 ∨ m = 9 ∨ m = 10 ∨ m = 11 ∨ m = 12 := by omega
  unfold dim
  rw [if_neg (by omega)]
  rcases h with rfl | rfl | rfl | rfl | rfl | rfl | rfl | rfl | rfl | rfl | rfl | rfl <;> simp [cum] <;> omega
theorem cum_bd (y m : Int) (c : 1 ≤ m) (d : m ≤ 13) : 0 ≤ cum y m ∧ cum y m ≤ 366 := by
  have := lp_01 y
  have h : m = 1 ∨ m = 2 ∨ m = 3 ∨ m = 4 ∨ m = 5 ∨ m = 6 ∨ m = 7 ∨ m = 8 ∨ m = 9 ∨ m = 10 ∨ m = 11 ∨ m = 12 ∨ m = 13 := by omega
  rcases h with rfl | rfl | rfl | rfl | rfl | rfl | rfl | rfl | rfl | rfl | rfl | rfl | rfl <;> simp [cum] <;> omega
theorem cum_mono (y m k : Int) (c : 1 ≤ m) (d : m < k) (e : k ≤ 13) (a : 2000 ≤ y) (b : y ≤ 2399) : cum y m + dim y m ≤ cum y k := by
  rw [← cum_succ y m a b c (by omega)]
  have := lp_01 y
  have h : m = 1 ∨ m = 2 ∨ m = 3 ∨ m = 4 ∨ m = 5 ∨ m = 6 ∨ m = 7 ∨ m = 8 ∨ m = 9 ∨ m = 10 ∨ m = 11 ∨ m = 12 := by omega
  have g : k = 2 ∨ k = 3 ∨ k = 4 ∨ k = 5 ∨ k = 6 ∨ k = 7 ∨ k = 8 ∨ k = 9 ∨ k = 10 ∨ k = 11 ∨ k = 12 ∨ k = 13 := by omega
  rcases h with rfl | rfl | rfl | rfl | rfl | rfl | rfl | rfl | rfl | rfl | rfl | rfl <;>
    rcases g with rfl | rfl | rfl | rfl | rfl | rfl | rfl | rfl | rfl | rfl | rfl | rfl <;> first | omega | (simp [cum] <;> omega)
theorem ys_2000 : ys 2000 = 0 := by decide
theorem ys_2400 : ys 2400 = 146097 := by decide
theorem ys_succ (y : Int) : ys (y + 1) = ys y + 365 + lp y := by unfold ys lp; split <;> omega
theorem ys_mono (a b : Int) (h : a ≤ b) : ys a ≤ ys b := by unfold ys; omega
theorem ys_bd (y : Int) (a : 2000 ≤ y) (b : y ≤ 2400) : 0 ≤ ys y ∧ ys y ≤ 146097 := by
  have h1 := ys_mono _ _ a
  have h2 := ys_mono _ _ b
  rw [ys_2000] at h1; rw [ys_2400] at h2; exact ⟨h1, h2⟩
theorem ys_guess (n : Int) (a : 0 ≤ n) (b : n < 146097) : ys (2000 + n / 366) ≤ n ∧ n < ys (2000 + n / 366 + 2) := by unfold ys; omega
theorem ys_uniq (a b n : Int) (h1 : ys a ≤ n) (h2 : n < ys (a + 1)) (h3 : ys b ≤ n) (h4 : n < ys (b + 1)) : a = b := by
  by_cases h : a < b
  · have := ys_mono (a + 1) b (by omega); omega
  · by_cases g : b < a
    · have := ys_mono (b + 1) a (by omega); omega
    · omega

/-- How many days a date is behind the first one of 2000. -/
def num (y m d : Int) : Int := ys y + cum y m + d - 1
theorem num_bd (y m d : Int) (h : 1 ≤ d) (g : d ≤ dim y m) : 0 ≤ num y m d ∧ num y m d < 146097 ∧ ys y ≤ num y m d ∧ num y m d < ys (y + 1) := by
  obtain ⟨a, b, c, e⟩ := dim_pos y m (by omega)
  have h1 := ys_bd y a (by omega)
  have h2 := ys_bd (y + 1) (by omega) (by omega)
  have h3 := ys_succ y
  have h4 := cum_succ y m a b c e
  have h5 := cum_bd y m c (by omega)
  have h6 : cum y (m + 1) ≤ 365 + lp y := by
    by_cases h : m = 12
    · subst h; exact Int.le_of_eq rfl
    · have := cum_mono y (m + 1) 13 (by omega) (by omega) (by omega) a b
      rw [cum_13] at this
      have := dim_31 y (m + 1)
      omega
  unfold num
  omega
/-- A day has one date. -/
theorem num_inj (y m d y' m' d' : Int) (h : 1 ≤ d) (g : d ≤ dim y m) (h' : 1 ≤ d') (g' : d' ≤ dim y' m') (e : num y m d = num y' m' d') : y = y' ∧ m = m' ∧ d = d' := by
  have b1 := num_bd y m d h g
  have b2 := num_bd y' m' d' h' g'
  have hy : y = y' := ys_uniq y y' (num y m d) (by omega) (by omega) (by omega) (by omega)
  subst hy
  obtain ⟨a, b, c, k⟩ := dim_pos y m (by omega)
  obtain ⟨_, _, c', k'⟩ := dim_pos y m' (by omega)
  have hm : m = m' := by
    unfold num at e
    by_cases h1 : m < m'
    · have := cum_mono y m m' c h1 (by omega) a b; omega
    · by_cases h2 : m' < m
      · have := cum_mono y m' m c' h2 (by omega) a b; omega
      · omega
  subst hm
  exact ⟨rfl, rfl, by unfold num at e; omega⟩
/-- The year in which a day lies. -/
def yearOf (n : Int) : Int := if ys (2000 + n / 366 + 1) ≤ n then 2000 + n / 366 + 1 else 2000 + n / 366
theorem yearOf_ok (n : Int) (a : 0 ≤ n) (b : n < 146097) : 2000 ≤ yearOf n ∧ yearOf n ≤ 2399 ∧ ys (yearOf n) ≤ n ∧ n < ys (yearOf n + 1) := by
  have h := ys_guess n a b
  have key : ys (yearOf n) ≤ n ∧ n < ys (yearOf n + 1) := by
    unfold yearOf; split
    · have e : 2000 + n / 366 + 1 + 1 = 2000 + n / 366 + 2 := by omega
      rw [e]
      exact ⟨by assumption, h.2⟩
    · exact ⟨h.1, by omega⟩
  have lo : 2000 ≤ yearOf n := by unfold yearOf; split <;> omega
  refine ⟨lo, ?_, key⟩
  by_cases g : yearOf n ≤ 2399
  · exact g
  · have := ys_mono 2400 (yearOf n) (by omega); rw [ys_2400] at this; omega
end Go.Proofs.YtkineofpclneaabDoor.Cal
