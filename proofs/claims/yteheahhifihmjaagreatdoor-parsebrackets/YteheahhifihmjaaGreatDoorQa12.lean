/- The text of an expression goes through tokens that are read as that expression, with what its kinds have alone: plain. -/
import Derived.Test.YteheahhifihmjaaGreatDoorQa11
namespace Go.Proofs.YteheahhifihmjaaGreatDoor
open Go.RowKit Lx

/-- The text of an expression where so much must hold together is read back. -/
def Txt (e : Ex) (l : Nat) : Prop := ∃ ts, (∀ r, Ends r → Goes ts (textE e l ++ r) (skp r)) ∧ Starts (textE e l) ∧ (l = 0 → K0 e ts 41) ∧ (l = 1 → K1 e ts 41) ∧ (l = 2 → K2 e ts 41) ∧ (l = 3 → K3 e ts 40)
/-- So is its text without brackets. -/
def Bar (e : Ex) : Prop := ∃ ts, (∀ r, Ends r → Goes ts (bareP e (kidT e.kids) ++ r) (skp r)) ∧ Starts (bareP e (kidT e.kids)) ∧ (holdP e.kind = 0 → K0 e ts 42) ∧ (holdP e.kind = 1 → K1 e ts 42) ∧ (holdP e.kind = 2 → K2 e ts 41) ∧ (holdP e.kind = 3 → K3 e ts 41)
theorem holdP_le (k : Int) : holdP k ≤ 3 := by
  unfold holdP
  split
  · omega
  · split
    · omega
    · split <;> omega
theorem st_sign {c : UInt8} {r : List UInt8} (h : c.toNat ≠ 32 ∧ c.toNat ≠ 9 ∧ c.toNat ≠ 10 ∧ c.toNat ≠ 35) : Starts (c :: r) := ⟨c, r, rfl, h⟩
theorem goes_brackets {ts : List T1} {t : List UInt8} (g : ∀ r, Ends r → Goes ts (t ++ r) (skp r)) (s : Starts t) : ∀ r, Goes (sgT 40 :: (ts ++ [sgT 41])) ([40] ++ t ++ [41] ++ r) (skp r) := fun r => by
  have g1 := goes_sign (c := 40) (t ++ 41 :: r) (by decide) (by decide) (by decide) (by decide)
  rw [skp_starts (s.app _)] at g1
  have g2 := g (41 :: r) ⟨41, r, rfl, by decide⟩
  rw [skp_starts (st_sign (by decide))] at g2
  have g3 := goes_sign (c := 41) r (by decide) (by decide) (by decide) (by decide)
  have := g1.trans (g2.trans g3)
  simpa using this
theorem txt_of_bar {e : Ex} (h : Bar e) (l : Nat) (hl : l ≤ 3) : Txt e l := by
  obtain ⟨ts, g, s, b0, b1, b2, b3⟩ := h
  have h3 := holdP_le e.kind
  by_cases hb : holdP e.kind < l
  · have et : textE e l = [40] ++ bareP e (kidT e.kids) ++ [41] := by rw [textE_eq, brk, if_pos (decide_eq_true hb)]
    have k41 : K0 e ts 41 := by
      by_cases c0 : holdP e.kind = 0
      · exact (b0 c0).mono (by omega)
      by_cases c1 : holdP e.kind = 1
      · exact (b1 c1).k0.mono (by omega)
      · exact (b2 (by omega)).k1.k0
    have k42 : holdP e.kind ≤ 1 → K0 e ts 42 := fun hh => by
      by_cases c0 : holdP e.kind = 0
      · exact b0 c0
      · exact (b1 (by omega)).k0
    refine ⟨sgT 40 :: (ts ++ [sgT 41]), fun r _ => by rw [et]; exact goes_brackets g s r, by rw [et]; exact st_sign (by decide), fun h => by omega, fun h => ?_, fun h => ?_, fun _ => ?_⟩
    · exact ((k42 (by omega)).brackets (by omega)).k2.k1
    · exact ((k42 (by omega)).brackets (by omega)).k2
    · exact k41.brackets (by omega)
  · have et : textE e l = bareP e (kidT e.kids) := by rw [textE_eq, brk, if_neg (by simpa using hb)]
    refine ⟨ts, by rw [et]; exact g, by rw [et]; exact s, fun h => ?_, fun h => ?_, fun h => ?_, fun h => ?_⟩
    · by_cases c0 : holdP e.kind = 0
      · exact (b0 c0).mono (by omega)
      by_cases c1 : holdP e.kind = 1
      · exact (b1 c1).k0.mono (by omega)
      by_cases c2 : holdP e.kind = 2
      · exact (b2 c2).k1.k0
      · exact (b3 (by omega)).k2.k1.k0
    · by_cases c1 : holdP e.kind = 1
      · exact (b1 c1).mono (by omega)
      by_cases c2 : holdP e.kind = 2
      · exact (b2 c2).k1
      · exact (b3 (by omega)).k2.k1
    · by_cases c2 : holdP e.kind = 2
      · exact b2 c2
      · exact (b3 (by omega)).k2
    · exact (b3 (by omega)).mono (by omega)
theorem alone_kinds {e : Ex} (ha : aloneP e = 0) : 1 ≤ e.kind ∧ e.kind ≤ 10 ∧ e.kids.length = kidsP e.kind ∧ rangeP e.kind e.a e.b = true ∧ (e.kind = 10 → namedL e.name = true) := by
  unfold aloneP at ha
  split at ha
  · cases ha
  · split at ha
    · cases ha
    · split at ha
      · cases ha
      · split at ha
        · cases ha
        · rename_i h1 h2 h3 h4
          refine ⟨by omega, by omega, by simpa using h2, by simpa using h3, fun hk => ?_⟩
          cases hn : namedL e.name with
          | true => rfl
          | false => exact absurd ⟨hk, hn⟩ h4
theorem ends_blank (r : List UInt8) : Ends (32 :: r) := ⟨32, r, rfl, .inl rfl⟩
theorem goes_pair {c : UInt8} {ts0 ts1 : List T1} {t0 t1 : List UInt8} (hD : isD c = false) (hL : isL c = false) (h46 : c ≠ 46) (hi : ¬ Lib.indexByte signsL c < 0) (hs : c.toNat ≠ 32 ∧ c.toNat ≠ 9 ∧ c.toNat ≠ 10 ∧ c.toNat ≠ 35)
    (g0 : ∀ r, Ends r → Goes ts0 (t0 ++ r) (skp r)) (s1 : Starts t1) (g1 : ∀ r, Ends r → Goes ts1 (t1 ++ r) (skp r)) : ∀ r, Ends r → Goes (ts0 ++ sgT c :: ts1) (t0 ++ ([32, c, 32] ++ t1) ++ r) (skp r) := fun r hr => by
  have a := g0 (32 :: c :: 32 :: (t1 ++ r)) (ends_blank _)
  rw [skp_blank, skp_starts (st_sign hs)] at a
  have b := goes_sign (c := c) (32 :: (t1 ++ r)) hD hL h46 hi
  rw [skp_blank, skp_starts (s1.app _)] at b
  have := a.trans (b.trans (g1 r hr))
  simpa using this
theorem st_dec (k : Nat) (r : List UInt8) : Starts (Lib.decDigits k ++ r) := by
  obtain ⟨_, v2⟩ := dec_val k k (Nat.le_refl _)
  have hp : 1 ≤ (Lib.decDigits k).length := by rw [Lib.decDigits_length]; exact Lib.nDigits_pos k
  generalize Lib.decDigits k = x at *
  cases x with
  | nil => simp at hp
  | cons c x =>
    have := v2 c List.mem_cons_self
    unfold isD at this
    simp at this
    exact ⟨c, x ++ r, rfl, by omega, by omega, by omega, by omega⟩
theorem goes_itoa {a : Int} (ha : a ≠ 0 ∧ -1440 < a ∧ a < 1440) {r : List UInt8} (hr : Ends r) : Goes (shTk a) (Lib.itoa a ++ r) (skp r) ∧ Starts (Lib.itoa a) := by
  unfold shTk Lib.itoa
  by_cases hn : a < 0
  · rw [if_pos hn, if_pos hn]
    have b := goes_sign (c := 45) (Lib.decDigits a.natAbs ++ r) (by decide) (by decide) (by decide) (by decide)
    rw [skp_starts (st_dec _ _)] at b
    exact ⟨b.trans (goes_num (by omega) hr), st_sign (by decide)⟩
  · rw [if_neg hn, if_neg hn]
    exact ⟨goes_num (by omega) hr, by have := st_dec a.toNat []; rwa [List.append_nil] at this⟩
theorem goes_shift {ts0 : List T1} {t0 : List UInt8} {a : Int} (ha : a ≠ 0 ∧ -1440 < a ∧ a < 1440) (g0 : ∀ r, Ends r → Goes ts0 (t0 ++ r) (skp r)) : ∀ r, Ends r → Goes (ts0 ++ wdT wShift :: shTk a) (t0 ++ ([32, 115, 104, 105, 102, 116, 32] ++ Lib.itoa a) ++ r) (skp r) := fun r hr => by
  obtain ⟨i1, i2⟩ := goes_itoa ha hr
  have g := g0 (32 :: (wShift ++ 32 :: (Lib.itoa a ++ r))) (ends_blank _)
  rw [skp_blank, skp_starts ((Starts.word (x := wShift) (by decide) (by decide)).app _)] at g
  have b := goes_wd (x := wShift) (r := 32 :: (Lib.itoa a ++ r)) (by decide) (by decide) (by decide) (by decide) (blank_noC _)
  rw [skp_blank, skp_starts (i2.app _)] at b
  have := g.trans (b.trans i1)
  simpa [wShift] using this
/-- Behind a guard: a colon, and the kid. -/
theorem goes_kid {ts0 : List T1} {t0 : List UInt8} (s0 : Starts t0) (g0 : ∀ r, Ends r → Goes ts0 (t0 ++ r) (skp r)) : ∀ r, Ends r → Goes (sgT 58 :: ts0) (58 :: 32 :: (t0 ++ r)) (skp r) := fun r hr => by
  have b := goes_sign (c := 58) (32 :: (t0 ++ r)) (by decide) (by decide) (by decide) (by decide)
  rw [skp_blank, skp_starts (s0.app _)] at b
  exact b.trans (g0 r hr)
theorem goes_week {ts0 : List T1} {t0 : List UInt8} {a : Int} (ha : 1 ≤ a ∧ a < 128) (s0 : Starts t0) (g0 : ∀ r, Ends r → Goes ts0 (t0 ++ r) (skp r)) : ∀ r, Ends r → Goes (wdT wWeekly :: (daysTk (daysUp a 7) ++ sgT 58 :: ts0)) ([119, 101, 101, 107, 108, 121, 32] ++ daysL a ++ [58, 32] ++ t0 ++ r) (skp r) := fun r hr => by
  obtain ⟨d1, d2, _⟩ := daysUp_ok ha.1 ha.2
  obtain ⟨i1, i2⟩ := goes_days (q := 32 :: (t0 ++ r)) (daysUp a 7) d2 d1
  have b := goes_wd (x := wWeekly) (r := 32 :: (Lib.join (daysUp a 7) [44] ++ 58 :: 32 :: (t0 ++ r))) (by decide) (by decide) (by decide) (by decide) (blank_noC _)
  rw [skp_blank, skp_starts (i2.app _)] at b
  have := b.trans (i1.trans (goes_kid s0 g0 r hr))
  simpa [wWeekly, daysL] using this
theorem goes_dates {ts0 : List T1} {t0 : List UInt8} {a b : Int} (ha : 0 ≤ a ∧ a ≤ b ∧ b < 146097) (s0 : Starts t0) (g0 : ∀ r, Ends r → Goes ts0 (t0 ++ r) (skp r)) : ∀ r, Ends r → Goes (wdT wDates :: (dsTk a b ++ sgT 58 :: ts0)) ([100, 97, 116, 101, 115, 32] ++ datesL a b ++ [58, 32] ++ t0 ++ r) (skp r) := fun r hr => by
  have k := goes_kid s0 g0 r hr
  have s58 : Starts (58 :: 32 :: (t0 ++ r)) := st_sign (by decide)
  have hd : Goes (dsTk a b) (datesL a b ++ 58 :: 32 :: (t0 ++ r)) (58 :: 32 :: (t0 ++ r)) ∧ Starts (datesL a b) := by
    unfold dsTk datesL
    by_cases hab : a = b
    · rw [if_pos hab, if_pos hab]
      obtain ⟨i1, i2⟩ := goes_date (n := a) (by omega) (by omega) (58 :: 32 :: (t0 ++ r))
      rw [skp_starts s58] at i1
      exact ⟨i1, i2⟩
    · rw [if_neg hab, if_neg hab]
      obtain ⟨i1, i2⟩ := goes_date (n := a) (by omega) (by omega) (46 :: 46 :: (dateL b ++ 58 :: 32 :: (t0 ++ r)))
      rw [skp_starts (st_sign (by decide))] at i1
      obtain ⟨j1, j2⟩ := goes_date (n := b) (by omega) (by omega) (58 :: 32 :: (t0 ++ r))
      rw [skp_starts s58] at j1
      have t := goes_to (dateL b ++ 58 :: 32 :: (t0 ++ r))
      rw [skp_starts (j2.app _)] at t
      have := i1.trans (t.trans j1)
      exact ⟨by simpa using this, i2.app _⟩
  have w := goes_wd (x := wDates) (r := 32 :: (datesL a b ++ 58 :: 32 :: (t0 ++ r))) (by decide) (by decide) (by decide) (by decide) (blank_noC _)
  rw [skp_blank, skp_starts (hd.2.app _)] at w
  have := w.trans (hd.1.trans k)
  simpa [wDates] using this
theorem st_clock {a : Int} (h0 : 0 ≤ a) (h1 : a ≤ 1440) (r : List UInt8) : Starts (clockL a ++ r) := by
  refine ⟨UInt8.ofNat (48 + a.toNat / 60 / 10), _, rfl, ?_⟩
  rw [dig_nat (by omega)]
  omega
theorem goes_span {a b : Int} (h0 : 0 ≤ a) (h1 : a < b) (h2 : b ≤ 1440) : ∀ r, Ends r → Goes [tmT a, sgT 45, tmT b] (clockL a ++ 45 :: clockL b ++ r) (skp r) := fun r _ => by
  have x := goes_time h0 (by omega) (45 :: (clockL b ++ r))
  rw [skp_starts (st_sign (by decide))] at x
  have y := goes_sign (c := 45) (clockL b ++ r) (by decide) (by decide) (by decide) (by decide)
  rw [skp_starts (st_clock (by omega) h2 r)] at y
  have := x.trans (y.trans (goes_time (by omega) h2 r))
  simpa using this
theorem no_kids {ks : List Ex} (h : ks.length = 0) : ks = [] := List.length_eq_zero_iff.1 h
theorem bar_all : ∀ (N : Nat) (e : Ex), SizeOf.sizeOf e ≤ N → allA e = true → Bar e
  | 0, e, hN, _ => by cases e; simp at hN
  | N + 1, e, hN, ha => by
    obtain ⟨a1, a2⟩ := (allA_iff e).1 ha
    obtain ⟨k1, k2, k3, k4, k5⟩ := alone_kinds a1
    have txt : ∀ (k : Ex), k ∈ e.kids → ∀ l, l ≤ 3 → Txt k l := fun k hk l hl => txt_of_bar (bar_all N k (by have := kid_lt hk; omega) (a2 k hk)) l hl
    have hcase : e.kind = 1 ∨ e.kind = 2 ∨ e.kind = 3 ∨ e.kind = 4 ∨ e.kind = 5 ∨ e.kind = 6 ∨ e.kind = 7 ∨ e.kind = 8 ∨ e.kind = 9 ∨ e.kind = 10 := by omega
    have pair : kidsP e.kind = 2 → ∃ x y, e.kids = [x, y] := fun h => by
      rw [h] at k3
      match hh : e.kids, k3 with
      | [x, y], _ => exact ⟨x, y, rfl⟩
    have one : kidsP e.kind = 1 → ∃ x, e.kids = [x] := fun h => by
      rw [h] at k3
      match hh : e.kids, k3 with
      | [x], _ => exact ⟨x, rfl⟩
    rcases hcase with hk | hk | hk | hk | hk | hk | hk | hk | hk | hk
    · rw [hk] at k3
      have he := no_kids k3
      refine ⟨[wdT wNever], fun r hr => ?_, ?_, fun h => ?_, fun h => ?_, fun h => ?_, fun _ => k_never hk he⟩
      · rw [bare_1 hk]
        exact goes_wd (x := wNever) (by decide) (by decide) (by decide) (by decide) (ends_noC hr)
      · rw [bare_1 hk]; exact Starts.word (x := wNever) (by decide) (by decide)
      all_goals (rw [hk] at h; exact absurd h (by decide))
    · rw [hk] at k3
      have he := no_kids k3
      refine ⟨[wdT wAlways], fun r hr => ?_, ?_, fun h => ?_, fun h => ?_, fun h => ?_, fun _ => k_always hk he⟩
      · rw [bare_2 hk]
        exact goes_wd (x := wAlways) (by decide) (by decide) (by decide) (by decide) (ends_noC hr)
      · rw [bare_2 hk]; exact Starts.word (x := wAlways) (by decide) (by decide)
      all_goals (rw [hk] at h; exact absurd h (by decide))
    · rw [hk] at k3 k4
      have he := no_kids k3
      have hr : 0 ≤ e.a ∧ e.a < e.b ∧ e.b ≤ 1440 := of_decide_eq_true k4
      refine ⟨[tmT e.a, sgT 45, tmT e.b], ?_, ?_, fun h => ?_, fun h => ?_, fun h => ?_, fun _ => k_span hk he hr.2.1⟩
      · rw [bare_3 hk]
        exact goes_span hr.1 hr.2.1 hr.2.2
      · rw [bare_3 hk]; exact st_clock hr.1 (by omega) _
      all_goals (rw [hk] at h; exact absurd h (by decide))
    · obtain ⟨x, he⟩ := one (by rw [hk]; rfl)
      rw [hk] at k4
      have hr : 1 ≤ e.a ∧ e.a < 128 := of_decide_eq_true k4
      obtain ⟨t0, g0, s0, _, _, c0, _⟩ := txt x (by rw [he]; simp) 2 (by omega)
      have et : kidT e.kids 0 2 = textE x 2 := kidT_at (by rw [he]; rfl)
      refine ⟨_, ?_, ?_, fun h => ?_, fun h => ?_, fun _ => k_week hk he hr (c0 rfl), fun h => ?_⟩
      · rw [bare_4 hk, et]
        exact goes_week hr s0 g0
      · rw [bare_4 hk]; exact st_sign (by decide)
      all_goals (rw [hk] at h; exact absurd h (by decide))
    · obtain ⟨x, he⟩ := one (by rw [hk]; rfl)
      rw [hk] at k4
      have hr : 0 ≤ e.a ∧ e.a ≤ e.b ∧ e.b < 146097 := of_decide_eq_true k4
      obtain ⟨t0, g0, s0, _, _, c0, _⟩ := txt x (by rw [he]; simp) 2 (by omega)
      have et : kidT e.kids 0 2 = textE x 2 := kidT_at (by rw [he]; rfl)
      refine ⟨_, ?_, ?_, fun h => ?_, fun h => ?_, fun _ => k_dates hk he hr.2.1 (c0 rfl), fun h => ?_⟩
      · rw [bare_5 hk, et]
        exact goes_dates hr s0 g0
      · rw [bare_5 hk]; exact st_sign (by decide)
      all_goals (rw [hk] at h; exact absurd h (by decide))
    · obtain ⟨x, y, he⟩ := pair (by rw [hk]; rfl)
      obtain ⟨t0, g0, s0, c0, _⟩ := txt x (by rw [he]; simp) 0 (by omega)
      obtain ⟨t1, g1, s1, _, c1, _⟩ := txt y (by rw [he]; simp) 1 (by omega)
      have e0 : kidT e.kids 0 0 = textE x 0 := kidT_at (by rw [he]; rfl)
      have e1 : kidT e.kids 1 1 = textE y 1 := kidT_at (by rw [he]; rfl)
      refine ⟨_, ?_, ?_, fun _ => k_plus hk he (c0 rfl) (c1 rfl), fun h => ?_, fun h => ?_, fun h => ?_⟩
      · rw [bare_6 hk, e0, e1]
        exact goes_pair (by decide) (by decide) (by decide) (by decide) (by decide) g0 s1 g1
      · rw [bare_6 hk, e0]; exact s0.app _
      all_goals (rw [hk] at h; exact absurd h (by decide))
    · obtain ⟨x, y, he⟩ := pair (by rw [hk]; rfl)
      obtain ⟨t0, g0, s0, c0, _⟩ := txt x (by rw [he]; simp) 0 (by omega)
      obtain ⟨t1, g1, s1, _, c1, _⟩ := txt y (by rw [he]; simp) 1 (by omega)
      have e0 : kidT e.kids 0 0 = textE x 0 := kidT_at (by rw [he]; rfl)
      have e1 : kidT e.kids 1 1 = textE y 1 := kidT_at (by rw [he]; rfl)
      refine ⟨_, ?_, ?_, fun _ => k_minus hk he (c0 rfl) (c1 rfl), fun h => ?_, fun h => ?_, fun h => ?_⟩
      · rw [bare_7 hk, e0, e1]
        exact goes_pair (by decide) (by decide) (by decide) (by decide) (by decide) g0 s1 g1
      · rw [bare_7 hk, e0]; exact s0.app _
      all_goals (rw [hk] at h; exact absurd h (by decide))
    · obtain ⟨x, y, he⟩ := pair (by rw [hk]; rfl)
      obtain ⟨t0, g0, s0, _, c0, _⟩ := txt x (by rw [he]; simp) 1 (by omega)
      obtain ⟨t1, g1, s1, _, _, c1, _⟩ := txt y (by rw [he]; simp) 2 (by omega)
      have e0 : kidT e.kids 0 1 = textE x 1 := kidT_at (by rw [he]; rfl)
      have e1 : kidT e.kids 1 2 = textE y 2 := kidT_at (by rw [he]; rfl)
      refine ⟨_, ?_, ?_, fun h => ?_, fun _ => k_both hk he (c0 rfl) (c1 rfl), fun h => ?_, fun h => ?_⟩
      · rw [bare_8 hk, e0, e1]
        exact goes_pair (by decide) (by decide) (by decide) (by decide) (by decide) g0 s1 g1
      · rw [bare_8 hk, e0]; exact s0.app _
      all_goals (rw [hk] at h; exact absurd h (by decide))
    · obtain ⟨x, he⟩ := one (by rw [hk]; rfl)
      rw [hk] at k4
      have hr : e.a ≠ 0 ∧ -1440 < e.a ∧ e.a < 1440 := of_decide_eq_true k4
      obtain ⟨t0, g0, s0, _, _, _, c0⟩ := txt x (by rw [he]; simp) 3 (by omega)
      have et : kidT e.kids 0 3 = textE x 3 := kidT_at (by rw [he]; rfl)
      refine ⟨_, ?_, ?_, fun h => ?_, fun h => ?_, fun h => ?_, fun _ => k_shift hk he hr (c0 rfl)⟩
      · rw [bare_9 hk, et]
        exact goes_shift hr g0
      · rw [bare_9 hk, et]; exact s0.app _
      all_goals (rw [hk] at h; exact absurd h (by decide))
    · rw [hk] at k3
      have he := no_kids k3
      have hn := k5 hk
      obtain ⟨n1, n2, _, _⟩ := named_word hn
      refine ⟨[nmT e.name], fun r hr => ?_, ?_, fun h => ?_, fun h => ?_, fun h => ?_, fun _ => k_name hk he hn⟩
      · rw [bare_10 hk]
        exact goes_name hn (ends_noC hr)
      · rw [bare_10 hk]; exact Starts.word n1 n2
      all_goals (rw [hk] at h; exact absurd h (by decide))
end Go.Proofs.YteheahhifihmjaaGreatDoor
