/- The walk of CivilNext: it answers true, whatever the day. -/
import Derived.Test.YtopflhcgonokgaaDoorDates
namespace Go.Proofs.YtopflhcgonokgaaDoor
open Go.RowKit

/-- The date behind a date, as one plain fact. -/
theorem next_date (y m d y' m' d' n : Int) (h1 : 1 ≤ d) (h2 : d ≤ Cal.dim y m) (h3 : Cal.num y m d = n) (g1 : 1 ≤ d') (g2 : d' ≤ Cal.dim y' m') (g3 : Cal.num y' m' d' = n + 1) :
    (d < Cal.dim y m ∧ y' = y ∧ m' = m ∧ d' = d + 1) ∨ (¬ d < Cal.dim y m ∧ m < 12 ∧ y' = y ∧ m' = m + 1 ∧ d' = 1) ∨ (¬ d < Cal.dim y m ∧ ¬ m < 12 ∧ y' = y + 1 ∧ m' = 1 ∧ d' = 1) := by
  obtain ⟨r1, r2, r3, r4⟩ := Cal.dim_pos y m (by omega)
  have cs := Cal.cum_succ y m r1 r2 r3 r4
  by_cases a : d < Cal.dim y m
  · obtain ⟨e1, e2, e3⟩ := Cal.num_inj y' m' d' y m (d + 1) g1 g2 (by omega) (by omega) (by rw [g3, ← h3]; unfold Cal.num; omega)
    exact .inl ⟨a, e1, e2, e3⟩
  · by_cases b : m < 12
    · have := Cal.dim_28 y (m + 1) r1 r2 (by omega) (by omega)
      obtain ⟨e1, e2, e3⟩ := Cal.num_inj y' m' d' y (m + 1) 1 g1 g2 (by omega) (by omega) (by rw [g3, ← h3]; unfold Cal.num; rw [cs]; omega)
      exact .inr (.inl ⟨a, b, e1, e2, e3⟩)
    · have e12 : m = 12 := by omega
      subst e12
      have c13 : Cal.cum y (12 + 1) = 365 + Cal.lp y := rfl
      have su := Cal.ys_succ y
      have bd := Cal.num_bd y' m' d' g1 g2
      have hn : Cal.num (y + 1) 1 1 = n + 1 := by rw [← h3]; unfold Cal.num; rw [Cal.cum_one]; omega
      have hy : y + 1 ≤ 2399 := by
        by_cases e : y = 2399
        · subst e
          have : Cal.ys (2399 + 1) = 146097 := Cal.ys_2400
          unfold Cal.num at hn
          rw [Cal.cum_one] at hn
          omega
        · omega
      have := Cal.dim_28 (y + 1) 1 (by omega) hy (by omega) (by omega)
      obtain ⟨e1, e2, e3⟩ := Cal.num_inj y' m' d' (y + 1) 1 1 g1 g2 (by omega) (by omega) (by rw [g3, hn])
      exact .inr (.inr ⟨a, b, e1, e2, e3⟩)

attribute [local go_sem] eql23
set_option maxHeartbeats 800000 in
set_option maxRecDepth 100000 in
theorem next_walk (n : Int) (w : World) (hT : Tab w) :
    Calls Tryd.prog 5 #[.int .i64 n] w fun e w' => e = .returned (.bool true) ∧ Below w.heap.size w w' := by
  have H : Hid (Tab w) := hT
  clear hT
  by_cases ho : n < 0 ∨ 146096 ≤ n
  · by_cases h1 : n < 0
    all_goals
      go_enter Tryd.func5, Tryd.ntmps5
      go_wp2_with fail
      refine (alive_any _ H.out).mono ?_
      rintro e w1 ⟨rfl, hb⟩
      go_wp2
      go_ret
      exact ⟨rfl, hb⟩
  · have a : 0 ≤ n := by omega
    have b : n < 146096 := by omega
    clear ho
    go_enter Tryd.func5, Tryd.ntmps5
    go_wp2_with fail
    refine (alive_any _ H.out).mono ?_
    rintro e w1 ⟨rfl, hb⟩
    go_wp2_with fail
    refine (of_yes _ _ (H.out.below hb) a (by omega)).mono ?_
    rintro e w2 ⟨y, m, d, rfl, h1, h2, h3, hb2⟩
    have H3 : Hid (Cal.num y m d = n) := h3
    clear h3
    go_wp2_with fail
    refine (of_yes _ _ ((H.out.below hb).below hb2 |>.alloc _) (by omega) (by omega)).mono ?_
    rintro e w3 ⟨y', m', d', rfl, g1, g2, g3, hb3⟩
    have cases3 := next_date y m d y' m' d' n h1 h2 H3.out g1 g2 g3
    have HT3 : Tab w3 := ((H.out.below hb).below hb2 |>.alloc _).below hb3
    have HB : Below w.heap.size w w3 :=
      hb.trans ((hb2.trans (((Below.refl _ _).alloc (Nat.le_refl _) _ |>.trans (hb3.mono (by simp))).mono hb2.size)).mono hb.size)
    have wk : ((n + 1 + 5) % 7 != ((n + 5) % 7 + 1) % 7) = false := by simp; omega
    have c0 : w3.cell? ⟨w2.heap.size, 0, none⟩ = some (.int .i64 y) := cell_later hb3 (by simp)
    have c1 : w3.cell? ⟨w2.heap.size, 1, none⟩ = some (.int .i64 m) := cell_later hb3 (by simp)
    have c2 : w3.cell? ⟨w2.heap.size, 2, none⟩ = some (.int .i64 d) := cell_later hb3 (by simp)
    obtain ⟨c0', c1', c2', e0, e1, e2, HT4, HB4⟩ : (w3.alloc (.cells #[.int .i64 y', .int .i64 m', .int .i64 d'] 23)).cell? ⟨w2.heap.size, 0, none⟩ = some (.int .i64 y) ∧
        (w3.alloc (.cells #[.int .i64 y', .int .i64 m', .int .i64 d'] 23)).cell? ⟨w2.heap.size, 1, none⟩ = some (.int .i64 m) ∧
        (w3.alloc (.cells #[.int .i64 y', .int .i64 m', .int .i64 d'] 23)).cell? ⟨w2.heap.size, 2, none⟩ = some (.int .i64 d) ∧
        (w3.alloc (.cells #[.int .i64 y', .int .i64 m', .int .i64 d'] 23)).cell? ⟨w3.heap.size, 0, none⟩ = some (.int .i64 y') ∧
        (w3.alloc (.cells #[.int .i64 y', .int .i64 m', .int .i64 d'] 23)).cell? ⟨w3.heap.size, 1, none⟩ = some (.int .i64 m') ∧
        (w3.alloc (.cells #[.int .i64 y', .int .i64 m', .int .i64 d'] 23)).cell? ⟨w3.heap.size, 2, none⟩ = some (.int .i64 d') ∧
        Hid (Tab (w3.alloc (.cells #[.int .i64 y', .int .i64 m', .int .i64 d'] 23))) ∧ Hid (Below w.heap.size w (w3.alloc (.cells #[.int .i64 y', .int .i64 m', .int .i64 d'] 23))) :=
      ⟨cell_later ((Below.refl _ _).alloc (Nat.le_refl _) _) c0, cell_later ((Below.refl _ _).alloc (Nat.le_refl _) _) c1, cell_later ((Below.refl _ _).alloc (Nat.le_refl _) _) c2,
        by simp, by simp, by simp, HT3.alloc _, HB.alloc HB.size _⟩
    clear hb hb2 hb3 H g3 c0 c1 c2 HT3 HB
    go_wp2_with fail
    generalize w3.alloc (.cells #[.int .i64 y', .int .i64 m', .int .i64 d'] 23) = w4 at *
    have r31 := Cal.dim_31 y m
    obtain ⟨r1, r2, r3, r4⟩ := Cal.dim_pos y m (by omega)
    rcases cases3 with ⟨p1, rfl, rfl, rfl⟩ | ⟨p1, p2, rfl, rfl, rfl⟩ | ⟨p1, p2, rfl, rfl, rfl⟩
    · have dp : decide (d < Cal.dim y' m') = true := by simp; omega
      refine (week_yes _ _ (by omega) (by omega)).mono ?_
      rintro e w' ⟨rfl, rfl⟩
      go_wp2_with fail
      refine (week_yes _ _ (by omega) (by omega)).mono ?_
      rintro e w' ⟨rfl, rfl⟩
      go_wp2_with fail
      go_quiet ((go_at_call 9; exact Calls.quiet_of_same (length_any _ _ _ HT4.out)))
      go_wp2
      go_ret
      exact ⟨rfl, below_drewN HB4.out _⟩
    · have dp : decide (d < Cal.dim y' m) = false := by simp; omega
      refine (week_yes _ _ (by omega) (by omega)).mono ?_
      rintro e w' ⟨rfl, rfl⟩
      go_wp2_with fail
      refine (week_yes _ _ (by omega) (by omega)).mono ?_
      rintro e w' ⟨rfl, rfl⟩
      go_wp2_with fail
      go_quiet ((go_at_call 9; exact Calls.quiet_of_same (length_any _ _ _ HT4.out)))
      go_wp2
      go_ret
      exact ⟨rfl, below_drewN HB4.out _⟩
    · have dp : decide (d < Cal.dim y m) = false := by simp; omega
      have mp : decide (m < 12) = false := by simp; omega
      refine (week_yes _ _ (by omega) (by omega)).mono ?_
      rintro e w' ⟨rfl, rfl⟩
      go_wp2_with fail
      refine (week_yes _ _ (by omega) (by omega)).mono ?_
      rintro e w' ⟨rfl, rfl⟩
      go_wp2_with fail
      go_quiet ((go_at_call 9; exact Calls.quiet_of_same (length_any _ _ _ HT4.out)))
      go_wp2
      go_ret
      exact ⟨rfl, below_drewN HB4.out _⟩

end Go.Proofs.YtopflhcgonokgaaDoor
