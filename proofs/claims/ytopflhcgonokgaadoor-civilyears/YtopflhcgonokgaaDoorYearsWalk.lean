/- The walk of CivilYears: it answers true, whatever the year. -/
import Derived.Test.YtopflhcgonokgaaDoorNumber
namespace Go.Proofs.YtopflhcgonokgaaDoor
open Go.RowKit

theorem dim_1 (y : Int) (a : 2000 ≤ y) (b : y ≤ 2399) : Cal.dim y 1 = 31 := by unfold Cal.dim; rw [if_neg (by omega)]; rfl
theorem dim_12 (y : Int) (a : 2000 ≤ y) (b : y ≤ 2399) : Cal.dim y 12 = 31 := by unfold Cal.dim; rw [if_neg (by omega)]; rfl
theorem num_1 (y : Int) : Cal.num y 1 1 = Cal.ys y := by unfold Cal.num; rw [Cal.cum_one]; omega
theorem num_12 (y : Int) : Cal.num y 12 31 = Cal.ys y + 364 + Cal.lp y := by unfold Cal.num; rw [show Cal.cum y 12 = 334 + Cal.lp y from rfl]; omega

set_option maxHeartbeats 800000 in
theorem years_walk (y : Int) (w : World) (hT : Tab w) :
    Calls Tryd.prog 6 #[.int .i64 y] w fun e w' => e = .returned (.bool true) ∧ Below w.heap.size w w' := by
  have H : Hid (Tab w) := hT
  clear hT
  by_cases ho : y < 2000 ∨ 2399 < y
  · go_enter Tryd.func6, Tryd.ntmps6
    go_wp2_with fail
    refine (alive_any _ H.out).mono ?_
    rintro e w1 ⟨rfl, hb⟩
    by_cases h1 : y < 2000
    all_goals
      go_wp2_with (go_at_call 9; refine (length_out _ _ _ (by omega)).mono ?_; rintro e w' ⟨rfl, rfl⟩)
      go_ret
      exact ⟨rfl, hb⟩
  · have a : 2000 ≤ y := by omega
    have b : y ≤ 2399 := by omega
    clear ho
    go_enter Tryd.func6, Tryd.ntmps6
    go_wp2_with fail
    refine (alive_any _ H.out).mono ?_
    rintro e w1 ⟨rfl, hb⟩
    have H1 : Hid (Tab w1) := H.out.below hb
    go_wp2
    go_loop [3, 4] (fun t i => ∃ k : Int, 1 ≤ k ∧ k ≤ 13 ∧ i = .int .i64 k ∧ t = .int .i64 (Cal.cum y k)) (fun _ i => (13 - intOf i).toNat)
    case atStart => exact ⟨1, by omega, by omega, rfl, rfl⟩
    case round =>
      obtain ⟨k, hk1, hk2, rfl, rfl⟩ := hrel
      have cb := Cal.cum_bd y k hk1 (by omega)
      have db := Cal.dim_31 y k
      by_cases hlt : k ≤ 12
      · have cs : Hid (Cal.cum y (k + 1) = Cal.cum y k + Cal.dim y k) := Cal.cum_succ y k a b hk1 (by omega)
        go_wp2_with (go_at_call 9; refine (length_any _ _ _ H1.out).mono ?_; rintro e w' ⟨rfl, rfl⟩)
        go_round
        case rel => exact ⟨k + 1, by omega, by omega, rfl, by rw [cs.out]⟩
        case measure => simp [intOf]; omega
      · have e : k = 13 := by omega
        subst e
        have yb := Cal.ys_bd y a (by omega)
        have e1 := num_1 y
        have e2 := num_12 y
        have d1 := dim_1 y a b
        have d12 := dim_12 y a b
        have hl := Cal.lp_of y
        have hc := Cal.cum_13 y
        have E1 : Hid (Cal.num y 1 1 = Cal.ys y) := e1
        have N1 : Hid (1 ≤ Cal.dim y 1) := by show (1 : Int) ≤ _; omega
        have N2 : Hid (31 ≤ Cal.dim y 12) := by show (31 : Int) ≤ _; omega
        cases hbb : Cal.lpB y
        · rw [hbb] at hl
          simp at hl
          rw [hl] at hc e2
          simp at hc e2
          rw [hc]
          have E2 : Hid (Cal.num y 12 31 = Cal.ys y + 364) := e2
          clear hl hc e1 e2 d1 d12 db cb
          go_wp2_with fail
          refine (leap_any _ _ (by omega) (by omega)).mono ?_
          rw [hbb]
          rintro e w2 ⟨rfl, rfl⟩
          go_wp2_with fail
          refine (number_yes _ _ _ _ H1.out (by decide) N1.out).mono ?_
          rw [E1.out]
          rintro e w2 ⟨rfl, hb2⟩
          go_wp2_with fail
          refine (number_yes _ _ _ _ (H1.out.below hb2) (by decide) N2.out).mono ?_
          rw [E2.out]
          rintro e w3 ⟨rfl, hb3⟩
          have t : (Cal.ys y + 364 - Cal.ys y + 1 == 365) = true := by simp; omega
          go_wp2
          go_ret
          exact ⟨rfl, hb.trans ((hb2.trans (hb3.mono hb2.size)).mono hb.size)⟩
        · rw [hbb] at hl
          simp at hl
          rw [hl] at hc e2
          rw [show (365 : Int) + 1 = 366 from rfl] at hc
          rw [hc]
          have E2 : Hid (Cal.num y 12 31 = Cal.ys y + 364 + 1) := e2
          clear hl hc e1 e2 d1 d12 db cb
          go_wp2_with fail
          refine (leap_any _ _ (by omega) (by omega)).mono ?_
          rw [hbb]
          rintro e w2 ⟨rfl, rfl⟩
          go_wp2_with fail
          refine (number_yes _ _ _ _ H1.out (by decide) N1.out).mono ?_
          rw [E1.out]
          rintro e w2 ⟨rfl, hb2⟩
          go_wp2_with fail
          refine (number_yes _ _ _ _ (H1.out.below hb2) (by decide) N2.out).mono ?_
          rw [E2.out]
          rintro e w3 ⟨rfl, hb3⟩
          have t : (Cal.ys y + 364 + 1 - Cal.ys y + 1 == 366) = true := by simp; omega
          go_wp2
          go_ret
          exact ⟨rfl, hb.trans ((hb2.trans (hb3.mono hb2.size)).mono hb.size)⟩

end Go.Proofs.YtopflhcgonokgaaDoor
