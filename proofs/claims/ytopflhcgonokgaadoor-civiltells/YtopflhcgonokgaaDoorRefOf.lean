/- What the document's answer to Of comes to. -/
import Derived.Test.YtopflhcgonokgaaDoorRef
namespace Go.Proofs.YtopflhcgonokgaaDoor
open Go.RowKit

set_option maxHeartbeats 400000 in
theorem rof_no (n : Int) (w : World) (a : n < 0 ∨ 146097 ≤ n) :
    Calls Tryd.prog 14 #[.int .i64 n] w fun e w' => e = .returned (.tuple #[.agg #[.int .i64 0, .int .i64 0, .int .i64 0], .int .i64 3]) ∧ Below w.heap.size w w' := by
  by_cases h : n < 0
  · clear a
    go_enter Tryd.func14, Tryd.ntmps14
    go_wp2
    exact bodyPost_ret (v := .tuple #[.agg #[.int .i64 0, .int .i64 0, .int .i64 0], .int .i64 3]) (by simp [results, Tryd.results14, go_sem]) rfl ⟨rfl, (Below.refl _ _).alloc (Nat.le_refl _) _⟩
  · have h' : decide (146097 ≤ n) = true := by simp; omega
    clear a
    go_enter Tryd.func14, Tryd.ntmps14
    go_wp2
    exact bodyPost_ret (v := .tuple #[.agg #[.int .i64 0, .int .i64 0, .int .i64 0], .int .i64 3]) (by simp [results, Tryd.results14, go_sem]) rfl ⟨rfl, (Below.refl _ _).alloc (Nat.le_refl _) _⟩

theorem setCell_drewN (w : World) (n : Nat) (a : Addr) (v : Value) : (w.drewN n).setCell a v = (w.setCell a v).drewN n := rfl
theorem quiet_sum {P : Program} {f : FuncId} {args : Array Value} {X : World} {k n : Nat} {v : Value}
    (h : Calls P f args (X.drewN (k + n)) fun e w' => e = .returned v ∧ w' = X.drewN (k + n)) : Calls P f args (X.drewN (k + n)) fun e w'' => e = .returned v ∧ ∃ m, w'' = X.drewN (k + m) :=
  h.mono fun _ _ ⟨he, hm⟩ => ⟨he, n, hm⟩
attribute [local go_sem] setCell_drewN
set_option maxHeartbeats 800000 in
theorem rof_yes (n : Int) (w : World) (a : 0 ≤ n) (b : n < 146097) :
    Calls Tryd.prog 14 #[.int .i64 n] w fun e w' => ∃ y m d : Int, e = .returned (.tuple #[.agg #[.int .i64 y, .int .i64 m, .int .i64 d], .int .i64 0]) ∧ 1 ≤ d ∧ d ≤ Cal.dim y m ∧ Cal.num y m d = n ∧ Below w.heap.size w w' := by
  go_enter Tryd.func14, Tryd.ntmps14
  go_wp2
  go_loopw [0] (fun t w' => ∃ y : Int, 2000 ≤ y ∧ y ≤ 2399 ∧ Cal.ys y ≤ n ∧ t = .int .i64 (n - Cal.ys y) ∧ w' = (w.alloc (.cells #[.int .i64 0, .int .i64 0, .int .i64 0] 23)).alloc (.cells #[.int .i64 y, .int .i64 1, .int .i64 1] 23)) (fun t _ => (intOf t).toNat)
  case atStart => exact ⟨2000, by omega, by omega, by rw [Cal.ys_2000]; exact a, by rw [Cal.ys_2000]; go_num, rfl⟩
  case round =>
    obtain ⟨y, hy1, hy2, hy3, rfl, rfl⟩ := hrel
    have kb := Cal.ys_bd y hy1 (by omega)
    have lb := Cal.lp_01 y
    have cs : Hid (Cal.ys (y + 1) = Cal.ys y + 365 + Cal.lp y) := Cal.ys_succ y
    by_cases hlt : 365 + Cal.lp y ≤ n - Cal.ys y
    · go_wp2_with (go_at_call 20; refine (ryear_any _ _ (by omega) (by omega)).mono ?_; rintro e w' ⟨rfl, rfl⟩)
      have h1 := cs.out
      have h2 : y + 1 ≤ 2399 := by
        by_cases g : y + 1 ≤ 2399
        · exact g
        · have := Cal.ys_mono 2400 (y + 1) (by omega)
          rw [Cal.ys_2400] at this
          omega
      exact ⟨⟨y + 1, by omega, h2, by omega, by rw [h1]; go_num, rfl⟩, by simp [intOf]; omega⟩
    · have hn : Hid (n < Cal.ys (y + 1)) := by
        have h1 := cs.out
        show n < _
        omega
      go_wp2_with (go_at_call 20; refine (ryear_any _ _ (by omega) (by omega)).mono ?_; rintro e w' ⟨rfl, rfl⟩)
      clear cs hlt lb
      go_loopw [0] (fun t w' => ∃ m d r : Int, ∃ k : Nat, 1 ≤ d ∧ d ≤ Cal.dim y m ∧ 0 ≤ r ∧ r ≤ 400 ∧ Cal.num y m d + r = n ∧ t = .int .i64 r ∧ w' = ((w.alloc (.cells #[.int .i64 0, .int .i64 0, .int .i64 0] 23)).alloc (.cells #[.int .i64 y, .int .i64 m, .int .i64 d] 23)).drewN k) (fun t _ => (intOf t).toNat)
      case atStart =>
        have h28 := Cal.dim_28 y 1 hy1 hy2 (by omega) (by omega)
        have h1 := Cal.ys_succ y
        have h2 := Cal.lp_01 y
        have h3 := hn.out
        exact ⟨1, 1, _, 0, by omega, by omega, by omega, by omega, by unfold Cal.num; rw [Cal.cum_one]; omega, rfl, rfl⟩
      case round =>
        obtain ⟨m, d, r, k, hd1, hd2, hr1, hr2, hnum, rfl, rfl⟩ := hrel
        have HN : Hid (Cal.num y m d + r = n) := hnum
        clear hnum
        obtain ⟨_, _, m1, m2⟩ := Cal.dim_pos y m (by omega)
        have d31 := Cal.dim_31 y m
        by_cases hr : 0 < r
        · by_cases hd : Cal.dim y m < d + 1
          · have hdd : decide (Cal.dim y m < d + 1) = true := by simp; omega
            have hm12 : m < 12 := by
              have h1 := hn.out
              have h2 := HN.out
              have h3 := Cal.ys_succ y
              by_cases e : m = 12
              · subst e
                have h4 := Cal.cum_succ y 12 hy1 hy2 (by omega) (by omega)
                have h5 : Cal.cum y (12 + 1) = 365 + Cal.lp y := rfl
                unfold Cal.num at h2
                omega
              · omega
            have h28 := Cal.dim_28 y (m + 1) hy1 hy2 (by omega) (by omega)
            have hnx : Hid (Cal.num y (m + 1) 1 + (r - 1) = n) := by
              have h2 := HN.out
              have h4 := Cal.cum_succ y m hy1 hy2 m1 m2
              show Cal.num y (m + 1) 1 + (r - 1) = n
              unfold Cal.num at h2 ⊢
              omega
            go_wp2_with fail
            go_quiet ((go_at_call 10; exact quiet_sum (rlength_any _ _ _)))
            go_wp2
            exact ⟨⟨m + 1, 1, r - 1, _, by omega, by omega, by omega, by omega, hnx.out, rfl, (by first | exact World.drewN_drewN .. | rfl)⟩, by simp [intOf]; omega⟩
          · have hdd : decide (Cal.dim y m < d + 1) = false := by simp; omega
            have hnx : Hid (Cal.num y m (d + 1) + (r - 1) = n) := by
              have h2 := HN.out
              show Cal.num y m (d + 1) + (r - 1) = n
              unfold Cal.num at h2 ⊢
              omega
            go_wp2_with fail
            go_quiet ((go_at_call 10; exact quiet_sum (rlength_any _ _ _)))
            go_wp2
            exact ⟨⟨m, d + 1, r - 1, _, by omega, by omega, by omega, by omega, hnx.out, rfl, (by first | exact World.drewN_drewN .. | rfl)⟩, by simp [intOf]; omega⟩
        · have hnx : Hid (Cal.num y m d = n) := by
            have h2 := HN.out
            show Cal.num y m d = n
            omega
          go_wp2
          refine bodyPost_ret (v := .tuple #[.agg #[.int .i64 y, .int .i64 m, .int .i64 d], .int .i64 0]) (by simp [results, Tryd.results14, go_sem]) rfl ⟨y, m, d, rfl, hd1, hd2, hnx.out, ?_⟩
          exact below_drewN (((Below.refl _ _).alloc (Nat.le_refl _) _).alloc (by simp) _) _

end Go.Proofs.YtopflhcgonokgaaDoor
