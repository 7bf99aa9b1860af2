/- What slotref2.Count, Holds and Next come to. -/
import Derived.Test.YtemdkpjdbciemaaDoorRefHas
import Derived.Test.YtemdkpjdbciemaaDoorAliveA
namespace Go.Proofs.YtemdkpjdbciemaaDoor
open Go.RowKit Msk

theorem cnt_one (f : Nat → Bool) (k : Nat) : cnt f (k + 1) = cnt f k + (if f k then 1 else 0) := by
  simp only [cnt]
  try (split <;> omega)

set_option maxRecDepth 10000 in
set_option maxHeartbeats 400000 in
theorem count_ref (f : Nat → Bool) (w : World) :
    Calls Tryd.prog 36 #[.agg (mv f)] w fun e w' => e = .returned (.int .i64 ((cnt f 1440 : Nat) : Int)) ∧ Below w.heap.size w w' := by
  have h1 : (w.alloc (.cells (mv f) 37)).heap[w.heap.size]? = some (.cells (mv f) 37 (0, 0)) := by (repeat (first | refine blk_old _ _ _ (by simp only [size_alloc]; omega) ?_ | exact blk_new _ _ _ (by first | rfl | simp only [size_alloc])))
  have hb0 : Below w.heap.size w (w.alloc (.cells (mv f) 37)) := (Below.refl _ _).alloc (Nat.le_refl _) _
  go_enter Tryd.func36, Tryd.ntmps36
  go_wp2
  go_loopw [3, 4] (fun n i wr => ∃ k : Nat, k ≤ 1440 ∧ i = .int .i64 k ∧ n = .int .i64 ((cnt f k : Nat) : Int) ∧ wr.heap[w.heap.size]? = some (.cells (mv f) 37 (0, 0)) ∧ Below w.heap.size w wr) (fun _ i _ => 1440 - (intOf i).toNat)
  case atStart => exact ⟨0, by omega, rfl, rfl, h1, hb0⟩
  case round =>
    obtain ⟨k, hk, rfl, rfl, hm, hbel⟩ := hrel
    clear h1 hb0
    by_cases hlt : k < 1440
    · have hlt' : (k : Int) < 1440 := by omega
      have hc : ∀ w, Calls Tryd.prog 53 #[.agg (mv f), .int .i64 (k : Int)] w fun e w' => e = .returned (.bool (f k)) ∧ Below w.heap.size w w' := fun w => by
        have := has_ref f (k : Int) w
        rw [hasB_nat, decide_eq_true hlt, Bool.true_and] at this
        exact this
      have hcn := cnt_one f k
      have hle := cnt_le f k
      cases hf : f k with
      | true =>
        rw [hf] at hc hcn
        have HN : Hid (cnt f (k + 1) = cnt f k + 1) := hcn
        clear hcn hf
        generalize cnt f k = n at *
        go_wp2_with (first
          | (refine wpList_load_row rfl 37 _ rfl _ rfl _ _ _ _ hm maskType rfl (maskSize _) ?_)
          | (go_at_call 53; refine (hc _).mono ?_; rintro e w1 ⟨rfl, hb1⟩; have hm1 := (hb1.block _ (lt_of_block hm)).trans hm; have hbel1 := hbel.trans (hb1.mono hbel.size)))
        go_roundw
        case rel => exact ⟨k + 1, by omega, by go_num, by rw [HN.out]; go_num, hm1, hbel1⟩
        case measure => simp [intOf]; omega
      | false =>
        rw [hf] at hc hcn
        have h0 : cnt f (k + 1) = cnt f k := by simpa using hcn
        have HN : Hid (cnt f (k + 1) = cnt f k) := h0
        clear h0
        clear hcn hf
        go_wp2_with (first
          | (refine wpList_load_row rfl 37 _ rfl _ rfl _ _ _ _ hm maskType rfl (maskSize _) ?_)
          | (go_at_call 53; refine (hc _).mono ?_; rintro e w1 ⟨rfl, hb1⟩; have hm1 := (hb1.block _ (lt_of_block hm)).trans hm; have hbel1 := hbel.trans (hb1.mono hbel.size)))
        go_roundw
        case rel => exact ⟨k + 1, by omega, by go_num, by rw [HN.out], hm1, hbel1⟩
        case measure => simp [intOf]; omega
    · have hkl : k = 1440 := by omega
      subst hkl
      go_wp2
      go_ret
      exact ⟨rfl, hbel⟩

theorem hold_no {f : Nat → Bool} {x y : Int} (i : Nat) (h1 : x ≤ (i : Int)) (h2 : (i : Int) < y) (h : f i = false) : holdB f x y = false := by
  cases e : holdB f x y with
  | false => rfl
  | true =>
    have := (hold_spec e).2.2.2 i h1 h2
    rw [h] at this; cases this
theorem hold_off {f : Nat → Bool} {x y : Int} (h : x < 0 ∨ 1440 < y ∨ y < x) : holdB f x y = false := by
  cases e : holdB f x y with
  | false => rfl
  | true =>
    obtain ⟨h0, h1, h2, _⟩ := hold_spec e
    omega

set_option maxRecDepth 10000 in
set_option maxHeartbeats 400000 in
theorem holds_ref (f : Nat → Bool) (x y : Int) (w : World) :
    Calls Tryd.prog 38 #[.agg (mv f), .agg #[.int .i64 x, .int .i64 y]] w fun e w' => e = .returned (.bool (holdB f x y)) ∧ Below w.heap.size w w' := by
  have hb0 : Below w.heap.size w ((w.alloc (.cells (mv f) 37)).alloc (.cells #[.int .i64 x, .int .i64 y] 39)) := ((Below.refl _ _).alloc (Nat.le_refl _) _).alloc (by simp) _
  have h1 : ((w.alloc (.cells (mv f) 37)).alloc (.cells #[.int .i64 x, .int .i64 y] 39)).heap[w.heap.size]? = some (.cells (mv f) 37 (0, 0)) := by (repeat (first | refine blk_old _ _ _ (by simp only [size_alloc]; omega) ?_ | exact blk_new _ _ _ (by first | rfl | simp only [size_alloc])))
  have h2 : ((w.alloc (.cells (mv f) 37)).alloc (.cells #[.int .i64 x, .int .i64 y] 39)).heap[w.heap.size + 1]? = some (.cells #[.int .i64 x, .int .i64 y] 39 (0, 0)) := by (repeat (first | refine blk_old _ _ _ (by simp only [size_alloc]; omega) ?_ | exact blk_new _ _ _ (by first | rfl | simp only [size_alloc])))
  by_cases hoff : x < 0 ∨ 1440 < y ∨ y < x
  · rw [hold_off hoff]
    clear h1 h2
    rcases (show (x < 0) ∨ (0 ≤ x ∧ 1440 < y) ∨ (0 ≤ x ∧ y ≤ 1440 ∧ y < x) from by omega) with j1 | ⟨j1, j2⟩ | ⟨j1, j2, j3⟩
    all_goals
      clear hoff
      go_enter Tryd.func38, Tryd.ntmps38
      go_wp2
      go_ret
      exact ⟨rfl, hb0⟩
  · have j1 : 0 ≤ x := by omega
    have j2 : y ≤ 1440 := by omega
    have j3 : x ≤ y := by omega
    clear hoff
    go_enter Tryd.func38, Tryd.ntmps38
    go_wp2
    go_loopw [5] (fun i wr => ∃ k : Nat, x ≤ (k : Int) ∧ (k : Int) ≤ y ∧ i = .int .i64 k ∧ (∀ j : Nat, x ≤ (j : Int) → (j : Int) < (k : Int) → f j = true) ∧ wr.heap[w.heap.size]? = some (.cells (mv f) 37 (0, 0)) ∧ wr.heap[w.heap.size + 1]? = some (.cells #[.int .i64 x, .int .i64 y] 39 (0, 0)) ∧ Below w.heap.size w wr) (fun i _ => (1440 - intOf i).toNat)
    case atStart => exact ⟨x.toNat, by omega, by omega, int_eq (by omega), fun j a b => by omega, h1, h2, hb0⟩
    case round =>
      obtain ⟨k, hk1, hk2, rfl, hall, hm, hs, hbel⟩ := hrel
      have c1 := cell_of_row _ _ 1 _ _ _ hs
      simp at c1
      have HA : Hid (∀ j : Nat, x ≤ (j : Int) → (j : Int) < (k : Int) → f j = true) := hall
      clear h1 h2 hb0 hall
      by_cases hlt : (k : Int) < y
      · have hc : ∀ w, Calls Tryd.prog 53 #[.agg (mv f), .int .i64 (k : Int)] w fun e w' => e = .returned (.bool (f k)) ∧ Below w.heap.size w w' := fun w => by
          have := has_ref f (k : Int) w
          rw [hasB_nat, decide_eq_true (show k < 1440 by omega), Bool.true_and] at this
          exact this
        cases hf : f k with
        | true =>
          rw [hf] at hc
          have HF : Hid (f k = true) := hf
          clear hf
          go_wp2_with (first
            | (refine wpList_load_row rfl 37 _ rfl _ rfl _ _ _ _ hm maskType rfl (maskSize _) ?_)
            | (go_at_call 53; refine (hc _).mono ?_; rintro e w1 ⟨rfl, hb1⟩; have hm1 := (hb1.block _ (lt_of_block hm)).trans hm; have hs1 := (hb1.block _ (lt_of_block hs)).trans hs; have hbel1 := hbel.trans (hb1.mono hbel.size)))
          go_roundw
          case rel =>
            refine ⟨k + 1, by omega, by omega, by go_num, fun j a b => ?_, hm1, hs1, hbel1⟩
            by_cases e : j = k
            · subst e; exact HF.out
            · exact HA.out j a (by omega)
          case measure => simp [intOf]; omega
        | false =>
          rw [hf] at hc
          have HF : Hid (holdB f x y = false) := hold_no k hk1 hlt hf
          clear hf
          go_wp2_with (first
            | (refine wpList_load_row rfl 37 _ rfl _ rfl _ _ _ _ hm maskType rfl (maskSize _) ?_)
            | (go_at_call 53; refine (hc _).mono ?_; rintro e w1 ⟨rfl, hb1⟩; have hbel1 := hbel.trans (hb1.mono hbel.size)))
          go_ret
          exact ⟨by rw [HF.out]; rfl, hbel1⟩
      · have HF : Hid (holdB f x y = true) := hold_true j1 j2 j3 fun i a b => HA.out i a (by omega)
        go_wp2
        go_ret
        exact ⟨by rw [HF.out]; rfl, hbel⟩
end Go.Proofs.YtemdkpjdbciemaaDoor
