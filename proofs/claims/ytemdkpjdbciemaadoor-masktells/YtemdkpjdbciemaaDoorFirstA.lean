/- What masks.first comes to: the first minute that a mask has, from one on. -/
import Derived.Test.YtemdkpjdbciemaaDoorSets
import Derived.Test.YtemdkpjdbciemaaDoorNums
namespace Go.Proofs.YtemdkpjdbciemaaDoor
open Go.RowKit Msk

/-- The first minute from one on, up to the day's end. -/
def FirstAt (f : Nat → Bool) (p r : Nat) : Prop := p ≤ r ∧ r ≤ 1440 ∧ (∀ i, p ≤ i → i < r → f i = false) ∧ (r < 1440 → f r = true)

theorem shr_zero (f : Nat → Bool) (k q r x : Nat) (hq : q = k / 64) (hr : r = k % 64) (hx : x = wd f q / 2 ^ r) (h0 : x = 0) : ∀ i, k ≤ i → i < 64 * q + 64 → f i = false := by
  intro i h1 h2
  have hb : (wd f q / 2 ^ r).testBit (i - k) = f i := by
    rw [shr_bit, wd_bit]
    have e1 : 64 * q + (i - k + r) = i := by omega
    have e2 : i - k + r < 64 := by omega
    simp [e1, e2]
  rw [← hx, h0] at hb
  simpa using hb.symm
theorem shr_some (f : Nat → Bool) (k q r x t : Nat) (hq : q = k / 64) (hr : r = k % 64) (hx : x = wd f q / 2 ^ r) (h1 : x.testBit t = true) (h2 : ∀ j, j < t → x.testBit j = false) :
    f (k + t) = true ∧ k + t < 64 * q + 64 ∧ ∀ i, k ≤ i → i < k + t → f i = false := by
  subst hx
  have hb : ∀ j, (wd f q / 2 ^ r).testBit j = (decide (j + r < 64) && f (k + j)) := by
    intro j
    rw [shr_bit, wd_bit]
    have e1 : 64 * q + (j + r) = k + j := by omega
    rw [e1]
  rw [hb] at h1
  simp only [Bool.and_eq_true, decide_eq_true_eq] at h1
  refine ⟨h1.2, by omega, fun i a b => ?_⟩
  have := h2 (i - k) (by omega)
  rw [hb] at this
  have e2 : i - k + r < 64 := by omega
  have e3 : k + (i - k) = i := by omega
  simpa [e2, e3] using this

set_option maxRecDepth 10000 in
set_option maxHeartbeats 2000000 in
theorem first_any (f : Nat → Bool) (p : Nat) (hp : p ≤ 1440) (w : World) (hT : Tab w) :
    Calls Tryd.prog 66 #[.agg (mv f), .int .i64 p] w fun e w' => (∃ r : Nat, e = .returned (.int .i64 r) ∧ FirstAt f p r) ∧ Below w.heap.size w w' := by
  have h1 : (w.alloc (.cells (mv f) 37)).heap[w.heap.size]? = some (.cells (mv f) 37 (0, 0)) := by (repeat (first | refine blk_old _ _ _ (by simp only [size_alloc]; omega) ?_ | exact blk_new _ _ _ (by first | rfl | simp only [size_alloc])))
  have hb0 : Below w.heap.size w (w.alloc (.cells (mv f) 37)) := (Below.refl _ _).alloc (Nat.le_refl _) _
  have hT' := hT.later hb0
  have HT : Hid (Tab (w.alloc (.cells (mv f) 37))) := hT'
  clear hT hT'
  go_enter Tryd.func66, Tryd.ntmps66
  go_wp2
  go_loop [5] (fun a => ∃ k : Nat, p ≤ k ∧ k ≤ 1472 ∧ a = .int .i64 k ∧ ∀ i, p ≤ i → i < k → f i = false) (fun a => 1472 - (intOf a).toNat)
  case atStart => exact ⟨p, Nat.le_refl _, by omega, rfl, fun i a b => by omega⟩
  case round =>
    obtain ⟨k, hpk, hk2, rfl, hno⟩ := hrel
    have HN : Hid (∀ i, p ≤ i → i < k → f i = false) := hno
    clear hno
    by_cases hlt : k < 1440
    · obtain ⟨q, hq⟩ : ∃ q : Nat, q = k / 64 := ⟨_, rfl⟩
      obtain ⟨r, hr⟩ : ∃ r : Nat, r = k % 64 := ⟨_, rfl⟩
      have t1 : (k : Int) / 64 = (q : Int) := by omega
      have t2 : (k : Int) % 64 = (r : Int) := by omega
      have hq23 : q < 23 := by omega
      have hi0 : (0 : Int) ≤ (q : Int) := by omega
      have hi1 : (q : Int) < 23 := by omega
      have hr1 : (r : Int) < 64 := by omega
      have ca := cell_mv h1 q hq23
      obtain ⟨x, hx⟩ : ∃ x : Nat, x = wd f q / 2 ^ r := ⟨_, rfl⟩
      have hxl : x < 18446744073709551616 := by have := wd_lt f q; have := Nat.div_le_self (wd f q) (2 ^ r); omega
      have p1 : (wd f q : Int) / 2 ^ r = (x : Int) := by rw [hx]; simp
      have cw := fun w => wordEnd_any k (by omega) w
      obtain ⟨m, hm⟩ : ∃ m : Nat, m = 64 * (k / 64) + 64 := ⟨_, rfl⟩
      rw [← hm] at cw
      by_cases hx0 : x = 0
      · have z := shr_zero f k q r x hq hr hx hx0
        have x0 : ((x : Int) != 0) = false := by simp [hx0]
        have HZ : Hid (∀ i, k ≤ i → i < 64 * q + 64 → f i = false) := z
        have hm' : m = 64 * q + 64 := by omega
        have HM : Hid (m = 64 * q + 64) := hm'
        have HQ : Hid (q = k / 64) := hq
        clear z hx hx0 hq hr hm hm'
        go_wp2_with (go_at_call 67; refine (cw _).mono ?_; rintro e w' ⟨rfl, rfl⟩)
        have hM := HM.out
        have hQ := HQ.out
        go_round
        case rel =>
          refine ⟨m, by omega, by omega, rfl, fun i a b => ?_⟩
          by_cases hik : i < k
          · exact HN.out i a hik
          · exact HZ.out i (by omega) (by omega)
        case measure => simp [intOf]; omega
      · obtain ⟨t, ht64, hb1, hb2, ct⟩ := tz_any x hxl hx0 _ HT.out
        obtain ⟨s1, s2, s3⟩ := shr_some f k q r x t hq hr hx hb1 hb2
        have x0 : ((x : Int) != 0) = true := by simp [hx0]
        have HS : Hid (f (k + t) = true ∧ k + t < 64 * q + 64 ∧ ∀ i, k ≤ i → i < k + t → f i = false) := ⟨s1, s2, s3⟩
        have HE : Hid (∀ j, j < t → x.testBit j = false) := hb2
        clear hx hx0 hq hr hm hb1 hb2 s1 s3 cw
        by_cases hle : k + t ≤ 1440
        · go_wp2_with (go_at_call 69; refine ct.mono ?_; rintro e w' ⟨rfl, rfl⟩)
          go_ret
          refine ⟨⟨k + t, ret_val (int_eq (by omega)), ?_⟩, hb0⟩
          refine ⟨by omega, hle, fun i a b => ?_, fun _ => HS.out.1⟩
          by_cases hik : i < k
          · exact HN.out i a hik
          · exact HS.out.2.2 i (by omega) b
        · go_wp2_with (go_at_call 69; refine ct.mono ?_; rintro e w' ⟨rfl, rfl⟩)
          go_ret
          refine ⟨⟨1440, ret_val (int_eq (by omega)), ?_⟩, hb0⟩
          refine ⟨by omega, by omega, fun i a b => ?_, fun h => by omega⟩
          by_cases hik : i < k
          · exact HN.out i a hik
          · exact HS.out.2.2 i (by omega) (by omega)
    · go_wp2
      go_ret
      refine ⟨⟨1440, ret_val (int_eq (by omega)), ?_⟩, hb0⟩
      exact ⟨by omega, by omega, fun i a b => HN.out i a (by omega), fun h => by omega⟩
end Go.Proofs.YtemdkpjdbciemaaDoor
