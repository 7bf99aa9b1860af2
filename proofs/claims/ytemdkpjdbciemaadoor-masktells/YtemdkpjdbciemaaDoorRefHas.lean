/- What slotref2.Has comes to. -/
import Derived.Test.YtemdkpjdbciemaaDoorSets
import Derived.Test.YtemdkpjdbciemaaDoorNums
import Derived.Test.YtemdkpjdbciemaaDoorEqs
namespace Go.Proofs.YtemdkpjdbciemaaDoor
open Go.RowKit Msk

/-- Does a mask have a minute? -/
def hasB (f : Nat → Bool) (x : Int) : Bool := decide (0 ≤ x) && decide (x < 1440) && f x.toNat
theorem hasB_nat (f : Nat → Bool) (i : Nat) : hasB f (i : Int) = (decide (i < 1440) && f i) := by
  unfold hasB
  have e : ((i : Int) < 1440) = (i < 1440) := by apply propext; omega
  simp [e]
theorem wrap_pow (r : Nat) (hr : r < 64) : IntKind.u64.wrap ((2 : Int) ^ r) = ((2 ^ r : Nat) : Int) ∧ (2 : Nat) ^ r < 18446744073709551616 := by
  have h : (2 : Nat) ^ r < 2 ^ 64 := Nat.pow_lt_pow_right (by omega) hr
  have h' : (2 : Nat) ^ r < 18446744073709551616 := by simpa using h
  have e : ((2 : Int) ^ r) = ((2 ^ r : Nat) : Int) := by simp
  refine ⟨?_, h'⟩
  rw [IntKind.wrap_u64, e]
  generalize (2 : Nat) ^ r = y at h'
  omega
theorem and_one (x r : Nat) (hr : r < 64) (hx : x < 18446744073709551616) : (bits .and .u64 (x : Int) (IntKind.u64.wrap (2 ^ r)) != 0) = x.testBit r := by
  obtain ⟨e2, h⟩ := wrap_pow r hr
  rw [e2]
  have e3 := bits_and_u64_nat x (2 ^ r) hx h
  rw [e3]
  cases hb : x.testBit r with
  | false =>
    have : x &&& 2 ^ r = 0 := Nat.eq_of_testBit_eq fun j => by
      rw [Nat.testBit_and, Nat.testBit_two_pow]
      by_cases hj : r = j
      · subst hj; simp [hb]
      · simp [hj]
    simp [this]
  | true =>
    have : (x &&& 2 ^ r).testBit r = true := by
      rw [Nat.testBit_and, Nat.testBit_two_pow]; simp [hb]
    have h0 : x &&& 2 ^ r ≠ 0 := fun e => by rw [e] at this; simp at this
    simpa using h0

set_option maxRecDepth 10000 in
set_option maxHeartbeats 1000000 in
theorem has_ref (f : Nat → Bool) (x : Int) (w : World) :
    Calls Tryd.prog 53 #[.agg (mv f), .int .i64 x] w fun e w' => e = .returned (.bool (hasB f x)) ∧ Below w.heap.size w w' := by
  have h1 : (w.alloc (.cells (mv f) 37)).heap[w.heap.size]? = some (.cells (mv f) 37 (0, 0)) := by (repeat (first | refine blk_old _ _ _ (by simp only [size_alloc]; omega) ?_ | exact blk_new _ _ _ (by first | rfl | simp only [size_alloc])))
  have hb0 : Below w.heap.size w (w.alloc (.cells (mv f) 37)) := (Below.refl _ _).alloc (Nat.le_refl _) _
  by_cases hx : x < 0
  · have e : hasB f x = false := by unfold hasB; have : ¬ 0 ≤ x := by omega
                                    simp [this]
    rw [e]
    have d1 : decide (0 ≤ x) = false := by simp; omega
    clear e h1
    go_enter Tryd.func53, Tryd.ntmps53
    go_wp2
    go_quiet (fail)
    go_wp2
    go_ret
    exact ⟨rfl, below_drewN hb0 _⟩
  · by_cases hy : x < 1440
    · obtain ⟨i, rfl⟩ : ∃ i : Nat, x = i := ⟨x.toNat, by omega⟩
      obtain ⟨q, hq⟩ : ∃ q : Nat, q = i / 64 := ⟨_, rfl⟩
      obtain ⟨r, hr⟩ : ∃ r : Nat, r = i % 64 := ⟨_, rfl⟩
      have t1 : (i : Int) / 64 = (q : Int) := by omega
      have t2 : (i : Int) % 64 = (r : Int) := by omega
      have t3 : (i : Int).tdiv 64 = (q : Int) := by rw [Int.tdiv_eq_ediv_of_nonneg (by omega)]; exact t1
      have t4 : (i : Int).tmod 64 = (r : Int) := by rw [Int.tmod_eq_emod_of_nonneg (by omega)]; exact t2
      have t5 : IntKind.i64.wrap (q : Int) = (q : Int) := by rw [IntKind.wrap_i64]; omega
      have t6 : IntKind.i64.wrap (r : Int) = (r : Int) := by rw [IntKind.wrap_i64]; omega
      have hq23 : q < 23 := by omega
      have hi0 : (0 : Int) ≤ (q : Int) := by omega
      have hi1 : (q : Int) < 23 := by omega
      have hr0 : (0 : Int) ≤ (r : Int) := by omega
      have hr1 : (r : Int) < 64 := by omega
      have ca := cell_mv h1 q hq23
      have hbit : (bits .and .u64 (wd f q : Int) (IntKind.u64.wrap (2 ^ r)) != 0) = hasB f (i : Int) := by
        rw [and_one _ r (by omega) (wd_lt f q), wd_bit, hasB_nat]
        have e1 : 64 * q + r = i := by omega
        have e2 : i < 1440 := by omega
        have e3 : r < 64 := by omega
        simp [e1, e2, e3]
      have d1 : decide ((0 : Int) ≤ (i : Int)) = true := by simp
      have d2 : decide ((i : Int) < 1440) = true := by simpa using hy
      clear hx hy hq hr
      generalize hasB f (i : Int) = bb at *
      go_enter Tryd.func53, Tryd.ntmps53
      go_wp2
      go_quiet (fail)
      go_wp2
      go_ret
      exact ⟨by rw [← hbit]; rfl, below_drewN hb0 _⟩
    · have e : hasB f x = false := by unfold hasB; simp [hy]
      rw [e]
      have d1 : decide (0 ≤ x) = true := by simp; omega
      have d2 : decide (x < 1440) = false := by simpa using hy
      clear e h1
      go_enter Tryd.func53, Tryd.ntmps53
      go_wp2
      go_quiet (fail)
      go_wp2
      go_ret
      exact ⟨rfl, below_drewN hb0 _⟩
end Go.Proofs.YtemdkpjdbciemaaDoor
