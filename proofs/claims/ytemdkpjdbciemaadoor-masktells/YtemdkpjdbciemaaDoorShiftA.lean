/- What masks.later and earlier come to, and masks.Shift. -/
import Derived.Test.YtemdkpjdbciemaaDoorSets
import Derived.Test.YtemdkpjdbciemaaDoorNums
namespace Go.Proofs.YtemdkpjdbciemaaDoor
open Go.RowKit Msk

/-- A word of a mask that is moved upward, out of the two words that it comes from. -/
theorem up_one (f : Nat → Bool) (by' i q r : Nat) (hq : q = by' / 64) (hr : r = by' % 64) (hi : q ≤ i) :
    IntKind.u64.wrap ((wd f (i - q) : Int) * 2 ^ r) = ((wd (fun t => decide (by' ≤ t) && decide (64 * (i - q) ≤ t - by') && f (t - by')) i : Nat) : Int) := by
  have e1 : wd (fun t => decide (by' ≤ t) && decide (64 * (i - q) ≤ t - by') && f (t - by')) i = wd f (i - q) * 2 ^ r % 18446744073709551616 := by
    symm
    refine wd_eq _ _ _ (Nat.mod_lt _ (by omega)) fun j hj => ?_
    rw [shl_bit _ _ j hj, wd_bit]
    by_cases h : r ≤ j
    · have a1 : by' ≤ 64 * i + j := by omega
      have a2 : 64 * (i - q) ≤ 64 * i + j - by' := by omega
      have a3 : 64 * (i - q) + (j - r) = 64 * i + j - by' := by omega
      have a4 : j - r < 64 := by omega
      simp [h, a1, a2, a3, a4]
    · by_cases a1 : by' ≤ 64 * i + j
      · have a2 : ¬ 64 * (i - q) ≤ 64 * i + j - by' := by omega
        simp [h, a2]
      · simp [h, a1]
  rw [IntKind.wrap_u64, e1]
  have : ((2 : Int) ^ r) = ((2 ^ r : Nat) : Int) := by simp
  rw [this]
  omega
theorem up_two (f : Nat → Bool) (by' i q r : Nat) (hq : q = by' / 64) (hr : r = by' % 64) (hi : q < i) :
    ((wd (fun t => decide (by' ≤ t) && decide (64 * (i - q) ≤ t - by') && f (t - by')) i ||| wd f (i - q - 1) / 2 ^ (64 - r) : Nat)) = wd (fun t => decide (by' ≤ t) && f (t - by')) i := by
  have l1 := wd_lt f (i - q - 1)
  have l2 : wd f (i - q - 1) / 2 ^ (64 - r) ≤ wd f (i - q - 1) := Nat.div_le_self _ _
  refine wd_eq _ _ _ (show _ < 2 ^ 64 from Nat.or_lt_two_pow (wd_lt _ _) (by omega)) fun j hj => ?_
  rw [Nat.testBit_or, wd_bit, shr_bit, wd_bit]
  have a1 : by' ≤ 64 * i + j := by omega
  by_cases h : r ≤ j
  · have a2 : 64 * (i - q) ≤ 64 * i + j - by' := by omega
    have a4 : ¬ j + (64 - r) < 64 := by omega
    simp [hj, a1, a2, a4]
  · have a2 : ¬ 64 * (i - q) ≤ 64 * i + j - by' := by omega
    have a3 : 64 * (i - q - 1) + (j + (64 - r)) = 64 * i + j - by' := by omega
    have a4 : j + (64 - r) < 64 := by omega
    simp [hj, a1, a2, a3, a4]
/-- A word of a mask that is moved downward. -/
theorem down_one (f : Nat → Bool) (by' i q r : Nat) (hq : q = by' / 64) (hr : r = by' % 64) (hi : q ≤ i) :
    wd f i / 2 ^ r = wd (fun t => decide (t + by' < 64 * (i + 1)) && f (t + by')) (i - q) := by
  have l2 : wd f i / 2 ^ r ≤ wd f i := Nat.div_le_self _ _
  have l1 := wd_lt f i
  refine wd_eq _ _ _ (by omega) fun j hj => ?_
  rw [shr_bit, wd_bit]
  by_cases h : j + r < 64
  · have a1 : 64 * (i - q) + j + by' < 64 * (i + 1) := by omega
    have a2 : 64 * i + (j + r) = 64 * (i - q) + j + by' := by omega
    simp [h, a1, a2]
  · have a1 : ¬ 64 * (i - q) + j + by' < 64 * (i + 1) := by omega
    simp [h, a1]
theorem down_two (f : Nat → Bool) (by' i q r : Nat) (hq : q = by' / 64) (hr : r = by' % 64) (hi : q ≤ i) :
    bits .or .u64 (wd (fun t => decide (t + by' < 64 * (i + 1)) && f (t + by')) (i - q) : Int) (IntKind.u64.wrap ((wd f (i + 1) : Int) * 2 ^ (64 - r))) = ((wd (fun t => f (t + by')) (i - q) : Nat) : Int) := by
  have e1 : IntKind.u64.wrap ((wd f (i + 1) : Int) * 2 ^ (64 - r)) = ((wd (fun t => !decide (t + by' < 64 * (i + 1)) && f (t + by')) (i - q) : Nat) : Int) := by
    have e2 : wd (fun t => !decide (t + by' < 64 * (i + 1)) && f (t + by')) (i - q) = wd f (i + 1) * 2 ^ (64 - r) % 18446744073709551616 := by
      symm
      refine wd_eq _ _ _ (Nat.mod_lt _ (by omega)) fun j hj => ?_
      rw [shl_bit _ _ j hj, wd_bit]
      by_cases h : 64 - r ≤ j
      · have a1 : ¬ 64 * (i - q) + j + by' < 64 * (i + 1) := by omega
        have a2 : 64 * (i + 1) + (j - (64 - r)) = 64 * (i - q) + j + by' := by omega
        have a3 : j - (64 - r) < 64 := by omega
        simp [h, a1, a2, a3]
      · have a1 : 64 * (i - q) + j + by' < 64 * (i + 1) := by omega
        simp [h, a1]
    rw [IntKind.wrap_u64, e2]
    have : ((2 : Int) ^ (64 - r)) = ((2 ^ (64 - r) : Nat) : Int) := by simp
    rw [this]
    omega
  rw [e1, bits_or_u64_nat _ _ (wd_lt _ _) (wd_lt _ _), wd_or]
  have e3 : wd (fun t => (decide (t + by' < 64 * (i + 1)) && f (t + by')) || (!decide (t + by' < 64 * (i + 1)) && f (t + by'))) (i - q) = wd (fun t => f (t + by')) (i - q) := wd_ext fun j _ => by
    cases decide (64 * (i - q) + j + by' < 64 * (i + 1)) <;> simp
  rw [e3]

/-! As the walks ask them. -/
theorem up_put1 (f : Nat → Bool) (b i q r d : Nat) (hq : q = b / 64) (hr : r = b % 64) (hd : i = q + d) :
    IntKind.u64.wrap ((wd f d : Int) * 2 ^ r) = ((wd (fun t => decide (b ≤ t) && decide (64 * d ≤ t - b) && f (t - b)) i : Nat) : Int) := by
  have := up_one f b i q r hq hr (by omega)
  have e : i - q = d := by omega
  rw [e] at this
  exact this
theorem up_put0 (f : Nat → Bool) (b q r : Nat) (hq : q = b / 64) (hr : r = b % 64) :
    IntKind.u64.wrap ((wd f 0 : Int) * 2 ^ r) = ((wd (fun t => decide (b ≤ t) && f (t - b)) q : Nat) : Int) := by
  rw [up_put1 f b q q r 0 hq hr rfl]
  have e3 : wd (fun t => decide (b ≤ t) && decide (64 * 0 ≤ t - b) && f (t - b)) q = wd (fun t => decide (b ≤ t) && f (t - b)) q := wd_ext fun j _ => by simp
  rw [e3]
theorem up_put2 (f : Nat → Bool) (b i q r d : Nat) (hq : q = b / 64) (hr : r = b % 64) (hd : i = q + (d + 1)) :
    bits .or .u64 (wd (fun t => decide (b ≤ t) && decide (64 * (d + 1) ≤ t - b) && f (t - b)) i : Int) ((wd f d : Int) / 2 ^ (64 - r)) = ((wd (fun t => decide (b ≤ t) && f (t - b)) i : Nat) : Int) := by
  have := up_two f b i q r hq hr (by omega)
  have e : i - q = d + 1 := by omega
  rw [e] at this
  have e2 : ((wd f d : Int) / 2 ^ (64 - r)) = ((wd f d / 2 ^ (64 - r) : Nat) : Int) := by simp
  have l2 : wd f d / 2 ^ (64 - r) ≤ wd f d := Nat.div_le_self _ _
  have l1 := wd_lt f d
  rw [e2, bits_or_u64_nat _ _ (wd_lt _ _) (by omega)]
  exact congrArg _ this
theorem down_put1 (f : Nat → Bool) (b i q r d : Nat) (hq : q = b / 64) (hr : r = b % 64) (hd : i = q + d) :
    (wd f i : Int) / 2 ^ r = ((wd (fun t => decide (t + b < 64 * (i + 1)) && f (t + b)) d : Nat) : Int) := by
  have := down_one f b i q r hq hr (by omega)
  have e : i - q = d := by omega
  rw [e] at this
  rw [← this]; simp
theorem down_put2 (f : Nat → Bool) (b i q r d : Nat) (hq : q = b / 64) (hr : r = b % 64) (hd : i = q + d) (hi : i < 22) :
    bits .or .u64 (wd (fun t => decide (t + b < 64 * (i + 1)) && f (t + b)) d : Int) (IntKind.u64.wrap ((wd f (i + 1) : Int) * 2 ^ (64 - r))) = ((wd (fun t => decide (t + b < 1472) && f (t + b)) d : Nat) : Int) := by
  have := down_two f b i q r hq hr (by omega)
  have e : i - q = d := by omega
  rw [e] at this
  rw [this]
  have e3 : wd (fun t => f (t + b)) d = wd (fun t => decide (t + b < 1472) && f (t + b)) d := wd_ext fun j _ => by
    have : 64 * d + j + b < 1472 := by omega
    simp [this]
  rw [e3]
/-- A word that is written twice. -/
theorem mv_step2 (k : Nat) (hk : k < 23) (h : Nat → Bool) (v : Value) : ((mv fun i => decide (i < 64 * k) && h i).setIfInBounds k v).setIfInBounds k (.int .u64 (wd h k : Int)) = mv fun i => decide (i < 64 * (k + 1)) && h i := by
  rw [Array.setIfInBounds_setIfInBounds]
  exact mv_step k hk h
theorem up_start (f : Nat → Bool) (b q : Nat) (hq : q = b / 64) : mv (fun _ => false) = mv (fun t => decide (t < 64 * q) && (decide (b ≤ t) && f (t - b))) := mv_ext fun t _ => by
  by_cases h : t < 64 * q
  · have : ¬ b ≤ t := by omega
    simp [this]
  · simp [h]

set_option maxRecDepth 10000 in
set_option maxHeartbeats 2000000 in
theorem later_any (f : Nat → Bool) (b : Nat) (hb : b < 1440) (w : World) :
    Calls Tryd.prog 63 #[.agg (mv f), .int .i64 b] w fun e w' => e = .returned (.agg (mv fun t => decide (b ≤ t) && f (t - b))) ∧ Below w.heap.size w w' := by
  have hz := mv_lit
  obtain ⟨q, hq⟩ : ∃ q : Nat, q = b / 64 := ⟨_, rfl⟩
  obtain ⟨r, hr⟩ : ∃ r : Nat, r = b % 64 := ⟨_, rfl⟩
  have HQ : Hid (q = b / 64) := hq
  have HR : Hid (r = b % 64) := hr
  have t1 : (b : Int) / 64 = (q : Int) := by omega
  have t2 : (b : Int) % 64 = (r : Int) := by omega
  have hq23 : q < 23 := by omega
  have hr64 : r < 64 := by omega
  clear hq hr
  go_enter Tryd.func63, Tryd.ntmps63
  go_wp2
  go_loopw [8] (fun i wr => ∃ k d : Nat, k ≤ 23 ∧ k = q + d ∧ i = .int .i64 k ∧ wr.heap[w.heap.size]? = some (.cells (mv f) 37 (0, 0)) ∧ wr.heap[w.heap.size + 1]? = some (.cells (mv fun _ => false) 37 (0, 0)) ∧
      wr.heap[w.heap.size + 1 + 1]? = some (.cells (mv fun t => decide (t < 64 * k) && (decide (b ≤ t) && f (t - b))) 37 (0, 0)) ∧ Below w.heap.size w wr) (fun i _ => 23 - (intOf i).toNat)
  case atStart =>
    refine ⟨q, 0, by omega, rfl, rfl, ?_, ?_, ?_, ?_⟩
    · (repeat (first | refine blk_old _ _ _ (by simp only [size_alloc]; omega) ?_ | exact blk_new _ _ _ (by first | rfl | simp only [size_alloc])))
    · (repeat (first | refine blk_old _ _ _ (by simp only [size_alloc]; omega) ?_ | exact blk_new _ _ _ (by first | rfl | simp only [size_alloc])))
    · refine blk_eq ?_ (up_start f b q HQ.out)
      (repeat (first | refine blk_old _ _ _ (by simp only [size_alloc]; omega) ?_ | exact blk_new _ _ _ (by first | rfl | simp only [size_alloc])))
    · exact (((Below.refl _ _).alloc (Nat.le_refl _) _).alloc (by simp) _).alloc (by simp only [size_alloc]; omega) _
  case round =>
    obtain ⟨k, d, hk, hkd, rfl, ha, ho, hm, hbel⟩ := hrel
    have HD : Hid (k = q + d) := hkd
    by_cases hlt : k < 23
    · have ca := cell_mv ha d (by omega)
      have cm := cell_mv hm k hlt
      have fm := frozen_of_row _ _ k _ _ hm
      have e1 : (k : Int) - (q : Int) = (d : Int) := by omega
      have hi0 : (0 : Int) ≤ (d : Int) := by omega
      have hi1 : (d : Int) < 23 := by omega
      by_cases hd0 : d = 0
      · subst hd0
        have p1 := up_put0 f b q r HQ.out HR.out
        have hkq : k = q := hkd
        subst hkq
        clear hkd
        go_wp2
        go_roundw
        case rel =>
          refine ⟨k + 1, 1, by omega, rfl, by go_num, ?_, ?_, ?_, hbel.setCell (by dsimp only; omega) _⟩
          · exact (heap_setCell_other _ _ _ _ (by dsimp only; omega)).trans ha
          · exact (heap_setCell_other _ _ _ _ (by dsimp only; omega)).trans ho
          · exact blk_eq (heap_setCell_same _ _ _ _ _ _ hm) (mv_step k hlt fun t => decide (b ≤ t) && f (t - b))
        case measure => simp [intOf]; omega
      · obtain ⟨c, hc⟩ : ∃ c, d = c + 1 := ⟨d - 1, by omega⟩
        have p1 := up_put1 f b k q r d HQ.out HR.out hkd
        have p2 := up_put2 f b k q r c HQ.out HR.out (by omega)
        rw [← hc] at p2
        have e2 : (d : Int) - 1 = (c : Int) := by omega
        have e3 : IntKind.i64.wrap ((k : Int) - (q : Int)) = (d : Int) := by rw [IntKind.wrap_i64]; omega
        have e4 : IntKind.i64.wrap ((d : Int) - 1) = (c : Int) := by rw [IntKind.wrap_i64]; omega
        have e5 : IntKind.i64.wrap (64 - (r : Int)) = 64 - (r : Int) := by rw [IntKind.wrap_i64]; omega
        have e6 : (64 - (r : Int)).toNat = 64 - r := by omega
        have e7 : (0 : Int) ≤ 64 - (r : Int) := by omega
        have j0 : (0 : Int) ≤ (c : Int) := by omega
        have j1 : (c : Int) < 23 := by omega
        have cc := cell_mv ha c (by omega)
        have hgt : (q : Int) < (k : Int) := by omega
        generalize (fun t => decide (b ≤ t) && decide (64 * d ≤ t - b) && f (t - b)) = G1 at p1 p2
        have c1 : (wr.setCell ⟨w.heap.size + 1 + 1, k, none⟩ (.int .u64 (wd G1 k : Int))).cell? ⟨w.heap.size, c, none⟩ = some (.int .u64 (wd f c : Int)) := (cell_set_far _ _ _ _ (by dsimp only; omega)).trans cc
        have hm2 := heap_setCell_same _ _ k _ _ (.int .u64 (wd G1 k : Int)) hm
        have c2 : (wr.setCell ⟨w.heap.size + 1 + 1, k, none⟩ (.int .u64 (wd G1 k : Int))).cell? ⟨w.heap.size + 1 + 1, k, none⟩ = some (.int .u64 (wd G1 k : Int)) := by
          rw [cell_of_row _ _ k _ _ _ hm2]
          simp [mv_size, hlt]
        have f2 := frozen_of_row _ _ k _ _ hm2
        have HM2 : Hid ((wr.setCell ⟨w.heap.size + 1 + 1, k, none⟩ (.int .u64 (wd G1 k : Int))).heap[w.heap.size + 1 + 1]? = some (.cells ((mv fun t => decide (t < 64 * k) && (decide (b ≤ t) && f (t - b))).setIfInBounds k (.int .u64 (wd G1 k : Int))) 37 (0, 0))) := hm2
        clear hm2 hkd hc
        go_wp2
        go_region
        go_wp2
        go_roundw
        case rel =>
          have hD := HD.out
          refine ⟨k + 1, d + 1, by omega, by omega, by go_num, ?_, ?_, ?_, ((hbel.setCell (by dsimp only; omega) _).setCell (by dsimp only; omega) _).drew⟩
          · exact ((heap_setCell_other _ _ _ _ (by dsimp only; omega)).trans (heap_setCell_other _ _ _ _ (by dsimp only; omega))).trans ha
          · exact ((heap_setCell_other _ _ _ _ (by dsimp only; omega)).trans (heap_setCell_other _ _ _ _ (by dsimp only; omega))).trans ho
          · exact blk_eq (heap_setCell_same _ _ _ _ _ _ HM2.out) (mv_step2 k hlt (fun t => decide (b ≤ t) && f (t - b)) _)
        case measure => simp [intOf]; omega
    · have hk23 : k = 23 := by omega
      subst hk23
      have hm' := blk_eq hm (mv_full _)
      clear hm HD hkd
      go_wp2_with (first
        | (refine wpList_load_row rfl 37 _ rfl _ rfl _ _ _ _ hm' maskType rfl (maskSize _) ?_)
        | (refine wpList_store_row rfl 37 _ _ rfl _ _ rfl rfl _ _ ho (maskSize _) (by simp [mv_size]) (mv_all _) ?_))
      refine bodyPost_ret (v := .agg (mv fun t => decide (b ≤ t) && f (t - b))) ?_ rfl ⟨rfl, ?_⟩
      · exact results_cell_row rfl _ _ (w.heap.size + 1) _ _ _ _ rfl (setRow_heap _ _ _ _ _ _ ho) maskType rfl (maskSize _)
      · exact below_setRow hbel (by omega) _
end Go.Proofs.YtemdkpjdbciemaaDoor
