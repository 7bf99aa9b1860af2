/- What masks.later and earlier come to, and masks.Shift. -/
import Derived.Test.YtgfjbcdjpkcbkaaGreatDoorDu03
import Derived.Test.YtgfjbcdjpkcbkaaGreatDoorDu02
import Derived.Below
import Derived.Deep.RegionHeld3
import Derived.Deep.DrawnRows
namespace Go.Proofs.YtgfjbcdjpkcbkaaGreatDoor
open Go.RowKit Msk
theorem up_one (f : Nat → Bool) (by' i q r : Nat) (hq : q = by' / 64) (hr : r = by' % 64) (hi : q ≤ i) :
    IntKind.u64.wrap ((wd f (i - q) : Int) * 2 ^ r) = ((wd (fun t => decide (by' ≤ t) && decide (64 * (i - q) ≤ t - by') && f (t - by')) i : Nat) : Int) := by
  have e1 : wd (fun t => decide (by' ≤ t) && decide (64 * (i - q) ≤ t - by') && f (t - by')) i = wd f (i - q) * 2 ^ r % 18446744073709551616 := by
    symm
    refine wd_eq _ _ _ (Nat.mod_lt _ (by omega)) fun j hj => ?_
    rw [shl_bit _ _ j hj, wd_bit]
    by_cases h : r ≤ j
    · have a1 : by' ≤ 64 * i + j := by omega
      have a2 : 64 * (i - q) ≤ 64 * i + j - by' := by omega
      have a3 : 64 * (i - q) + (j - r) = 64 * i + j - by' := by omega
      have a4 : j - r < 64 := by omega
      simp [h, a1, a2, a3, a4]
    · by_cases a1 : by' ≤ 64 * i + j
      · have a2 : ¬ 64 * (i - q) ≤ 64 * i + j - by' := by omega
        simp [h, a2]
      · simp [h, a1]
  rw [IntKind.wrap_u64, e1]
  have : ((2 : Int) ^ r) = ((2 ^ r : Nat) : Int) := by simp
  rw [this]
  omega
theorem up_two (f : Nat → Bool) (by' i q r : Nat) (hq : q = by' / 64) (hr : r = by' % 64) (hi : q < i) :
    ((wd (fun t => decide (by' ≤ t) && decide (64 * (i - q) ≤ t - by') && f (t - by')) i ||| wd f (i - q - 1) / 2 ^ (64 - r) : Nat)) = wd (fun t => decide (by' ≤ t) && f (t - by')) i := by
  have l1 := wd_lt f (i - q - 1)
  have l2 : wd f (i - q - 1) / 2 ^ (64 - r) ≤ wd f (i - q - 1) := Nat.div_le_self _ _
  refine wd_eq _ _ _ (show _ < 2 ^ 64 from Nat.or_lt_two_pow (wd_lt _ _) (by omega)) fun j hj => ?_
  rw [Nat.testBit_or, wd_bit, shr_bit, wd_bit]
  have a1 : by' ≤ 64 * i + j := by omega
  by_cases h : r ≤ j
  · have a2 : 64 * (i - q) ≤ 64 * i + j - by' := by omega
    have a4 : ¬ j + (64 - r) < 64 := by omega
    simp [hj, a1, a2, a4]
  · have a2 : ¬ 64 * (i - q) ≤ 64 * i + j - by' := by omega
    have a3 : 64 * (i - q - 1) + (j + (64 - r)) = 64 * i + j - by' := by omega
    have a4 : j + (64 - r) < 64 := by omega
    simp [hj, a1, a2, a3, a4]
theorem down_one (f : Nat → Bool) (by' i q r : Nat) (hq : q = by' / 64) (hr : r = by' % 64) (hi : q ≤ i) :
    wd f i / 2 ^ r = wd (fun t => decide (t + by' < 64 * (i + 1)) && f (t + by')) (i - q) := by
  have l2 : wd f i / 2 ^ r ≤ wd f i := Nat.div_le_self _ _
  have l1 := wd_lt f i
  refine wd_eq _ _ _ (by omega) fun j hj => ?_
  rw [shr_bit, wd_bit]
  by_cases h : j + r < 64
  · have a1 : 64 * (i - q) + j + by' < 64 * (i + 1) := by omega
    have a2 : 64 * i + (j + r) = 64 * (i - q) + j + by' := by omega
    simp [h, a1, a2]
  · have a1 : ¬ 64 * (i - q) + j + by' < 64 * (i + 1) := by omega
    simp [h, a1]
theorem down_two (f : Nat → Bool) (by' i q r : Nat) (hq : q = by' / 64) (hr : r = by' % 64) (hi : q ≤ i) :
    bits .or .u64 (wd (fun t => decide (t + by' < 64 * (i + 1)) && f (t + by')) (i - q) : Int) (IntKind.u64.wrap ((wd f (i + 1) : Int) * 2 ^ (64 - r))) = ((wd (fun t => f (t + by')) (i - q) : Nat) : Int) := by
  have e1 : IntKind.u64.wrap ((wd f (i + 1) : Int) * 2 ^ (64 - r)) = ((wd (fun t => !decide (t + by' < 64 * (i + 1)) && f (t + by')) (i - q) : Nat) : Int) := by
    have e2 : wd (fun t => !decide (t + by' < 64 * (i + 1)) && f (t + by')) (i - q) = wd f (i + 1) * 2 ^ (64 - r) % 18446744073709551616 := by
      symm
      refine wd_eq _ _ _ (Nat.mod_lt _ (by omega)) fun j hj => ?_
      rw [shl_bit _ _ j hj, wd_bit]
      by_cases h : 64 - r ≤ j
      · have a1 : ¬ 64 * (i - q) + j + by' < 64 * (i + 1) := by omega
        have a2 : 64 * (i + 1) + (j - (64 - r)) = 64 * (i - q) + j + by' := by omega
        have a3 : j - (64 - r) < 64 := by omega
        simp [h, a1, a2, a3]
      · have a1 : 64 * (i - q) + j + by' < 64 * (i + 1) := by omega
        simp [h, a1]
    rw [IntKind.wrap_u64, e2]
    have : ((2 : Int) ^ (64 - r)) = ((2 ^ (64 - r) : Nat) : Int) := by simp
    rw [this]
    omega
  rw [e1, bits_or_u64_nat _ _ (wd_lt _ _) (wd_lt _ _), wd_or]
  have e3 : wd (fun t => (decide (t + by' < 64 * (i + 1)) && f (t + by')) || (!decide (t + by' < 64 * (i + 1)) && f (t + by'))) (i - q) = wd (fun t => f (t + by')) (i - q) := wd_ext fun j _ => by
    cases decide (64 * (i - q) + j + by' < 64 * (i + 1)) <;> simp
  rw [e3]
theorem up_put1 (f : Nat → Bool) (b i q r d : Nat) (hq : q = b / 64) (hr : r = b % 64) (hd : i = q + d) :
    IntKind.u64.wrap ((wd f d : Int) * 2 ^ r) = ((wd (fun t => decide (b ≤ t) && decide (64 * d ≤ t - b) && f (t - b)) i : Nat) : Int) := by
  have := up_one f b i q r hq hr (by omega)
  have e : i - q = d := by omega
  rw [e] at this
  exact this
theorem up_put0 (f : Nat → Bool) (b q r : Nat) (hq : q = b / 64) (hr : r = b % 64) :
    IntKind.u64.wrap ((wd f 0 : Int) * 2 ^ r) = ((wd (fun t => decide (b ≤ t) && f (t - b)) q : Nat) : Int) := by
  rw [up_put1 f b q q r 0 hq hr rfl]
  have e3 : wd (fun t => decide (b ≤ t) && decide (64 * 0 ≤ t - b) && f (t - b)) q = wd (fun t => decide (b ≤ t) && f (t - b)) q := wd_ext fun j _ => by simp
  rw [e3]
theorem up_put2 (f : Nat → Bool) (b i q r d : Nat) (hq : q = b / 64) (hr : r = b % 64) (hd : i = q + (d + 1)) :
    bits .or .u64 (wd (fun t => decide (b ≤ t) && decide (64 * (d + 1) ≤ t - b) && f (t - b)) i : Int) ((wd f d : Int) / 2 ^ (64 - r)) = ((wd (fun t => decide (b ≤ t) && f (t - b)) i : Nat) : Int) := by
  have := up_two f b i q r hq hr (by omega)
  have e : i - q = d + 1 := by omega
  rw [e] at this
  have e2 : ((wd f d : Int) / 2 ^ (64 - r)) = ((wd f d / 2 ^ (64 - r) : Nat) : Int) := by simp
  have l2 : wd f d / 2 ^ (64 - r) ≤ wd f d := Nat.div_le_self _ _
  have l1 := wd_lt f d
  rw [e2, bits_or_u64_nat _ _ (wd_lt _ _) (by omega)]
  exact congrArg _ this
theorem down_put1 (f : Nat → Bool) (b i q r d : Nat) (hq : q = b / 64) (hr : r = b % 64) (hd : i = q + d) :
    (wd f i : Int) / 2 ^ r = ((wd (fun t => decide (t + b < 64 * (i + 1)) && f (t + b)) d : Nat) : Int) := by
  have := down_one f b i q r hq hr (by omega)
  have e : i - q = d := by omega
  rw [e] at this
  rw [← this]; simp
theorem down_put2 (f : Nat → Bool) (b i q r d : Nat) (hq : q = b / 64) (hr : r = b % 64) (hd : i = q + d) (hi : i < 22) :
    bits .or .u64 (wd (fun t => decide (t + b < 64 * (i + 1)) && f (t + b)) d : Int) (IntKind.u64.wrap ((wd f (i + 1) : Int) * 2 ^ (64 - r))) = ((wd (fun t => decide (t + b < 1472) && f (t + b)) d : Nat) : Int) := by
  have := down_two f b i q r hq hr (by omega)
  have e : i - q = d := by omega
  rw [e] at this
  rw [this]
  have e3 : wd (fun t => f (t + b)) d = wd (fun t => decide (t + b < 1472) && f (t + b)) d := wd_ext fun j _ => by
    have : 64 * d + j + b < 1472 := by omega
    simp [this]
  rw [e3]
theorem mv_step2 (k : Nat) (hk : k < 23) (h : Nat → Bool) (v : Value) : ((mv fun i => decide (i < 64 * k) && h i).setIfInBounds k v).setIfInBounds k (.int .u64 (wd h k : Int)) = mv fun i => decide (i < 64 * (k + 1)) && h i := by
  rw [Array.setIfInBounds_setIfInBounds]
  exact mv_step k hk h
theorem up_start (f : Nat → Bool) (b q : Nat) (hq : q = b / 64) : mv (fun _ => false) = mv (fun t => decide (t < 64 * q) && (decide (b ≤ t) && f (t - b))) := mv_ext fun t _ => by
  by_cases h : t < 64 * q
  · have : ¬ b ≤ t := by omega
    simp [this]
  · simp [h]
set_option maxRecDepth 10000 in
set_option maxHeartbeats 2000000 in
theorem later_any (f : Nat → Bool) (b : Nat) (hb : b < 1440) (w : World) :
    Calls Tryz.prog 63 #[.agg (mv f), .int .i64 b] w fun e w' => e = .returned (.agg (mv fun t => decide (b ≤ t) && f (t - b))) ∧ Below w.heap.size w w' := by
  have hz := mv_lit
  obtain ⟨q, hq⟩ : ∃ q : Nat, q = b / 64 := ⟨_, rfl⟩
  obtain ⟨r, hr⟩ : ∃ r : Nat, r = b % 64 := ⟨_, rfl⟩
  have HQ : Hid (q = b / 64) := hq
  have HR : Hid (r = b % 64) := hr
  have t1 : (b : Int) / 64 = (q : Int) := by omega
  have t2 : (b : Int) % 64 = (r : Int) := by omega
  have hq23 : q < 23 := by omega
  have hr64 : r < 64 := by omega
  clear hq hr
  go_enter Tryz.func63, Tryz.ntmps63
  go_wp2
  go_loopw [8] (fun i wr => ∃ k d : Nat, k ≤ 23 ∧ k = q + d ∧ i = .int .i64 k ∧ wr.heap[w.heap.size]? = some (.cells (mv f) 43 (0, 0)) ∧ wr.heap[w.heap.size + 1]? = some (.cells (mv fun _ => false) 43 (0, 0)) ∧
      wr.heap[w.heap.size + 1 + 1]? = some (.cells (mv fun t => decide (t < 64 * k) && (decide (b ≤ t) && f (t - b))) 43 (0, 0)) ∧ Below w.heap.size w wr) (fun i _ => 23 - (intOf i).toNat)
  case atStart =>
    refine ⟨q, 0, by omega, rfl, rfl, ?_, ?_, ?_, ?_⟩
    · (repeat (first | refine blk_old _ _ _ (by simp only [size_alloc]; omega) ?_ | exact blk_new _ _ _ (by first | rfl | simp only [size_alloc])))
    · (repeat (first | refine blk_old _ _ _ (by simp only [size_alloc]; omega) ?_ | exact blk_new _ _ _ (by first | rfl | simp only [size_alloc])))
    · refine blk_eq ?_ (up_start f b q HQ.out)
      (repeat (first | refine blk_old _ _ _ (by simp only [size_alloc]; omega) ?_ | exact blk_new _ _ _ (by first | rfl | simp only [size_alloc])))
    · exact (((Below.refl _ _).alloc (Nat.le_refl _) _).alloc (by simp) _).alloc (by simp only [size_alloc]; omega) _
  case round =>
    obtain ⟨k, d, hk, hkd, rfl, ha, ho, hm, hbel⟩ := hrel
    have HD : Hid (k = q + d) := hkd
    by_cases hlt : k < 23
    · have ca := cell_mv ha d (by omega)
      have cm := cell_mv hm k hlt
      have fm := frozen_of_row _ _ k _ _ hm
      have e1 : (k : Int) - (q : Int) = (d : Int) := by omega
      have hi0 : (0 : Int) ≤ (d : Int) := by omega
      have hi1 : (d : Int) < 23 := by omega
      by_cases hd0 : d = 0
      · subst hd0
        have p1 := up_put0 f b q r HQ.out HR.out
        have hkq : k = q := hkd
        subst hkq
        clear hkd
        go_wp2
        go_roundw
        case rel =>
          refine ⟨k + 1, 1, by omega, rfl, by go_num, ?_, ?_, ?_, hbel.setCell (by dsimp only; omega) _⟩
          · exact (heap_setCell_other _ _ _ _ (by dsimp only; omega)).trans ha
          · exact (heap_setCell_other _ _ _ _ (by dsimp only; omega)).trans ho
          · exact blk_eq (heap_setCell_same _ _ _ _ _ _ hm) (mv_step k hlt fun t => decide (b ≤ t) && f (t - b))
        case measure => simp [intOf]; omega
      · obtain ⟨c, hc⟩ : ∃ c, d = c + 1 := ⟨d - 1, by omega⟩
        have p1 := up_put1 f b k q r d HQ.out HR.out hkd
        have p2 := up_put2 f b k q r c HQ.out HR.out (by omega)
        rw [← hc] at p2
        have e2 : (d : Int) - 1 = (c : Int) := by omega
        have e3 : IntKind.i64.wrap ((k : Int) - (q : Int)) = (d : Int) := by rw [IntKind.wrap_i64]; omega
        have e4 : IntKind.i64.wrap ((d : Int) - 1) = (c : Int) := by rw [IntKind.wrap_i64]; omega
        have e5 : IntKind.i64.wrap (64 - (r : Int)) = 64 - (r : Int) := by rw [IntKind.wrap_i64]; omega
        have e6 : (64 - (r : Int)).toNat = 64 - r := by omega
        have e7 : (0 : Int) ≤ 64 - (r : Int) := by omega
        have j0 : (0 : Int) ≤ (c : Int) := by omega
        have j1 : (c : Int) < 23 := by omega
        have cc := cell_mv ha c (by omega)
        have hgt : (q : Int) < (k : Int) := by omega
        generalize (fun t => decide (b ≤ t) && decide (64 * d ≤ t - b) && f (t - b)) = G1 at p1 p2
        have c1 : (wr.setCell ⟨w.heap.size + 1 + 1, k, none⟩ (.int .u64 (wd G1 k : Int))).cell? ⟨w.heap.size, c, none⟩ = some (.int .u64 (wd f c : Int)) := (cell_set_far _ _ _ _ (by dsimp only; omega)).trans cc
        have hm2 := heap_setCell_same _ _ k _ _ (.int .u64 (wd G1 k : Int)) hm
        have c2 : (wr.setCell ⟨w.heap.size + 1 + 1, k, none⟩ (.int .u64 (wd G1 k : Int))).cell? ⟨w.heap.size + 1 + 1, k, none⟩ = some (.int .u64 (wd G1 k : Int)) := by
          rw [cell_of_row _ _ k _ _ _ hm2]
          simp [mv_size, hlt]
        have f2 := frozen_of_row _ _ k _ _ hm2
        have HM2 : Hid ((wr.setCell ⟨w.heap.size + 1 + 1, k, none⟩ (.int .u64 (wd G1 k : Int))).heap[w.heap.size + 1 + 1]? = some (.cells ((mv fun t => decide (t < 64 * k) && (decide (b ≤ t) && f (t - b))).setIfInBounds k (.int .u64 (wd G1 k : Int))) 43 (0, 0))) := hm2
        clear hm2 hkd hc
        go_wp2
        go_region
        go_wp2
        go_roundw
        case rel =>
          have hD := HD.out
          refine ⟨k + 1, d + 1, by omega, by omega, by go_num, ?_, ?_, ?_, ((hbel.setCell (by dsimp only; omega) _).setCell (by dsimp only; omega) _).drew⟩
          · exact ((heap_setCell_other _ _ _ _ (by dsimp only; omega)).trans (heap_setCell_other _ _ _ _ (by dsimp only; omega))).trans ha
          · exact ((heap_setCell_other _ _ _ _ (by dsimp only; omega)).trans (heap_setCell_other _ _ _ _ (by dsimp only; omega))).trans ho
          · exact blk_eq (heap_setCell_same _ _ _ _ _ _ HM2.out) (mv_step2 k hlt (fun t => decide (b ≤ t) && f (t - b)) _)
        case measure => simp [intOf]; omega
    · have hk23 : k = 23 := by omega
      subst hk23
      have hm' := blk_eq hm (mv_full _)
      clear hm HD hkd
      go_wp2_with (first
        | (refine wpList_load_row rfl 43 _ rfl _ rfl _ _ _ _ hm' maskType rfl (maskSize _) ?_)
        | (refine wpList_store_row rfl 43 _ _ rfl _ _ rfl rfl _ _ ho (maskSize _) (by simp [mv_size]) (mv_all _) ?_))
      refine bodyPost_ret (v := .agg (mv fun t => decide (b ≤ t) && f (t - b))) ?_ rfl ⟨rfl, ?_⟩
      · exact results_cell_row rfl _ _ (w.heap.size + 1) _ _ _ _ rfl (setRow_heap _ _ _ _ _ _ ho) maskType rfl (maskSize _)
      · exact below_setRow hbel (by omega) _
end Go.Proofs.YtgfjbcdjpkcbkaaGreatDoor

/- What masks.earlier comes to, and masks.Shift. -/
namespace Go.Proofs.YtgfjbcdjpkcbkaaGreatDoor
open Go.RowKit Msk
theorem down_full (f : Nat → Bool) (b q d : Nat) (hq : q = b / 64) (hd : 23 = q + d) : (mv fun t => decide (t < 64 * d) && (decide (t + b < 1472) && f (t + b))) = mv fun t => decide (t + b < 1472) && f (t + b) := mv_ext fun t ht => by
  by_cases h : t < 64 * d
  · simp [h]
  · have : ¬ t + b < 1472 := by omega
    simp [this]
theorem down_put22 (f : Nat → Bool) (b i q r d : Nat) (hq : q = b / 64) (hr : r = b % 64) (hd : i = q + d) (h22 : i = 22) :
    (wd f i : Int) / 2 ^ r = ((wd (fun t => decide (t + b < 1472) && f (t + b)) d : Nat) : Int) := by
  rw [down_put1 f b i q r d hq hr hd]
  rw [wd_ext (f := fun t => decide (t + b < 64 * (i + 1)) && f (t + b)) (g := fun t => decide (t + b < 1472) && f (t + b)) fun j _ => by
    have : (64 * d + j + b < 64 * (i + 1)) = (64 * d + j + b < 1472) := by apply propext; omega
    simp only [this]]
set_option maxRecDepth 10000 in
set_option maxHeartbeats 2000000 in
theorem earlier_any (f : Nat → Bool) (b : Nat) (hb : b < 1440) (w : World) :
    Calls Tryz.prog 62 #[.agg (mv f), .int .i64 b] w fun e w' => e = .returned (.agg (mv fun t => decide (t + b < 1472) && f (t + b))) ∧ Below w.heap.size w w' := by
  have hz := mv_lit
  obtain ⟨q, hq⟩ : ∃ q : Nat, q = b / 64 := ⟨_, rfl⟩
  obtain ⟨r, hr⟩ : ∃ r : Nat, r = b % 64 := ⟨_, rfl⟩
  have HQ : Hid (q = b / 64) := hq
  have HR : Hid (r = b % 64) := hr
  have t1 : (b : Int) / 64 = (q : Int) := by omega
  have t2 : (b : Int) % 64 = (r : Int) := by omega
  have hq23 : q < 23 := by omega
  have hr64 : r < 64 := by omega
  clear hq hr
  go_enter Tryz.func62, Tryz.ntmps62
  go_wp2
  go_loopw [8] (fun i wr => ∃ k d : Nat, k ≤ 23 ∧ k = q + d ∧ i = .int .i64 k ∧ wr.heap[w.heap.size]? = some (.cells (mv f) 43 (0, 0)) ∧ wr.heap[w.heap.size + 1]? = some (.cells (mv fun _ => false) 43 (0, 0)) ∧
      wr.heap[w.heap.size + 1 + 1]? = some (.cells (mv fun t => decide (t < 64 * d) && (decide (t + b < 1472) && f (t + b))) 43 (0, 0)) ∧ Below w.heap.size w wr) (fun i _ => 23 - (intOf i).toNat)
  case atStart =>
    refine ⟨q, 0, by omega, rfl, rfl, ?_, ?_, ?_, ?_⟩
    · (repeat (first | refine blk_old _ _ _ (by simp only [size_alloc]; omega) ?_ | exact blk_new _ _ _ (by first | rfl | simp only [size_alloc])))
    · (repeat (first | refine blk_old _ _ _ (by simp only [size_alloc]; omega) ?_ | exact blk_new _ _ _ (by first | rfl | simp only [size_alloc])))
    · refine blk_eq ?_ (mv_start _)
      (repeat (first | refine blk_old _ _ _ (by simp only [size_alloc]; omega) ?_ | exact blk_new _ _ _ (by first | rfl | simp only [size_alloc])))
    · exact (((Below.refl _ _).alloc (Nat.le_refl _) _).alloc (by simp) _).alloc (by simp only [size_alloc]; omega) _
  case round =>
    obtain ⟨k, d, hk, hkd, rfl, ha, ho, hm, hbel⟩ := hrel
    have HD : Hid (k = q + d) := hkd
    by_cases hlt : k < 23
    · have ca := cell_mv ha k (by omega)
      have hd23 : d < 23 := by omega
      have cm := cell_mv hm d hd23
      have fm := frozen_of_row _ _ d _ _ hm
      have e1 : (k : Int) - (q : Int) = (d : Int) := by omega
      have hi0 : (0 : Int) ≤ (d : Int) := by omega
      have hi1 : (d : Int) < 23 := by omega
      have p1 := down_put1 f b k q r d HQ.out HR.out hkd
      by_cases hd0 : k = 22
      · have hlast : (22 : Int) ≤ (k : Int) := by omega
        have p3 := down_put22 f b k q r d HQ.out HR.out hkd hd0
        have HK : Hid (k = 22) := hd0
        clear p1 hkd hd0
        go_wp2
        go_roundw
        case rel =>
          have hD := HD.out
          have hK := HK.out
          refine ⟨k + 1, d + 1, by omega, by omega, by go_num, ?_, ?_, ?_, hbel.setCell (by dsimp only; omega) _⟩
          · exact (heap_setCell_other _ _ _ _ (by dsimp only; omega)).trans ha
          · exact (heap_setCell_other _ _ _ _ (by dsimp only; omega)).trans ho
          · exact blk_eq (heap_setCell_same _ _ _ _ _ _ hm) (mv_step d hd23 fun t => decide (t + b < 1472) && f (t + b))
        case measure =>
          have hK := HK.out
          simp [intOf]; omega
      · have p2 := down_put2 f b k q r d HQ.out HR.out hkd (by omega)
        generalize (fun t => decide (t + b < 64 * (k + 1)) && f (t + b)) = G1 at p1 p2
        obtain ⟨c, hc⟩ : ∃ c, c = k + 1 := ⟨_, rfl⟩
        rw [← hc] at p2
        have e2 : (k : Int) + 1 = (c : Int) := by omega
        have e3 : IntKind.i64.wrap ((k : Int) - (q : Int)) = (d : Int) := by rw [IntKind.wrap_i64]; omega
        have e4 : IntKind.i64.wrap ((k : Int) + 1) = (c : Int) := by rw [IntKind.wrap_i64]; omega
        have e5 : IntKind.i64.wrap (64 - (r : Int)) = 64 - (r : Int) := by rw [IntKind.wrap_i64]; omega
        have e6 : (64 - (r : Int)).toNat = 64 - r := by omega
        have e7 : (0 : Int) ≤ 64 - (r : Int) := by omega
        have j0 : (0 : Int) ≤ (c : Int) := by omega
        have j1 : (c : Int) < 23 := by omega
        have cc := cell_mv ha c (by omega)
        have c1 : (wr.setCell ⟨w.heap.size + 1 + 1, d, none⟩ (.int .u64 (wd G1 d : Int))).cell? ⟨w.heap.size, c, none⟩ = some (.int .u64 (wd f c : Int)) := (cell_set_far _ _ _ _ (by dsimp only; omega)).trans cc
        have hm2 := heap_setCell_same _ _ d _ _ (.int .u64 (wd G1 d : Int)) hm
        have c2 : (wr.setCell ⟨w.heap.size + 1 + 1, d, none⟩ (.int .u64 (wd G1 d : Int))).cell? ⟨w.heap.size + 1 + 1, d, none⟩ = some (.int .u64 (wd G1 d : Int)) := by
          rw [cell_of_row _ _ d _ _ _ hm2]
          simp [mv_size, hd23]
        have f2 := frozen_of_row _ _ d _ _ hm2
        have HM2 : Hid ((wr.setCell ⟨w.heap.size + 1 + 1, d, none⟩ (.int .u64 (wd G1 d : Int))).heap[w.heap.size + 1 + 1]? = some (.cells ((mv fun t => decide (t < 64 * d) && (decide (t + b < 1472) && f (t + b))).setIfInBounds d (.int .u64 (wd G1 d : Int))) 43 (0, 0))) := hm2
        have HC : Hid (c = k + 1) := hc
        clear hm2 hkd hc
        go_wp2
        go_region
        go_wp2
        go_roundw
        case rel =>
          have hD := HD.out
          have hC := HC.out
          refine ⟨c, d + 1, by omega, by omega, by go_num, ?_, ?_, ?_, ((hbel.setCell (by dsimp only; omega) _).setCell (by dsimp only; omega) _).drew⟩
          · exact ((heap_setCell_other _ _ _ _ (by dsimp only; omega)).trans (heap_setCell_other _ _ _ _ (by dsimp only; omega))).trans ha
          · exact ((heap_setCell_other _ _ _ _ (by dsimp only; omega)).trans (heap_setCell_other _ _ _ _ (by dsimp only; omega))).trans ho
          · refine blk_eq (heap_setCell_same _ _ _ _ _ _ HM2.out) ?_
            exact mv_step2 d hd23 (fun t => decide (t + b < 1472) && f (t + b)) _
        case measure =>
          have hC := HC.out
          simp [intOf]; omega
    · have hk23 : k = 23 := by omega
      subst hk23
      have hm' := blk_eq hm (down_full f b q d HQ.out HD.out)
      clear hm HD hkd
      go_wp2_with (first
        | (refine wpList_load_row rfl 43 _ rfl _ rfl _ _ _ _ hm' maskType rfl (maskSize _) ?_)
        | (refine wpList_store_row rfl 43 _ _ rfl _ _ rfl rfl _ _ ho (maskSize _) (by simp [mv_size]) (mv_all _) ?_))
      refine bodyPost_ret (v := .agg (mv fun t => decide (t + b < 1472) && f (t + b))) ?_ rfl ⟨rfl, ?_⟩
      · exact results_cell_row rfl _ _ (w.heap.size + 1) _ _ _ _ rfl (setRow_heap _ _ _ _ _ _ ho) maskType rfl (maskSize _)
      · exact below_setRow hbel (by omega) _
end Go.Proofs.YtgfjbcdjpkcbkaaGreatDoor

/- What masks.Shift comes to. -/
namespace Go.Proofs.YtgfjbcdjpkcbkaaGreatDoor
open Go.RowKit Msk
def shf (f : Nat → Bool) (x : Int) (t : Nat) : Bool := decide (t < 1440) && (decide (x ≤ (t : Int)) && (decide ((t : Int) - x < 1440) && f ((t : Int) - x).toNat))
theorem shf_none (f : Nat → Bool) (x : Int) (h : x ≤ -1440 ∨ 1440 ≤ x) : (mv fun _ => false) = mv (shf f x) := mv_ext fun t _ => by
  unfold shf
  by_cases h1 : t < 1440
  · by_cases h2 : x ≤ (t : Int)
    · have : ¬ (t : Int) - x < 1440 := by omega
      simp [this]
    · simp [h2]
  · simp [h1]
theorem shf_up (f : Nat → Bool) (b : Nat) : (mv fun t => (decide (b ≤ t) && f (t - b)) && decide (t < 1440)) = mv (shf f (b : Int)) := mv_ext fun t _ => by
  unfold shf
  by_cases h1 : t < 1440
  · by_cases h2 : b ≤ t
    · have e1 : ((t : Int) - (b : Int)).toNat = t - b := by omega
      have e2 : (b : Int) ≤ (t : Int) := by omega
      have e3 : (t : Int) - (b : Int) < 1440 := by omega
      simp [h1, h2, e1, e3]
    · have e2 : ¬ (b : Int) ≤ (t : Int) := by omega
      simp [h2]
  · simp [h1]
theorem shf_down (f : Nat → Bool) (b : Nat) : (mv fun t => decide (t + b < 1472) && (f (t + b) && decide (t + b < 1440))) = mv (shf f (-(b : Int))) := mv_ext fun t _ => by
  unfold shf
  by_cases h1 : t + b < 1440
  · have e1 : ((t : Int) - -(b : Int)).toNat = t + b := by omega
    have e2 : -(b : Int) ≤ (t : Int) := by omega
    have e3 : (t : Int) - -(b : Int) < 1440 := by omega
    have e4 : t + b < 1472 := by omega
    have e5 : t < 1440 := by omega
    rw [e1]
    simp only [h1, e2, e3, e4, e5, decide_true, Bool.true_and, Bool.and_true]
  · have e3 : ¬ (t : Int) - -(b : Int) < 1440 := by omega
    simp only [h1, e3, decide_false, Bool.and_false, Bool.false_and]
set_option maxRecDepth 10000 in
set_option maxHeartbeats 2000000 in
theorem mshift_any (f : Nat → Bool) (x : Int) (w : World) (hx0 : -9223372036854775808 ≤ x) (hx1 : x ≤ 9223372036854775807) :
    Calls Tryz.prog 48 #[.agg (mv f), .int .i64 x] w fun e w' => e = .returned (.agg (mv (shf f x))) ∧ Below w.heap.size w w' := by
  have hz := mv_lit
  have h1 : ((w.alloc (.cells (mv f) 43)).alloc (.cells (mv fun _ => false) 43)).heap[w.heap.size]? = some (.cells (mv f) 43 (0, 0)) := by (repeat (first | refine blk_old _ _ _ (by simp only [size_alloc]; omega) ?_ | exact blk_new _ _ _ (by first | rfl | simp only [size_alloc])))
  have h3 : ((w.alloc (.cells (mv f) 43)).alloc (.cells (mv fun _ => false) 43)).heap[w.heap.size + 1]? = some (.cells (mv fun _ => false) 43 (0, 0)) := by (repeat (first | refine blk_old _ _ _ (by simp only [size_alloc]; omega) ?_ | exact blk_new _ _ _ (by first | rfl | simp only [size_alloc])))
  have hb0 : Below w.heap.size w ((w.alloc (.cells (mv f) 43)).alloc (.cells (mv fun _ => false) 43)) := ((Below.refl _ _).alloc (Nat.le_refl _) _).alloc (by simp) _
  rcases (show (x ≤ -1440) ∨ (1440 ≤ x) ∨ (-1440 < x ∧ x < 0) ∨ (0 ≤ x ∧ x < 1440) from by omega) with h | h | ⟨h, h'⟩ | ⟨h, h'⟩
  · rw [← shf_none f x (.inl h)]
    go_enter Tryz.func48, Tryz.ntmps48
    go_wp2_with (refine wpList_store_row rfl 43 _ _ rfl _ _ rfl rfl _ _ h3 (maskSize _) (by simp [mv_size]) (mv_all _) ?_)
    refine bodyPost_ret (v := .agg (mv fun _ => false)) ?_ rfl ⟨rfl, below_setRow hb0 (by omega) _⟩
    exact results_cell_row rfl _ _ (w.heap.size + 1) _ _ _ _ rfl (setRow_heap _ _ _ _ _ _ h3) maskType rfl (maskSize _)
  · rw [← shf_none f x (.inr h)]
    have hno : ¬ x ≤ -1440 := by omega
    go_enter Tryz.func48, Tryz.ntmps48
    go_wp2_with (refine wpList_store_row rfl 43 _ _ rfl _ _ rfl rfl _ _ h3 (maskSize _) (by simp [mv_size]) (mv_all _) ?_)
    refine bodyPost_ret (v := .agg (mv fun _ => false)) ?_ rfl ⟨rfl, below_setRow hb0 (by omega) _⟩
    exact results_cell_row rfl _ _ (w.heap.size + 1) _ _ _ _ rfl (setRow_heap _ _ _ _ _ _ h3) maskType rfl (maskSize _)
  · obtain ⟨b, hb⟩ : ∃ b : Nat, -x = b := ⟨(-x).toNat, by omega⟩
    have hb2 : b < 1440 := by omega
    have hx : x = -(b : Int) := by omega
    have hshf := shf_down f b
    rw [← hx] at hshf
    rw [← hshf]
    clear hshf hx
    go_enter Tryz.func48, Tryz.ntmps48
    go_wp2_with (first
      | (refine wpList_load_row rfl 43 _ rfl _ rfl _ _ _ _ h1 maskType rfl (maskSize _) ?_)
      | (go_at_call 26; refine (trim_any _ _).mono ?_; rintro e w' ⟨rfl, hb'⟩; have ho' := (hb'.block _ (lt_of_block h3)).trans h3)
      | (go_at_call 62; refine (earlier_any _ _ hb2 _).mono ?_; rintro e w'' ⟨rfl, hb''⟩; have ho'' := (hb''.block _ (lt_of_block ho')).trans ho')
      | (refine wpList_store_row rfl 43 _ _ rfl _ _ rfl rfl _ _ ho'' (maskSize _) (by simp [mv_size]) (mv_all _) ?_))
    refine bodyPost_ret (v := .agg (mv fun t => decide (t + b < 1472) && (f (t + b) && decide (t + b < 1440)))) ?_ rfl ⟨rfl, ?_⟩
    · exact results_cell_row rfl _ _ (w.heap.size + 1) _ _ _ _ rfl (setRow_heap _ _ _ _ _ _ ho'') maskType rfl (maskSize _)
    · have hb1 := hb0.trans (hb'.mono hb0.size)
      exact below_setRow (hb1.trans (hb''.mono hb1.size)) (by omega) _
  · obtain ⟨b, rfl⟩ : ∃ b : Nat, x = b := ⟨x.toNat, by omega⟩
    rw [← shf_up f b]
    have hb2 : b < 1440 := by omega
    go_enter Tryz.func48, Tryz.ntmps48
    go_wp2_with (first
      | (refine wpList_load_row rfl 43 _ rfl _ rfl _ _ _ _ h1 maskType rfl (maskSize _) ?_)
      | (go_at_call 63; refine (later_any _ _ hb2 _).mono ?_; rintro e w' ⟨rfl, hb'⟩; have ho' := (hb'.block _ (lt_of_block h3)).trans h3)
      | (go_at_call 26; refine (trim_any _ _).mono ?_; rintro e w'' ⟨rfl, hb''⟩; have ho'' := (hb''.block _ (lt_of_block ho')).trans ho')
      | (refine wpList_store_row rfl 43 _ _ rfl _ _ rfl rfl _ _ ho'' (maskSize _) (by simp [mv_size]) (mv_all _) ?_))
    refine bodyPost_ret (v := .agg (mv fun t => (decide (b ≤ t) && f (t - b)) && decide (t < 1440))) ?_ rfl ⟨rfl, ?_⟩
    · exact results_cell_row rfl _ _ (w.heap.size + 1) _ _ _ _ rfl (setRow_heap _ _ _ _ _ _ ho'') maskType rfl (maskSize _)
    · have hb1 := hb0.trans (hb'.mono hb0.size)
      exact below_setRow (hb1.trans (hb''.mono hb1.size)) (by omega) _
end Go.Proofs.YtgfjbcdjpkcbkaaGreatDoor

/- Regions that draw their order and yield values that are known beforehand: the frame behind them is written out. It speaks of no program. -/
namespace Go.Proofs.YtgfjbcdjpkcbkaaGreatDoor
open Go Go.RowKit
def putAll (ds : List (Nat × Value)) (a : Act) : Act := ds.foldl (fun a p => a.put (some p.1) p.2) a
theorem putAll_nil (a : Act) : putAll [] a = a := rfl
theorem putAll_cons (p : Nat × Value) (ds : List (Nat × Value)) (a : Act) : putAll (p :: ds) a = putAll ds (a.put (some p.1) p.2) := rfl
theorem putAll_defers : ∀ (ds : List (Nat × Value)) (a : Act), (putAll ds a).defers = a.defers
  | [], _ => rfl
  | p :: ds, a => (putAll_defers ds (a.put (some p.1) p.2)).trans rfl
theorem putAll_size : ∀ (ds : List (Nat × Value)) (a : Act), (putAll ds a).tmps.size = a.tmps.size
  | [], _ => rfl
  | p :: ds, a => (putAll_size ds (a.put (some p.1) p.2)).trans (by simp [Act.put])
theorem putAll_other : ∀ (ds : List (Nat × Value)) (a : Act) (s : Nat), (∀ p ∈ ds, p.1 ≠ s) → (putAll ds a).tmps.getD s undef = a.tmps.getD s undef
  | [], _, _, _ => rfl
  | p :: ds, a, s, h => by
    rw [putAll_cons, putAll_other ds _ s (fun q hq => h q (List.mem_cons_of_mem _ hq))]
    exact getD_set_other _ _ _ _ (h p List.mem_cons_self)
theorem putAll_same : ∀ (ds : List (Nat × Value)) (a : Act) (j s : Nat) (v : Value), (ds.map (fun p => some p.1)).Nodup → s < a.tmps.size → ds[j]? = some (s, v) → (putAll ds a).tmps.getD s undef = v
  | [], _, _, _, _, _, _, h => by simp at h
  | p :: ds, a, 0, s, v, hn, hs, h => by
    simp at h
    subst h
    rw [putAll_cons, putAll_other ds _ s ?_]
    · exact getD_set_same _ _ _ hs
    · intro q hq e
      rw [List.map_cons, List.nodup_cons] at hn
      exact hn.1 (List.mem_map.2 ⟨q, hq, by rw [e]⟩)
  | p :: ds, a, j + 1, s, v, hn, hs, h => by
    rw [putAll_cons]
    rw [List.map_cons, List.nodup_cons] at hn
    exact putAll_same ds _ j s v hn.2 (by simpa [Act.put] using hs) (by simpa using h)
theorem act_is {A a0 : Act} (ds : List (Nat × Value)) (hd : A.defers = a0.defers) (hs : A.tmps.size = a0.tmps.size) (hn : (ds.map (fun p => some p.1)).Nodup)
    (hk : ∀ s, (∀ p ∈ ds, p.1 ≠ s) → A.tmps.getD s undef = a0.tmps.getD s undef) (hh : ∀ (j s : Nat) (v : Value), ds[j]? = some (s, v) → A.tmps.getD s undef = v) : A = putAll ds a0 := by
  have e1 := putAll_defers ds a0
  have e2 := putAll_size ds a0
  have e3 : ∀ s, s < a0.tmps.size → A.tmps.getD s undef = (putAll ds a0).tmps.getD s undef := by
    intro s hs'
    by_cases h : ∃ p ∈ ds, p.1 = s
    · obtain ⟨p, hp, rfl⟩ := h
      obtain ⟨j, hj⟩ := List.getElem?_of_mem hp
      rw [hh j _ _ hj, putAll_same ds a0 j _ _ hn hs' hj]
    · have h' : ∀ p ∈ ds, p.1 ≠ s := fun p hp e => h ⟨p, hp, e⟩
      rw [hk s h', putAll_other ds a0 s h']
  generalize putAll ds a0 = F at *
  obtain ⟨t, d⟩ := A
  obtain ⟨t', d'⟩ := F
  dsimp only at *
  have : t = t' := by
    apply Array.ext
    · omega
    · intro i h1 h2
      have := e3 i (by omega)
      simpa [Array.getD, h1, h2] using this
  rw [this, hd, e1]
section
variable {P : Program} {ops : Array Oper} {Q : Exit → Act → World → Prop} {id : Nat} {a0 : Act} {w : World}
def StepV (P : Program) (ops : Array Oper) (Q : Exit → Act → World → Prop) (ds : List (Nat × Value)) (a0 : Act) (w : World) : Prop :=
  ∀ (i s : Nat) (v : Value) (o : Oper) (L : Nat → Bool) (A : Act) (W : World), ops[i]? = some o → ds[i]? = some (s, v) → (∀ e ∈ o.after, Region.binds .any e = true → L e.on = true) → Below w.heap.size w W →
    (∀ s, notDst ops s = true → A.tmps.getD s undef = a0.tmps.getD s undef) → (∀ (j s : Nat) (u : Value), ds[j]? = some (s, u) → L j = true → A.tmps.getD s undef = u) → wpOp P ops Q i (fun a' W' => a' = A.put (some s) v ∧ Below W.heap.size W W') A W
theorem dst_at {k : Nat} {ds : List (Nat × Value)} (hds : (ops.toList.take k).map (fun o => o.dst) = ds.map (fun p => some p.1)) {i s : Nat} {v : Value} {o : Oper} (ho : ops[i]? = some o) (h : ds[i]? = some (s, v)) : o.dst = some s := by
  have h1 : (ds.map (fun p => some p.1))[i]? = some (some s) := by rw [List.getElem?_map, h]; rfl
  rw [← hds, List.getElem?_map] at h1
  have h2 : (ops.toList.take k)[i]? = some o ∨ (ops.toList.take k)[i]? = none := by
    rw [List.getElem?_take]
    split
    · left; simpa using ho
    · right; rfl
  rcases h2 with h2 | h2
  · rw [h2] at h1; simpa using h1
  · rw [h2] at h1; simp at h1
theorem at_dst {k : Nat} {ds : List (Nat × Value)} (hds : (ops.toList.take k).map (fun o => o.dst) = ds.map (fun p => some p.1)) {i : Nat} {o : Oper} (hi : i < k) (ho : ops[i]? = some o) : ∃ s v, ds[i]? = some (s, v) := by
  have h1 : (ops.toList.take k)[i]? = some o := by rw [List.getElem?_take, if_pos hi]; simpa using ho
  have h2 : ((ops.toList.take k).map (fun o => o.dst))[i]? = some o.dst := by rw [List.getElem?_map, h1]; rfl
  rw [hds, List.getElem?_map] at h2
  cases h3 : ds[i]? with
  | none => rw [h3] at h2; simp at h2
  | some p => exact ⟨p.1, p.2, rfl⟩
theorem wp_region_vals (hm : P.follows .mixedOrders = true) (hback : backB ops = true) (hdst : dstB ops = true) (hin : inB ops a0.tmps.size = true) (ds : List (Nat × Value))
    (hds : (ops.toList.take ops.size).map (fun o => o.dst) = ds.map (fun p => some p.1)) (hnd : decide (((ops.toList.take ops.size).map (fun o => o.dst)).Nodup) = true)
    (hstep : StepV P ops Q ds a0 w) (hend : ∀ W, Below w.heap.size w W → Q .normal (putAll ds a0) W) : (Code.region id ops true).wp P Q a0 w := by
  have hnd' : (ds.map (fun p => some p.1)).Nodup := by rw [← hds]; exact of_decide_eq_true hnd
  refine wp_region_flow hm hback hdst hin (fun _ _ W => Below w.heap.size w W) (fun j x _ => ∀ s v, ds[j]? = some (s, v) → x = v) ?_ ?_ ?_
  · intro L _
    exact (Below.refl _ _).drew
  · intro i o L A W ho hLi hdep hJ hdef hkept hhas
    have hi : i < ops.size := (Array.getElem?_eq_some_iff.1 ho).1
    obtain ⟨s, v, hv⟩ := at_dst hds hi ho
    have hd := dst_at hds ho hv
    refine wpOp_mono ?_ (hstep i s v o L A W ho hv hdep hJ (fun s' h => hkept s' fun j p hp _ => nd h j p hp) (fun j s' u hj hL => ?_))
    · rintro a' W' ⟨rfl, hb⟩
      exact ⟨v, by rw [hd], fun _ s' v' h => by rw [hv] at h; cases h; rfl, fun _ _ _ h => h, hJ.trans (hb.mono hJ.size)⟩
    · have hj' : j < ds.length := (List.getElem?_eq_some_iff.1 hj).1
      have hl : ds.length = ops.size := by have := congrArg List.length hds; simpa using this.symm
      obtain ⟨p, hp⟩ : ∃ p, ops[j]? = some p := ⟨ops[j]'(by omega), Array.getElem?_eq_getElem _⟩
      exact hhas j p hp hL s' (dst_at hds hp hj) s' u hj
  · intro L A W hL hJ hdef hsize hkept hhas
    have : A = putAll ds a0 := act_is ds hdef hsize hnd' (fun s h => hkept s fun j p hp e => ?_) (fun j s v hj => ?_)
    · rw [this]; exact hend W hJ
    · have hi : j < ops.size := (Array.getElem?_eq_some_iff.1 hp).1
      obtain ⟨s', v, hv⟩ := at_dst hds hi hp
      have := (dst_at hds hp hv).symm.trans e
      cases this
      exact h _ (List.mem_of_getElem? hv) rfl
    · have hj' : j < ds.length := (List.getElem?_eq_some_iff.1 hj).1
      have hl : ds.length = ops.size := by have := congrArg List.length hds; simpa using this.symm
      obtain ⟨p, hp⟩ : ∃ p, ops[j]? = some p := ⟨ops[j]'(by omega), Array.getElem?_eq_getElem _⟩
      exact hhas j p hp s (dst_at hds hp hj) s v hj
def useB (ops : Array Oper) : Bool := (List.range (ops.size - 1)).all fun i => (List.range ops.size).any fun j => decide (i < j) && match ops[j]? with | none => false | some o => o.after.any fun e => Region.binds .any e && decide (e.on = i)
theorem use_all (hu : useB ops = true) {n : Nat} (hn : ops.size = n + 1) {L : Nat → Bool} (hc : ∀ (j : Nat) (p : Oper), ops[j]? = some p → L j = true → ∀ e ∈ p.after, Region.binds .any e = true → L e.on = true) (hL : L n = true) : ∀ k i, n - i ≤ k → i ≤ n → L i = true
  | 0, i, hk, hi => by rw [show i = n by omega]; exact hL
  | k + 1, i, hk, hi => by
    by_cases e : i = n
    · rw [e]; exact hL
    have h1 := List.all_eq_true.1 hu i (by simp; omega)
    obtain ⟨j, hj, h2⟩ := List.any_eq_true.1 h1
    simp at hj
    simp only [Bool.and_eq_true, decide_eq_true_eq] at h2
    obtain ⟨hij, h3⟩ := h2
    cases ho : ops[j]? with
    | none => rw [ho] at h3; cases h3
    | some o =>
      rw [ho] at h3
      obtain ⟨e', he, h4⟩ := Array.any_eq_true'.1 h3
      simp only [Bool.and_eq_true, decide_eq_true_eq] at h4
      have := hc j o ho (use_all hu hn hc hL k j (by omega) (by omega)) e' he h4.1
      rw [h4.2] at this
      exact this
end
end Go.Proofs.YtgfjbcdjpkcbkaaGreatDoor

/- A region that draws its order, whose values are known beforehand, and whose operations keep what is said of the world; the last one waits for all. It speaks of no program. -/
namespace Go.Proofs.YtgfjbcdjpkcbkaaGreatDoor
open Go Go.RowKit
section
variable {P : Program} {ops : Array Oper} {Q : Exit → Act → World → Prop} {id : Nat} {a0 : Act} {w : World}
def StepJ (P : Program) (ops : Array Oper) (Q : Exit → Act → World → Prop) (ds : List (Nat × Value)) (a0 : Act) (J : World → Prop) : Prop :=
  ∀ (i s : Nat) (v : Value) (o : Oper) (L : Nat → Bool) (A : Act) (W : World), ops[i]? = some o → ds[i]? = some (s, v) → (∀ e ∈ o.after, Region.binds .any e = true → L e.on = true) → J W →
    (∀ s, notDst ops s = true → A.tmps.getD s undef = a0.tmps.getD s undef) → (∀ (j s : Nat) (u : Value), ds[j]? = some (s, u) → L j = true → A.tmps.getD s undef = u) → wpOp P ops Q i (fun a' W' => a' = A.put (some s) v ∧ J W') A W
theorem wp_region_lastJ (J : World → Prop) (hJ0 : J w.drew) (hm : P.follows .mixedOrders = true) (hback : backB ops = true) (hdst : dstB ops = true) (hin : inB ops a0.tmps.size = true) (n : Nat) (hn : ops.size = n + 1) (huse : useB ops = true) (ds : List (Nat × Value))
    (hds : (ops.toList.take n).map (fun o => o.dst) = ds.map (fun p => some p.1)) (hnd : decide (((ops.toList.take n).map (fun o => o.dst)).Nodup) = true)
    (hstep : StepJ P ops Q ds a0 J) (hlast : ∀ (o : Oper) (W : World), ops[n]? = some o → J W → wpOp P ops Q n (fun a' W' => (∃ v, a' = (putAll ds a0).put o.dst v) ∧ Q .normal a' W') (putAll ds a0) W) : (Code.region id ops true).wp P Q a0 w := by
  have hnd' : (ds.map (fun p => some p.1)).Nodup := by rw [← hds]; exact of_decide_eq_true hnd
  have hl : ds.length = n := by
    have h := congrArg List.length hds
    simp only [List.length_map, List.length_take, Array.length_toList] at h
    omega
  refine wp_region_flow hm hback hdst hin (fun L A W => (∀ (j : Nat) (p : Oper), ops[j]? = some p → L j = true → ∀ e ∈ p.after, Region.binds .any e = true → L e.on = true) ∧ (L n = false → J W ∧ A.tmps.size = a0.tmps.size) ∧ (L n = true → Q .normal A W)) (fun j x _ => ∀ s v, ds[j]? = some (s, v) → x = v) ?_ ?_ ?_
  · intro L h
    refine ⟨fun j p hp hj => ?_, fun _ => ⟨hJ0, rfl⟩, fun h' => ?_⟩
    · have := h j (Array.getElem?_eq_some_iff.1 hp).1
      rw [this] at hj; cases hj
    · rw [h n (by omega)] at h'; cases h'
  · intro i o L A W ho hLi hdep hJ hdef hkept hhas
    obtain ⟨hc, hbel, hdone⟩ := hJ
    have hi : i < ops.size := (Array.getElem?_eq_some_iff.1 ho).1
    have hLn : L n = false := by
      cases h : L n with
      | false => rfl
      | true =>
        have := use_all huse hn hc h n i (by omega) (by omega)
        rw [this] at hLi; cases hLi
    obtain ⟨hbw, hsz⟩ := hbel hLn
    have hc' : ∀ (j : Nat) (p : Oper), ops[j]? = some p → (decide (i = j) || L j) = true → ∀ e ∈ p.after, Region.binds .any e = true → (decide (i = e.on) || L e.on) = true := by
      intro j p hp hj e he hb
      by_cases hij : i = j
      · subst hij
        rw [ho] at hp
        cases hp
        rw [hdep e he hb]; simp
      · rw [hc j p hp (by simpa [hij] using hj) e he hb]; simp
    have hread : ∀ (j s : Nat) (u : Value), ds[j]? = some (s, u) → L j = true → A.tmps.getD s undef = u := fun j s' u hj hL => by
      have hj' : j < ds.length := (List.getElem?_eq_some_iff.1 hj).1
      obtain ⟨p, hp⟩ : ∃ p, ops[j]? = some p := ⟨ops[j]'(by omega), Array.getElem?_eq_getElem _⟩
      exact hhas j p hp hL s' (dst_at hds hp hj) s' u hj
    by_cases hin' : i = n
    · subst hin'
      have hall : ∀ j, j < i → L j = true := fun j hj => by
        have := use_all huse hn hc' (L := fun k => decide (i = k) || L k) (by simp) i j (by omega) (by omega)
        simpa [show i ≠ j by omega] using this
      have e : A = putAll ds a0 := by
        refine act_is ds hdef hsz hnd' (fun s h => hkept s fun j p hp hj e => ?_) (fun j s v hj => ?_)
        · have hjn : j < i := by
            have h1 := (Array.getElem?_eq_some_iff.1 hp).1
            have h2 : j ≠ i := fun e' => by rw [e', hLn] at hj; cases hj
            omega
          obtain ⟨s', v, hv⟩ := at_dst hds hjn hp
          have := (dst_at hds hp hv).symm.trans e
          cases this
          exact h _ (List.mem_of_getElem? hv) rfl
        · exact hread j s v hj (hall j (by have := (List.getElem?_eq_some_iff.1 hj).1; omega))
      rw [e]
      refine wpOp_mono ?_ (hlast o W ho hbw)
      rintro a' W' ⟨⟨v, hv⟩, hq⟩
      refine ⟨v, hv, fun _ s' v' h => ?_, fun _ _ _ h => h, hc', fun h => by simp at h, fun _ => hq⟩
      have := (List.getElem?_eq_some_iff.1 h).1
      omega
    · obtain ⟨s, v, hv⟩ := at_dst hds (show i < n by omega) ho
      have hd := dst_at hds ho hv
      refine wpOp_mono ?_ (hstep i s v o L A W ho hv hdep hbw (fun s' h => hkept s' fun j p hp _ => nd h j p hp) hread)
      rintro a' W' ⟨rfl, hb⟩
      refine ⟨v, by rw [hd], fun _ s' v' h => by rw [hv] at h; cases h; rfl, fun _ _ _ h => h, hc', fun _ => ⟨hb, by simpa [Act.put] using hsz⟩, fun h => ?_⟩
      simp [hin', hLn] at h
  · intro L A W hL hJ hdef hsize hkept hhas
    exact hJ.2.2 (hL n (by omega))
theorem wp_region_lastK (J : World → Prop) (hJ0 : J w.drew) (hm : P.follows .mixedOrders = true) (hback : backB ops = true) (hdst : dstB ops = true) (hin : inB ops a0.tmps.size = true) (n : Nat) (hn : ops.size = n + 1) (huse : useB ops = true) (ds : List (Nat × Value))
    (hds : (ops.toList.take n).map (fun o => o.dst) = ds.map (fun p => some p.1)) (hnd : decide (((ops.toList.take n).map (fun o => o.dst)).Nodup) = true)
    (hstep : StepJ P ops Q ds a0 J) (hlast : ∀ (o : Oper) (W : World) (A : Act), ops[n]? = some o → J W → A = putAll ds a0 → wpOp P ops Q n (fun a' W' => (∃ v, a' = A.put o.dst v) ∧ Q .normal a' W') A W) : (Code.region id ops true).wp P Q a0 w :=
  wp_region_lastJ J hJ0 hm hback hdst hin n hn huse ds hds hnd hstep fun o W ho hJ => hlast o W _ ho hJ rfl
end
end Go.Proofs.YtgfjbcdjpkcbkaaGreatDoor

/- What masks.fill comes to. -/
namespace Go.Proofs.YtgfjbcdjpkcbkaaGreatDoor
open Go.RowKit Msk
theorem fill_word (f : Nat → Bool) (x y : Nat) (h1 : x ≤ y) :
    bits .or .u64 (wd f (x / 64) : Int) (IntKind.u64.wrap (((2 ^ (y - x) - 1 : Nat) : Int) * 2 ^ (x % 64))) = ((wd (fun i => f i || (decide (x ≤ i) && decide (i < y))) (x / 64) : Nat) : Int) := by
  have e : IntKind.u64.wrap (((2 ^ (y - x) - 1 : Nat) : Int) * 2 ^ (x % 64)) = ((wd (fun i => decide (x ≤ i) && decide (i < y)) (x / 64) : Nat) : Int) := by
    have e1 : wd (fun i => decide (x ≤ i) && decide (i < y)) (x / 64) = (2 ^ (y - x) - 1) * 2 ^ (x % 64) % 18446744073709551616 := by
      symm
      refine wd_eq _ _ _ (Nat.mod_lt _ (by omega)) fun j hj => ?_
      rw [shl_bit _ _ j hj, ones_bit]
      have q1 : (x % 64 ≤ j) = (x ≤ 64 * (x / 64) + j) := by apply propext; omega
      by_cases hr : x % 64 ≤ j
      · have q2 : (j - x % 64 < y - x) = (64 * (x / 64) + j < y) := by apply propext; omega
        simp only [q1, q2]
      · have q3 : ¬ x ≤ 64 * (x / 64) + j := by omega
        simp [hr, q3]
    rw [IntKind.wrap_u64, e1]
    have : ((2 : Int) ^ (x % 64)) = ((2 ^ (x % 64) : Nat) : Int) := by simp
    rw [this]
    omega
  rw [e, bits_or_u64_nat _ _ (wd_lt _ _) (wd_lt _ _), wd_or]
theorem fill_mv (f : Nat → Bool) (x y : Nat) (h1 : x ≤ y) (h2 : y ≤ 64 * (x / 64) + 64) (hx : x < 1472) :
    (mv f).setIfInBounds (x / 64) (.int .u64 (bits .or .u64 (wd f (x / 64) : Int) (IntKind.u64.wrap (((2 ^ (y - x) - 1 : Nat) : Int) * 2 ^ (x % 64))))) = mv fun i => f i || (decide (x ≤ i) && decide (i < y)) := by
  rw [fill_word f x y h1, mv_set _ _ _ (by omega)]
  refine mv_ext fun i hi => ?_
  by_cases h : i / 64 = x / 64
  · rw [if_pos h]
  · rw [if_neg h]
    by_cases q : x ≤ i
    · have : ¬ i < y := by omega
      simp [this]
    · simp [q]
theorem fill_start (f : Nat → Bool) (x v : Int) (h : v = max x 0) : mv f = mv fun i => f i || (decide (x ≤ (i : Int)) && decide ((i : Int) < v)) := mv_ext fun i _ => by
  have : ¬ (x ≤ (i : Int) ∧ (i : Int) < v) := by omega
  by_cases h1 : x ≤ (i : Int)
  · have : ¬ (i : Int) < v := by omega
    simp [this]
  · simp [h1]
theorem fill_step (f : Nat → Bool) (x : Int) (k n : Nat) (h0 : x ≤ k) (hk : k ≤ n) : (mv fun i => (f i || (decide (x ≤ (i : Int)) && decide ((i : Int) < (k : Int)))) || (decide (k ≤ i) && decide (i < n))) = mv fun i => f i || (decide (x ≤ (i : Int)) && decide ((i : Int) < (n : Int))) := mv_ext fun i _ => by
  by_cases h1 : i < k
  · have h2 : ¬ k ≤ i := by omega
    have h3 : (i : Int) < k := by omega
    have h4 : (i : Int) < n := by omega
    simp [h2, h3, h4]
  · have h2 : k ≤ i := by omega
    have h3 : ¬ (i : Int) < k := by omega
    have h4 : ((i : Int) < n) = (i < n) := by apply propext; omega
    have h5 : x ≤ (i : Int) := by omega
    simp [h2, h3, h5]
theorem fill_put (f : Nat → Bool) (x : Int) (k n q r : Nat) (h0 : x ≤ k) (h1 : k ≤ n) (h2 : n ≤ 64 * (k / 64) + 64) (hx : k < 1472) (hq : q = k / 64) (hr : r = k % 64) (d : Nat) (hd : d = n - k)
    (F : Nat → Bool) (hF : F = fun i => f i || (decide (x ≤ (i : Int)) && decide ((i : Int) < (k : Int)))) :
    (mv F).setIfInBounds q (.int .u64 (bits .or .u64 (wd F q : Int) (IntKind.u64.wrap (((2 ^ d - 1 : Nat) : Int) * 2 ^ r)))) = mv fun i => f i || (decide (x ≤ (i : Int)) && decide ((i : Int) < (n : Int))) := by
  subst hq hr hd
  rw [fill_mv F k n h1 h2 hx, hF]
  exact fill_step f x k n h0 h1
theorem fill_end (f : Nat → Bool) (x y v : Int) (h1 : v = max x 0 ∨ (v ≤ y ∧ v ≤ 1440)) (h2 : y ≤ v ∨ 1440 ≤ v) : (mv fun i => f i || (decide (x ≤ (i : Int)) && decide ((i : Int) < v))) = mv fun i => f i || (decide (x ≤ (i : Int)) && decide ((i : Int) < y) && decide (i < 1440)) := mv_ext fun i _ => by
  congr 1
  rw [Bool.eq_iff_iff]
  simp only [Bool.and_eq_true, decide_eq_true_eq]
  omega
attribute [local go_sem ↓] Go.wp_at_zero Go.wp_at_succ
set_option maxRecDepth 10000 in
set_option maxHeartbeats 4000000 in
theorem fill_any (f : Nat → Bool) (g : Nat) (x y : Int) (w : World) (hg : w.heap[g]? = some (.cells (mv f) 43 (0, 0))) :
    Calls Tryz.prog 41 #[.pointer (some ⟨g, 0, none⟩), .agg #[.int .i64 x, .int .i64 y]] w fun e w' => e = .returned (.tuple #[]) ∧
      w'.heap[g]? = some (.cells (mv fun i => f i || (decide (x ≤ (i : Int)) && decide ((i : Int) < y) && decide (i < 1440))) 43 (0, 0)) ∧ Below g w w' := by
  have hgl := lt_of_block hg
  go_enter Tryz.func41, Tryz.ntmps41
  go_wp2
  go_region
  all_goals go_wp2
  all_goals
    go_loopw [4] (fun i wr => ∃ v : Int, i = .int .i64 v ∧ 0 ≤ v ∧ x ≤ v ∧ (v = max x 0 ∨ (v ≤ y ∧ v ≤ 1440)) ∧ wr.heap[g]? = some (.cells (mv fun i => f i || (decide (x ≤ (i : Int)) && decide ((i : Int) < v))) 43 (0, 0)) ∧ Below g w wr) (fun i _ => (1440 - intOf i).toNat)
    case atStart =>
      refine ⟨_, rfl, by omega, by omega, .inl (by omega), ?_, ?_⟩
      · exact blk_eq (blk_old _ _ _ hgl hg) (fill_start f x _ (by omega))
      · exact ((Below.refl _ _).alloc (Nat.le_of_lt hgl) _).drew
    case round =>
      obtain ⟨v, rfl, hv0, hvx, hv, hm, hbel⟩ := hrel
      by_cases hlt : v < y ∧ v < 1440
      · obtain ⟨hl1, hl2⟩ := hlt
        obtain ⟨k, rfl⟩ : ∃ k : Nat, v = k := ⟨v.toNat, by omega⟩
        obtain ⟨yn, rfl⟩ : ∃ yn : Nat, y = yn := ⟨y.toNat, by omega⟩
        generalize hF : (fun i : Nat => f i || (decide (x ≤ (i : Int)) && decide ((i : Int) < (k : Int)))) = F at hm
        have HF : Hid (F = fun i : Nat => f i || (decide (x ≤ (i : Int)) && decide ((i : Int) < (k : Int)))) := hF.symm
        obtain ⟨m, hm1⟩ : ∃ m : Nat, m = 64 * (k / 64) + 64 := ⟨_, rfl⟩
        have hmk : m ≤ k + 64 ∧ k < m ∧ m ≤ 1472 := by omega
        have HM : Hid (m = 64 * (k / 64) + 64) := hm1
        have cw := fun w => wordEnd_any k (by omega) w
        rw [← hm1] at cw
        have HV : Hid ((k : Int) = max x 0 ∨ ((k : Int) ≤ yn ∧ (k : Int) ≤ 1440)) := hv
        obtain ⟨q, hq⟩ : ∃ q : Nat, q = k / 64 := ⟨_, rfl⟩
        obtain ⟨r, hr⟩ : ∃ r : Nat, r = k % 64 := ⟨_, rfl⟩
        have HQ : Hid (q = k / 64) := hq
        have HR : Hid (r = k % 64) := hr
        have t1 : (k : Int) / 64 = (q : Int) := by omega
        have t2 : (k : Int) % 64 = (r : Int) := by omega
        have t3 : (k : Int).tdiv 64 = (q : Int) := by rw [Int.tdiv_eq_ediv_of_nonneg (by omega)]; exact t1
        have t4 : (k : Int).tmod 64 = (r : Int) := by rw [Int.tmod_eq_emod_of_nonneg (by omega)]; exact t2
        have cm := cell_mv hm q (by omega)
        have fm := frozen_of_row _ _ q _ _ hm
        have hi0 : (0 : Int) ≤ (q : Int) := by omega
        have hi1 : (q : Int) < 23 := by omega
        have hr0 : (0 : Int) ≤ (r : Int) := by omega
        have hr1 : (r : Int) < 64 := by omega
        have t5 : IntKind.i64.wrap (q : Int) = (q : Int) := by rw [IntKind.wrap_i64]; omega
        have t6 : IntKind.i64.wrap (r : Int) = (r : Int) := by rw [IntKind.wrap_i64]; omega
        have t7 : IntKind.i64.wrap ((m : Int) - (k : Int)) = (m : Int) - (k : Int) := by rw [IntKind.wrap_i64]; omega
        have t8 : IntKind.i64.wrap (1440 - (k : Int)) = 1440 - (k : Int) := by rw [IntKind.wrap_i64]; omega
        clear hv hm1 hq hr hF
        rcases (show (m ≤ yn ∧ m ≤ 1440) ∨ (yn < m ∧ yn ≤ 1440) ∨ (1440 < m ∧ 1440 < yn) from by omega) with hA | hA | hA
        · first
          | (exfalso; omega)
          | (have t9 : IntKind.i64.wrap ((m : Int) - (k : Int)) = (m : Int) - (k : Int) := by rw [IntKind.wrap_i64]; omega
             go_wp2_with (go_at_call 54; refine (cw _).mono ?_; rintro e w' ⟨rfl, rfl⟩)
             go_region_with ((go_at_call 55; refine (ones_at _ ?_ ?_ _).mono ?_; omega; omega; rintro e w2 ⟨rfl, rfl⟩))
             all_goals
               go_wp2
               go_roundw
               case rel =>
                 have hM := HM.out
                 refine ⟨m, rfl, by omega, by omega, .inr ⟨by omega, by omega⟩, ?_, (hbel.setCell (Nat.le_refl _) _).drew⟩
                 refine blk_eq (heap_setCell_same _ _ _ _ _ _ hm) ?_
                 exact fill_put f x k m q r hvx (by omega) (by omega) (by omega) HQ.out HR.out _ (by omega) F HF.out
               case measure => simp [intOf]; omega)
        · first
          | (exfalso; omega)
          | (have t9 : IntKind.i64.wrap ((yn : Int) - (k : Int)) = (yn : Int) - (k : Int) := by rw [IntKind.wrap_i64]; omega
             go_wp2_with (go_at_call 54; refine (cw _).mono ?_; rintro e w' ⟨rfl, rfl⟩)
             go_region_with ((go_at_call 55; refine (ones_at _ ?_ ?_ _).mono ?_; omega; omega; rintro e w2 ⟨rfl, rfl⟩))
             all_goals
               go_wp2
               go_roundw
               case rel =>
                 have hM := HM.out
                 refine ⟨yn, rfl, by omega, by omega, .inr ⟨by omega, by omega⟩, ?_, (hbel.setCell (Nat.le_refl _) _).drew⟩
                 refine blk_eq (heap_setCell_same _ _ _ _ _ _ hm) ?_
                 exact fill_put f x k yn q r hvx (by omega) (by omega) (by omega) HQ.out HR.out _ (by omega) F HF.out
               case measure => simp [intOf]; omega)
        · first
          | (exfalso; omega)
          | (have t9 : IntKind.i64.wrap ((1440 : Int) - (k : Int)) = (1440 : Int) - (k : Int) := by rw [IntKind.wrap_i64]; omega
             go_wp2_with (go_at_call 54; refine (cw _).mono ?_; rintro e w' ⟨rfl, rfl⟩)
             go_region_with ((go_at_call 55; refine (ones_at _ ?_ ?_ _).mono ?_; omega; omega; rintro e w2 ⟨rfl, rfl⟩))
             all_goals
               go_wp2
               go_roundw
               case rel =>
                 have hM := HM.out
                 refine ⟨1440, rfl, by omega, by omega, .inr ⟨by omega, by omega⟩, ?_, (hbel.setCell (Nat.le_refl _) _).drew⟩
                 refine blk_eq (heap_setCell_same _ _ _ _ _ _ hm) ?_
                 exact fill_put f x k 1440 q r hvx (by omega) (by omega) (by omega) HQ.out HR.out _ (by omega) F HF.out
               case measure => simp [intOf]; omega)
      · go_wp2
        go_end0
        exact ⟨rfl, blk_eq hm (fill_end f x y v hv (by omega)), hbel⟩
end Go.Proofs.YtgfjbcdjpkcbkaaGreatDoor

/- What masks.Of comes to, over a row of spans that lies in memory. -/
namespace Go.Proofs.YtgfjbcdjpkcbkaaGreatDoor
open Go.RowKit Msk
def Row (w : World) (v : Value) (l : List (Int × Int)) : Prop :=
  (∃ c, v = .slice none 0 c ∧ l = []) ∨ ∃ g o c : Nat, v = .slice (some ⟨g, o, none⟩) l.length c ∧ l.length < 9223372036854775808 ∧ ∀ j, j < l.length → w.cell? ⟨g, o + j * 2, none⟩ = some (.int .i64 (l.getD j (0, 0)).1) ∧ w.cell? ⟨g, o + j * 2 + 1, none⟩ = some (.int .i64 (l.getD j (0, 0)).2)
theorem Row.later {w w' : World} {v : Value} {l : List (Int × Int)} (h : Row w v l) (hb : Below w.heap.size w w') : Row w' v l := by
  rcases h with h | ⟨g, o, c, hv, hl, hc⟩
  · exact .inl h
  · refine .inr ⟨g, o, c, hv, hl, fun j hj => ?_⟩
    obtain ⟨c1, c2⟩ := hc j hj
    exact ⟨(hb.cell (block_lt_of_cell c1)).trans c1, (hb.cell (block_lt_of_cell c2)).trans c2⟩
def inl (l : List (Int × Int)) (i : Nat) : Bool := l.any fun s => decide (s.1 ≤ (i : Int)) && decide ((i : Int) < s.2) && decide (i < 1440)
theorem inl_snoc (l : List (Int × Int)) (k : Nat) (hk : k < l.length) : (mv fun i => inl (l.take k) i || (decide ((l.getD k (0, 0)).1 ≤ (i : Int)) && decide ((i : Int) < (l.getD k (0, 0)).2) && decide (i < 1440))) = mv (inl (l.take (k + 1))) := by
  have e : l.take (k + 1) = l.take k ++ [l.getD k (0, 0)] := by
    rw [List.take_succ_eq_append_getElem hk]; simp [List.getD, hk]
  refine mv_ext fun i _ => ?_
  rw [e]
  simp [inl]
set_option maxHeartbeats 1000000 in
theorem of_any (v : Value) (l : List (Int × Int)) (w : World) (hl : Row w v l) :
    Calls Tryz.prog 29 #[v] w fun e w' => e = .returned (.agg (mv (inl l))) ∧ Below w.heap.size w w' := by
  have hz := mv_lit
  have h1 : ((w.alloc (.cells (mv fun _ => false) 43)).alloc (.cells (mv fun _ => false) 43)).heap[w.heap.size]? = some (.cells (mv fun _ => false) 43 (0, 0)) := by (repeat (first | refine blk_old _ _ _ (by simp only [size_alloc]; omega) ?_ | exact blk_new _ _ _ (by first | rfl | simp only [size_alloc])))
  have h2 : ((w.alloc (.cells (mv fun _ => false) 43)).alloc (.cells (mv fun _ => false) 43)).heap[w.heap.size + 1]? = some (.cells (mv fun _ => false) 43 (0, 0)) := by (repeat (first | refine blk_old _ _ _ (by simp only [size_alloc]; omega) ?_ | exact blk_new _ _ _ (by first | rfl | simp only [size_alloc])))
  have hb0 : Below w.heap.size w ((w.alloc (.cells (mv fun _ => false) 43)).alloc (.cells (mv fun _ => false) 43)) := ((Below.refl _ _).alloc (Nat.le_refl _) _).alloc (by simp) _
  rcases hl with ⟨c, rfl, rfl⟩ | ⟨g, o, c, rfl, hlen, hcell⟩
  · go_enter Tryz.func29, Tryz.ntmps29
    go_wp2
    refine wp_loop_rounds 1 ?_
    rw [rounds_succ]
    go_wp2_with (first
      | (refine wpList_load_row rfl 43 _ rfl _ rfl _ _ _ _ h2 maskType rfl (maskSize _) ?_)
      | (refine wpList_store_row rfl 43 _ _ rfl _ _ rfl rfl _ _ h1 (maskSize _) (by simp [mv_size]) (mv_all _) ?_))
    refine bodyPost_ret (v := .agg (mv (inl []))) ?_ rfl ⟨rfl, below_setRow hb0 (Nat.le_refl _) _⟩
    exact results_cell_row rfl _ _ w.heap.size _ _ _ _ rfl (setRow_heap _ _ _ _ _ _ h1) maskType rfl (maskSize _)
  · have HC : Hid (∀ j, j < l.length → w.cell? ⟨g, o + j * 2, none⟩ = some (.int .i64 (l.getD j (0, 0)).1) ∧ w.cell? ⟨g, o + j * 2 + 1, none⟩ = some (.int .i64 (l.getD j (0, 0)).2)) := hcell
    clear hcell
    go_enter Tryz.func29, Tryz.ntmps29
    go_wp2
    go_loopw [8] (fun i wr => ∃ k : Nat, k ≤ l.length ∧ i = .int .i64 k ∧ wr.heap[w.heap.size]? = some (.cells (mv fun _ => false) 43 (0, 0)) ∧ wr.heap[w.heap.size + 1]? = some (.cells (mv (inl (l.take k))) 43 (0, 0)) ∧ Below w.heap.size w wr) (fun i _ => l.length - (intOf i).toNat)
    case atStart => exact ⟨0, Nat.zero_le _, rfl, h1, blk_eq h2 (mv_ext fun i _ => by simp [inl]), hb0⟩
    case round =>
      obtain ⟨k, hk, rfl, ho, hm, hbel⟩ := hrel
      by_cases hlt : k < l.length
      · obtain ⟨c1, c2⟩ := HC.out k hlt
        have d1 := (hbel.cell (block_lt_of_cell c1)).trans c1
        have d2 := (hbel.cell (block_lt_of_cell c2)).trans c2
        have hsn := inl_snoc l k hlt
        generalize hs : l.getD k (0, 0) = s at d1 d2 hsn
        obtain ⟨x, y⟩ := s
        dsimp only at d1 d2 hsn
        have HS : Hid ((mv fun i => inl (l.take k) i || (decide (x ≤ (i : Int)) && decide ((i : Int) < y) && decide (i < 1440))) = mv (inl (l.take (k + 1)))) := hsn
        have hm2 := blk_old _ (.cells #[.int .i64 x, .int .i64 y] 52) _ (lt_of_block hm) hm
        have ho2 := blk_old _ (.cells #[.int .i64 x, .int .i64 y] 52) _ (lt_of_block ho) ho
        have hb2 := hbel.alloc hbel.size (.cells #[.int .i64 x, .int .i64 y] 52)
        clear c1 c2 hsn hs
        go_wp2_with (go_at_call 41; refine (fill_any _ _ _ _ _ hm2).mono ?_; rintro e w' ⟨rfl, hm', hb'⟩)
        go_roundw
        case rel => exact ⟨k + 1, by omega, by go_num, (hb'.block _ (by omega)).trans ho2, blk_eq hm' HS.out, hb2.trans (hb'.mono (by omega))⟩
        case measure => simp [intOf]; omega
      · have hkl : k = l.length := by omega
        subst hkl
        have hm2 := blk_eq hm (by rw [List.take_length])
        clear hm
        go_wp2_with (first
          | (refine wpList_load_row rfl 43 _ rfl _ rfl _ _ _ _ hm2 maskType rfl (maskSize _) ?_)
          | (refine wpList_store_row rfl 43 _ _ rfl _ _ rfl rfl _ _ ho (maskSize _) (by simp [mv_size]) (mv_all _) ?_))
        refine bodyPost_ret (v := .agg (mv (inl l))) ?_ rfl ⟨rfl, below_setRow hbel (Nat.le_refl _) _⟩
        exact results_cell_row rfl _ _ w.heap.size _ _ _ _ rfl (setRow_heap _ _ _ _ _ _ ho) maskType rfl (maskSize _)
end Go.Proofs.YtgfjbcdjpkcbkaaGreatDoor
