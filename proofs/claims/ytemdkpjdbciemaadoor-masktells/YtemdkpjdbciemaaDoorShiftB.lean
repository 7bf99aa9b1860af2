/- What masks.earlier comes to, and masks.Shift. -/
import Derived.Test.YtemdkpjdbciemaaDoorShiftA
namespace Go.Proofs.YtemdkpjdbciemaaDoor
open Go.RowKit Msk

theorem down_full (f : Nat → Bool) (b q d : Nat) (hq : q = b / 64) (hd : 23 = q + d) : (mv fun t => decide (t < 64 * d) && (decide (t + b < 1472) && f (t + b))) = mv fun t => decide (t + b < 1472) && f (t + b) := mv_ext fun t ht => by
  by_cases h : t < 64 * d
  · simp [h]
  · have : ¬ t + b < 1472 := by omega
    simp [this]

theorem down_put22 (f : Nat → Bool) (b i q r d : Nat) (hq : q = b / 64) (hr : r = b % 64) (hd : i = q + d) (h22 : i = 22) :
    (wd f i : Int) / 2 ^ r = ((wd (fun t => decide (t + b < 1472) && f (t + b)) d : Nat) : Int) := by
  rw [down_put1 f b i q r d hq hr hd]
  rw [wd_ext (f := fun t => decide (t + b < 64 * (i + 1)) && f (t + b)) (g := fun t => decide (t + b < 1472) && f (t + b)) fun j _ => by
    have : (64 * d + j + b < 64 * (i + 1)) = (64 * d + j + b < 1472) := by apply propext; omega
    simp only [this]]

set_option maxRecDepth 10000 in
set_option maxHeartbeats 2000000 in
theorem earlier_any (f : Nat → Bool) (b : Nat) (hb : b < 1440) (w : World) :
    Calls Tryd.prog 61 #[.agg (mv f), .int .i64 b] w fun e w' => e = .returned (.agg (mv fun t => decide (t + b < 1472) && f (t + b))) ∧ Below w.heap.size w w' := by
  have hz := mv_lit
  obtain ⟨q, hq⟩ : ∃ q : Nat, q = b / 64 := ⟨_, rfl⟩
  obtain ⟨r, hr⟩ : ∃ r : Nat, r = b % 64 := ⟨_, rfl⟩
  have HQ : Hid (q = b / 64) := hq
  have HR : Hid (r = b % 64) := hr
  have t1 : (b : Int) / 64 = (q : Int) := by omega
  have t2 : (b : Int) % 64 = (r : Int) := by omega
  have hq23 : q < 23 := by omega
  have hr64 : r < 64 := by omega
  clear hq hr
  go_enter Tryd.func61, Tryd.ntmps61
  go_wp2
  go_loopw [8] (fun i wr => ∃ k d : Nat, k ≤ 23 ∧ k = q + d ∧ i = .int .i64 k ∧ wr.heap[w.heap.size]? = some (.cells (mv f) 37 (0, 0)) ∧ wr.heap[w.heap.size + 1]? = some (.cells (mv fun _ => false) 37 (0, 0)) ∧
      wr.heap[w.heap.size + 1 + 1]? = some (.cells (mv fun t => decide (t < 64 * d) && (decide (t + b < 1472) && f (t + b))) 37 (0, 0)) ∧ Below w.heap.size w wr) (fun i _ => 23 - (intOf i).toNat)
  case atStart =>
    refine ⟨q, 0, by omega, rfl, rfl, ?_, ?_, ?_, ?_⟩
    · (repeat (first | refine blk_old _ _ _ (by simp only [size_alloc]; omega) ?_ | exact blk_new _ _ _ (by first | rfl | simp only [size_alloc])))
    · (repeat (first | refine blk_old _ _ _ (by simp only [size_alloc]; omega) ?_ | exact blk_new _ _ _ (by first | rfl | simp only [size_alloc])))
    · refine blk_eq ?_ (mv_start _)
      (repeat (first | refine blk_old _ _ _ (by simp only [size_alloc]; omega) ?_ | exact blk_new _ _ _ (by first | rfl | simp only [size_alloc])))
    · exact (((Below.refl _ _).alloc (Nat.le_refl _) _).alloc (by simp) _).alloc (by simp only [size_alloc]; omega) _
  case round =>
    obtain ⟨k, d, hk, hkd, rfl, ha, ho, hm, hbel⟩ := hrel
    have HD : Hid (k = q + d) := hkd
    by_cases hlt : k < 23
    · have ca := cell_mv ha k (by omega)
      have hd23 : d < 23 := by omega
      have cm := cell_mv hm d hd23
      have fm := frozen_of_row _ _ d _ _ hm
      have e1 : (k : Int) - (q : Int) = (d : Int) := by omega
      have hi0 : (0 : Int) ≤ (d : Int) := by omega
      have hi1 : (d : Int) < 23 := by omega
      have p1 := down_put1 f b k q r d HQ.out HR.out hkd
      by_cases hd0 : k = 22
      · have hlast : (22 : Int) ≤ (k : Int) := by omega
        have p3 := down_put22 f b k q r d HQ.out HR.out hkd hd0
        have HK : Hid (k = 22) := hd0
        clear p1 hkd hd0
        go_wp2
        go_roundw
        case rel =>
          have hD := HD.out
          have hK := HK.out
          refine ⟨k + 1, d + 1, by omega, by omega, by go_num, ?_, ?_, ?_, hbel.setCell (by dsimp only; omega) _⟩
          · exact (heap_setCell_other _ _ _ _ (by dsimp only; omega)).trans ha
          · exact (heap_setCell_other _ _ _ _ (by dsimp only; omega)).trans ho
          · exact blk_eq (heap_setCell_same _ _ _ _ _ _ hm) (mv_step d hd23 fun t => decide (t + b < 1472) && f (t + b))
        case measure =>
          have hK := HK.out
          simp [intOf]; omega
      · have p2 := down_put2 f b k q r d HQ.out HR.out hkd (by omega)
        generalize (fun t => decide (t + b < 64 * (k + 1)) && f (t + b)) = G1 at p1 p2
        obtain ⟨c, hc⟩ : ∃ c, c = k + 1 := ⟨_, rfl⟩
        rw [← hc] at p2
        have e2 : (k : Int) + 1 = (c : Int) := by omega
        have e3 : IntKind.i64.wrap ((k : Int) - (q : Int)) = (d : Int) := by rw [IntKind.wrap_i64]; omega
        have e4 : IntKind.i64.wrap ((k : Int) + 1) = (c : Int) := by rw [IntKind.wrap_i64]; omega
        have e5 : IntKind.i64.wrap (64 - (r : Int)) = 64 - (r : Int) := by rw [IntKind.wrap_i64]; omega
        have e6 : (64 - (r : Int)).toNat = 64 - r := by omega
        have e7 : (0 : Int) ≤ 64 - (r : Int) := by omega
        have j0 : (0 : Int) ≤ (c : Int) := by omega
        have j1 : (c : Int) < 23 := by omega
        have cc := cell_mv ha c (by omega)
        have c1 : (wr.setCell ⟨w.heap.size + 1 + 1, d, none⟩ (.int .u64 (wd G1 d : Int))).cell? ⟨w.heap.size, c, none⟩ = some (.int .u64 (wd f c : Int)) := (cell_set_far _ _ _ _ (by dsimp only; omega)).trans cc
        have hm2 := heap_setCell_same _ _ d _ _ (.int .u64 (wd G1 d : Int)) hm
        have c2 : (wr.setCell ⟨w.heap.size + 1 + 1, d, none⟩ (.int .u64 (wd G1 d : Int))).cell? ⟨w.heap.size + 1 + 1, d, none⟩ = some (.int .u64 (wd G1 d : Int)) := by
          rw [cell_of_row _ _ d _ _ _ hm2]
          simp [mv_size, hd23]
        have f2 := frozen_of_row _ _ d _ _ hm2
        have HM2 : Hid ((wr.setCell ⟨w.heap.size + 1 + 1, d, none⟩ (.int .u64 (wd G1 d : Int))).heap[w.heap.size + 1 + 1]? = some (.cells ((mv fun t => decide (t < 64 * d) && (decide (t + b < 1472) && f (t + b))).setIfInBounds d (.int .u64 (wd G1 d : Int))) 37 (0, 0))) := hm2
        have HC : Hid (c = k + 1) := hc
        clear hm2 hkd hc
        go_wp2
        go_region
        go_wp2
        go_roundw
        case rel =>
          have hD := HD.out
          have hC := HC.out
          refine ⟨c, d + 1, by omega, by omega, by go_num, ?_, ?_, ?_, ((hbel.setCell (by dsimp only; omega) _).setCell (by dsimp only; omega) _).drew⟩
          · exact ((heap_setCell_other _ _ _ _ (by dsimp only; omega)).trans (heap_setCell_other _ _ _ _ (by dsimp only; omega))).trans ha
          · exact ((heap_setCell_other _ _ _ _ (by dsimp only; omega)).trans (heap_setCell_other _ _ _ _ (by dsimp only; omega))).trans ho
          · refine blk_eq (heap_setCell_same _ _ _ _ _ _ HM2.out) ?_
            exact mv_step2 d hd23 (fun t => decide (t + b < 1472) && f (t + b)) _
        case measure =>
          have hC := HC.out
          simp [intOf]; omega
    · have hk23 : k = 23 := by omega
      subst hk23
      have hm' := blk_eq hm (down_full f b q d HQ.out HD.out)
      clear hm HD hkd
      go_wp2_with (first
        | (refine wpList_load_row rfl 37 _ rfl _ rfl _ _ _ _ hm' maskType rfl (maskSize _) ?_)
        | (refine wpList_store_row rfl 37 _ _ rfl _ _ rfl rfl _ _ ho (maskSize _) (by simp [mv_size]) (mv_all _) ?_))
      refine bodyPost_ret (v := .agg (mv fun t => decide (t + b < 1472) && f (t + b))) ?_ rfl ⟨rfl, ?_⟩
      · exact results_cell_row rfl _ _ (w.heap.size + 1) _ _ _ _ rfl (setRow_heap _ _ _ _ _ _ ho) maskType rfl (maskSize _)
      · exact below_setRow hbel (by omega) _

end Go.Proofs.YtemdkpjdbciemaaDoor
