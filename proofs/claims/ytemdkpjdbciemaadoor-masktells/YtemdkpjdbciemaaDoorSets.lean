/- What masks.trim, combine, Union, Diff and Both come to. -/
import Derived.Test.YtemdkpjdbciemaaDoorMv
import Derived.Deep.RegionHeld3
import Derived.Deep.DrawnRows
import Derived.Laws.CopyOwn
namespace Go.Proofs.YtemdkpjdbciemaaDoor
open Go.RowKit Msk

set_option maxHeartbeats 400000 in
theorem trim_any (f : Nat → Bool) (w : World) :
    Calls Tryd.prog 62 #[.agg (mv f)] w fun e w' => e = .returned (.agg (mv fun i => f i && decide (i < 1440))) ∧ Below w.heap.size w w' := by
  have g22 := mv_get f 22 (by omega)
  have e22 := mv_trim f
  have hz := mv_lit
  go_enter Tryd.func62, Tryd.ntmps62
  go_wp2_with (first
    | (refine wpList_load_row rfl 37 _ rfl _ rfl _ _ _ _ (heap_alloc2_old _ _ _) maskType rfl (maskSize _) ?_)
    | (refine wpList_store_row rfl 37 _ _ rfl _ _ rfl rfl _ _ (heap_alloc2_new _ _ _) (maskSize _) (by simp [mv_size]) (mv_all _) ?_))
  refine bodyPost_ret (v := .agg (mv fun i => f i && decide (i < 1440))) ?_ rfl ⟨rfl, ?_⟩
  · exact results_cell_row rfl _ _ (w.heap.size + 1) _ _ _ _ rfl (setRow_heap _ _ _ _ _ _ (heap_alloc2_new _ _ _)) maskType rfl (maskSize _)
  · exact below_setRow (((Below.refl _ _).alloc (Nat.le_refl _) _).alloc (by simp) _) (by omega) _

attribute [local go_sem ↓] Go.wp_at_zero Go.wp_at_succ
set_option maxHeartbeats 1000000 in
theorem combine_any (K : Nat) (o : Bool → Bool → Bool) (hK : ∀ (f g : Nat → Bool) (k : Nat) (w : World), Calls Tryd.prog K #[.int .u64 (wd f k : Int), .int .u64 (wd g k : Int)] w fun e w' => e = .returned (.int .u64 (wd (fun i => o (f i) (g i)) k : Int)) ∧ w' = w)
    (eK : ∀ args w, (callFunc K args).run Tryd.prog w = .ok (.enter K args) w) (a b : Nat → Bool) (w : World) :
    Calls Tryd.prog 54 #[.agg (mv a), .agg (mv b), .func (.func K) #[] #[]] w fun e w' => e = .returned (.agg (mv fun i => o (a i) (b i) && decide (i < 1440))) ∧ Below w.heap.size w w' := by
  have hz := mv_lit
  go_enter Tryd.func54, Tryd.ntmps54
  go_wp2
  go_loopw [9] (fun i wr => ∃ k : Nat, k ≤ 23 ∧ i = .int .i64 k ∧ wr.heap[w.heap.size]? = some (.cells (mv a) 37 (0, 0)) ∧ wr.heap[w.heap.size + 1]? = some (.cells (mv b) 37 (0, 0)) ∧ wr.heap[w.heap.size + 1 + 1]? = some (.cells (mv fun _ => false) 37 (0, 0)) ∧
      wr.heap[w.heap.size + 1 + 1 + 1]? = some (.cells (mv fun i => decide (i < 64 * k) && o (a i) (b i)) 37 (0, 0)) ∧ Below w.heap.size w wr) (fun i _ => 23 - (intOf i).toNat)
  case atStart =>
    refine ⟨0, by omega, rfl, ?_, ?_, ?_, ?_, ?_⟩
    · (repeat (first | refine blk_old _ _ _ (by simp only [size_alloc]; omega) ?_ | exact blk_new _ _ _ (by first | rfl | simp only [size_alloc])))
    · (repeat (first | refine blk_old _ _ _ (by simp only [size_alloc]; omega) ?_ | exact blk_new _ _ _ (by first | rfl | simp only [size_alloc])))
    · (repeat (first | refine blk_old _ _ _ (by simp only [size_alloc]; omega) ?_ | exact blk_new _ _ _ (by first | rfl | simp only [size_alloc])))
    · refine blk_eq ?_ (mv_start _)
      (repeat (first | refine blk_old _ _ _ (by simp only [size_alloc]; omega) ?_ | exact blk_new _ _ _ (by first | rfl | simp only [size_alloc])))
    · exact ((((Below.refl _ _).alloc (Nat.le_refl _) _).alloc (by simp) _).alloc (by simp; omega) _).alloc (by simp; omega) _
  case round =>
    obtain ⟨k, hk, rfl, ha, hb, ho, hm, hbel⟩ := hrel
    by_cases hlt : k < 23
    · have ca := cell_mv ha k hlt
      have cb := cell_mv hb k hlt
      have cm := cell_mv hm k hlt
      have fm := frozen_of_row _ _ k _ _ hm
      have hi0 : (0 : Int) ≤ (k : Int) := by omega
      have hi1 : (k : Int) < 23 := by omega
      have n1 : w.heap.size + 1 + 1 + 1 ≠ w.heap.size := by omega
      have n2 : w.heap.size + 1 + 1 ≠ w.heap.size := by omega
      go_wp2
      go_region_held3 (fun w' => w'.cell? ⟨w.heap.size, k, none⟩ = some (.int .u64 (wd a k : Int)) ∧ w'.cell? ⟨w.heap.size + 1, k, none⟩ = some (.int .u64 (wd b k : Int)))
        (go_keep)
        ((refine (hK a b k _).mono ?_; rintro e w' ⟨rfl, rfl⟩))
      go_wp2
      go_roundw
      case rel =>
        refine ⟨k + 1, by omega, by go_num, ?_, ?_, ?_, ?_, ?_⟩
        · exact (heap_setCell_other _ _ _ _ (by dsimp only; omega)).trans ha
        · exact (heap_setCell_other _ _ _ _ (by dsimp only; omega)).trans hb
        · exact (heap_setCell_other _ _ _ _ (by dsimp only; omega)).trans ho
        · exact blk_eq (heap_setCell_same _ _ _ _ _ _ hm) (mv_step k hlt fun i => o (a i) (b i))
        · exact (hbel.setCell (by dsimp only; omega) _).drew
      case measure => simp [intOf]; omega
    · have hk23 : k = 23 := by omega
      subst hk23
      have hm' := blk_eq hm (mv_full fun i => o (a i) (b i))
      clear hm
      go_wp2_with (first
        | (refine wpList_load_row rfl 37 _ rfl _ rfl _ _ _ _ hm' maskType rfl (maskSize _) ?_)
        | (go_at_call 62; refine (trim_any _ _).mono ?_; rintro e w' ⟨rfl, hb'⟩; have ho' := (hb'.block (w.heap.size + 1 + 1) (lt_of_block ho)).trans ho)
        | (refine wpList_store_row rfl 37 _ _ rfl _ _ rfl rfl _ _ (by assumption) (maskSize _) (by simp [mv_size]) (mv_all _) ?_))
      refine bodyPost_ret (v := .agg (mv fun i => o (a i) (b i) && decide (i < 1440))) ?_ rfl ⟨rfl, ?_⟩
      · exact results_cell_row rfl _ _ (w.heap.size + 1 + 1) _ _ _ _ rfl (setRow_heap _ _ _ _ _ _ ho') maskType rfl (maskSize _)
      · exact below_setRow (hbel.trans (hb'.mono hbel.size)) (by omega) _

theorem or_any (f g : Nat → Bool) (k : Nat) (w : World) : Calls Tryd.prog 55 #[.int .u64 (wd f k : Int), .int .u64 (wd g k : Int)] w fun e w' => e = .returned (.int .u64 (wd (fun i => f i || g i) k : Int)) ∧ w' = w := by
  have e1 := bits_or_u64_nat _ _ (wd_lt f k) (wd_lt g k)
  rw [wd_or] at e1
  go_enter Tryd.func55, Tryd.ntmps55
  go_wp2
  go_ret
  exact ⟨rfl, rfl⟩
theorem and_any (f g : Nat → Bool) (k : Nat) (w : World) : Calls Tryd.prog 59 #[.int .u64 (wd f k : Int), .int .u64 (wd g k : Int)] w fun e w' => e = .returned (.int .u64 (wd (fun i => f i && g i) k : Int)) ∧ w' = w := by
  have e1 := bits_and_u64_nat _ _ (wd_lt f k) (wd_lt g k)
  rw [wd_and] at e1
  go_enter Tryd.func59, Tryd.ntmps59
  go_wp2
  go_ret
  exact ⟨rfl, rfl⟩
theorem not_any (f g : Nat → Bool) (k : Nat) (w : World) : Calls Tryd.prog 57 #[.int .u64 (wd f k : Int), .int .u64 (wd g k : Int)] w fun e w' => e = .returned (.int .u64 (wd (fun i => f i && !g i) k : Int)) ∧ w' = w := by
  have e1 := andNot_nat _ _ (wd_lt f k) (wd_lt g k)
  rw [wd_andNot] at e1
  go_enter Tryd.func57, Tryd.ntmps57
  go_wp2
  go_ret
  exact ⟨rfl, rfl⟩

set_option maxHeartbeats 400000 in
theorem union_any (a b : Nat → Bool) (w : World) :
    Calls Tryd.prog 27 #[.agg (mv a), .agg (mv b)] w fun e w' => e = .returned (.agg (mv fun i => (a i || b i) && decide (i < 1440))) ∧ Below w.heap.size w w' := by
  have hz := mv_lit
  have h1 : (((w.alloc (.cells (mv a) 37)).alloc (.cells (mv b) 37)).alloc (.cells (mv fun _ => false) 37)).heap[w.heap.size]? = some (.cells (mv a) 37 (0, 0)) := by (repeat (first | refine blk_old _ _ _ (by simp only [size_alloc]; omega) ?_ | exact blk_new _ _ _ (by first | rfl | simp only [size_alloc])))
  have h2 : (((w.alloc (.cells (mv a) 37)).alloc (.cells (mv b) 37)).alloc (.cells (mv fun _ => false) 37)).heap[w.heap.size + 1]? = some (.cells (mv b) 37 (0, 0)) := by (repeat (first | refine blk_old _ _ _ (by simp only [size_alloc]; omega) ?_ | exact blk_new _ _ _ (by first | rfl | simp only [size_alloc])))
  have h3 : (((w.alloc (.cells (mv a) 37)).alloc (.cells (mv b) 37)).alloc (.cells (mv fun _ => false) 37)).heap[w.heap.size + 1 + 1]? = some (.cells (mv fun _ => false) 37 (0, 0)) := by (repeat (first | refine blk_old _ _ _ (by simp only [size_alloc]; omega) ?_ | exact blk_new _ _ _ (by first | rfl | simp only [size_alloc])))
  have hb0 : Below w.heap.size w (((w.alloc (.cells (mv a) 37)).alloc (.cells (mv b) 37)).alloc (.cells (mv fun _ => false) 37)) := (((Below.refl _ _).alloc (Nat.le_refl _) _).alloc (by simp) _).alloc (by simp only [size_alloc]; omega) _
  go_enter Tryd.func27, Tryd.ntmps27
  go_wp2_with (first
    | (refine wpList_load_row rfl 37 _ rfl _ rfl _ _ _ _ h1 maskType rfl (maskSize _) ?_)
    | (refine wpList_load_row rfl 37 _ rfl _ rfl _ _ _ _ h2 maskType rfl (maskSize _) ?_)
    | (go_at_call 54; refine (combine_any 55 (fun x y => x || y) or_any (fun _ _ => by simp [go_sem]) a b _).mono ?_; rintro e w' ⟨rfl, hb'⟩; have ho' := (hb'.block _ (lt_of_block h3)).trans h3)
    | (refine wpList_store_row rfl 37 _ _ rfl _ _ rfl rfl _ _ (by assumption) (maskSize _) (by simp [mv_size]) (mv_all _) ?_))
  refine bodyPost_ret (v := .agg (mv fun i => (a i || b i) && decide (i < 1440))) ?_ rfl ⟨rfl, ?_⟩
  · exact results_cell_row rfl _ _ (w.heap.size + 1 + 1) _ _ _ _ rfl (setRow_heap _ _ _ _ _ _ ho') maskType rfl (maskSize _)
  · exact below_setRow (hb0.trans (hb'.mono hb0.size)) (by omega) _

set_option maxHeartbeats 400000 in
theorem diff_any (a b : Nat → Bool) (w : World) :
    Calls Tryd.prog 29 #[.agg (mv a), .agg (mv b)] w fun e w' => e = .returned (.agg (mv fun i => (a i && !b i) && decide (i < 1440))) ∧ Below w.heap.size w w' := by
  have hz := mv_lit
  have h1 : (((w.alloc (.cells (mv a) 37)).alloc (.cells (mv b) 37)).alloc (.cells (mv fun _ => false) 37)).heap[w.heap.size]? = some (.cells (mv a) 37 (0, 0)) := by (repeat (first | refine blk_old _ _ _ (by simp only [size_alloc]; omega) ?_ | exact blk_new _ _ _ (by first | rfl | simp only [size_alloc])))
  have h2 : (((w.alloc (.cells (mv a) 37)).alloc (.cells (mv b) 37)).alloc (.cells (mv fun _ => false) 37)).heap[w.heap.size + 1]? = some (.cells (mv b) 37 (0, 0)) := by (repeat (first | refine blk_old _ _ _ (by simp only [size_alloc]; omega) ?_ | exact blk_new _ _ _ (by first | rfl | simp only [size_alloc])))
  have h3 : (((w.alloc (.cells (mv a) 37)).alloc (.cells (mv b) 37)).alloc (.cells (mv fun _ => false) 37)).heap[w.heap.size + 1 + 1]? = some (.cells (mv fun _ => false) 37 (0, 0)) := by (repeat (first | refine blk_old _ _ _ (by simp only [size_alloc]; omega) ?_ | exact blk_new _ _ _ (by first | rfl | simp only [size_alloc])))
  have hb0 : Below w.heap.size w (((w.alloc (.cells (mv a) 37)).alloc (.cells (mv b) 37)).alloc (.cells (mv fun _ => false) 37)) := (((Below.refl _ _).alloc (Nat.le_refl _) _).alloc (by simp) _).alloc (by simp only [size_alloc]; omega) _
  go_enter Tryd.func29, Tryd.ntmps29
  go_wp2_with (first
    | (refine wpList_load_row rfl 37 _ rfl _ rfl _ _ _ _ h1 maskType rfl (maskSize _) ?_)
    | (refine wpList_load_row rfl 37 _ rfl _ rfl _ _ _ _ h2 maskType rfl (maskSize _) ?_)
    | (go_at_call 54; refine (combine_any 57 (fun x y => x && !y) not_any (fun _ _ => by simp [go_sem]) a b _).mono ?_; rintro e w' ⟨rfl, hb'⟩; have ho' := (hb'.block _ (lt_of_block h3)).trans h3)
    | (refine wpList_store_row rfl 37 _ _ rfl _ _ rfl rfl _ _ (by assumption) (maskSize _) (by simp [mv_size]) (mv_all _) ?_))
  refine bodyPost_ret (v := .agg (mv fun i => (a i && !b i) && decide (i < 1440))) ?_ rfl ⟨rfl, ?_⟩
  · exact results_cell_row rfl _ _ (w.heap.size + 1 + 1) _ _ _ _ rfl (setRow_heap _ _ _ _ _ _ ho') maskType rfl (maskSize _)
  · exact below_setRow (hb0.trans (hb'.mono hb0.size)) (by omega) _

set_option maxHeartbeats 400000 in
theorem both_any (a b : Nat → Bool) (w : World) :
    Calls Tryd.prog 31 #[.agg (mv a), .agg (mv b)] w fun e w' => e = .returned (.agg (mv fun i => (a i && b i) && decide (i < 1440))) ∧ Below w.heap.size w w' := by
  have hz := mv_lit
  have h1 : (((w.alloc (.cells (mv a) 37)).alloc (.cells (mv b) 37)).alloc (.cells (mv fun _ => false) 37)).heap[w.heap.size]? = some (.cells (mv a) 37 (0, 0)) := by (repeat (first | refine blk_old _ _ _ (by simp only [size_alloc]; omega) ?_ | exact blk_new _ _ _ (by first | rfl | simp only [size_alloc])))
  have h2 : (((w.alloc (.cells (mv a) 37)).alloc (.cells (mv b) 37)).alloc (.cells (mv fun _ => false) 37)).heap[w.heap.size + 1]? = some (.cells (mv b) 37 (0, 0)) := by (repeat (first | refine blk_old _ _ _ (by simp only [size_alloc]; omega) ?_ | exact blk_new _ _ _ (by first | rfl | simp only [size_alloc])))
  have h3 : (((w.alloc (.cells (mv a) 37)).alloc (.cells (mv b) 37)).alloc (.cells (mv fun _ => false) 37)).heap[w.heap.size + 1 + 1]? = some (.cells (mv fun _ => false) 37 (0, 0)) := by (repeat (first | refine blk_old _ _ _ (by simp only [size_alloc]; omega) ?_ | exact blk_new _ _ _ (by first | rfl | simp only [size_alloc])))
  have hb0 : Below w.heap.size w (((w.alloc (.cells (mv a) 37)).alloc (.cells (mv b) 37)).alloc (.cells (mv fun _ => false) 37)) := (((Below.refl _ _).alloc (Nat.le_refl _) _).alloc (by simp) _).alloc (by simp only [size_alloc]; omega) _
  go_enter Tryd.func31, Tryd.ntmps31
  go_wp2_with (first
    | (refine wpList_load_row rfl 37 _ rfl _ rfl _ _ _ _ h1 maskType rfl (maskSize _) ?_)
    | (refine wpList_load_row rfl 37 _ rfl _ rfl _ _ _ _ h2 maskType rfl (maskSize _) ?_)
    | (go_at_call 54; refine (combine_any 59 (fun x y => x && y) and_any (fun _ _ => by simp [go_sem]) a b _).mono ?_; rintro e w' ⟨rfl, hb'⟩; have ho' := (hb'.block _ (lt_of_block h3)).trans h3)
    | (refine wpList_store_row rfl 37 _ _ rfl _ _ rfl rfl _ _ (by assumption) (maskSize _) (by simp [mv_size]) (mv_all _) ?_))
  refine bodyPost_ret (v := .agg (mv fun i => (a i && b i) && decide (i < 1440))) ?_ rfl ⟨rfl, ?_⟩
  · exact results_cell_row rfl _ _ (w.heap.size + 1 + 1) _ _ _ _ rfl (setRow_heap _ _ _ _ _ _ ho') maskType rfl (maskSize _)
  · exact below_setRow (hb0.trans (hb'.mono hb0.size)) (by omega) _

end Go.Proofs.YtemdkpjdbciemaaDoor
