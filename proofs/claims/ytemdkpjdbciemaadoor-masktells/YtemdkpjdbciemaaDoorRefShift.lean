/- What slotref2.Shift comes to. -/
import Derived.Test.YtemdkpjdbciemaaDoorRefSets
import Derived.Test.YtemdkpjdbciemaaDoorShiftC
namespace Go.Proofs.YtemdkpjdbciemaaDoor
open Go.RowKit Msk

set_option maxRecDepth 10000 in
set_option maxHeartbeats 400000 in
theorem shiftC (f : Nat → Bool) (x : Int) (i A B : Nat) (w : World) (hi : i < 1440) (hx0 : -1440 ≤ x) (hx1 : x ≤ 1440) (ha : w.heap[A]? = some (.cells (mv f) 37 (0, 0))) (hb : w.heap[B]? = some (.cells #[.int .i64 x] 3 (0, 0))) :
    Calls Tryd.prog 64 #[.int .i64 (i : Int), .pointer (some ⟨A, 0, none⟩), .pointer (some ⟨B, 0, none⟩)] w fun e w' => e = .returned (.bool (hasB f ((i : Int) - x))) ∧ Below w.heap.size w w' := by
  have c1 := fun w => has_ref f ((i : Int) - x) w
  have cb := cell_of_one hb
  have q1 : IntKind.i64.wrap ((i : Int) - x) = (i : Int) - x := by rw [IntKind.wrap_i64]; omega
  go_enter Tryd.func64, Tryd.ntmps64
  go_wp2_with (first
    | (refine wpList_load_row rfl 37 _ rfl _ rfl _ _ _ _ ha maskType rfl (maskSize _) ?_)
    | (go_at_call 53; refine (c1 _).mono ?_; rintro e w1 ⟨rfl, hb1⟩))
  go_ret
  exact ⟨rfl, hb1⟩

set_option maxRecDepth 10000 in
set_option maxHeartbeats 400000 in
theorem shift_ref (f : Nat → Bool) (x : Int) (w : World) :
    Calls Tryd.prog 34 #[.agg (mv f), .int .i64 x] w fun e w' => e = .returned (.agg (mv (shf f x))) ∧ Below w.heap.size w w' := by
  have hz := mv_lit
  have hmf := hmkf
  have h0 : (((w.alloc (.cells (mv f) 37)).alloc (.cells #[.int .i64 x] 3)).alloc (.cells (mv fun _ => false) 37)).heap[w.heap.size]? = some (.cells (mv f) 37 (0, 0)) := by (repeat (first | refine blk_old _ _ _ (by simp only [size_alloc]; omega) ?_ | exact blk_new _ _ _ (by first | rfl | simp only [size_alloc])))
  have h1 : (((w.alloc (.cells (mv f) 37)).alloc (.cells #[.int .i64 x] 3)).alloc (.cells (mv fun _ => false) 37)).heap[w.heap.size + 1]? = some (.cells #[.int .i64 x] 3 (0, 0)) := by (repeat (first | refine blk_old _ _ _ (by simp only [size_alloc]; omega) ?_ | exact blk_new _ _ _ (by first | rfl | simp only [size_alloc])))
  have h2 : (((w.alloc (.cells (mv f) 37)).alloc (.cells #[.int .i64 x] 3)).alloc (.cells (mv fun _ => false) 37)).heap[w.heap.size + 2]? = some (.cells (mv fun _ => false) 37 (0, 0)) := by (repeat (first | refine blk_old _ _ _ (by simp only [size_alloc]; omega) ?_ | exact blk_new _ _ _ (by first | rfl | simp only [size_alloc])))
  have hb0 : Below w.heap.size w (((w.alloc (.cells (mv f) 37)).alloc (.cells #[.int .i64 x] 3)).alloc (.cells (mv fun _ => false) 37)) := (((Below.refl _ _).alloc (Nat.le_refl _) _).alloc (by simp) _).alloc (by simp; omega) _
  by_cases hx : x < -1440 ∨ 1440 < x
  · rw [← shf_none f x (by omega)]
    clear h0 h1
    rcases hx with hx | hx
    · have hx' : ¬ 1440 < x := by omega
      go_enter Tryd.func34, Tryd.ntmps34
      go_wp2_with (refine wpList_store_row rfl 37 _ _ rfl _ _ rfl rfl _ _ h2 (maskSize _) (by simp [mv_size]) (mv_all _) ?_)
      refine bodyPost_ret (v := .agg (mv fun _ => false)) ?_ rfl ⟨rfl, below_setRow hb0 (by omega) _⟩
      exact results_cell_row rfl _ _ (w.heap.size + 2) _ _ _ _ rfl (setRow_heap _ _ _ _ _ _ h2) maskType rfl (maskSize _)
    · go_enter Tryd.func34, Tryd.ntmps34
      go_wp2_with (refine wpList_store_row rfl 37 _ _ rfl _ _ rfl rfl _ _ h2 (maskSize _) (by simp [mv_size]) (mv_all _) ?_)
      refine bodyPost_ret (v := .agg (mv fun _ => false)) ?_ rfl ⟨rfl, below_setRow hb0 (by omega) _⟩
      exact results_cell_row rfl _ _ (w.heap.size + 2) _ _ _ _ rfl (setRow_heap _ _ _ _ _ _ h2) maskType rfl (maskSize _)
  · have hx0 : -1440 ≤ x := by omega
    have hx1 : x ≤ 1440 := by omega
    have n0 : ¬ x < -1440 := by omega
    have n1 : ¬ 1440 < x := by omega
    clear hx
    have cm := make_ref (fun i => hasB f ((i : Int) - x)) 64 #[.pointer (some ⟨w.heap.size, 0, none⟩), .pointer (some ⟨w.heap.size + 1, 0, none⟩)] _ (fun _ _ => by simp [go_sem]) fun i wr hi hbr => shiftC f x i w.heap.size (w.heap.size + 1) wr hi hx0 hx1 ((hbr.block _ (lt_of_block h0)).trans h0) ((hbr.block _ (lt_of_block h1)).trans h1)
    rw [show (mv fun i => hasB f ((i : Int) - x) && decide (i < 1440)) = mv (shf f x) from mv_ext fun i _ => by
      unfold hasB shf
      have e : (0 ≤ (i : Int) - x) = (x ≤ (i : Int)) := by apply propext; omega
      simp only [e]
      cases decide (i < 1440) <;> cases decide (x ≤ (i : Int)) <;> cases decide ((i : Int) - x < 1440) <;> simp] at cm
    go_enter Tryd.func34, Tryd.ntmps34
    go_wp2_with (first
      | (go_at_call 50; refine cm.mono ?_; rintro e w1 ⟨rfl, hb1⟩; have h3 := (hb1.block _ (lt_of_block h2)).trans h2; have hb2 := hb0.trans (hb1.mono hb0.size); clear h2 hb1)
      | (refine wpList_store_row rfl 37 _ _ rfl _ _ rfl rfl _ _ h3 (maskSize _) (by simp [mv_size]) (mv_all _) ?_))
    refine bodyPost_ret (v := .agg (mv (shf f x))) ?_ rfl ⟨rfl, below_setRow hb2 (by omega) _⟩
    exact results_cell_row rfl _ _ (w.heap.size + 2) _ _ _ _ rfl (setRow_heap _ _ _ _ _ _ h3) maskType rfl (maskSize _)
end Go.Proofs.YtemdkpjdbciemaaDoor
