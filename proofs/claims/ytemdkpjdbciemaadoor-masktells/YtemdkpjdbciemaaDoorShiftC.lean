/- What masks.Shift comes to. -/
import Derived.Test.YtemdkpjdbciemaaDoorShiftB
namespace Go.Proofs.YtemdkpjdbciemaaDoor
open Go.RowKit Msk

/-- What is left of a mask that is moved: by minutes later, or earlier. -/
def shf (f : Nat → Bool) (x : Int) (t : Nat) : Bool := decide (t < 1440) && (decide (x ≤ (t : Int)) && (decide ((t : Int) - x < 1440) && f ((t : Int) - x).toNat))

theorem shf_none (f : Nat → Bool) (x : Int) (h : x ≤ -1440 ∨ 1440 ≤ x) : (mv fun _ => false) = mv (shf f x) := mv_ext fun t _ => by
  unfold shf
  by_cases h1 : t < 1440
  · by_cases h2 : x ≤ (t : Int)
    · have : ¬ (t : Int) - x < 1440 := by omega
      simp [this]
    · simp [h2]
  · simp [h1]
theorem shf_up (f : Nat → Bool) (b : Nat) : (mv fun t => (decide (b ≤ t) && f (t - b)) && decide (t < 1440)) = mv (shf f (b : Int)) := mv_ext fun t _ => by
  unfold shf
  by_cases h1 : t < 1440
  · by_cases h2 : b ≤ t
    · have e1 : ((t : Int) - (b : Int)).toNat = t - b := by omega
      have e2 : (b : Int) ≤ (t : Int) := by omega
      have e3 : (t : Int) - (b : Int) < 1440 := by omega
      simp [h1, h2, e1, e3]
    · have e2 : ¬ (b : Int) ≤ (t : Int) := by omega
      simp [h2]
  · simp [h1]
theorem shf_down (f : Nat → Bool) (b : Nat) : (mv fun t => decide (t + b < 1472) && (f (t + b) && decide (t + b < 1440))) = mv (shf f (-(b : Int))) := mv_ext fun t _ => by
  unfold shf
  by_cases h1 : t + b < 1440
  · have e1 : ((t : Int) - -(b : Int)).toNat = t + b := by omega
    have e2 : -(b : Int) ≤ (t : Int) := by omega
    have e3 : (t : Int) - -(b : Int) < 1440 := by omega
    have e4 : t + b < 1472 := by omega
    have e5 : t < 1440 := by omega
    rw [e1]
    simp only [h1, e2, e3, e4, e5, decide_true, Bool.true_and, Bool.and_true]
  · have e3 : ¬ (t : Int) - -(b : Int) < 1440 := by omega
    simp only [h1, e3, decide_false, Bool.and_false, Bool.false_and]

set_option maxRecDepth 10000 in
set_option maxHeartbeats 2000000 in
theorem shift_any (f : Nat → Bool) (x : Int) (w : World) (hx0 : -9223372036854775808 ≤ x) (hx1 : x ≤ 9223372036854775807) :
    Calls Tryd.prog 33 #[.agg (mv f), .int .i64 x] w fun e w' => e = .returned (.agg (mv (shf f x))) ∧ Below w.heap.size w w' := by
  have hz := mv_lit
  have h1 : ((w.alloc (.cells (mv f) 37)).alloc (.cells (mv fun _ => false) 37)).heap[w.heap.size]? = some (.cells (mv f) 37 (0, 0)) := by (repeat (first | refine blk_old _ _ _ (by simp only [size_alloc]; omega) ?_ | exact blk_new _ _ _ (by first | rfl | simp only [size_alloc])))
  have h3 : ((w.alloc (.cells (mv f) 37)).alloc (.cells (mv fun _ => false) 37)).heap[w.heap.size + 1]? = some (.cells (mv fun _ => false) 37 (0, 0)) := by (repeat (first | refine blk_old _ _ _ (by simp only [size_alloc]; omega) ?_ | exact blk_new _ _ _ (by first | rfl | simp only [size_alloc])))
  have hb0 : Below w.heap.size w ((w.alloc (.cells (mv f) 37)).alloc (.cells (mv fun _ => false) 37)) := ((Below.refl _ _).alloc (Nat.le_refl _) _).alloc (by simp) _
  rcases (show (x ≤ -1440) ∨ (1440 ≤ x) ∨ (-1440 < x ∧ x < 0) ∨ (0 ≤ x ∧ x < 1440) from by omega) with h | h | ⟨h, h'⟩ | ⟨h, h'⟩
  · rw [← shf_none f x (.inl h)]
    go_enter Tryd.func33, Tryd.ntmps33
    go_wp2_with (refine wpList_store_row rfl 37 _ _ rfl _ _ rfl rfl _ _ h3 (maskSize _) (by simp [mv_size]) (mv_all _) ?_)
    refine bodyPost_ret (v := .agg (mv fun _ => false)) ?_ rfl ⟨rfl, below_setRow hb0 (by omega) _⟩
    exact results_cell_row rfl _ _ (w.heap.size + 1) _ _ _ _ rfl (setRow_heap _ _ _ _ _ _ h3) maskType rfl (maskSize _)
  · rw [← shf_none f x (.inr h)]
    have hno : ¬ x ≤ -1440 := by omega
    go_enter Tryd.func33, Tryd.ntmps33
    go_wp2_with (refine wpList_store_row rfl 37 _ _ rfl _ _ rfl rfl _ _ h3 (maskSize _) (by simp [mv_size]) (mv_all _) ?_)
    refine bodyPost_ret (v := .agg (mv fun _ => false)) ?_ rfl ⟨rfl, below_setRow hb0 (by omega) _⟩
    exact results_cell_row rfl _ _ (w.heap.size + 1) _ _ _ _ rfl (setRow_heap _ _ _ _ _ _ h3) maskType rfl (maskSize _)
  · obtain ⟨b, hb⟩ : ∃ b : Nat, -x = b := ⟨(-x).toNat, by omega⟩
    have hb2 : b < 1440 := by omega
    have hx : x = -(b : Int) := by omega
    have hshf := shf_down f b
    rw [← hx] at hshf
    rw [← hshf]
    clear hshf hx
    go_enter Tryd.func33, Tryd.ntmps33
    go_wp2_with (first
      | (refine wpList_load_row rfl 37 _ rfl _ rfl _ _ _ _ h1 maskType rfl (maskSize _) ?_)
      | (go_at_call 62; refine (trim_any _ _).mono ?_; rintro e w' ⟨rfl, hb'⟩; have ho' := (hb'.block _ (lt_of_block h3)).trans h3)
      | (go_at_call 61; refine (earlier_any _ _ hb2 _).mono ?_; rintro e w'' ⟨rfl, hb''⟩; have ho'' := (hb''.block _ (lt_of_block ho')).trans ho')
      | (refine wpList_store_row rfl 37 _ _ rfl _ _ rfl rfl _ _ ho'' (maskSize _) (by simp [mv_size]) (mv_all _) ?_))
    refine bodyPost_ret (v := .agg (mv fun t => decide (t + b < 1472) && (f (t + b) && decide (t + b < 1440)))) ?_ rfl ⟨rfl, ?_⟩
    · exact results_cell_row rfl _ _ (w.heap.size + 1) _ _ _ _ rfl (setRow_heap _ _ _ _ _ _ ho'') maskType rfl (maskSize _)
    · have hb1 := hb0.trans (hb'.mono hb0.size)
      exact below_setRow (hb1.trans (hb''.mono hb1.size)) (by omega) _
  · obtain ⟨b, rfl⟩ : ∃ b : Nat, x = b := ⟨x.toNat, by omega⟩
    rw [← shf_up f b]
    have hb2 : b < 1440 := by omega
    go_enter Tryd.func33, Tryd.ntmps33
    go_wp2_with (first
      | (refine wpList_load_row rfl 37 _ rfl _ rfl _ _ _ _ h1 maskType rfl (maskSize _) ?_)
      | (go_at_call 63; refine (later_any _ _ hb2 _).mono ?_; rintro e w' ⟨rfl, hb'⟩; have ho' := (hb'.block _ (lt_of_block h3)).trans h3)
      | (go_at_call 62; refine (trim_any _ _).mono ?_; rintro e w'' ⟨rfl, hb''⟩; have ho'' := (hb''.block _ (lt_of_block ho')).trans ho')
      | (refine wpList_store_row rfl 37 _ _ rfl _ _ rfl rfl _ _ ho'' (maskSize _) (by simp [mv_size]) (mv_all _) ?_))
    refine bodyPost_ret (v := .agg (mv fun t => (decide (b ≤ t) && f (t - b)) && decide (t < 1440))) ?_ rfl ⟨rfl, ?_⟩
    · exact results_cell_row rfl _ _ (w.heap.size + 1) _ _ _ _ rfl (setRow_heap _ _ _ _ _ _ ho'') maskType rfl (maskSize _)
    · have hb1 := hb0.trans (hb'.mono hb0.size)
      exact below_setRow (hb1.trans (hb''.mono hb1.size)) (by omega) _

end Go.Proofs.YtemdkpjdbciemaaDoor
