/- What slotref2.Union, Diff and Both come to. -/
import Derived.Test.YtemdkpjdbciemaaDoorRefMake
namespace Go.Proofs.YtemdkpjdbciemaaDoor
open Go.RowKit Msk

theorem hmkf : ∀ (fn : Fn) (first cap : Array Value) (w : World), (Instr.makeFunc fn first cap).run Tryd.prog w = .ok (.func fn first cap) w := fun _ _ _ _ => rfl

set_option maxRecDepth 10000 in
set_option maxHeartbeats 400000 in
theorem unionC (f g : Nat → Bool) (i A B : Nat) (w : World) (ha : w.heap[A]? = some (.cells (mv f) 37 (0, 0))) (hb : w.heap[B]? = some (.cells (mv g) 37 (0, 0))) :
    Calls Tryd.prog 56 #[.int .i64 (i : Int), .pointer (some ⟨A, 0, none⟩), .pointer (some ⟨B, 0, none⟩)] w fun e w' => e = .returned (.bool (hasB f (i : Int) || hasB g (i : Int))) ∧ Below w.heap.size w w' := by
  have c2 : ∀ w, Calls Tryd.prog 53 #[.agg (mv g), .int .i64 (i : Int)] w fun e w' => e = .returned (.bool (hasB g (i : Int))) ∧ Below w.heap.size w w' := fun w => has_ref g (i : Int) w
  cases hh : hasB f (i : Int) with
  | false =>
    have c1 : ∀ w, Calls Tryd.prog 53 #[.agg (mv f), .int .i64 (i : Int)] w fun e w' => e = .returned (.bool false) ∧ Below w.heap.size w w' := fun w => by
      have := has_ref f (i : Int) w
      rw [hh] at this
      exact this
    rw [Bool.false_or]
    clear hh
    generalize hasB g (i : Int) = y at *
    go_enter Tryd.func56, Tryd.ntmps56
    go_wp2_with (first
      | (refine wpList_load_row rfl 37 _ rfl _ rfl _ _ _ _ ha maskType rfl (maskSize _) ?_)
      | (go_at_call 53; refine (c1 _).mono ?_; rintro e w1 ⟨rfl, hb1⟩; have hb2 := (hb1.block _ (lt_of_block hb)).trans hb; clear c1)
      | (refine load_g (by rfl) _ (by rfl) _ (by rfl) g (by assumption) ?_)
      | (go_at_call 53; refine (c2 _).mono ?_; rintro e w2 ⟨rfl, hb3⟩; have hb4 := hb1.trans (hb3.mono hb1.size)))
    go_ret
    exact ⟨rfl, hb4⟩
  | true =>
    have c1 : ∀ w, Calls Tryd.prog 53 #[.agg (mv f), .int .i64 (i : Int)] w fun e w' => e = .returned (.bool true) ∧ Below w.heap.size w w' := fun w => by
      have := has_ref f (i : Int) w
      rw [hh] at this
      exact this
    rw [Bool.true_or]
    clear hh
    generalize hasB g (i : Int) = y at *
    go_enter Tryd.func56, Tryd.ntmps56
    go_wp2_with (first
      | (refine wpList_load_row rfl 37 _ rfl _ rfl _ _ _ _ ha maskType rfl (maskSize _) ?_)
      | (go_at_call 53; refine (c1 _).mono ?_; rintro e w1 ⟨rfl, hb1⟩; have hb2 := (hb1.block _ (lt_of_block hb)).trans hb; clear c1)
      | (refine load_g (by rfl) _ (by rfl) _ (by rfl) g (by assumption) ?_)
      | (go_at_call 53; refine (c2 _).mono ?_; rintro e w2 ⟨rfl, hb3⟩; have hb4 := hb1.trans (hb3.mono hb1.size)))
    go_ret
    exact ⟨rfl, hb1⟩

set_option maxRecDepth 10000 in
set_option maxHeartbeats 400000 in
theorem union_ref (f g : Nat → Bool) (w : World) :
    Calls Tryd.prog 28 #[.agg (mv f), .agg (mv g)] w fun e w' => e = .returned (.agg (mv fun i => (f i || g i) && decide (i < 1440))) ∧ Below w.heap.size w w' := by
  have hz := mv_lit
  have hmf := hmkf
  have h0 : (((w.alloc (.cells (mv f) 37)).alloc (.cells (mv g) 37)).alloc (.cells (mv fun _ => false) 37)).heap[w.heap.size]? = some (.cells (mv f) 37 (0, 0)) := by (repeat (first | refine blk_old _ _ _ (by simp only [size_alloc]; omega) ?_ | exact blk_new _ _ _ (by first | rfl | simp only [size_alloc])))
  have h1 : (((w.alloc (.cells (mv f) 37)).alloc (.cells (mv g) 37)).alloc (.cells (mv fun _ => false) 37)).heap[w.heap.size + 1]? = some (.cells (mv g) 37 (0, 0)) := by (repeat (first | refine blk_old _ _ _ (by simp only [size_alloc]; omega) ?_ | exact blk_new _ _ _ (by first | rfl | simp only [size_alloc])))
  have h2 : (((w.alloc (.cells (mv f) 37)).alloc (.cells (mv g) 37)).alloc (.cells (mv fun _ => false) 37)).heap[w.heap.size + 2]? = some (.cells (mv fun _ => false) 37 (0, 0)) := by (repeat (first | refine blk_old _ _ _ (by simp only [size_alloc]; omega) ?_ | exact blk_new _ _ _ (by first | rfl | simp only [size_alloc])))
  have hb0 : Below w.heap.size w (((w.alloc (.cells (mv f) 37)).alloc (.cells (mv g) 37)).alloc (.cells (mv fun _ => false) 37)) := (((Below.refl _ _).alloc (Nat.le_refl _) _).alloc (by simp) _).alloc (by simp; omega) _
  have cm := make_ref (fun i => (hasB f (i : Int) || hasB g (i : Int))) 56 #[.pointer (some ⟨w.heap.size, 0, none⟩), .pointer (some ⟨w.heap.size + 1, 0, none⟩)] _ (fun _ _ => by simp [go_sem]) fun i wr _ hbr => unionC f g i w.heap.size (w.heap.size + 1) wr ((hbr.block _ (lt_of_block h0)).trans h0) ((hbr.block _ (lt_of_block h1)).trans h1)
  rw [show (mv fun i => (hasB f (i : Int) || hasB g (i : Int)) && decide (i < 1440)) = mv fun i => (f i || g i) && decide (i < 1440) from mv_ext fun i _ => by
    rw [hasB_nat, hasB_nat]
    by_cases h : i < 1440 <;> simp [h]] at cm
  clear h0 h1
  go_enter Tryd.func28, Tryd.ntmps28
  go_wp2_with (first
    | (go_at_call 50; refine cm.mono ?_; rintro e w1 ⟨rfl, hb1⟩; have h3 := (hb1.block _ (lt_of_block h2)).trans h2; have hb2 := hb0.trans (hb1.mono hb0.size); clear h2 hb1)
    | (refine wpList_store_row rfl 37 _ _ rfl _ _ rfl rfl _ _ h3 (maskSize _) (by simp [mv_size]) (mv_all _) ?_))
  refine bodyPost_ret (v := .agg (mv fun i => (f i || g i) && decide (i < 1440))) ?_ rfl ⟨rfl, below_setRow hb2 (by omega) _⟩
  exact results_cell_row rfl _ _ (w.heap.size + 2) _ _ _ _ rfl (setRow_heap _ _ _ _ _ _ h3) maskType rfl (maskSize _)

set_option maxRecDepth 10000 in
set_option maxHeartbeats 400000 in
theorem diffC (f g : Nat → Bool) (i A B : Nat) (w : World) (ha : w.heap[A]? = some (.cells (mv f) 37 (0, 0))) (hb : w.heap[B]? = some (.cells (mv g) 37 (0, 0))) :
    Calls Tryd.prog 58 #[.int .i64 (i : Int), .pointer (some ⟨A, 0, none⟩), .pointer (some ⟨B, 0, none⟩)] w fun e w' => e = .returned (.bool (hasB f (i : Int) && !hasB g (i : Int))) ∧ Below w.heap.size w w' := by
  have c2 : ∀ w, Calls Tryd.prog 53 #[.agg (mv g), .int .i64 (i : Int)] w fun e w' => e = .returned (.bool (hasB g (i : Int))) ∧ Below w.heap.size w w' := fun w => has_ref g (i : Int) w
  cases hh : hasB f (i : Int) with
  | false =>
    have c1 : ∀ w, Calls Tryd.prog 53 #[.agg (mv f), .int .i64 (i : Int)] w fun e w' => e = .returned (.bool false) ∧ Below w.heap.size w w' := fun w => by
      have := has_ref f (i : Int) w
      rw [hh] at this
      exact this
    rw [Bool.false_and]
    clear hh
    generalize hasB g (i : Int) = y at *
    go_enter Tryd.func58, Tryd.ntmps58
    go_wp2_with (first
      | (refine wpList_load_row rfl 37 _ rfl _ rfl _ _ _ _ ha maskType rfl (maskSize _) ?_)
      | (go_at_call 53; refine (c1 _).mono ?_; rintro e w1 ⟨rfl, hb1⟩; have hb2 := (hb1.block _ (lt_of_block hb)).trans hb; clear c1)
      | (refine load_g (by rfl) _ (by rfl) _ (by rfl) g (by assumption) ?_)
      | (go_at_call 53; refine (c2 _).mono ?_; rintro e w2 ⟨rfl, hb3⟩; have hb4 := hb1.trans (hb3.mono hb1.size)))
    go_ret
    exact ⟨rfl, hb1⟩
  | true =>
    have c1 : ∀ w, Calls Tryd.prog 53 #[.agg (mv f), .int .i64 (i : Int)] w fun e w' => e = .returned (.bool true) ∧ Below w.heap.size w w' := fun w => by
      have := has_ref f (i : Int) w
      rw [hh] at this
      exact this
    rw [Bool.true_and]
    clear hh
    generalize hasB g (i : Int) = y at *
    go_enter Tryd.func58, Tryd.ntmps58
    go_wp2_with (first
      | (refine wpList_load_row rfl 37 _ rfl _ rfl _ _ _ _ ha maskType rfl (maskSize _) ?_)
      | (go_at_call 53; refine (c1 _).mono ?_; rintro e w1 ⟨rfl, hb1⟩; have hb2 := (hb1.block _ (lt_of_block hb)).trans hb; clear c1)
      | (refine load_g (by rfl) _ (by rfl) _ (by rfl) g (by assumption) ?_)
      | (go_at_call 53; refine (c2 _).mono ?_; rintro e w2 ⟨rfl, hb3⟩; have hb4 := hb1.trans (hb3.mono hb1.size)))
    go_ret
    exact ⟨rfl, hb4⟩

set_option maxRecDepth 10000 in
set_option maxHeartbeats 400000 in
theorem diff_ref (f g : Nat → Bool) (w : World) :
    Calls Tryd.prog 30 #[.agg (mv f), .agg (mv g)] w fun e w' => e = .returned (.agg (mv fun i => (f i && !g i) && decide (i < 1440))) ∧ Below w.heap.size w w' := by
  have hz := mv_lit
  have hmf := hmkf
  have h0 : (((w.alloc (.cells (mv f) 37)).alloc (.cells (mv g) 37)).alloc (.cells (mv fun _ => false) 37)).heap[w.heap.size]? = some (.cells (mv f) 37 (0, 0)) := by (repeat (first | refine blk_old _ _ _ (by simp only [size_alloc]; omega) ?_ | exact blk_new _ _ _ (by first | rfl | simp only [size_alloc])))
  have h1 : (((w.alloc (.cells (mv f) 37)).alloc (.cells (mv g) 37)).alloc (.cells (mv fun _ => false) 37)).heap[w.heap.size + 1]? = some (.cells (mv g) 37 (0, 0)) := by (repeat (first | refine blk_old _ _ _ (by simp only [size_alloc]; omega) ?_ | exact blk_new _ _ _ (by first | rfl | simp only [size_alloc])))
  have h2 : (((w.alloc (.cells (mv f) 37)).alloc (.cells (mv g) 37)).alloc (.cells (mv fun _ => false) 37)).heap[w.heap.size + 2]? = some (.cells (mv fun _ => false) 37 (0, 0)) := by (repeat (first | refine blk_old _ _ _ (by simp only [size_alloc]; omega) ?_ | exact blk_new _ _ _ (by first | rfl | simp only [size_alloc])))
  have hb0 : Below w.heap.size w (((w.alloc (.cells (mv f) 37)).alloc (.cells (mv g) 37)).alloc (.cells (mv fun _ => false) 37)) := (((Below.refl _ _).alloc (Nat.le_refl _) _).alloc (by simp) _).alloc (by simp; omega) _
  have cm := make_ref (fun i => (hasB f (i : Int) && !hasB g (i : Int))) 58 #[.pointer (some ⟨w.heap.size, 0, none⟩), .pointer (some ⟨w.heap.size + 1, 0, none⟩)] _ (fun _ _ => by simp [go_sem]) fun i wr _ hbr => diffC f g i w.heap.size (w.heap.size + 1) wr ((hbr.block _ (lt_of_block h0)).trans h0) ((hbr.block _ (lt_of_block h1)).trans h1)
  rw [show (mv fun i => (hasB f (i : Int) && !hasB g (i : Int)) && decide (i < 1440)) = mv fun i => (f i && !g i) && decide (i < 1440) from mv_ext fun i _ => by
    rw [hasB_nat, hasB_nat]
    by_cases h : i < 1440 <;> simp [h]] at cm
  clear h0 h1
  go_enter Tryd.func30, Tryd.ntmps30
  go_wp2_with (first
    | (go_at_call 50; refine cm.mono ?_; rintro e w1 ⟨rfl, hb1⟩; have h3 := (hb1.block _ (lt_of_block h2)).trans h2; have hb2 := hb0.trans (hb1.mono hb0.size); clear h2 hb1)
    | (refine wpList_store_row rfl 37 _ _ rfl _ _ rfl rfl _ _ h3 (maskSize _) (by simp [mv_size]) (mv_all _) ?_))
  refine bodyPost_ret (v := .agg (mv fun i => (f i && !g i) && decide (i < 1440))) ?_ rfl ⟨rfl, below_setRow hb2 (by omega) _⟩
  exact results_cell_row rfl _ _ (w.heap.size + 2) _ _ _ _ rfl (setRow_heap _ _ _ _ _ _ h3) maskType rfl (maskSize _)

set_option maxRecDepth 10000 in
set_option maxHeartbeats 400000 in
theorem bothC (f g : Nat → Bool) (i A B : Nat) (w : World) (ha : w.heap[A]? = some (.cells (mv f) 37 (0, 0))) (hb : w.heap[B]? = some (.cells (mv g) 37 (0, 0))) :
    Calls Tryd.prog 60 #[.int .i64 (i : Int), .pointer (some ⟨A, 0, none⟩), .pointer (some ⟨B, 0, none⟩)] w fun e w' => e = .returned (.bool (hasB f (i : Int) && hasB g (i : Int))) ∧ Below w.heap.size w w' := by
  have c2 : ∀ w, Calls Tryd.prog 53 #[.agg (mv g), .int .i64 (i : Int)] w fun e w' => e = .returned (.bool (hasB g (i : Int))) ∧ Below w.heap.size w w' := fun w => has_ref g (i : Int) w
  cases hh : hasB f (i : Int) with
  | false =>
    have c1 : ∀ w, Calls Tryd.prog 53 #[.agg (mv f), .int .i64 (i : Int)] w fun e w' => e = .returned (.bool false) ∧ Below w.heap.size w w' := fun w => by
      have := has_ref f (i : Int) w
      rw [hh] at this
      exact this
    rw [Bool.false_and]
    clear hh
    generalize hasB g (i : Int) = y at *
    go_enter Tryd.func60, Tryd.ntmps60
    go_wp2_with (first
      | (refine wpList_load_row rfl 37 _ rfl _ rfl _ _ _ _ ha maskType rfl (maskSize _) ?_)
      | (go_at_call 53; refine (c1 _).mono ?_; rintro e w1 ⟨rfl, hb1⟩; have hb2 := (hb1.block _ (lt_of_block hb)).trans hb; clear c1)
      | (refine load_g (by rfl) _ (by rfl) _ (by rfl) g (by assumption) ?_)
      | (go_at_call 53; refine (c2 _).mono ?_; rintro e w2 ⟨rfl, hb3⟩; have hb4 := hb1.trans (hb3.mono hb1.size)))
    go_ret
    exact ⟨rfl, hb1⟩
  | true =>
    have c1 : ∀ w, Calls Tryd.prog 53 #[.agg (mv f), .int .i64 (i : Int)] w fun e w' => e = .returned (.bool true) ∧ Below w.heap.size w w' := fun w => by
      have := has_ref f (i : Int) w
      rw [hh] at this
      exact this
    rw [Bool.true_and]
    clear hh
    generalize hasB g (i : Int) = y at *
    go_enter Tryd.func60, Tryd.ntmps60
    go_wp2_with (first
      | (refine wpList_load_row rfl 37 _ rfl _ rfl _ _ _ _ ha maskType rfl (maskSize _) ?_)
      | (go_at_call 53; refine (c1 _).mono ?_; rintro e w1 ⟨rfl, hb1⟩; have hb2 := (hb1.block _ (lt_of_block hb)).trans hb; clear c1)
      | (refine load_g (by rfl) _ (by rfl) _ (by rfl) g (by assumption) ?_)
      | (go_at_call 53; refine (c2 _).mono ?_; rintro e w2 ⟨rfl, hb3⟩; have hb4 := hb1.trans (hb3.mono hb1.size)))
    go_ret
    exact ⟨rfl, hb4⟩

set_option maxRecDepth 10000 in
set_option maxHeartbeats 400000 in
theorem both_ref (f g : Nat → Bool) (w : World) :
    Calls Tryd.prog 32 #[.agg (mv f), .agg (mv g)] w fun e w' => e = .returned (.agg (mv fun i => (f i && g i) && decide (i < 1440))) ∧ Below w.heap.size w w' := by
  have hz := mv_lit
  have hmf := hmkf
  have h0 : (((w.alloc (.cells (mv f) 37)).alloc (.cells (mv g) 37)).alloc (.cells (mv fun _ => false) 37)).heap[w.heap.size]? = some (.cells (mv f) 37 (0, 0)) := by (repeat (first | refine blk_old _ _ _ (by simp only [size_alloc]; omega) ?_ | exact blk_new _ _ _ (by first | rfl | simp only [size_alloc])))
  have h1 : (((w.alloc (.cells (mv f) 37)).alloc (.cells (mv g) 37)).alloc (.cells (mv fun _ => false) 37)).heap[w.heap.size + 1]? = some (.cells (mv g) 37 (0, 0)) := by (repeat (first | refine blk_old _ _ _ (by simp only [size_alloc]; omega) ?_ | exact blk_new _ _ _ (by first | rfl | simp only [size_alloc])))
  have h2 : (((w.alloc (.cells (mv f) 37)).alloc (.cells (mv g) 37)).alloc (.cells (mv fun _ => false) 37)).heap[w.heap.size + 2]? = some (.cells (mv fun _ => false) 37 (0, 0)) := by (repeat (first | refine blk_old _ _ _ (by simp only [size_alloc]; omega) ?_ | exact blk_new _ _ _ (by first | rfl | simp only [size_alloc])))
  have hb0 : Below w.heap.size w (((w.alloc (.cells (mv f) 37)).alloc (.cells (mv g) 37)).alloc (.cells (mv fun _ => false) 37)) := (((Below.refl _ _).alloc (Nat.le_refl _) _).alloc (by simp) _).alloc (by simp; omega) _
  have cm := make_ref (fun i => (hasB f (i : Int) && hasB g (i : Int))) 60 #[.pointer (some ⟨w.heap.size, 0, none⟩), .pointer (some ⟨w.heap.size + 1, 0, none⟩)] _ (fun _ _ => by simp [go_sem]) fun i wr _ hbr => bothC f g i w.heap.size (w.heap.size + 1) wr ((hbr.block _ (lt_of_block h0)).trans h0) ((hbr.block _ (lt_of_block h1)).trans h1)
  rw [show (mv fun i => (hasB f (i : Int) && hasB g (i : Int)) && decide (i < 1440)) = mv fun i => (f i && g i) && decide (i < 1440) from mv_ext fun i _ => by
    rw [hasB_nat, hasB_nat]
    by_cases h : i < 1440 <;> simp [h]] at cm
  clear h0 h1
  go_enter Tryd.func32, Tryd.ntmps32
  go_wp2_with (first
    | (go_at_call 50; refine cm.mono ?_; rintro e w1 ⟨rfl, hb1⟩; have h3 := (hb1.block _ (lt_of_block h2)).trans h2; have hb2 := hb0.trans (hb1.mono hb0.size); clear h2 hb1)
    | (refine wpList_store_row rfl 37 _ _ rfl _ _ rfl rfl _ _ h3 (maskSize _) (by simp [mv_size]) (mv_all _) ?_))
  refine bodyPost_ret (v := .agg (mv fun i => (f i && g i) && decide (i < 1440))) ?_ rfl ⟨rfl, below_setRow hb2 (by omega) _⟩
  exact results_cell_row rfl _ _ (w.heap.size + 2) _ _ _ _ rfl (setRow_heap _ _ _ _ _ _ h3) maskType rfl (maskSize _)
end Go.Proofs.YtemdkpjdbciemaaDoor
