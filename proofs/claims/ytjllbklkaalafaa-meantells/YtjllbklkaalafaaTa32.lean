/- What slotref2.Union, Diff and Both come to. -/
import Derived.Test.YtjllbklkaalafaaTa31
import Derived.Test.YtjllbklkaalafaaTa24
import Derived.Test.YtjllbklkaalafaaTa22
namespace Go.Proofs.Ytjllbklkaalafaa
open Go.RowKit Msk

theorem hmkf : ∀ (fn : Fn) (first cap : Array Value) (w : World), (Instr.makeFunc fn first cap).run Try.prog w = .ok (.func fn first cap) w := fun _ _ _ _ => rfl

set_option maxRecDepth 10000 in
set_option maxHeartbeats 400000 in
theorem unionC (f g : Nat → Bool) (i A B : Nat) (w : World) (ha : w.heap[A]? = some (.cells (mv f) 58 (0, 0))) (hb : w.heap[B]? = some (.cells (mv g) 58 (0, 0))) :
    Calls Try.prog 56 #[.int .i64 (i : Int), .pointer (some ⟨A, 0, none⟩), .pointer (some ⟨B, 0, none⟩)] w fun e w' => e = .returned (.bool (hasB f (i : Int) || hasB g (i : Int))) ∧ Below w.heap.size w w' := by
  have c2 : ∀ w, Calls Try.prog 57 #[.agg (mv g), .int .i64 (i : Int)] w fun e w' => e = .returned (.bool (hasB g (i : Int))) ∧ Below w.heap.size w w' := fun w => has_ref g (i : Int) w
  cases hh : hasB f (i : Int) with
  | false =>
    have c1 : ∀ w, Calls Try.prog 57 #[.agg (mv f), .int .i64 (i : Int)] w fun e w' => e = .returned (.bool false) ∧ Below w.heap.size w w' := fun w => by
      have := has_ref f (i : Int) w
      rw [hh] at this
      exact this
    rw [Bool.false_or]
    clear hh
    generalize hasB g (i : Int) = y at *
    go_enter Try.func56, Try.ntmps56
    go_wp2_with (first
      | (refine wpList_load_row rfl 58 _ rfl _ rfl _ _ _ _ ha maskType rfl (maskSize _) ?_)
      | (go_at_call 57; refine (c1 _).mono ?_; rintro e w1 ⟨rfl, hb1⟩; have hb2 := (hb1.block _ (lt_of_block hb)).trans hb; clear c1)
      | (refine load_g (by rfl) _ (by rfl) _ (by rfl) g (by assumption) ?_)
      | (go_at_call 57; refine (c2 _).mono ?_; rintro e w2 ⟨rfl, hb3⟩; have hb4 := hb1.trans (hb3.mono hb1.size)))
    go_ret
    exact ⟨rfl, hb4⟩
  | true =>
    have c1 : ∀ w, Calls Try.prog 57 #[.agg (mv f), .int .i64 (i : Int)] w fun e w' => e = .returned (.bool true) ∧ Below w.heap.size w w' := fun w => by
      have := has_ref f (i : Int) w
      rw [hh] at this
      exact this
    rw [Bool.true_or]
    clear hh
    generalize hasB g (i : Int) = y at *
    go_enter Try.func56, Try.ntmps56
    go_wp2_with (first
      | (refine wpList_load_row rfl 58 _ rfl _ rfl _ _ _ _ ha maskType rfl (maskSize _) ?_)
      | (go_at_call 57; refine (c1 _).mono ?_; rintro e w1 ⟨rfl, hb1⟩; have hb2 := (hb1.block _ (lt_of_block hb)).trans hb; clear c1)
      | (refine load_g (by rfl) _ (by rfl) _ (by rfl) g (by assumption) ?_)
      | (go_at_call 57; refine (c2 _).mono ?_; rintro e w2 ⟨rfl, hb3⟩; have hb4 := hb1.trans (hb3.mono hb1.size)))
    go_ret
    exact ⟨rfl, hb1⟩

set_option maxRecDepth 10000 in
set_option maxHeartbeats 400000 in
theorem union_ref (f g : Nat → Bool) (w : World) :
    Calls Try.prog 40 #[.agg (mv f), .agg (mv g)] w fun e w' => e = .returned (.agg (mv fun i => (f i || g i) && decide (i < 1440))) ∧ Below w.heap.size w w' := by
  have hz := mv_lit
  have hmf := hmkf
  have h0 : (((w.alloc (.cells (mv f) 58)).alloc (.cells (mv g) 58)).alloc (.cells (mv fun _ => false) 58)).heap[w.heap.size]? = some (.cells (mv f) 58 (0, 0)) := by (repeat (first | refine blk_old _ _ _ (by simp only [size_alloc]; omega) ?_ | exact blk_new _ _ _ (by first | rfl | simp only [size_alloc])))
  have h1 : (((w.alloc (.cells (mv f) 58)).alloc (.cells (mv g) 58)).alloc (.cells (mv fun _ => false) 58)).heap[w.heap.size + 1]? = some (.cells (mv g) 58 (0, 0)) := by (repeat (first | refine blk_old _ _ _ (by simp only [size_alloc]; omega) ?_ | exact blk_new _ _ _ (by first | rfl | simp only [size_alloc])))
  have h2 : (((w.alloc (.cells (mv f) 58)).alloc (.cells (mv g) 58)).alloc (.cells (mv fun _ => false) 58)).heap[w.heap.size + 2]? = some (.cells (mv fun _ => false) 58 (0, 0)) := by (repeat (first | refine blk_old _ _ _ (by simp only [size_alloc]; omega) ?_ | exact blk_new _ _ _ (by first | rfl | simp only [size_alloc])))
  have hb0 : Below w.heap.size w (((w.alloc (.cells (mv f) 58)).alloc (.cells (mv g) 58)).alloc (.cells (mv fun _ => false) 58)) := (((Below.refl _ _).alloc (Nat.le_refl _) _).alloc (by simp) _).alloc (by simp; omega) _
  have cm := make_ref (fun i => (hasB f (i : Int) || hasB g (i : Int))) 56 #[.pointer (some ⟨w.heap.size, 0, none⟩), .pointer (some ⟨w.heap.size + 1, 0, none⟩)] _ (fun _ _ => by simp [go_sem]) fun i wr _ hbr => unionC f g i w.heap.size (w.heap.size + 1) wr ((hbr.block _ (lt_of_block h0)).trans h0) ((hbr.block _ (lt_of_block h1)).trans h1)
  rw [show (mv fun i => (hasB f (i : Int) || hasB g (i : Int)) && decide (i < 1440)) = mv fun i => (f i || g i) && decide (i < 1440) from mv_ext fun i _ => by
    rw [hasB_nat, hasB_nat]
    by_cases h : i < 1440 <;> simp [h]] at cm
  clear h0 h1
  go_enter Try.func40, Try.ntmps40
  go_wp2_with (first
    | (go_at_call 36; refine cm.mono ?_; rintro e w1 ⟨rfl, hb1⟩; have h3 := (hb1.block _ (lt_of_block h2)).trans h2; have hb2 := hb0.trans (hb1.mono hb0.size); clear h2 hb1)
    | (refine wpList_store_row rfl 58 _ _ rfl _ _ rfl rfl _ _ h3 (maskSize _) (by simp [mv_size]) (mv_all _) ?_))
  refine bodyPost_ret (v := .agg (mv fun i => (f i || g i) && decide (i < 1440))) ?_ rfl ⟨rfl, below_setRow hb2 (by omega) _⟩
  exact results_cell_row rfl _ _ (w.heap.size + 2) _ _ _ _ rfl (setRow_heap _ _ _ _ _ _ h3) maskType rfl (maskSize _)

set_option maxRecDepth 10000 in
set_option maxHeartbeats 400000 in
theorem diffC (f g : Nat → Bool) (i A B : Nat) (w : World) (ha : w.heap[A]? = some (.cells (mv f) 58 (0, 0))) (hb : w.heap[B]? = some (.cells (mv g) 58 (0, 0))) :
    Calls Try.prog 58 #[.int .i64 (i : Int), .pointer (some ⟨A, 0, none⟩), .pointer (some ⟨B, 0, none⟩)] w fun e w' => e = .returned (.bool (hasB f (i : Int) && !hasB g (i : Int))) ∧ Below w.heap.size w w' := by
  have c2 : ∀ w, Calls Try.prog 57 #[.agg (mv g), .int .i64 (i : Int)] w fun e w' => e = .returned (.bool (hasB g (i : Int))) ∧ Below w.heap.size w w' := fun w => has_ref g (i : Int) w
  cases hh : hasB f (i : Int) with
  | false =>
    have c1 : ∀ w, Calls Try.prog 57 #[.agg (mv f), .int .i64 (i : Int)] w fun e w' => e = .returned (.bool false) ∧ Below w.heap.size w w' := fun w => by
      have := has_ref f (i : Int) w
      rw [hh] at this
      exact this
    rw [Bool.false_and]
    clear hh
    generalize hasB g (i : Int) = y at *
    go_enter Try.func58, Try.ntmps58
    go_wp2_with (first
      | (refine wpList_load_row rfl 58 _ rfl _ rfl _ _ _ _ ha maskType rfl (maskSize _) ?_)
      | (go_at_call 57; refine (c1 _).mono ?_; rintro e w1 ⟨rfl, hb1⟩; have hb2 := (hb1.block _ (lt_of_block hb)).trans hb; clear c1)
      | (refine load_g (by rfl) _ (by rfl) _ (by rfl) g (by assumption) ?_)
      | (go_at_call 57; refine (c2 _).mono ?_; rintro e w2 ⟨rfl, hb3⟩; have hb4 := hb1.trans (hb3.mono hb1.size)))
    go_ret
    exact ⟨rfl, hb1⟩
  | true =>
    have c1 : ∀ w, Calls Try.prog 57 #[.agg (mv f), .int .i64 (i : Int)] w fun e w' => e = .returned (.bool true) ∧ Below w.heap.size w w' := fun w => by
      have := has_ref f (i : Int) w
      rw [hh] at this
      exact this
    rw [Bool.true_and]
    clear hh
    generalize hasB g (i : Int) = y at *
    go_enter Try.func58, Try.ntmps58
    go_wp2_with (first
      | (refine wpList_load_row rfl 58 _ rfl _ rfl _ _ _ _ ha maskType rfl (maskSize _) ?_)
      | (go_at_call 57; refine (c1 _).mono ?_; rintro e w1 ⟨rfl, hb1⟩; have hb2 := (hb1.block _ (lt_of_block hb)).trans hb; clear c1)
      | (refine load_g (by rfl) _ (by rfl) _ (by rfl) g (by assumption) ?_)
      | (go_at_call 57; refine (c2 _).mono ?_; rintro e w2 ⟨rfl, hb3⟩; have hb4 := hb1.trans (hb3.mono hb1.size)))
    go_ret
    exact ⟨rfl, hb4⟩

set_option maxRecDepth 10000 in
set_option maxHeartbeats 400000 in
theorem diff_ref (f g : Nat → Bool) (w : World) :
    Calls Try.prog 41 #[.agg (mv f), .agg (mv g)] w fun e w' => e = .returned (.agg (mv fun i => (f i && !g i) && decide (i < 1440))) ∧ Below w.heap.size w w' := by
  have hz := mv_lit
  have hmf := hmkf
  have h0 : (((w.alloc (.cells (mv f) 58)).alloc (.cells (mv g) 58)).alloc (.cells (mv fun _ => false) 58)).heap[w.heap.size]? = some (.cells (mv f) 58 (0, 0)) := by (repeat (first | refine blk_old _ _ _ (by simp only [size_alloc]; omega) ?_ | exact blk_new _ _ _ (by first | rfl | simp only [size_alloc])))
  have h1 : (((w.alloc (.cells (mv f) 58)).alloc (.cells (mv g) 58)).alloc (.cells (mv fun _ => false) 58)).heap[w.heap.size + 1]? = some (.cells (mv g) 58 (0, 0)) := by (repeat (first | refine blk_old _ _ _ (by simp only [size_alloc]; omega) ?_ | exact blk_new _ _ _ (by first | rfl | simp only [size_alloc])))
  have h2 : (((w.alloc (.cells (mv f) 58)).alloc (.cells (mv g) 58)).alloc (.cells (mv fun _ => false) 58)).heap[w.heap.size + 2]? = some (.cells (mv fun _ => false) 58 (0, 0)) := by (repeat (first | refine blk_old _ _ _ (by simp only [size_alloc]; omega) ?_ | exact blk_new _ _ _ (by first | rfl | simp only [size_alloc])))
  have hb0 : Below w.heap.size w (((w.alloc (.cells (mv f) 58)).alloc (.cells (mv g) 58)).alloc (.cells (mv fun _ => false) 58)) := (((Below.refl _ _).alloc (Nat.le_refl _) _).alloc (by simp) _).alloc (by simp; omega) _
  have cm := make_ref (fun i => (hasB f (i : Int) && !hasB g (i : Int))) 58 #[.pointer (some ⟨w.heap.size, 0, none⟩), .pointer (some ⟨w.heap.size + 1, 0, none⟩)] _ (fun _ _ => by simp [go_sem]) fun i wr _ hbr => diffC f g i w.heap.size (w.heap.size + 1) wr ((hbr.block _ (lt_of_block h0)).trans h0) ((hbr.block _ (lt_of_block h1)).trans h1)
  rw [show (mv fun i => (hasB f (i : Int) && !hasB g (i : Int)) && decide (i < 1440)) = mv fun i => (f i && !g i) && decide (i < 1440) from mv_ext fun i _ => by
    rw [hasB_nat, hasB_nat]
    by_cases h : i < 1440 <;> simp [h]] at cm
  clear h0 h1
  go_enter Try.func41, Try.ntmps41
  go_wp2_with (first
    | (go_at_call 36; refine cm.mono ?_; rintro e w1 ⟨rfl, hb1⟩; have h3 := (hb1.block _ (lt_of_block h2)).trans h2; have hb2 := hb0.trans (hb1.mono hb0.size); clear h2 hb1)
    | (refine wpList_store_row rfl 58 _ _ rfl _ _ rfl rfl _ _ h3 (maskSize _) (by simp [mv_size]) (mv_all _) ?_))
  refine bodyPost_ret (v := .agg (mv fun i => (f i && !g i) && decide (i < 1440))) ?_ rfl ⟨rfl, below_setRow hb2 (by omega) _⟩
  exact results_cell_row rfl _ _ (w.heap.size + 2) _ _ _ _ rfl (setRow_heap _ _ _ _ _ _ h3) maskType rfl (maskSize _)

set_option maxRecDepth 10000 in
set_option maxHeartbeats 400000 in
theorem bothC (f g : Nat → Bool) (i A B : Nat) (w : World) (ha : w.heap[A]? = some (.cells (mv f) 58 (0, 0))) (hb : w.heap[B]? = some (.cells (mv g) 58 (0, 0))) :
    Calls Try.prog 59 #[.int .i64 (i : Int), .pointer (some ⟨A, 0, none⟩), .pointer (some ⟨B, 0, none⟩)] w fun e w' => e = .returned (.bool (hasB f (i : Int) && hasB g (i : Int))) ∧ Below w.heap.size w w' := by
  have c2 : ∀ w, Calls Try.prog 57 #[.agg (mv g), .int .i64 (i : Int)] w fun e w' => e = .returned (.bool (hasB g (i : Int))) ∧ Below w.heap.size w w' := fun w => has_ref g (i : Int) w
  cases hh : hasB f (i : Int) with
  | false =>
    have c1 : ∀ w, Calls Try.prog 57 #[.agg (mv f), .int .i64 (i : Int)] w fun e w' => e = .returned (.bool false) ∧ Below w.heap.size w w' := fun w => by
      have := has_ref f (i : Int) w
      rw [hh] at this
      exact this
    rw [Bool.false_and]
    clear hh
    generalize hasB g (i : Int) = y at *
    go_enter Try.func59, Try.ntmps59
    go_wp2_with (first
      | (refine wpList_load_row rfl 58 _ rfl _ rfl _ _ _ _ ha maskType rfl (maskSize _) ?_)
      | (go_at_call 57; refine (c1 _).mono ?_; rintro e w1 ⟨rfl, hb1⟩; have hb2 := (hb1.block _ (lt_of_block hb)).trans hb; clear c1)
      | (refine load_g (by rfl) _ (by rfl) _ (by rfl) g (by assumption) ?_)
      | (go_at_call 57; refine (c2 _).mono ?_; rintro e w2 ⟨rfl, hb3⟩; have hb4 := hb1.trans (hb3.mono hb1.size)))
    go_ret
    exact ⟨rfl, hb1⟩
  | true =>
    have c1 : ∀ w, Calls Try.prog 57 #[.agg (mv f), .int .i64 (i : Int)] w fun e w' => e = .returned (.bool true) ∧ Below w.heap.size w w' := fun w => by
      have := has_ref f (i : Int) w
      rw [hh] at this
      exact this
    rw [Bool.true_and]
    clear hh
    generalize hasB g (i : Int) = y at *
    go_enter Try.func59, Try.ntmps59
    go_wp2_with (first
      | (refine wpList_load_row rfl 58 _ rfl _ rfl _ _ _ _ ha maskType rfl (maskSize _) ?_)
      | (go_at_call 57; refine (c1 _).mono ?_; rintro e w1 ⟨rfl, hb1⟩; have hb2 := (hb1.block _ (lt_of_block hb)).trans hb; clear c1)
      | (refine load_g (by rfl) _ (by rfl) _ (by rfl) g (by assumption) ?_)
      | (go_at_call 57; refine (c2 _).mono ?_; rintro e w2 ⟨rfl, hb3⟩; have hb4 := hb1.trans (hb3.mono hb1.size)))
    go_ret
    exact ⟨rfl, hb4⟩

set_option maxRecDepth 10000 in
set_option maxHeartbeats 400000 in
theorem both_ref (f g : Nat → Bool) (w : World) :
    Calls Try.prog 42 #[.agg (mv f), .agg (mv g)] w fun e w' => e = .returned (.agg (mv fun i => (f i && g i) && decide (i < 1440))) ∧ Below w.heap.size w w' := by
  have hz := mv_lit
  have hmf := hmkf
  have h0 : (((w.alloc (.cells (mv f) 58)).alloc (.cells (mv g) 58)).alloc (.cells (mv fun _ => false) 58)).heap[w.heap.size]? = some (.cells (mv f) 58 (0, 0)) := by (repeat (first | refine blk_old _ _ _ (by simp only [size_alloc]; omega) ?_ | exact blk_new _ _ _ (by first | rfl | simp only [size_alloc])))
  have h1 : (((w.alloc (.cells (mv f) 58)).alloc (.cells (mv g) 58)).alloc (.cells (mv fun _ => false) 58)).heap[w.heap.size + 1]? = some (.cells (mv g) 58 (0, 0)) := by (repeat (first | refine blk_old _ _ _ (by simp only [size_alloc]; omega) ?_ | exact blk_new _ _ _ (by first | rfl | simp only [size_alloc])))
  have h2 : (((w.alloc (.cells (mv f) 58)).alloc (.cells (mv g) 58)).alloc (.cells (mv fun _ => false) 58)).heap[w.heap.size + 2]? = some (.cells (mv fun _ => false) 58 (0, 0)) := by (repeat (first | refine blk_old _ _ _ (by simp only [size_alloc]; omega) ?_ | exact blk_new _ _ _ (by first | rfl | simp only [size_alloc])))
  have hb0 : Below w.heap.size w (((w.alloc (.cells (mv f) 58)).alloc (.cells (mv g) 58)).alloc (.cells (mv fun _ => false) 58)) := (((Below.refl _ _).alloc (Nat.le_refl _) _).alloc (by simp) _).alloc (by simp; omega) _
  have cm := make_ref (fun i => (hasB f (i : Int) && hasB g (i : Int))) 59 #[.pointer (some ⟨w.heap.size, 0, none⟩), .pointer (some ⟨w.heap.size + 1, 0, none⟩)] _ (fun _ _ => by simp [go_sem]) fun i wr _ hbr => bothC f g i w.heap.size (w.heap.size + 1) wr ((hbr.block _ (lt_of_block h0)).trans h0) ((hbr.block _ (lt_of_block h1)).trans h1)
  rw [show (mv fun i => (hasB f (i : Int) && hasB g (i : Int)) && decide (i < 1440)) = mv fun i => (f i && g i) && decide (i < 1440) from mv_ext fun i _ => by
    rw [hasB_nat, hasB_nat]
    by_cases h : i < 1440 <;> simp [h]] at cm
  clear h0 h1
  go_enter Try.func42, Try.ntmps42
  go_wp2_with (first
    | (go_at_call 36; refine cm.mono ?_; rintro e w1 ⟨rfl, hb1⟩; have h3 := (hb1.block _ (lt_of_block h2)).trans h2; have hb2 := hb0.trans (hb1.mono hb0.size); clear h2 hb1)
    | (refine wpList_store_row rfl 58 _ _ rfl _ _ rfl rfl _ _ h3 (maskSize _) (by simp [mv_size]) (mv_all _) ?_))
  refine bodyPost_ret (v := .agg (mv fun i => (f i && g i) && decide (i < 1440))) ?_ rfl ⟨rfl, below_setRow hb2 (by omega) _⟩
  exact results_cell_row rfl _ _ (w.heap.size + 2) _ _ _ _ rfl (setRow_heap _ _ _ _ _ _ h3) maskType rfl (maskSize _)
end Go.Proofs.Ytjllbklkaalafaa

/- What slotref2.Shift comes to. -/
namespace Go.Proofs.Ytjllbklkaalafaa
open Go.RowKit Msk

set_option maxRecDepth 10000 in
set_option maxHeartbeats 400000 in
theorem shiftC (f : Nat → Bool) (x : Int) (i A B : Nat) (w : World) (hi : i < 1440) (hx0 : -1440 ≤ x) (hx1 : x ≤ 1440) (ha : w.heap[A]? = some (.cells (mv f) 58 (0, 0))) (hb : w.heap[B]? = some (.cells #[.int .i64 x] 3 (0, 0))) :
    Calls Try.prog 60 #[.int .i64 (i : Int), .pointer (some ⟨A, 0, none⟩), .pointer (some ⟨B, 0, none⟩)] w fun e w' => e = .returned (.bool (hasB f ((i : Int) - x))) ∧ Below w.heap.size w w' := by
  have c1 := fun w => has_ref f ((i : Int) - x) w
  have cb := cell_of_one hb
  have q1 : IntKind.i64.wrap ((i : Int) - x) = (i : Int) - x := by rw [IntKind.wrap_i64]; omega
  go_enter Try.func60, Try.ntmps60
  go_wp2_with (first
    | (refine wpList_load_row rfl 58 _ rfl _ rfl _ _ _ _ ha maskType rfl (maskSize _) ?_)
    | (go_at_call 57; refine (c1 _).mono ?_; rintro e w1 ⟨rfl, hb1⟩))
  go_ret
  exact ⟨rfl, hb1⟩

set_option maxRecDepth 10000 in
set_option maxHeartbeats 400000 in
theorem shift_ref (f : Nat → Bool) (x : Int) (w : World) :
    Calls Try.prog 43 #[.agg (mv f), .int .i64 x] w fun e w' => e = .returned (.agg (mv (shf f x))) ∧ Below w.heap.size w w' := by
  have hz := mv_lit
  have hmf := hmkf
  have h0 : (((w.alloc (.cells (mv f) 58)).alloc (.cells #[.int .i64 x] 3)).alloc (.cells (mv fun _ => false) 58)).heap[w.heap.size]? = some (.cells (mv f) 58 (0, 0)) := by (repeat (first | refine blk_old _ _ _ (by simp only [size_alloc]; omega) ?_ | exact blk_new _ _ _ (by first | rfl | simp only [size_alloc])))
  have h1 : (((w.alloc (.cells (mv f) 58)).alloc (.cells #[.int .i64 x] 3)).alloc (.cells (mv fun _ => false) 58)).heap[w.heap.size + 1]? = some (.cells #[.int .i64 x] 3 (0, 0)) := by (repeat (first | refine blk_old _ _ _ (by simp only [size_alloc]; omega) ?_ | exact blk_new _ _ _ (by first | rfl | simp only [size_alloc])))
  have h2 : (((w.alloc (.cells (mv f) 58)).alloc (.cells #[.int .i64 x] 3)).alloc (.cells (mv fun _ => false) 58)).heap[w.heap.size + 2]? = some (.cells (mv fun _ => false) 58 (0, 0)) := by (repeat (first | refine blk_old _ _ _ (by simp only [size_alloc]; omega) ?_ | exact blk_new _ _ _ (by first | rfl | simp only [size_alloc])))
  have hb0 : Below w.heap.size w (((w.alloc (.cells (mv f) 58)).alloc (.cells #[.int .i64 x] 3)).alloc (.cells (mv fun _ => false) 58)) := (((Below.refl _ _).alloc (Nat.le_refl _) _).alloc (by simp) _).alloc (by simp; omega) _
  by_cases hx : x < -1440 ∨ 1440 < x
  · rw [← shf_none f x (by omega)]
    clear h0 h1
    rcases hx with hx | hx
    · have hx' : ¬ 1440 < x := by omega
      go_enter Try.func43, Try.ntmps43
      go_wp2_with (refine wpList_store_row rfl 58 _ _ rfl _ _ rfl rfl _ _ h2 (maskSize _) (by simp [mv_size]) (mv_all _) ?_)
      refine bodyPost_ret (v := .agg (mv fun _ => false)) ?_ rfl ⟨rfl, below_setRow hb0 (by omega) _⟩
      exact results_cell_row rfl _ _ (w.heap.size + 2) _ _ _ _ rfl (setRow_heap _ _ _ _ _ _ h2) maskType rfl (maskSize _)
    · go_enter Try.func43, Try.ntmps43
      go_wp2_with (refine wpList_store_row rfl 58 _ _ rfl _ _ rfl rfl _ _ h2 (maskSize _) (by simp [mv_size]) (mv_all _) ?_)
      refine bodyPost_ret (v := .agg (mv fun _ => false)) ?_ rfl ⟨rfl, below_setRow hb0 (by omega) _⟩
      exact results_cell_row rfl _ _ (w.heap.size + 2) _ _ _ _ rfl (setRow_heap _ _ _ _ _ _ h2) maskType rfl (maskSize _)
  · have hx0 : -1440 ≤ x := by omega
    have hx1 : x ≤ 1440 := by omega
    have n0 : ¬ x < -1440 := by omega
    have n1 : ¬ 1440 < x := by omega
    clear hx
    have cm := make_ref (fun i => hasB f ((i : Int) - x)) 60 #[.pointer (some ⟨w.heap.size, 0, none⟩), .pointer (some ⟨w.heap.size + 1, 0, none⟩)] _ (fun _ _ => by simp [go_sem]) fun i wr hi hbr => shiftC f x i w.heap.size (w.heap.size + 1) wr hi hx0 hx1 ((hbr.block _ (lt_of_block h0)).trans h0) ((hbr.block _ (lt_of_block h1)).trans h1)
    rw [show (mv fun i => hasB f ((i : Int) - x) && decide (i < 1440)) = mv (shf f x) from mv_ext fun i _ => by
      unfold hasB shf
      have e : (0 ≤ (i : Int) - x) = (x ≤ (i : Int)) := by apply propext; omega
      simp only [e]
      cases decide (i < 1440) <;> cases decide (x ≤ (i : Int)) <;> cases decide ((i : Int) - x < 1440) <;> simp] at cm
    go_enter Try.func43, Try.ntmps43
    go_wp2_with (first
      | (go_at_call 36; refine cm.mono ?_; rintro e w1 ⟨rfl, hb1⟩; have h3 := (hb1.block _ (lt_of_block h2)).trans h2; have hb2 := hb0.trans (hb1.mono hb0.size); clear h2 hb1)
      | (refine wpList_store_row rfl 58 _ _ rfl _ _ rfl rfl _ _ h3 (maskSize _) (by simp [mv_size]) (mv_all _) ?_))
    refine bodyPost_ret (v := .agg (mv (shf f x))) ?_ rfl ⟨rfl, below_setRow hb2 (by omega) _⟩
    exact results_cell_row rfl _ _ (w.heap.size + 2) _ _ _ _ rfl (setRow_heap _ _ _ _ _ _ h3) maskType rfl (maskSize _)
end Go.Proofs.Ytjllbklkaalafaa

/- What the document's Ints comes to where both rows are the same. -/
namespace Go.Proofs.Ytjllbklkaalafaa
open Go.RowKit Lx

set_option maxRecDepth 100000 in
set_option maxHeartbeats 1000000 in
theorem ints_any (ns : List Int) (va vb : Value) (w : World) (ha : RowI w va ns) (hb : RowI w vb ns) : Calls Try.prog 7 #[va, vb] w fun r w' => r = .returned (.bool true) ∧ Below w.heap.size w w' := by
  obtain ⟨pa, ca, rfl, hlen, hca⟩ := ha
  obtain ⟨pb, cb, rfl, _, hcb⟩ := hb
  have HA := hid5 hca
  have HB := hid5 hcb
  clear hca hcb
  go_enter Try.func7, Try.ntmps7
  go_wp2_with fail
  go_loopw [5, 13] (fun _ t wr => ∃ j : Nat, t = .int .i64 (j : Int) ∧ j ≤ ns.length ∧ Below w.heap.size w wr) (fun _ t _ => ns.length - (intOf t).toNat)
  case atStart => exact ⟨0, rfl, by omega, Below.refl _ _⟩
  case round =>
    obtain ⟨j, rfl, hj, hbr⟩ := hrel
    have hj0 : (0 : Int) ≤ (j : Int) := by omega
    by_cases hlt : j < ns.length
    · have hlt' : (j : Int) < (ns.length : Int) := by omega
      obtain ⟨m, hjk⟩ : ∃ p, ns[j]? = some p := ⟨ns[j], List.getElem?_eq_getElem hlt⟩
      obtain ⟨ga, oa, rfl, a0⟩ := HA.out j _ hjk
      obtain ⟨gb, ob, rfl, b0⟩ := HB.out j _ hjk
      have a1 := (hbr.cell (block_lt_of_cell a0)).trans a0
      have b1 := (hbr.cell (block_lt_of_cell b0)).trans b0
      have hmm : (m != m) = false := by simp
      clear hjk a0 b0
      go_wp2_with fail
      go_quiet (fail)
      have hbq : Below w.heap.size w (wr.drewN nq) := below_drewN hbr nq
      go_wp2_with fail
      go_roundw
      case rel => exact ⟨j + 1, by go_num, by omega, hbq⟩
      case measure => simp [intOf]; omega
    · have hlt' : ¬ (j : Int) < (ns.length : Int) := by omega
      clear HA HB
      go_wp2_with fail
      go_ret
      exact ⟨rfl, hbr⟩
end Go.Proofs.Ytjllbklkaalafaa

/- What the document's Reach comes to. -/
namespace Go.Proofs.Ytjllbklkaalafaa
open Go.RowKit Lx

theorem bcells_setb {n : Nat} {m : Nat → Bool} {i : Nat} {b : Bool} : (bcells n m).setIfInBounds i (.bool b) = bcells n (fun k => if k = i then b else m k) := by
  apply Array.ext
  · simp [bcells]
  · intro k h1 h2
    have hk : k < n := by simpa [bcells] using h2
    rw [Array.getElem_setIfInBounds (by simpa [bcells] using hk)]
    by_cases e : i = k
    · subst e
      simp [bcells]
    · rw [if_neg e]
      simp [bcells, show k ≠ i from fun h => e h.symm]
/-- Rows as cells: the first so many are made. -/
def ocells (n p : Nat) (rs : Nat → Nat) : Array Value := ((List.range n).map fun j => if j < p then Value.slice (some ⟨rs j, 0, none⟩) n n else .slice none 0 0).toArray
theorem ocells_at {n p : Nat} {rs : Nat → Nat} {j : Nat} (h : j < p) (hn : j < n) : (ocells n p rs)[j]? = some (.slice (some ⟨rs j, 0, none⟩) n n) := by
  simp [ocells, hn, h]
theorem ocells_not {n p : Nat} {rs : Nat → Nat} {j : Nat} (h : p ≤ j) (hn : j < n) : (ocells n p rs)[j]? = some (.slice none 0 0) := by
  simp [ocells, hn]; omega
theorem ocells_none (n : Nat) (rs : Nat → Nat) : madeCells #[Value.slice none 0 0] n = ocells n 0 rs := by
  apply Array.ext
  · simp [ocells, madeCells]
  · intro k h1 h2
    simp [ocells, madeCells, Nat.mod_one]
theorem ocells_set {n p q : Nat} {rs : Nat → Nat} : (ocells n p rs).setIfInBounds p (.slice (some ⟨q, 0, none⟩) n n) = ocells n (p + 1) (fun j => if j = p then q else rs j) := by
  apply Array.ext
  · simp [ocells]
  · intro k h1 h2
    have hk : k < n := by simpa [ocells] using h2
    rw [Array.getElem_setIfInBounds (by simpa [ocells] using hk)]
    by_cases e : p = k
    · subst e
      simp [ocells]
    · rw [if_neg e]
      have e2 : k ≠ p := fun h => e h.symm
      by_cases h : k < p
      · simp [ocells, e2, h, show k < p + 1 by omega]
      · simp [ocells, h, show ¬ k < p + 1 by omega]
def upd2 (M : Nat → Nat → Bool) (i k : Nat) (b : Bool) : Nat → Nat → Bool := fun i' k' => if i' = i ∧ k' = k then b else M i' k'
/-- Rows of marks in memory, made since; the first so many of them. -/
structure RcM (w : World) (n p : Nat) (rs : Nat → Nat) (M : Nat → Nat → Bool) (W : World) : Prop where
  bel : Below w.heap.size w W
  outer : W.heap[w.heap.size]? = some (.cells (ocells n p rs) 47 (0, 0))
  rows : ∀ j, j < p → W.heap[rs j]? = some (.cells (bcells n (M j)) 4 (0, 0))
  inj : ∀ j k, j < p → k < p → rs j = rs k → j = k
  gt : ∀ j, j < p → w.heap.size < rs j
  le : p ≤ n
theorem RcM.below {w W W' : World} {n p : Nat} {rs : Nat → Nat} {M : Nat → Nat → Bool} (h : RcM w n p rs M W) (hb : Below W.heap.size W W') : RcM w n p rs M W' :=
  ⟨h.bel.trans (hb.mono h.bel.size), (hb.block _ (lt_of_block h.outer)).trans h.outer, fun j hj => (hb.block _ (lt_of_block (h.rows j hj))).trans (h.rows j hj), h.inj, h.gt, h.le⟩
theorem RcM.same {w W : World} {n p : Nat} {rs : Nat → Nat} {M M' : Nat → Nat → Bool} (h : RcM w n p rs M W) (he : ∀ j k, j < p → k < n → M j k = M' j k) : RcM w n p rs M' W := by
  refine ⟨h.bel, h.outer, fun j hj => ?_, h.inj, h.gt, h.le⟩
  rw [h.rows j hj]
  have : bcells n (M j) = bcells n (M' j) := by
    unfold bcells
    congr 1
    apply List.map_congr_left
    intro k hk
    rw [he j k hj (List.mem_range.1 hk)]
  rw [this]
theorem RcM.out {w W : World} {n p : Nat} {rs : Nat → Nat} {M : Nat → Nat → Bool} (h : RcM w n p rs M W) {i : Nat} (hi : i < p) : W.cell? ⟨w.heap.size, i, none⟩ = some (.slice (some ⟨rs i, 0, none⟩) n n) :=
  (cell_of_row _ _ i _ _ _ h.outer).trans (ocells_at hi (by have := h.le; omega))
theorem RcM.cell {w W : World} {n p : Nat} {rs : Nat → Nat} {M : Nat → Nat → Bool} (h : RcM w n p rs M W) {i k : Nat} (hi : i < p) (hk : k < n) : W.cell? ⟨rs i, k, none⟩ = some (.bool (M i k)) :=
  (cell_of_row _ _ k _ _ _ (h.rows i hi)).trans (bcells_at hk)
theorem RcM.frz {w W : World} {n p : Nat} {rs : Nat → Nat} {M : Nat → Nat → Bool} (h : RcM w n p rs M W) {i : Nat} (hi : i < p) (k : Nat) : W.frozen? ⟨rs i, k, none⟩ = false := frozen_of_row _ _ k _ _ (h.rows i hi)
theorem RcM.set {w W : World} {n p : Nat} {rs : Nat → Nat} {M : Nat → Nat → Bool} (h : RcM w n p rs M W) {i k : Nat} {b : Bool} (hi : i < p) : RcM w n p rs (upd2 M i k b) (W.setCell ⟨rs i, k, none⟩ (.bool b)) := by
  have ho : ∀ q, q ≠ rs i → (W.setCell ⟨rs i, k, none⟩ (.bool b)).heap[q]? = W.heap[q]? := fun q hq => heap_setCell_other W ⟨rs i, k, none⟩ q _ hq
  have hg := h.gt i hi
  refine ⟨h.bel.setCell (by show w.heap.size ≤ rs i; omega) _, (ho _ (by omega)).trans h.outer, fun j hj => ?_, h.inj, h.gt, h.le⟩
  by_cases e : j = i
  · subst e
    have := heap_setCell_same W (rs j) k _ _ (.bool b) (h.rows j hj)
    rw [bcells_setb] at this
    rw [this]
    have e2 : upd2 M j k b j = fun k' => if k' = k then b else M j k' := by
      funext k'
      simp [upd2]
    rw [e2]
  · rw [ho _ (fun h' => e (h.inj j i hj hi h'))]
    have e2 : upd2 M i k b j = M j := by
      funext k'
      simp [upd2, e]
    rw [e2]
    exact h.rows j hj
theorem RcM.add {w W : World} {n p : Nat} {rs : Nat → Nat} {M : Nat → Nat → Bool} (h : RcM w n p rs M W) (hp : p < n) : RcM w n (p + 1) (fun j => if j = p then W.heap.size else rs j) (fun j k => if j = p then false else M j k) ((W.alloc (.cells (bcells n (fun _ => false)) 4)).setCell ⟨w.heap.size, p, none⟩ (.slice (some ⟨W.heap.size, 0, none⟩) n n)) := by
  have hsz := h.bel.size
  have hlo := lt_of_block h.outer
  have bA := (Below.refl W.heap.size W).alloc (Nat.le_refl _) (.cells (bcells n (fun _ => false)) 4)
  have ho : ∀ q, q ≠ w.heap.size → ((W.alloc (.cells (bcells n (fun _ => false)) 4)).setCell ⟨w.heap.size, p, none⟩ (.slice (some ⟨W.heap.size, 0, none⟩) n n)).heap[q]? = (W.alloc (.cells (bcells n (fun _ => false)) 4)).heap[q]? := fun q hq => heap_setCell_other _ ⟨w.heap.size, p, none⟩ q _ hq
  have hA := h.below bA
  refine ⟨hA.bel.setCell (by show w.heap.size ≤ w.heap.size; omega) _, ?_, fun j hj => ?_, fun j k hj hk => ?_, fun j hj => ?_, by omega⟩
  · have := heap_setCell_same _ w.heap.size p _ _ (.slice (some ⟨W.heap.size, 0, none⟩) n n) hA.outer
    rw [ocells_set] at this
    exact this
  · by_cases e : j = p
    · subst e
      simp only [if_pos]
      rw [ho _ (by omega)]
      exact heap_alloc_new W _
    · simp only [if_neg e]
      have hj' : j < p := by omega
      have := h.gt j hj'
      rw [ho _ (by omega)]
      exact hA.rows j hj'
  · have hl1 : ∀ q, q < p → rs q < W.heap.size := fun q hq => lt_of_block (h.rows q hq)
    by_cases e : j = p
    · by_cases e' : k = p
      · intro _; omega
      · rw [if_pos e, if_neg e']
        have := hl1 k (by omega)
        intro h'; omega
    · by_cases e' : k = p
      · rw [if_neg e, if_pos e']
        have := hl1 j (by omega)
        intro h'; omega
      · rw [if_neg e, if_neg e']
        exact h.inj j k (by omega) (by omega)
  · split
    · omega
    · exact h.gt j (by omega)
/-- What is said after part of a round. -/
def stE (E : Nat → Nat → Bool) (i k : Nat) : Nat → Nat → Bool := fun i' k' => if i' < i ∨ (i' = i ∧ k' < k) then E i' k' else false
def stW (E : Nat → Nat → Bool) (m i k : Nat) : Nat → Nat → Bool := fun i' k' => if i' < i ∨ (i' = i ∧ k' < k) then wars E (m + 1) i' k' else wars E m i' k'
theorem wars_col (E : Nat → Nat → Bool) (m i : Nat) : wars E (m + 1) i m = wars E m i m := by
  simp only [wars]
  cases wars E m i m <;> simp
theorem wars_row (E : Nat → Nat → Bool) (m k : Nat) : wars E (m + 1) m k = wars E m m k := by
  simp only [wars]
  cases wars E m m k <;> simp
theorem stW_col (E : Nat → Nat → Bool) (m i k i' : Nat) : stW E m i k i' m = wars E m i' m := by
  unfold stW
  split
  · exact wars_col E m i'
  · rfl
theorem stW_row (E : Nat → Nat → Bool) (m i k k' : Nat) : stW E m i k m k' = wars E m m k' := by
  unfold stW
  split
  · exact wars_row E m k'
  · rfl
theorem stW_here (E : Nat → Nat → Bool) (m i k : Nat) : stW E m i k i k = wars E m i k := if_neg (by omega)
theorem stW_next (E : Nat → Nat → Bool) (m i k : Nat) : upd2 (stW E m i k) i k (wars E m i k || (wars E m i m && wars E m m k)) = stW E m i (k + 1) := by
  funext i' k'
  unfold upd2 stW
  by_cases e : i' = i ∧ k' = k
  · obtain ⟨rfl, rfl⟩ := e
    rw [if_pos ⟨rfl, rfl⟩, if_pos (.inr ⟨rfl, by omega⟩)]
    rfl
  · rw [if_neg e]
    by_cases h : i' < i ∨ (i' = i ∧ k' < k)
    · rw [if_pos h, if_pos (by omega)]
    · rw [if_neg h, if_neg (by omega)]
theorem stE_next (E : Nat → Nat → Bool) (i k : Nat) : upd2 (stE E i k) i k (E i k) = stE E i (k + 1) := by
  funext i' k'
  unfold upd2 stE
  by_cases e : i' = i ∧ k' = k
  · obtain ⟨rfl, rfl⟩ := e
    rw [if_pos ⟨rfl, rfl⟩, if_pos (.inr ⟨rfl, by omega⟩)]
  · rw [if_neg e]
    by_cases h : i' < i ∨ (i' = i ∧ k' < k)
    · rw [if_pos h, if_pos (by omega)]
    · rw [if_neg h, if_neg (by omega)]
theorem slInfo6 : (Try.prog.info? 47).map (fun i => (i.zero, i.size, i.bytes)) = some (some (.slice none 0 0), 1, 24) := by kernel_rfl
theorem boolssType : Try.prog.underlying 52 = some (.slice 47) := by kernel_rfl
end Go.Proofs.Ytjllbklkaalafaa
