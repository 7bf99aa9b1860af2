/- What slotref2.Union, Diff and Both come to. -/
import Derived.Test.YtaeengpppehlfaaCx09
import Derived.Test.YtaeengpppehlfaaCx03
import Derived.Test.YtaeengpppehlfaaCx08
import Derived.Test.YtaeengpppehlfaaCx02
import Derived.Test.YtaeengpppehlfaaCx04
namespace Go.Proofs.Ytaeengpppehlfaa
open Go.RowKit Msk

theorem hmkf : ∀ (fn : Fn) (first cap : Array Value) (w : World), (Instr.makeFunc fn first cap).run Try.prog w = .ok (.func fn first cap) w := fun _ _ _ _ => rfl

set_option maxRecDepth 10000 in
set_option maxHeartbeats 400000 in
theorem unionC (f g : Nat → Bool) (i A B : Nat) (w : World) (ha : w.heap[A]? = some (.cells (mv f) 25 (0, 0))) (hb : w.heap[B]? = some (.cells (mv g) 25 (0, 0))) :
    Calls Try.prog 51 #[.int .i64 (i : Int), .pointer (some ⟨A, 0, none⟩), .pointer (some ⟨B, 0, none⟩)] w fun e w' => e = .returned (.bool (hasB f (i : Int) || hasB g (i : Int))) ∧ Below w.heap.size w w' := by
  have c2 : ∀ w, Calls Try.prog 52 #[.agg (mv g), .int .i64 (i : Int)] w fun e w' => e = .returned (.bool (hasB g (i : Int))) ∧ Below w.heap.size w w' := fun w => has_ref g (i : Int) w
  cases hh : hasB f (i : Int) with
  | false =>
    have c1 : ∀ w, Calls Try.prog 52 #[.agg (mv f), .int .i64 (i : Int)] w fun e w' => e = .returned (.bool false) ∧ Below w.heap.size w w' := fun w => by
      have := has_ref f (i : Int) w
      rw [hh] at this
      exact this
    rw [Bool.false_or]
    clear hh
    generalize hasB g (i : Int) = y at *
    go_enter Try.func51, Try.ntmps51
    go_wp2_with (first
      | (refine wpList_load_row rfl 25 _ rfl _ rfl _ _ _ _ ha maskType rfl (maskSize _) ?_)
      | (go_at_call 52; refine (c1 _).mono ?_; rintro e w1 ⟨rfl, hb1⟩; have hb2 := (hb1.block _ (lt_of_block hb)).trans hb; clear c1)
      | (refine load_g (by rfl) _ (by rfl) _ (by rfl) g (by assumption) ?_)
      | (go_at_call 52; refine (c2 _).mono ?_; rintro e w2 ⟨rfl, hb3⟩; have hb4 := hb1.trans (hb3.mono hb1.size)))
    go_ret
    exact ⟨rfl, hb4⟩
  | true =>
    have c1 : ∀ w, Calls Try.prog 52 #[.agg (mv f), .int .i64 (i : Int)] w fun e w' => e = .returned (.bool true) ∧ Below w.heap.size w w' := fun w => by
      have := has_ref f (i : Int) w
      rw [hh] at this
      exact this
    rw [Bool.true_or]
    clear hh
    generalize hasB g (i : Int) = y at *
    go_enter Try.func51, Try.ntmps51
    go_wp2_with (first
      | (refine wpList_load_row rfl 25 _ rfl _ rfl _ _ _ _ ha maskType rfl (maskSize _) ?_)
      | (go_at_call 52; refine (c1 _).mono ?_; rintro e w1 ⟨rfl, hb1⟩; have hb2 := (hb1.block _ (lt_of_block hb)).trans hb; clear c1)
      | (refine load_g (by rfl) _ (by rfl) _ (by rfl) g (by assumption) ?_)
      | (go_at_call 52; refine (c2 _).mono ?_; rintro e w2 ⟨rfl, hb3⟩; have hb4 := hb1.trans (hb3.mono hb1.size)))
    go_ret
    exact ⟨rfl, hb1⟩

set_option maxRecDepth 10000 in
set_option maxHeartbeats 400000 in
theorem union_ref (f g : Nat → Bool) (w : World) :
    Calls Try.prog 23 #[.agg (mv f), .agg (mv g)] w fun e w' => e = .returned (.agg (mv fun i => (f i || g i) && decide (i < 1440))) ∧ Below w.heap.size w w' := by
  have hz := mv_lit
  have hmf := hmkf
  have h0 : (((w.alloc (.cells (mv f) 25)).alloc (.cells (mv g) 25)).alloc (.cells (mv fun _ => false) 25)).heap[w.heap.size]? = some (.cells (mv f) 25 (0, 0)) := by (repeat (first | refine blk_old _ _ _ (by simp only [size_alloc]; omega) ?_ | exact blk_new _ _ _ (by first | rfl | simp only [size_alloc])))
  have h1 : (((w.alloc (.cells (mv f) 25)).alloc (.cells (mv g) 25)).alloc (.cells (mv fun _ => false) 25)).heap[w.heap.size + 1]? = some (.cells (mv g) 25 (0, 0)) := by (repeat (first | refine blk_old _ _ _ (by simp only [size_alloc]; omega) ?_ | exact blk_new _ _ _ (by first | rfl | simp only [size_alloc])))
  have h2 : (((w.alloc (.cells (mv f) 25)).alloc (.cells (mv g) 25)).alloc (.cells (mv fun _ => false) 25)).heap[w.heap.size + 2]? = some (.cells (mv fun _ => false) 25 (0, 0)) := by (repeat (first | refine blk_old _ _ _ (by simp only [size_alloc]; omega) ?_ | exact blk_new _ _ _ (by first | rfl | simp only [size_alloc])))
  have hb0 : Below w.heap.size w (((w.alloc (.cells (mv f) 25)).alloc (.cells (mv g) 25)).alloc (.cells (mv fun _ => false) 25)) := (((Below.refl _ _).alloc (Nat.le_refl _) _).alloc (by simp) _).alloc (by simp; omega) _
  have cm := make_ref (fun i => (hasB f (i : Int) || hasB g (i : Int))) 51 #[.pointer (some ⟨w.heap.size, 0, none⟩), .pointer (some ⟨w.heap.size + 1, 0, none⟩)] _ (fun _ _ => by simp [go_sem]) fun i wr _ hbr => unionC f g i w.heap.size (w.heap.size + 1) wr ((hbr.block _ (lt_of_block h0)).trans h0) ((hbr.block _ (lt_of_block h1)).trans h1)
  rw [show (mv fun i => (hasB f (i : Int) || hasB g (i : Int)) && decide (i < 1440)) = mv fun i => (f i || g i) && decide (i < 1440) from mv_ext fun i _ => by
    rw [hasB_nat, hasB_nat]
    by_cases h : i < 1440 <;> simp [h]] at cm
  clear h0 h1
  go_enter Try.func23, Try.ntmps23
  go_wp2_with (first
    | (go_at_call 49; refine cm.mono ?_; rintro e w1 ⟨rfl, hb1⟩; have h3 := (hb1.block _ (lt_of_block h2)).trans h2; have hb2 := hb0.trans (hb1.mono hb0.size); clear h2 hb1)
    | (refine wpList_store_row rfl 25 _ _ rfl _ _ rfl rfl _ _ h3 (maskSize _) (by simp [mv_size]) (mv_all _) ?_))
  refine bodyPost_ret (v := .agg (mv fun i => (f i || g i) && decide (i < 1440))) ?_ rfl ⟨rfl, below_setRow hb2 (by omega) _⟩
  exact results_cell_row rfl _ _ (w.heap.size + 2) _ _ _ _ rfl (setRow_heap _ _ _ _ _ _ h3) maskType rfl (maskSize _)

set_option maxRecDepth 10000 in
set_option maxHeartbeats 400000 in
theorem diffC (f g : Nat → Bool) (i A B : Nat) (w : World) (ha : w.heap[A]? = some (.cells (mv f) 25 (0, 0))) (hb : w.heap[B]? = some (.cells (mv g) 25 (0, 0))) :
    Calls Try.prog 53 #[.int .i64 (i : Int), .pointer (some ⟨A, 0, none⟩), .pointer (some ⟨B, 0, none⟩)] w fun e w' => e = .returned (.bool (hasB f (i : Int) && !hasB g (i : Int))) ∧ Below w.heap.size w w' := by
  have c2 : ∀ w, Calls Try.prog 52 #[.agg (mv g), .int .i64 (i : Int)] w fun e w' => e = .returned (.bool (hasB g (i : Int))) ∧ Below w.heap.size w w' := fun w => has_ref g (i : Int) w
  cases hh : hasB f (i : Int) with
  | false =>
    have c1 : ∀ w, Calls Try.prog 52 #[.agg (mv f), .int .i64 (i : Int)] w fun e w' => e = .returned (.bool false) ∧ Below w.heap.size w w' := fun w => by
      have := has_ref f (i : Int) w
      rw [hh] at this
      exact this
    rw [Bool.false_and]
    clear hh
    generalize hasB g (i : Int) = y at *
    go_enter Try.func53, Try.ntmps53
    go_wp2_with (first
      | (refine wpList_load_row rfl 25 _ rfl _ rfl _ _ _ _ ha maskType rfl (maskSize _) ?_)
      | (go_at_call 52; refine (c1 _).mono ?_; rintro e w1 ⟨rfl, hb1⟩; have hb2 := (hb1.block _ (lt_of_block hb)).trans hb; clear c1)
      | (refine load_g (by rfl) _ (by rfl) _ (by rfl) g (by assumption) ?_)
      | (go_at_call 52; refine (c2 _).mono ?_; rintro e w2 ⟨rfl, hb3⟩; have hb4 := hb1.trans (hb3.mono hb1.size)))
    go_ret
    exact ⟨rfl, hb1⟩
  | true =>
    have c1 : ∀ w, Calls Try.prog 52 #[.agg (mv f), .int .i64 (i : Int)] w fun e w' => e = .returned (.bool true) ∧ Below w.heap.size w w' := fun w => by
      have := has_ref f (i : Int) w
      rw [hh] at this
      exact this
    rw [Bool.true_and]
    clear hh
    generalize hasB g (i : Int) = y at *
    go_enter Try.func53, Try.ntmps53
    go_wp2_with (first
      | (refine wpList_load_row rfl 25 _ rfl _ rfl _ _ _ _ ha maskType rfl (maskSize _) ?_)
      | (go_at_call 52; refine (c1 _).mono ?_; rintro e w1 ⟨rfl, hb1⟩; have hb2 := (hb1.block _ (lt_of_block hb)).trans hb; clear c1)
      | (refine load_g (by rfl) _ (by rfl) _ (by rfl) g (by assumption) ?_)
      | (go_at_call 52; refine (c2 _).mono ?_; rintro e w2 ⟨rfl, hb3⟩; have hb4 := hb1.trans (hb3.mono hb1.size)))
    go_ret
    exact ⟨rfl, hb4⟩

set_option maxRecDepth 10000 in
set_option maxHeartbeats 400000 in
theorem diff_ref (f g : Nat → Bool) (w : World) :
    Calls Try.prog 24 #[.agg (mv f), .agg (mv g)] w fun e w' => e = .returned (.agg (mv fun i => (f i && !g i) && decide (i < 1440))) ∧ Below w.heap.size w w' := by
  have hz := mv_lit
  have hmf := hmkf
  have h0 : (((w.alloc (.cells (mv f) 25)).alloc (.cells (mv g) 25)).alloc (.cells (mv fun _ => false) 25)).heap[w.heap.size]? = some (.cells (mv f) 25 (0, 0)) := by (repeat (first | refine blk_old _ _ _ (by simp only [size_alloc]; omega) ?_ | exact blk_new _ _ _ (by first | rfl | simp only [size_alloc])))
  have h1 : (((w.alloc (.cells (mv f) 25)).alloc (.cells (mv g) 25)).alloc (.cells (mv fun _ => false) 25)).heap[w.heap.size + 1]? = some (.cells (mv g) 25 (0, 0)) := by (repeat (first | refine blk_old _ _ _ (by simp only [size_alloc]; omega) ?_ | exact blk_new _ _ _ (by first | rfl | simp only [size_alloc])))
  have h2 : (((w.alloc (.cells (mv f) 25)).alloc (.cells (mv g) 25)).alloc (.cells (mv fun _ => false) 25)).heap[w.heap.size + 2]? = some (.cells (mv fun _ => false) 25 (0, 0)) := by (repeat (first | refine blk_old _ _ _ (by simp only [size_alloc]; omega) ?_ | exact blk_new _ _ _ (by first | rfl | simp only [size_alloc])))
  have hb0 : Below w.heap.size w (((w.alloc (.cells (mv f) 25)).alloc (.cells (mv g) 25)).alloc (.cells (mv fun _ => false) 25)) := (((Below.refl _ _).alloc (Nat.le_refl _) _).alloc (by simp) _).alloc (by simp; omega) _
  have cm := make_ref (fun i => (hasB f (i : Int) && !hasB g (i : Int))) 53 #[.pointer (some ⟨w.heap.size, 0, none⟩), .pointer (some ⟨w.heap.size + 1, 0, none⟩)] _ (fun _ _ => by simp [go_sem]) fun i wr _ hbr => diffC f g i w.heap.size (w.heap.size + 1) wr ((hbr.block _ (lt_of_block h0)).trans h0) ((hbr.block _ (lt_of_block h1)).trans h1)
  rw [show (mv fun i => (hasB f (i : Int) && !hasB g (i : Int)) && decide (i < 1440)) = mv fun i => (f i && !g i) && decide (i < 1440) from mv_ext fun i _ => by
    rw [hasB_nat, hasB_nat]
    by_cases h : i < 1440 <;> simp [h]] at cm
  clear h0 h1
  go_enter Try.func24, Try.ntmps24
  go_wp2_with (first
    | (go_at_call 49; refine cm.mono ?_; rintro e w1 ⟨rfl, hb1⟩; have h3 := (hb1.block _ (lt_of_block h2)).trans h2; have hb2 := hb0.trans (hb1.mono hb0.size); clear h2 hb1)
    | (refine wpList_store_row rfl 25 _ _ rfl _ _ rfl rfl _ _ h3 (maskSize _) (by simp [mv_size]) (mv_all _) ?_))
  refine bodyPost_ret (v := .agg (mv fun i => (f i && !g i) && decide (i < 1440))) ?_ rfl ⟨rfl, below_setRow hb2 (by omega) _⟩
  exact results_cell_row rfl _ _ (w.heap.size + 2) _ _ _ _ rfl (setRow_heap _ _ _ _ _ _ h3) maskType rfl (maskSize _)

set_option maxRecDepth 10000 in
set_option maxHeartbeats 400000 in
theorem bothC (f g : Nat → Bool) (i A B : Nat) (w : World) (ha : w.heap[A]? = some (.cells (mv f) 25 (0, 0))) (hb : w.heap[B]? = some (.cells (mv g) 25 (0, 0))) :
    Calls Try.prog 54 #[.int .i64 (i : Int), .pointer (some ⟨A, 0, none⟩), .pointer (some ⟨B, 0, none⟩)] w fun e w' => e = .returned (.bool (hasB f (i : Int) && hasB g (i : Int))) ∧ Below w.heap.size w w' := by
  have c2 : ∀ w, Calls Try.prog 52 #[.agg (mv g), .int .i64 (i : Int)] w fun e w' => e = .returned (.bool (hasB g (i : Int))) ∧ Below w.heap.size w w' := fun w => has_ref g (i : Int) w
  cases hh : hasB f (i : Int) with
  | false =>
    have c1 : ∀ w, Calls Try.prog 52 #[.agg (mv f), .int .i64 (i : Int)] w fun e w' => e = .returned (.bool false) ∧ Below w.heap.size w w' := fun w => by
      have := has_ref f (i : Int) w
      rw [hh] at this
      exact this
    rw [Bool.false_and]
    clear hh
    generalize hasB g (i : Int) = y at *
    go_enter Try.func54, Try.ntmps54
    go_wp2_with (first
      | (refine wpList_load_row rfl 25 _ rfl _ rfl _ _ _ _ ha maskType rfl (maskSize _) ?_)
      | (go_at_call 52; refine (c1 _).mono ?_; rintro e w1 ⟨rfl, hb1⟩; have hb2 := (hb1.block _ (lt_of_block hb)).trans hb; clear c1)
      | (refine load_g (by rfl) _ (by rfl) _ (by rfl) g (by assumption) ?_)
      | (go_at_call 52; refine (c2 _).mono ?_; rintro e w2 ⟨rfl, hb3⟩; have hb4 := hb1.trans (hb3.mono hb1.size)))
    go_ret
    exact ⟨rfl, hb1⟩
  | true =>
    have c1 : ∀ w, Calls Try.prog 52 #[.agg (mv f), .int .i64 (i : Int)] w fun e w' => e = .returned (.bool true) ∧ Below w.heap.size w w' := fun w => by
      have := has_ref f (i : Int) w
      rw [hh] at this
      exact this
    rw [Bool.true_and]
    clear hh
    generalize hasB g (i : Int) = y at *
    go_enter Try.func54, Try.ntmps54
    go_wp2_with (first
      | (refine wpList_load_row rfl 25 _ rfl _ rfl _ _ _ _ ha maskType rfl (maskSize _) ?_)
      | (go_at_call 52; refine (c1 _).mono ?_; rintro e w1 ⟨rfl, hb1⟩; have hb2 := (hb1.block _ (lt_of_block hb)).trans hb; clear c1)
      | (refine load_g (by rfl) _ (by rfl) _ (by rfl) g (by assumption) ?_)
      | (go_at_call 52; refine (c2 _).mono ?_; rintro e w2 ⟨rfl, hb3⟩; have hb4 := hb1.trans (hb3.mono hb1.size)))
    go_ret
    exact ⟨rfl, hb4⟩

set_option maxRecDepth 10000 in
set_option maxHeartbeats 400000 in
theorem both_ref (f g : Nat → Bool) (w : World) :
    Calls Try.prog 25 #[.agg (mv f), .agg (mv g)] w fun e w' => e = .returned (.agg (mv fun i => (f i && g i) && decide (i < 1440))) ∧ Below w.heap.size w w' := by
  have hz := mv_lit
  have hmf := hmkf
  have h0 : (((w.alloc (.cells (mv f) 25)).alloc (.cells (mv g) 25)).alloc (.cells (mv fun _ => false) 25)).heap[w.heap.size]? = some (.cells (mv f) 25 (0, 0)) := by (repeat (first | refine blk_old _ _ _ (by simp only [size_alloc]; omega) ?_ | exact blk_new _ _ _ (by first | rfl | simp only [size_alloc])))
  have h1 : (((w.alloc (.cells (mv f) 25)).alloc (.cells (mv g) 25)).alloc (.cells (mv fun _ => false) 25)).heap[w.heap.size + 1]? = some (.cells (mv g) 25 (0, 0)) := by (repeat (first | refine blk_old _ _ _ (by simp only [size_alloc]; omega) ?_ | exact blk_new _ _ _ (by first | rfl | simp only [size_alloc])))
  have h2 : (((w.alloc (.cells (mv f) 25)).alloc (.cells (mv g) 25)).alloc (.cells (mv fun _ => false) 25)).heap[w.heap.size + 2]? = some (.cells (mv fun _ => false) 25 (0, 0)) := by (repeat (first | refine blk_old _ _ _ (by simp only [size_alloc]; omega) ?_ | exact blk_new _ _ _ (by first | rfl | simp only [size_alloc])))
  have hb0 : Below w.heap.size w (((w.alloc (.cells (mv f) 25)).alloc (.cells (mv g) 25)).alloc (.cells (mv fun _ => false) 25)) := (((Below.refl _ _).alloc (Nat.le_refl _) _).alloc (by simp) _).alloc (by simp; omega) _
  have cm := make_ref (fun i => (hasB f (i : Int) && hasB g (i : Int))) 54 #[.pointer (some ⟨w.heap.size, 0, none⟩), .pointer (some ⟨w.heap.size + 1, 0, none⟩)] _ (fun _ _ => by simp [go_sem]) fun i wr _ hbr => bothC f g i w.heap.size (w.heap.size + 1) wr ((hbr.block _ (lt_of_block h0)).trans h0) ((hbr.block _ (lt_of_block h1)).trans h1)
  rw [show (mv fun i => (hasB f (i : Int) && hasB g (i : Int)) && decide (i < 1440)) = mv fun i => (f i && g i) && decide (i < 1440) from mv_ext fun i _ => by
    rw [hasB_nat, hasB_nat]
    by_cases h : i < 1440 <;> simp [h]] at cm
  clear h0 h1
  go_enter Try.func25, Try.ntmps25
  go_wp2_with (first
    | (go_at_call 49; refine cm.mono ?_; rintro e w1 ⟨rfl, hb1⟩; have h3 := (hb1.block _ (lt_of_block h2)).trans h2; have hb2 := hb0.trans (hb1.mono hb0.size); clear h2 hb1)
    | (refine wpList_store_row rfl 25 _ _ rfl _ _ rfl rfl _ _ h3 (maskSize _) (by simp [mv_size]) (mv_all _) ?_))
  refine bodyPost_ret (v := .agg (mv fun i => (f i && g i) && decide (i < 1440))) ?_ rfl ⟨rfl, below_setRow hb2 (by omega) _⟩
  exact results_cell_row rfl _ _ (w.heap.size + 2) _ _ _ _ rfl (setRow_heap _ _ _ _ _ _ h3) maskType rfl (maskSize _)
end Go.Proofs.Ytaeengpppehlfaa

/- What slotref2.Of comes to, over a row of spans that lies in memory. -/
namespace Go.Proofs.Ytaeengpppehlfaa
open Go.RowKit Msk

/-- Is a minute in one of the spans? -/
def inS (l : List (Int × Int)) (x : Int) : Bool := l.any fun s => decide (s.1 ≤ x) && decide (x < s.2)
theorem inS_take (l : List (Int × Int)) (x : Int) (k : Nat) (hk : k < l.length) : inS (l.take (k + 1)) x = (inS (l.take k) x || (decide ((l.getD k (0, 0)).1 ≤ x) && decide (x < (l.getD k (0, 0)).2))) := by
  have e : l.take (k + 1) = l.take k ++ [l.getD k (0, 0)] := by
    rw [List.take_succ_eq_append_getElem hk]; simp [List.getD, hk]
  rw [e]; simp [inS]
theorem inS_has (l : List (Int × Int)) (x : Int) (k : Nat) (hk : k < l.length) (h : (decide ((l.getD k (0, 0)).1 ≤ x) && decide (x < (l.getD k (0, 0)).2)) = true) : inS l x = true := by
  unfold inS
  rw [List.any_eq_true]
  refine ⟨l.getD k (0, 0), ?_, h⟩
  simp [List.getD, hk]
theorem mv_inS (l : List (Int × Int)) : (mv fun i => inS l (i : Int) && decide (i < 1440)) = mv (inl l) := mv_ext fun i _ => by
  unfold inS inl
  by_cases h : i < 1440 <;> simp [h]

set_option maxRecDepth 10000 in
set_option maxHeartbeats 1000000 in
theorem ofC (v : Value) (l : List (Int × Int)) (i A : Nat) (w : World) (hl : Row w v l) (ha : w.heap[A]? = some (.cells #[v] 63 (0, 0))) :
    Calls Try.prog 50 #[.int .i64 (i : Int), .pointer (some ⟨A, 0, none⟩)] w fun e w' => e = .returned (.bool (inS l (i : Int))) ∧ Below w.heap.size w w' := by
  have ca := cell_of_one ha
  rcases hl with ⟨c, rfl, rfl⟩ | ⟨g, o, c, rfl, hlen, hcell⟩
  · go_enter Try.func50, Try.ntmps50
    go_wp2
    refine wp_loop_rounds 1 ?_
    rw [rounds_succ]
    go_wp2
    go_ret
    exact ⟨rfl, Below.refl _ _⟩
  · have HC : Hid (∀ j, j < l.length → w.cell? ⟨g, o + j * 2, none⟩ = some (.int .i64 (l.getD j (0, 0)).1) ∧ w.cell? ⟨g, o + j * 2 + 1, none⟩ = some (.int .i64 (l.getD j (0, 0)).2)) := hcell
    clear hcell
    go_enter Try.func50, Try.ntmps50
    go_wp2
    go_loopw [8] (fun j wr => ∃ k : Nat, k ≤ l.length ∧ j = .int .i64 k ∧ inS (l.take k) (i : Int) = false ∧ Below w.heap.size w wr) (fun j _ => l.length - (intOf j).toNat)
    case atStart => exact ⟨0, Nat.zero_le _, rfl, rfl, Below.refl _ _⟩
    case round =>
      obtain ⟨k, hk, rfl, hno, hbel⟩ := hrel
      by_cases hlt : k < l.length
      · obtain ⟨c1, c2⟩ := HC.out k hlt
        have d1 := (hbel.cell (block_lt_of_cell c1)).trans c1
        have d2 := (hbel.cell (block_lt_of_cell c2)).trans c2
        have hstep := inS_take l (i : Int) k hlt
        have hhas := inS_has l (i : Int) k hlt
        generalize hs : l.getD k (0, 0) = s at d1 d2 hstep hhas
        obtain ⟨x, y⟩ := s
        dsimp only at d1 d2 hstep hhas
        rw [hno, Bool.false_or] at hstep
        have HN : Hid (inS (l.take (k + 1)) (i : Int) = (decide (x ≤ (i : Int)) && decide ((i : Int) < y))) := hstep
        have HH : Hid ((decide (x ≤ (i : Int)) && decide ((i : Int) < y)) = true → inS l (i : Int) = true) := hhas
        have hb2 := hbel.alloc hbel.size (.cells #[.int .i64 x, .int .i64 y] 97)
        clear c1 c2 hs hstep hhas hno
        by_cases h1 : x ≤ (i : Int)
        · by_cases h2 : (i : Int) < y
          · go_wp2
            go_ret
            exact ⟨by rw [HH.out (by simp [h1, h2])]; rfl, hb2⟩
          · go_wp2
            go_roundw
            case rel => exact ⟨k + 1, by omega, by go_num, by rw [HN.out]; simp [h2], hb2⟩
            case measure => simp [intOf]; omega
        · go_wp2
          go_roundw
          case rel => exact ⟨k + 1, by omega, by go_num, by rw [HN.out]; simp [h1], hb2⟩
          case measure => simp [intOf]; omega
      · have hkl : k = l.length := by omega
        subst hkl
        rw [List.take_length] at hno
        have HN : Hid (inS l (i : Int) = false) := hno
        clear hno
        go_wp2
        go_ret
        exact ⟨by rw [HN.out]; rfl, hbel⟩

set_option maxRecDepth 10000 in
set_option maxHeartbeats 400000 in
theorem of_ref (v : Value) (l : List (Int × Int)) (w : World) (hl : Row w v l) :
    Calls Try.prog 22 #[v] w fun e w' => e = .returned (.agg (mv (inl l))) ∧ Below w.heap.size w w' := by
  have hz := mv_lit
  have hmf := hmkf
  obtain ⟨p, c, rfl⟩ : ∃ p c, v = .slice p l.length c := by
    rcases hl with ⟨c, h, rfl⟩ | ⟨g, o, c, h, _⟩
    · exact ⟨none, c, h⟩
    · exact ⟨_, c, h⟩
  have h0 : ((w.alloc (.cells #[.slice p l.length c] 63)).alloc (.cells (mv fun _ => false) 25)).heap[w.heap.size]? = some (.cells #[.slice p l.length c] 63 (0, 0)) := by (repeat (first | refine blk_old _ _ _ (by simp only [size_alloc]; omega) ?_ | exact blk_new _ _ _ (by first | rfl | simp only [size_alloc])))
  have h2 : ((w.alloc (.cells #[.slice p l.length c] 63)).alloc (.cells (mv fun _ => false) 25)).heap[w.heap.size + 1]? = some (.cells (mv fun _ => false) 25 (0, 0)) := by (repeat (first | refine blk_old _ _ _ (by simp only [size_alloc]; omega) ?_ | exact blk_new _ _ _ (by first | rfl | simp only [size_alloc])))
  have hb0 : Below w.heap.size w ((w.alloc (.cells #[.slice p l.length c] 63)).alloc (.cells (mv fun _ => false) 25)) := ((Below.refl _ _).alloc (Nat.le_refl _) _).alloc (by simp) _
  have hl0 := hl.later hb0
  have cm := make_ref (fun i => inS l (i : Int)) 50 #[.pointer (some ⟨w.heap.size, 0, none⟩)] _ (fun _ _ => by simp [go_sem]) fun i wr _ hbr => ofC _ l i w.heap.size wr (hl0.later hbr) ((hbr.block _ (lt_of_block h0)).trans h0)
  rw [mv_inS] at cm
  clear h0 hl hl0
  go_enter Try.func22, Try.ntmps22
  go_wp2_with (first
    | (go_at_call 49; refine cm.mono ?_; rintro e w1 ⟨rfl, hb1⟩; have h3 := (hb1.block _ (lt_of_block h2)).trans h2; have hb2 := hb0.trans (hb1.mono hb0.size); clear h2 hb1)
    | (refine wpList_store_row rfl 25 _ _ rfl _ _ rfl rfl _ _ h3 (maskSize _) (by simp [mv_size]) (mv_all _) ?_))
  refine bodyPost_ret (v := .agg (mv (inl l))) ?_ rfl ⟨rfl, below_setRow hb2 (by omega) _⟩
  exact results_cell_row rfl _ _ (w.heap.size + 1) _ _ _ _ rfl (setRow_heap _ _ _ _ _ _ h3) maskType rfl (maskSize _)
end Go.Proofs.Ytaeengpppehlfaa

/- What slotref2.Shift comes to. -/
namespace Go.Proofs.Ytaeengpppehlfaa
open Go.RowKit Msk

set_option maxRecDepth 10000 in
set_option maxHeartbeats 400000 in
theorem shiftC (f : Nat → Bool) (x : Int) (i A B : Nat) (w : World) (hi : i < 1440) (hx0 : -1440 ≤ x) (hx1 : x ≤ 1440) (ha : w.heap[A]? = some (.cells (mv f) 25 (0, 0))) (hb : w.heap[B]? = some (.cells #[.int .i64 x] 3 (0, 0))) :
    Calls Try.prog 55 #[.int .i64 (i : Int), .pointer (some ⟨A, 0, none⟩), .pointer (some ⟨B, 0, none⟩)] w fun e w' => e = .returned (.bool (hasB f ((i : Int) - x))) ∧ Below w.heap.size w w' := by
  have c1 := fun w => has_ref f ((i : Int) - x) w
  have cb := cell_of_one hb
  have q1 : IntKind.i64.wrap ((i : Int) - x) = (i : Int) - x := by rw [IntKind.wrap_i64]; omega
  go_enter Try.func55, Try.ntmps55
  go_wp2_with (first
    | (refine wpList_load_row rfl 25 _ rfl _ rfl _ _ _ _ ha maskType rfl (maskSize _) ?_)
    | (go_at_call 52; refine (c1 _).mono ?_; rintro e w1 ⟨rfl, hb1⟩))
  go_ret
  exact ⟨rfl, hb1⟩

set_option maxRecDepth 10000 in
set_option maxHeartbeats 400000 in
theorem shift_ref (f : Nat → Bool) (x : Int) (w : World) :
    Calls Try.prog 26 #[.agg (mv f), .int .i64 x] w fun e w' => e = .returned (.agg (mv (shf f x))) ∧ Below w.heap.size w w' := by
  have hz := mv_lit
  have hmf := hmkf
  have h0 : (((w.alloc (.cells (mv f) 25)).alloc (.cells #[.int .i64 x] 3)).alloc (.cells (mv fun _ => false) 25)).heap[w.heap.size]? = some (.cells (mv f) 25 (0, 0)) := by (repeat (first | refine blk_old _ _ _ (by simp only [size_alloc]; omega) ?_ | exact blk_new _ _ _ (by first | rfl | simp only [size_alloc])))
  have h1 : (((w.alloc (.cells (mv f) 25)).alloc (.cells #[.int .i64 x] 3)).alloc (.cells (mv fun _ => false) 25)).heap[w.heap.size + 1]? = some (.cells #[.int .i64 x] 3 (0, 0)) := by (repeat (first | refine blk_old _ _ _ (by simp only [size_alloc]; omega) ?_ | exact blk_new _ _ _ (by first | rfl | simp only [size_alloc])))
  have h2 : (((w.alloc (.cells (mv f) 25)).alloc (.cells #[.int .i64 x] 3)).alloc (.cells (mv fun _ => false) 25)).heap[w.heap.size + 2]? = some (.cells (mv fun _ => false) 25 (0, 0)) := by (repeat (first | refine blk_old _ _ _ (by simp only [size_alloc]; omega) ?_ | exact blk_new _ _ _ (by first | rfl | simp only [size_alloc])))
  have hb0 : Below w.heap.size w (((w.alloc (.cells (mv f) 25)).alloc (.cells #[.int .i64 x] 3)).alloc (.cells (mv fun _ => false) 25)) := (((Below.refl _ _).alloc (Nat.le_refl _) _).alloc (by simp) _).alloc (by simp; omega) _
  by_cases hx : x < -1440 ∨ 1440 < x
  · rw [← shf_none f x (by omega)]
    clear h0 h1
    rcases hx with hx | hx
    · have hx' : ¬ 1440 < x := by omega
      go_enter Try.func26, Try.ntmps26
      go_wp2_with (refine wpList_store_row rfl 25 _ _ rfl _ _ rfl rfl _ _ h2 (maskSize _) (by simp [mv_size]) (mv_all _) ?_)
      refine bodyPost_ret (v := .agg (mv fun _ => false)) ?_ rfl ⟨rfl, below_setRow hb0 (by omega) _⟩
      exact results_cell_row rfl _ _ (w.heap.size + 2) _ _ _ _ rfl (setRow_heap _ _ _ _ _ _ h2) maskType rfl (maskSize _)
    · go_enter Try.func26, Try.ntmps26
      go_wp2_with (refine wpList_store_row rfl 25 _ _ rfl _ _ rfl rfl _ _ h2 (maskSize _) (by simp [mv_size]) (mv_all _) ?_)
      refine bodyPost_ret (v := .agg (mv fun _ => false)) ?_ rfl ⟨rfl, below_setRow hb0 (by omega) _⟩
      exact results_cell_row rfl _ _ (w.heap.size + 2) _ _ _ _ rfl (setRow_heap _ _ _ _ _ _ h2) maskType rfl (maskSize _)
  · have hx0 : -1440 ≤ x := by omega
    have hx1 : x ≤ 1440 := by omega
    have n0 : ¬ x < -1440 := by omega
    have n1 : ¬ 1440 < x := by omega
    clear hx
    have cm := make_ref (fun i => hasB f ((i : Int) - x)) 55 #[.pointer (some ⟨w.heap.size, 0, none⟩), .pointer (some ⟨w.heap.size + 1, 0, none⟩)] _ (fun _ _ => by simp [go_sem]) fun i wr hi hbr => shiftC f x i w.heap.size (w.heap.size + 1) wr hi hx0 hx1 ((hbr.block _ (lt_of_block h0)).trans h0) ((hbr.block _ (lt_of_block h1)).trans h1)
    rw [show (mv fun i => hasB f ((i : Int) - x) && decide (i < 1440)) = mv (shf f x) from mv_ext fun i _ => by
      unfold hasB shf
      have e : (0 ≤ (i : Int) - x) = (x ≤ (i : Int)) := by apply propext; omega
      simp only [e]
      cases decide (i < 1440) <;> cases decide (x ≤ (i : Int)) <;> cases decide ((i : Int) - x < 1440) <;> simp] at cm
    go_enter Try.func26, Try.ntmps26
    go_wp2_with (first
      | (go_at_call 49; refine cm.mono ?_; rintro e w1 ⟨rfl, hb1⟩; have h3 := (hb1.block _ (lt_of_block h2)).trans h2; have hb2 := hb0.trans (hb1.mono hb0.size); clear h2 hb1)
      | (refine wpList_store_row rfl 25 _ _ rfl _ _ rfl rfl _ _ h3 (maskSize _) (by simp [mv_size]) (mv_all _) ?_))
    refine bodyPost_ret (v := .agg (mv (shf f x))) ?_ rfl ⟨rfl, below_setRow hb2 (by omega) _⟩
    exact results_cell_row rfl _ _ (w.heap.size + 2) _ _ _ _ rfl (setRow_heap _ _ _ _ _ _ h3) maskType rfl (maskSize _)
end Go.Proofs.Ytaeengpppehlfaa

/- What the document's Run asks of others; its frames in memory. -/
namespace Go.Proofs.Ytaeengpppehlfaa
open Go.RowKit Msk Vx

set_option maxRecDepth 10000 in
set_option maxHeartbeats 1000000 in
theorem ofC_nil (p : Option Addr) (c : Nat) (i A : Nat) (w : World) (ha : w.heap[A]? = some (.cells #[.slice p 0 c] 63 (0, 0))) :
    Calls Try.prog 50 #[.int .i64 (i : Int), .pointer (some ⟨A, 0, none⟩)] w fun e w' => e = .returned (.bool (inS [] (i : Int))) ∧ Below w.heap.size w w' := by
  have ca := cell_of_one ha
  go_enter Try.func50, Try.ntmps50
  go_wp2
  refine wp_loop_rounds 1 ?_
  rw [rounds_succ]
  go_wp2
  go_ret
  exact ⟨rfl, Below.refl _ _⟩
set_option maxRecDepth 10000 in
set_option maxHeartbeats 400000 in
theorem of_ref_nil (p : Option Addr) (c : Nat) (w : World) :
    Calls Try.prog 22 #[.slice p 0 c] w fun e w' => e = .returned (.agg (mv (inl []))) ∧ Below w.heap.size w w' := by
  have hz := mv_lit
  have hmf := hmkf
  have h0 : ((w.alloc (.cells #[.slice p 0 c] 63)).alloc (.cells (mv fun _ => false) 25)).heap[w.heap.size]? = some (.cells #[.slice p 0 c] 63 (0, 0)) := by (repeat (first | refine blk_old _ _ _ (by simp only [size_alloc]; omega) ?_ | exact blk_new _ _ _ (by first | rfl | simp only [size_alloc])))
  have h2 : ((w.alloc (.cells #[.slice p 0 c] 63)).alloc (.cells (mv fun _ => false) 25)).heap[w.heap.size + 1]? = some (.cells (mv fun _ => false) 25 (0, 0)) := by (repeat (first | refine blk_old _ _ _ (by simp only [size_alloc]; omega) ?_ | exact blk_new _ _ _ (by first | rfl | simp only [size_alloc])))
  have hb0 : Below w.heap.size w ((w.alloc (.cells #[.slice p 0 c] 63)).alloc (.cells (mv fun _ => false) 25)) := ((Below.refl _ _).alloc (Nat.le_refl _) _).alloc (by simp) _
  have cm := make_ref (fun i => inS [] (i : Int)) 50 #[.pointer (some ⟨w.heap.size, 0, none⟩)] _ (fun _ _ => by simp [go_sem]) fun i wr _ hbr => ofC_nil p c i w.heap.size wr ((hbr.block _ (lt_of_block h0)).trans h0)
  rw [mv_inS] at cm
  clear h0
  go_enter Try.func22, Try.ntmps22
  go_wp2_with (first
    | (go_at_call 49; refine cm.mono ?_; rintro e w1 ⟨rfl, hb1⟩; have h3 := (hb1.block _ (lt_of_block h2)).trans h2; have hb2 := hb0.trans (hb1.mono hb0.size); clear h2 hb1)
    | (refine wpList_store_row rfl 25 _ _ rfl _ _ rfl rfl _ _ h3 (maskSize _) (by simp [mv_size]) (mv_all _) ?_))
  refine bodyPost_ret (v := .agg (mv (inl []))) ?_ rfl ⟨rfl, below_setRow hb2 (by omega) _⟩
  exact results_cell_row rfl _ _ (w.heap.size + 1) _ _ _ _ rfl (setRow_heap _ _ _ _ _ _ h3) maskType rfl (maskSize _)
theorem rof_anyV (v : Value) (l : List (Int × Int)) (w : World) (hl : RowV w v l) :
    Calls Try.prog 22 #[v] w fun e w' => e = .returned (.agg (mv (spM l))) ∧ Below w.heap.size w w' := by
  rcases hl with ⟨rfl, p, c, rfl⟩ | hl
  · exact of_ref_nil p c w
  · exact of_ref v l w hl
set_option maxHeartbeats 400000 in
theorem rweek9 (n : Int) (w : World) (a : 0 ≤ n) (b : n < 146097) : Calls Try.prog 27 #[.int .i64 n] w fun e w' => e = .returned (.int .i64 (wkd9 n)) ∧ w' = w := by
  have hb := wkd9_bd n a
  have h7 : 0 ≤ n.tmod 7 ∧ n.tmod 7 < 7 := by
    rw [Int.tmod_eq_emod_of_nonneg a]
    omega
  obtain ⟨h8, h9⟩ := h7
  have e : (n % 7 + 5) % 7 = wkd9 n := by
    rw [wkd9_eq n a]
    omega
  have HE := hidv e
  clear e
  go_enter Try.func27, Try.ntmps27
  go_wp2_with fail
  go_ret
  exact ⟨congrArg (fun x => Ending.returned (.int .i64 x)) HE.out, rfl⟩
/-- Frames as cells, the first one first. -/
def flatF : List Fr → List Value
  | [] => []
  | f :: F => flatF F ++ [.int .i64 (f.r : Int), .int .i64 (f.k : Int)]
theorem flatF_len : ∀ F : List Fr, (flatF F).length = F.length * 2
  | [] => rfl
  | f :: F => by
    have := flatF_len F
    simp only [flatF, List.length_append, List.length_cons, List.length_nil, this]
    omega
theorem ownF_slice {w : World} {base n : Nat} {sv : Value} {xs : List Value} (h : w.ownsRow base 60 2 sv n xs) : ∃ p c, sv = .slice p n c := by
  rcases h.2 with ⟨e, e2⟩ | ⟨b, cap, cur, e, _⟩
  · exact ⟨none, 0, by rw [e, e2]⟩
  · exact ⟨_, cap, e⟩
/-- Masks and frames lie apart. -/
theorem own_apart {w : World} {base n m : Nat} {sv fv : Value} {xs ys : List Value} (h : w.ownsRow base 25 23 sv n xs) (h' : w.ownsRow base 60 2 fv m ys) : fv.ownBlock = none ∨ sv.ownBlock ≠ fv.ownBlock := by
  rcases h'.2 with ⟨e, _⟩ | ⟨b, cap, cur, e, _, hb, _⟩
  · exact .inl (by rw [e]; rfl)
  · refine .inr fun q => ?_
    have := own_ne h hb (by decide)
    rw [q, e] at this
    exact this rfl
/-- The last frame. -/
theorem ownF_top {w : World} {base : Nat} {v : Value} {f : Fr} {G : List Fr} (h : w.ownsRow base 60 2 v (f :: G).length (flatF (f :: G))) :
    ∃ g cap cur, v = .slice (some ⟨g, 0, none⟩) (G.length + 1) cap ∧ G.length + 1 ≤ cap ∧ cap ≤ maxLen ∧ base ≤ g ∧ w.heap[g]? = some (.cells cur 60 (0, 0)) ∧ cur.size = cap * 2 ∧ w.ownsRow base 60 2 (.slice (some ⟨g, 0, none⟩) G.length cap) G.length (flatF G) ∧ cur[G.length * 2]? = some (.int .i64 (f.r : Int)) ∧ cur[G.length * 2 + 1]? = some (.int .i64 (f.k : Int)) := by
  obtain ⟨h1, h2⟩ := h
  rw [List.length_cons] at h2
  rcases h2 with ⟨_, e⟩ | ⟨g, cap, cur, e, hb, hg, hn, hc, hs, hx⟩
  · omega
  · have hfl := flatF_len G
    have e1 : cur.toList.take (G.length * 2) = flatF G := by
      have h3 : (cur.toList.take ((G.length + 1) * 2)).take (G.length * 2) = (flatF (f :: G)).take (G.length * 2) := by rw [hx]
      rw [List.take_take, Nat.min_eq_left (by omega)] at h3
      rw [h3]
      show (flatF G ++ _).take (G.length * 2) = _
      exact List.take_left' hfl
    have hat : ∀ j, j < 2 → cur[G.length * 2 + j]? = ([Value.int .i64 (f.r : Int), .int .i64 (f.k : Int)])[j]? := fun j hj => by
      have h4 : (cur.toList.take ((G.length + 1) * 2))[G.length * 2 + j]? = (flatF (f :: G))[G.length * 2 + j]? := by rw [hx]
      rw [List.getElem?_take_of_lt (by omega)] at h4
      rw [← Array.getElem?_toList, h4]
      show (flatF G ++ _)[G.length * 2 + j]? = _
      rw [List.getElem?_append_right (by omega), hfl, Nat.add_sub_cancel_left]
    exact ⟨g, cap, cur, e, hn, hc, hb, hg, hs, ⟨hfl, .inr ⟨g, cap, cur, rfl, hb, hg, by omega, hc, hs, e1⟩⟩, hat 0 (by omega), hat 1 (by omega)⟩
/-- The last frame goes on elsewhere. -/
theorem ownF_set {w : World} {base : Nat} {v : Value} {f : Fr} {G : List Fr} (h : w.ownsRow base 60 2 v (f :: G).length (flatF (f :: G))) {g n cap : Nat} (hv : v = .slice (some ⟨g, 0, none⟩) n cap) (k : Nat) (S : List M) : (w.setCell ⟨g, G.length * 2 + 1, none⟩ (.int .i64 (k : Int))).ownsRow base 60 2 v (⟨f.r, k, S⟩ :: G).length (flatF (⟨f.r, k, S⟩ :: G)) := by
  obtain ⟨g', cap', cur, e, hn, hc, hb, hg, hs, ho, c0, c1⟩ := ownF_top h
  have hgg : g = g' := by
    rw [hv] at e
    injection e with e1 _ _
    injection e1 with e1
    injection e1
  subst hgg
  have hh : (w.setCell ⟨g, G.length * 2 + 1, none⟩ (.int .i64 (k : Int))).heap[g]? = some (.cells (cur.setIfInBounds (G.length * 2 + 1) (.int .i64 (k : Int))) 60 (0, 0)) := heap_setCell_same w g _ _ _ _ hg
  obtain ⟨_, h2⟩ := ho
  rcases h2 with ⟨e', _⟩ | ⟨g2, cap2, cur2, e2, _, hg2, _, _, _, hx2⟩
  · exact absurd e' (by simp)
  · have hc2 : cur2 = cur := by
      injection e2 with e2 _ _
      injection e2 with e2
      injection e2 with e2
      subst e2
      rw [hg] at hg2
      injection hg2 with hg2
      injection hg2 with hg2
      exact hg2.symm
    subst hc2
    refine ⟨?_, .inr ⟨g, cap', _, e, hb, hh, hn, hc, by simpa using hs, ?_⟩⟩
    · rw [flatF_len]
    · have hfl := flatF_len G
      apply List.ext_getElem?
      intro j
      by_cases hj : j < (G.length + 1) * 2
      · rw [List.length_cons, List.getElem?_take_of_lt hj, Array.getElem?_toList, Array.getElem?_setIfInBounds]
        show _ = (flatF G ++ [.int .i64 (f.r : Int), .int .i64 (k : Int)])[j]?
        by_cases hj2 : j < G.length * 2
        · rw [if_neg (by omega), List.getElem?_append_left (by omega), ← hx2, List.getElem?_take_of_lt hj2, Array.getElem?_toList]
        · rw [List.getElem?_append_right (by omega), hfl]
          by_cases hj3 : j = G.length * 2
          · subst hj3
            rw [if_neg (by omega), c0, Nat.sub_self]
            rfl
          · have e3 : j = G.length * 2 + 1 := by omega
            subst e3
            rw [if_pos rfl, if_pos (by rw [hs]; omega), Nat.add_sub_cancel_left]
            rfl
      · rw [List.getElem?_eq_none (by rw [List.length_take, List.length_cons]; omega), List.getElem?_eq_none (by rw [flatF_len, List.length_cons]; omega)]
def wkAll9 : Bool := (List.range 128).all fun a => (List.range 7).all fun k => (bits BinOp.and IntKind.i64 ((a : Int) / 2 ^ k) 1 == 1) == !(bits BinOp.and IntKind.i64 (a : Int) (2 ^ k) == 0)
theorem wkAll9_yes : wkAll9 = true := by decide +kernel
/-- Whichever way the bit is asked for. -/
theorem wkB9_ref (n a : Int) (hn : 0 ≤ n) (h0 : 0 ≤ a) (h1 : a < 128) : wkB9 n a = !(bits BinOp.and IntKind.i64 a (2 ^ (wkd9 n).toNat) == 0) := by
  obtain ⟨w0, w1⟩ := wkd9_bd n hn
  have h := wkAll9_yes
  unfold wkAll9 at h
  rw [List.all_eq_true] at h
  have h2 := h a.toNat (List.mem_range.2 (by omega))
  rw [List.all_eq_true] at h2
  have h3 := h2 (wkd9 n).toNat (List.mem_range.2 (by omega))
  rw [show ((a.toNat : Nat) : Int) = a by omega] at h3
  unfold wkB9
  simpa using h3
theorem wrap_small9 (k : Int) (h : 0 ≤ k ∧ k < 7) : wrap64 (2 ^ k.toNat) = 2 ^ k.toNat := by
  have hk : k = 0 ∨ k = 1 ∨ k = 2 ∨ k = 3 ∨ k = 4 ∨ k = 5 ∨ k = 6 := by omega
  rcases hk with rfl | rfl | rfl | rfl | rfl | rfl | rfl <;> (unfold wrap64; decide)
/-- How long a slice is. -/
def slLen : Value → Nat
  | .slice _ n _ => n
  | _ => 0
theorem slLen_eq (p : Option Addr) (n c : Nat) : slLen (.slice p n c) = n := rfl
/-- What is so at the head of the document's loop. -/
structure RfI (wk : Int → Bool) (day : Int) (cs : List Cd) (m : M) (N : Nat) (w0 : World) (F : List Fr) (S : List M) (n : Nat) (sv fv : Value) (W : World) : Prop where
  bel : Below w0.heap.size w0 W
  own : W.ownsRow w0.heap.size 25 23 sv S.length (flatS S)
  fr : W.ownsRow w0.heap.size 60 2 fv F.length (flatF F)
  nil : F = [] → S = [m] ∧ n = N
  cons : ∀ f G, F = f :: G → S = stk (f :: G) ∧ FInv wk day cs m N f G n
def RfR (wk : Int → Bool) (day : Int) (cs : List Cd) (m : M) (N : Nat) (w0 : World) (t10 t11 t12 : Value) (W : World) : Prop := ∃ F S n, t11 = .int .i64 ((n : Nat) : Int) ∧ RfI wk day cs m N w0 F S n t10 t12 W
section
variable {wk : Int → Bool} {day : Int} {cs : List Cd} {m : M} {N : Nat} {w0 W W' : World} {F : List Fr} {S : List M} {n : Nat} {sv fv : Value}
theorem RfI.below (h : RfI wk day cs m N w0 F S n sv fv W) (hb : Below W.heap.size W W') : RfI wk day cs m N w0 F S n sv fv W' :=
  ⟨h.bel.trans (hb.mono h.bel.size), own_below h.own hb, own_below h.fr hb, h.nil, h.cons⟩
theorem stk_pop {f : Fr} {G : List Fr} {g : M} (hS : f.S = [g]) : stk (f :: G) = stk G ++ [g] := by simp [stk, hS]
/-- A rule's end: the frame before goes on. -/
theorem RfI.end {f : Fr} {G : List Fr} (hR : Right cs) (h : RfI wk day cs m N w0 (f :: G) S n sv fv W) (hk : f.k = (insR cs f.r).length) {fv' : Value} (hf : W.ownsRow w0.heap.size 60 2 fv' G.length (flatF G)) : ∃ F', F'.length = G.length ∧ RfI wk day cs m N w0 F' S n sv fv' W := by
  obtain ⟨e1, e2⟩ := h.cons f G rfl
  obtain ⟨g, hS⟩ := e2.one hR hk
  have e3 := e1.trans (stk_pop hS)
  cases G with
  | nil =>
    obtain ⟨e4, e5⟩ := e2.last hk hS
    refine ⟨[], rfl, h.bel, h.own, hf, fun _ => ⟨?_, e5⟩, fun f' G' e => (by cases e)⟩
    rw [e3, e4]
    rfl
  | cons f' G' =>
    refine ⟨⟨f'.r, f'.k, f'.S ++ [g]⟩ :: G', rfl, h.bel, h.own, ?_, fun e => (by cases e), fun f2 G2 e => ?_⟩
    · rw [List.length_cons] at hf ⊢
      exact hf
    · cases e
      refine ⟨?_, e2.pop hk hS⟩
      rw [e3]
      simp [stk]
theorem stk_len (hR : Right cs) : ∀ (G : List Fr), (∀ g ∈ G, FrOK cs g 1) → (stk G).length ≤ G.length * 2000
  | [], _ => by simp [stk]
  | g :: G, h => by
    have h1 := stk_len hR G fun q hq => h q (List.mem_cons_of_mem _ hq)
    have h2 := h g (by simp)
    obtain ⟨c, hc, hci, _, _, hl⟩ := hR.at h2.r
    have h3 := h2.S
    have h4 := h2.k
    rw [hci] at h3 h4
    have h5 := (hAt_bd (l := c.ins) g.k).2
    simp only [stk, List.length_append, List.length_cons]
    omega
theorem FInv.stk_le (hR : Right cs) {f : Fr} {G : List Fr} (h : FInv wk day cs m N f G n) : (stk (f :: G)).length ≤ (n + 1) * 2000 := by
  have h1 := stk_len hR G h.rest
  obtain ⟨c, hc, hci, _, _, hl⟩ := hR.at h.top.r
  have h3 := h.top.S
  have h4 := h.top.k
  rw [hci] at h3 h4
  have h5 := (hAt_bd (l := c.ins) f.k).2
  have h6 := h.len
  simp only [stk, List.length_append]
  have : G.length * 2000 ≤ n * 2000 := Nat.mul_le_mul_right _ h6
  omega
end
theorem rrun_post {R : Ending → World → Prop} {a : Act} {w : World} (g g' : Nat) (f : M) (n er at_ : Int) (hd : a.defers = []) (h6 : a.tmps.getD 6 undef = .pointer (some ⟨g, 0, none⟩)) (h7 : a.tmps.getD 7 undef = .int .i64 n) (h8 : a.tmps.getD 8 undef = .pointer (some ⟨g', 0, none⟩))
    (hg : w.heap[g]? = some (.cells (mv f) 25 (0, 0))) (hg' : w.heap[g']? = some (.cells #[.int .i64 er, .int .i64 at_] 28 (0, 0))) (hR : R (.returned (.tuple #[.agg (mv f), .int .i64 n, .agg #[.int .i64 er, .int .i64 at_]])) w) : bodyPost Try.prog Try.f10 R .ret a w := by
  refine bodyPost_ret (v := .tuple #[.agg (mv f), .int .i64 n, .agg #[.int .i64 er, .int .i64 at_]]) ?_ hd hR
  have h6' : a.tmps[6]?.getD undef = .pointer (some ⟨g, 0, none⟩) := by simpa using h6
  have h7' : a.tmps[7]?.getD undef = .int .i64 n := by simpa using h7
  have h8' : a.tmps[8]?.getD undef = .pointer (some ⟨g', 0, none⟩) := by simpa using h8
  have hv := run_loadVar_row (P := Try.prog) w g 25 25 _ _ _ hg maskType rfl (maskSize _)
  have hv' := run_loadVar_row (P := Try.prog) w g' 28 28 _ _ _ hg' faultTypeV rfl (by kernel_rfl)
  simp [results, Try.results10, h6', h7', h8', asAddr, hv, hv']
theorem frameInfo9 : (Try.prog.info? 60).map (fun i => (i.zero, i.size, i.bytes)) = some (some (.agg #[.int .i64 0, .int .i64 0]), 2, 16) := by kernel_rfl
theorem framesType : Try.prog.underlying 61 = some (.slice 60) := by kernel_rfl
end Go.Proofs.Ytaeengpppehlfaa

/- Frames and stack while an instruction of the document's Run is carried out. -/
namespace Go.Proofs.Ytaeengpppehlfaa
open Go.RowKit Msk Vx

/-- What is said of the world while an instruction is taken out of the code. -/
structure BxJ (wd : World) (gb : Nat) (X : Array Value) (L : Nat → Bool) (W : World) : Prop where
  bel : Below wd.heap.size wd W
  ahead : L 14 = false → W.heap.size = gb
  mid : L 14 = true → L 15 = false → W.heap[gb]? = some (.cells #[.int .i64 0, .int .i64 0, .int .i64 0, .int .i64 0, .slice none 0 0] 65 (0, 0))
  fin : L 15 = true → W.heap[gb]? = some (.cells X 65 (0, 0))
section
variable {wd : World} {gb : Nat} {X : Array Value} {L : Nat → Bool} {W : World}
theorem BxJ.same (h : BxJ wd gb X L W) (i : Nat) (hi : i ≠ 14 ∧ i ≠ 15) : BxJ wd gb X (fun k => decide (i = k) || L k) W :=
  ⟨h.bel, fun e => h.ahead (Bool.or_eq_false_iff.1 e).2, fun e e' => h.mid (by simpa [hi.1] using e) (Bool.or_eq_false_iff.1 e').2, fun e => h.fin (by simpa [hi.2] using e)⟩
theorem BxJ.made (h : BxJ wd gb X L W) (h14 : L 14 = false) (h15 : L 15 = false) : BxJ wd gb X (fun k => decide (14 = k) || L k) (W.alloc (.cells #[.int .i64 0, .int .i64 0, .int .i64 0, .int .i64 0, .slice none 0 0] 65)) := by
  have e := h.ahead h14
  refine ⟨h.bel.alloc h.bel.size _, fun q => (by simp at q), fun _ _ => ?_, fun q => (by simp [h15] at q)⟩
  rw [← e]
  exact heap_alloc_new _ _
theorem BxJ.stored (h : BxJ wd gb X L W) (h14 : L 14 = true) (h15 : L 15 = false) (hg : wd.heap.size ≤ gb) : BxJ wd gb X (fun k => decide (15 = k) || L k) (W.setRow gb X) :=
  ⟨below_setRow h.bel hg _, fun q => (by simp [h14] at q), fun _ q => (by simp at q), fun _ => setRow_heap _ _ _ _ _ _ (h.mid h14 h15)⟩
end
/-- The stack, the frames, the instruction's own place. -/
structure RfM (w0 : World) (F : List Fr) (S : List M) (sv fv : Value) (gb : Nat) (X : Array Value) (W : World) : Prop where
  bel : Below w0.heap.size w0 W
  own : W.ownsRow w0.heap.size 25 23 sv S.length (flatS S)
  fr : W.ownsRow w0.heap.size 60 2 fv F.length (flatF F)
  box : W.heap[gb]? = some (.cells X 65 (0, 0))
section
variable {w0 W W' : World} {F : List Fr} {S : List M} {sv fv : Value} {gb : Nat} {X : Array Value}
theorem RfM.below (h : RfM w0 F S sv fv gb X W) (hb : Below W.heap.size W W') : RfM w0 F S sv fv gb X W' :=
  ⟨h.bel.trans (hb.mono h.bel.size), own_below h.own hb, own_below h.fr hb, (hb.block _ (lt_of_block h.box)).trans h.box⟩
theorem ownF_ne {w : World} {base n : Nat} {sv : Value} {xs : List Value} {g : Nat} {cs : Array Value} {T : TypeId} (h : w.ownsRow base 60 2 sv n xs) (hg : w.heap[g]? = some (.cells cs T (0, 0))) (hT : T ≠ 60) : some g ≠ sv.ownBlock := by
  rcases h.2 with ⟨e, _⟩ | ⟨b, cap, cur, e, _, hb, _⟩
  · rw [e]; simp [Value.ownBlock]
  · rw [e]
    intro q
    have q' : g = b := by simpa [Value.ownBlock] using q
    subst q'
    rw [hg] at hb
    injection hb with hb
    injection hb with _ h2 _
    exact hT h2
theorem own_apart' {w : World} {base n m : Nat} {sv fv : Value} {xs ys : List Value} (h : w.ownsRow base 25 23 sv n xs) (h' : w.ownsRow base 60 2 fv m ys) : sv.ownBlock = none ∨ fv.ownBlock ≠ sv.ownBlock := by
  rcases h.2 with ⟨e, _⟩ | ⟨b, cap, cur, e, _, hb, _⟩
  · exact .inl (by rw [e]; rfl)
  · refine .inr fun q => ?_
    have := ownF_ne h' hb (by decide)
    rw [q, e] at this
    exact this rfl
theorem grown_base {w0 W W' : World} {row : Option Nat} (hb : Below w0.heap.size w0 W) (hg : W.grownBy W' row) (hr : ∀ k, row = some k → w0.heap.size ≤ k) : Below w0.heap.size w0 W' :=
  ⟨hg.os.trans hb.os, hg.tape.trans hb.tape, hg.output.trans hb.output, Nat.le_trans hb.size hg.size, fun q hq => (hg.block q (Nat.lt_of_lt_of_le hq hb.size) fun e => by have := hr q e.symm; omega).trans (hb.block q hq)⟩
/-- The stack has grown. -/
theorem RfM.grown (h : RfM w0 F S sv fv gb X W) {S' : List M} {sv' : Value} (hg : W.grownBy W' sv.ownBlock) (hown : W'.ownsRow w0.heap.size 25 23 sv' S'.length (flatS S')) : RfM w0 F S' sv' fv gb X W' := by
  refine ⟨grown_base h.bel hg fun k hk => (h.own.lt k hk).1, hown, h.fr.kept hg ?_, (hg.block _ (lt_of_block h.box) (own_ne h.own h.box (by decide))).trans h.box⟩
  rcases own_apart h.own h.fr with q | q
  · exact .inl q
  · exact .inr (Ne.symm q)
/-- The frames have grown. -/
theorem RfM.grownF (h : RfM w0 F S sv fv gb X W) {F' : List Fr} {fv' : Value} (hg : W.grownBy W' fv.ownBlock) (hown : W'.ownsRow w0.heap.size 60 2 fv' F'.length (flatF F')) : RfM w0 F' S sv fv' gb X W' := by
  refine ⟨grown_base h.bel hg fun k hk => (h.fr.lt k hk).1, h.own.kept hg ?_, hown, (hg.block _ (lt_of_block h.box) (ownF_ne h.fr h.box (by decide))).trans h.box⟩
  rcases own_apart' h.own h.fr with q | q
  · exact .inl q
  · exact .inr (Ne.symm q)
/-- The last frame goes on elsewhere. -/
theorem RfM.go {r k : Nat} {T : List M} {G : List Fr} (h : RfM w0 (⟨r, k, T⟩ :: G) S sv fv gb X W) {g n cap q : Nat} (hv : fv = .slice (some ⟨g, 0, none⟩) n cap) (hq : G.length = q) (k' : Nat) (T' : List M) : RfM w0 (⟨r, k', T'⟩ :: G) S sv fv gb X (W.setCell ⟨g, q * 2 + 1, none⟩ (.int .i64 (k' : Int))) := by
  have h0 : fv.ownBlock = some g := by rw [hv]; rfl
  have hb := (h.fr.lt g h0).1
  have hgr : W.grownBy (W.setCell ⟨g, q * 2 + 1, none⟩ (.int .i64 (k' : Int))) (some g) := ⟨rfl, rfl, rfl, by simp, fun j hj hr => heap_setCell_other W ⟨g, q * 2 + 1, none⟩ j _ fun e => hr (congrArg some e)⟩
  have hfr := ownF_set h.fr hv k' T'
  rw [hq] at hfr
  rw [← h0] at hgr
  exact h.grownF hgr hfr
end
end Go.Proofs.Ytaeengpppehlfaa

/- Masks and frames that are put at a row's end. -/
namespace Go.Proofs.Ytaeengpppehlfaa
open Go.RowKit Msk Vx

section
variable {ops : Array Oper} {rest : List Oper} {op : Oper} {a : Act} {w : World} {Q : Exit → Act → World → Prop}
theorem wpList_buildM (hgd : op.guard = none) (x : Operand) (ho : op.op = .buildSlice 54 1 #[(0, x)]) (f : M) (hx : a.eval x = .agg (mv f))
    (h : wpList Try.prog ops Q rest (a.put op.dst (.slice (some ⟨w.heap.size, 0, none⟩) 1 1)) (w.alloc (.cells (mv f) 25))) : wpList Try.prog ops Q (op :: rest) a w :=
  wpList_plain hgd fun _ hK => wp_buildM x ho f hx (hK _ _ h)
theorem mvl_one (f : M) : ∀ u ∈ (mv f).toList, u.oneCell' = true := by
  intro u hu
  have := mv_all f
  rw [Array.all_eq_true_iff_forall_mem] at this
  exact this u (Array.mem_def.2 hu)
theorem wp_appendM {K : Act → World → Prop} (s x : Operand) (ho : op.op = .call { callee := .builtin .append, args := #[s, x], argTypes := #[54, 54] }) (base : Nat) (S : List M) (f : M) (v : Value) (hs : a.eval s = v) (hown : w.ownsRow base 25 23 v S.length (flatS S)) (g : Nat) (hx : a.eval x = .slice (some ⟨g, 0, none⟩) 1 1) (hg : w.heap[g]? = some (.cells (mv f) 25 (0, 0))) (hS : S.length ≤ 50000000) (hb : base ≤ w.heap.size)
    (h : ∀ v' w', w'.ownsRow base 25 23 v' (S ++ [f]).length (flatS (S ++ [f])) → w.grownBy w' v.ownBlock → K (a.put op.dst v') w') : op.wp Try.prog a w K Q := by
  obtain ⟨i0, hi, hz0, hz1, hz2⟩ := info_parts maskInfo9
  refine wp_append_own w s x 54 ho base 25 i0 _ 23 184 masksType hi hz0 hz1 hz2 rfl (by decide) v S.length (flatS S) hs hown ⟨g, 0, none⟩ 1 1 (mv f).toList hx (mvl_len f) ?_ (mvl_one f) (by unfold maxLen; omega) (by omega) hb fun v' w' h1 h2 _ => ?_
  · intro q u hq
    rw [in_add9]
    exact (cell_of_row _ _ _ _ _ _ hg).trans (by rw [Nat.zero_add, ← Array.getElem?_toList]; exact hq)
  · refine h v' w' ?_ h2
    rw [flatS_snoc, List.length_append, List.length_singleton]
    exact h1
theorem wpList_appendM (hgd : op.guard = none) (s x : Operand) (ho : op.op = .call { callee := .builtin .append, args := #[s, x], argTypes := #[54, 54] }) (base : Nat) (S : List M) (f : M) (v : Value) (hs : a.eval s = v) (hown : w.ownsRow base 25 23 v S.length (flatS S)) (g : Nat) (hx : a.eval x = .slice (some ⟨g, 0, none⟩) 1 1) (hg : w.heap[g]? = some (.cells (mv f) 25 (0, 0))) (hS : S.length ≤ 50000000) (hb : base ≤ w.heap.size)
    (h : ∀ v' w', w'.ownsRow base 25 23 v' (S ++ [f]).length (flatS (S ++ [f])) → w.grownBy w' v.ownBlock → wpList Try.prog ops Q rest (a.put op.dst v') w') : wpList Try.prog ops Q (op :: rest) a w :=
  wpList_plain hgd fun _ hK => wp_appendM s x ho base S f v hs hown g hx hg hS hb fun v' w' h1 h2 => hK _ _ (h v' w' h1 h2)
theorem wpList_appendF (hgd : op.guard = none) (s x : Operand) (ho : op.op = .call { callee := .builtin .append, args := #[s, x], argTypes := #[61, 61] }) (base : Nat) (F : List Fr) (r : Nat) (v : Value) (hs : a.eval s = v) (hown : w.ownsRow base 60 2 v F.length (flatF F)) (g : Nat) (hx : a.eval x = .slice (some ⟨g, 0, none⟩) 1 1) (hg : w.heap[g]? = some (.cells #[.int .i64 (r : Int), .int .i64 0] 60 (0, 0))) (hS : F.length ≤ 50000000) (hb : base ≤ w.heap.size)
    (h : ∀ v' w', w'.ownsRow base 60 2 v' (⟨r, 0, []⟩ :: F).length (flatF (⟨r, 0, []⟩ :: F)) → w.grownBy w' v.ownBlock → wpList Try.prog ops Q rest (a.put op.dst v') w') : wpList Try.prog ops Q (op :: rest) a w := by
  obtain ⟨i0, hi, hz0, hz1, hz2⟩ := info_parts frameInfo9
  refine wpList_append_own (w := w) hgd s x 61 ho base 60 i0 _ 2 16 framesType hi hz0 hz1 hz2 rfl (by decide) v F.length (flatF F) hs hown ⟨g, 0, none⟩ 1 1 [.int .i64 (r : Int), .int .i64 0] hx rfl ?_ ?_ (by unfold maxLen; omega) (by omega) hb fun v' w' h1 h2 _ => ?_
  · intro q u hq
    rw [in_add9]
    exact (cell_of_row _ _ _ _ _ _ hg).trans (by rw [Nat.zero_add, ← Array.getElem?_toList]; exact hq)
  · intro u hu
    rcases List.mem_cons.1 hu with rfl | hu
    · rfl
    · rcases List.mem_cons.1 hu with rfl | hu
      · rfl
      · cases hu
  · exact h v' w' h1 h2
end
section
variable {wk : Int → Bool} {day : Int} {cs : List Cd} {m : M} {N n : Nat} {w0 W : World} {G : List Fr} {S : List M} {sv fv : Value} {gb : Nat} {X : Array Value}
theorem RfM.re {r k : Nat} {T : List M} (h : RfM w0 (⟨r, k, T⟩ :: G) S sv fv gb X W) (T' : List M) : RfM w0 (⟨r, k, T'⟩ :: G) S sv fv gb X W := ⟨h.bel, h.own, h.fr, h.box⟩
theorem RfM.out {f : Fr} (h : RfM w0 (f :: G) S sv fv gb X W) (hS : S = stk (f :: G)) (hF : FInv wk day cs m N f G n) : RfI wk day cs m N w0 (f :: G) S n sv fv W :=
  ⟨h.bel, h.own, h.fr, fun e => (by cases e), fun f' G' e => (by cases e; exact ⟨hS, hF⟩)⟩
end
theorem ins_six {a b t : Int} {sp : List (Int × Int)} {k n r : Nat} (h : insE ⟨6, a, b, t, sp⟩ k n r = 0) : 1 ≤ a ∧ a ≤ 127 := by
  have h' : (if (k : Int) + 2 ≤ t ∧ t ≤ n then (if 1 ≤ a ∧ a ≤ 127 then (0 : Int) else 3) else 8) = 0 := h
  split at h'
  · split at h'
    · assumption
    · omega
  · omega
theorem ins_five {a b t : Int} {sp : List (Int × Int)} {k n r : Nat} (h : insE ⟨5, a, b, t, sp⟩ k n r = 0) : -1439 ≤ a ∧ a ≤ 1439 := by
  have h' : (if a ≠ 0 ∧ -1439 ≤ a ∧ a ≤ 1439 then (0 : Int) else 3) = 0 := h
  split at h'
  · omega
  · omega
end Go.Proofs.Ytaeengpppehlfaa

/- Regions whose values are known beforehand, where a slot that is read first is written last. It speaks of no program. -/
namespace Go.Proofs.Ytaeengpppehlfaa
open Go Go.RowKit
section
variable {P : Program} {ops : Array Oper} {Q : Exit → Act → World → Prop} {id : Nat} {a0 : Act} {w : World}

/-- Only this operation writes the slot. -/
def onlyAt (ops : Array Oper) (s k : Nat) : Bool := (List.range ops.size).all fun j => j == k || (match ops[j]? with | none => true | some o => o.dst != some s)
theorem only_ne {s k j : Nat} {o : Oper} (h : onlyAt ops s k = true) (ho : ops[j]? = some o) (hj : j ≠ k) : o.dst ≠ some s := by
  have h1 := List.all_eq_true.1 h j (by simpa using (Array.getElem?_eq_some_iff.1 ho).1)
  rw [ho] at h1
  simpa [hj] using h1
def StepW (P : Program) (ops : Array Oper) (Q : Exit → Act → World → Prop) (ds : List (Nat × Value)) (a0 : Act) (w : World) : Prop :=
  ∀ (i s : Nat) (v : Value) (o : Oper) (L : Nat → Bool) (A : Act) (W : World), ops[i]? = some o → ds[i]? = some (s, v) → (∀ e ∈ o.after, Region.binds .any e = true → L e.on = true) → Below w.heap.size w W →
    (∀ s, notDst ops s = true → A.tmps.getD s undef = a0.tmps.getD s undef) → (∀ (j s : Nat) (u : Value), ds[j]? = some (s, u) → L j = true → A.tmps.getD s undef = u) →
    L i = false → (∀ (j : Nat) (p : Oper), ops[j]? = some p → L j = true → ∀ e ∈ p.after, Region.binds .any e = true → L e.on = true) → (∀ s k, onlyAt ops s k = true → L k = false → A.tmps.getD s undef = a0.tmps.getD s undef) →
    wpOp P ops Q i (fun a' W' => a' = A.put (some s) v ∧ Below W.heap.size W W') A W
theorem wp_region_wals (hm : P.follows .mixedOrders = true) (hback : backB ops = true) (hdst : dstB ops = true) (hin : inB ops a0.tmps.size = true) (ds : List (Nat × Value))
    (hds : (ops.toList.take ops.size).map (fun o => o.dst) = ds.map (fun p => some p.1)) (hnd : decide (((ops.toList.take ops.size).map (fun o => o.dst)).Nodup) = true)
    (hstep : StepW P ops Q ds a0 w) (hend : ∀ W, Below w.heap.size w W → Q .normal (putAll ds a0) W) : (Code.region id ops true).wp P Q a0 w := by
  have hnd' : (ds.map (fun p => some p.1)).Nodup := by rw [← hds]; exact of_decide_eq_true hnd
  refine wp_region_flow hm hback hdst hin (fun L _ W => Below w.heap.size w W ∧ ∀ (j : Nat) (p : Oper), ops[j]? = some p → L j = true → ∀ e ∈ p.after, Region.binds .any e = true → L e.on = true) (fun j x _ => ∀ s v, ds[j]? = some (s, v) → x = v) ?_ ?_ ?_
  · intro L h
    refine ⟨(Below.refl _ _).drew, fun j p hp hj => ?_⟩
    have := h j (Array.getElem?_eq_some_iff.1 hp).1
    rw [this] at hj; cases hj
  · rintro i o L A W ho hLi hdep ⟨hJ, hc⟩ hdef hkept hhas
    have hi : i < ops.size := (Array.getElem?_eq_some_iff.1 ho).1
    obtain ⟨s, v, hv⟩ := at_dst hds hi ho
    have hd := dst_at hds ho hv
    have hc' : ∀ (j : Nat) (p : Oper), ops[j]? = some p → (decide (i = j) || L j) = true → ∀ e ∈ p.after, Region.binds .any e = true → (decide (i = e.on) || L e.on) = true := by
      intro j p hp hj e he hb
      by_cases hij : i = j
      · subst hij
        rw [ho] at hp
        cases hp
        rw [hdep e he hb]; simp
      · rw [hc j p hp (by simpa [hij] using hj) e he hb]; simp
    refine wpOp_mono ?_ (hstep i s v o L A W ho hv hdep hJ (fun s' h => hkept s' fun j p hp _ => nd h j p hp) (fun j s' u hj hL => ?_) hLi hc (fun s' k h hk => hkept s' fun j p hp hj => ?_))
    · rintro a' W' ⟨rfl, hb⟩
      exact ⟨v, by rw [hd], fun _ s' v' h => by rw [hv] at h; cases h; rfl, fun _ _ _ h => h, hJ.trans (hb.mono hJ.size), hc'⟩
    · have hj' : j < ds.length := (List.getElem?_eq_some_iff.1 hj).1
      have hl : ds.length = ops.size := by have := congrArg List.length hds; simpa using this.symm
      obtain ⟨p, hp⟩ : ∃ p, ops[j]? = some p := ⟨ops[j]'(by omega), Array.getElem?_eq_getElem _⟩
      exact hhas j p hp hL s' (dst_at hds hp hj) s' u hj
    · exact only_ne h hp (fun e => by rw [e, hk] at hj; cases hj)
  · intro L A W hL hJ hdef hsize hkept hhas
    have : A = putAll ds a0 := act_is ds hdef hsize hnd' (fun s h => hkept s fun j p hp e => ?_) (fun j s v hj => ?_)
    · rw [this]; exact hend W hJ.1
    · have hi : j < ops.size := (Array.getElem?_eq_some_iff.1 hp).1
      obtain ⟨s', v, hv⟩ := at_dst hds hi hp
      have := (dst_at hds hp hv).symm.trans e
      cases this
      exact h _ (List.mem_of_getElem? hv) rfl
    · have hj' : j < ds.length := (List.getElem?_eq_some_iff.1 hj).1
      have hl : ds.length = ops.size := by have := congrArg List.length hds; simpa using this.symm
      obtain ⟨p, hp⟩ : ∃ p, ops[j]? = some p := ⟨ops[j]'(by omega), Array.getElem?_eq_getElem _⟩
      exact hhas j p hp s (dst_at hds hp hj) s v hj
end
end Go.Proofs.Ytaeengpppehlfaa
