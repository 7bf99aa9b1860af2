/- What slotref2.Union, Diff and Both come to. -/
import Derived.Test.YtdpfhhmfamiboaaVt09
import Derived.Test.YtdpfhhmfamiboaaVt03
import Derived.Test.YtdpfhhmfamiboaaVt08
import Derived.Test.YtdpfhhmfamiboaaVt02
import Derived.Test.YtdpfhhmfamiboaaVt05
import Derived.Test.YtdpfhhmfamiboaaVt06
namespace Go.Proofs.Ytdpfhhmfamiboaa
open Go.RowKit Msk

theorem hmkf : ∀ (fn : Fn) (first cap : Array Value) (w : World), (Instr.makeFunc fn first cap).run Try.prog w = .ok (.func fn first cap) w := fun _ _ _ _ => rfl

set_option maxRecDepth 10000 in
set_option maxHeartbeats 400000 in
theorem unionC (f g : Nat → Bool) (i A B : Nat) (w : World) (ha : w.heap[A]? = some (.cells (mv f) 25 (0, 0))) (hb : w.heap[B]? = some (.cells (mv g) 25 (0, 0))) :
    Calls Try.prog 51 #[.int .i64 (i : Int), .pointer (some ⟨A, 0, none⟩), .pointer (some ⟨B, 0, none⟩)] w fun e w' => e = .returned (.bool (hasB f (i : Int) || hasB g (i : Int))) ∧ Below w.heap.size w w' := by
  have c2 : ∀ w, Calls Try.prog 52 #[.agg (mv g), .int .i64 (i : Int)] w fun e w' => e = .returned (.bool (hasB g (i : Int))) ∧ Below w.heap.size w w' := fun w => has_ref g (i : Int) w
  cases hh : hasB f (i : Int) with
  | false =>
    have c1 : ∀ w, Calls Try.prog 52 #[.agg (mv f), .int .i64 (i : Int)] w fun e w' => e = .returned (.bool false) ∧ Below w.heap.size w w' := fun w => by
      have := has_ref f (i : Int) w
      rw [hh] at this
      exact this
    rw [Bool.false_or]
    clear hh
    generalize hasB g (i : Int) = y at *
    go_enter Try.func51, Try.ntmps51
    go_wp2_with (first
      | (refine wpList_load_row rfl 25 _ rfl _ rfl _ _ _ _ ha maskType rfl (maskSize _) ?_)
      | (go_at_call 52; refine (c1 _).mono ?_; rintro e w1 ⟨rfl, hb1⟩; have hb2 := (hb1.block _ (lt_of_block hb)).trans hb; clear c1)
      | (refine load_g (by rfl) _ (by rfl) _ (by rfl) g (by assumption) ?_)
      | (go_at_call 52; refine (c2 _).mono ?_; rintro e w2 ⟨rfl, hb3⟩; have hb4 := hb1.trans (hb3.mono hb1.size)))
    go_ret
    exact ⟨rfl, hb4⟩
  | true =>
    have c1 : ∀ w, Calls Try.prog 52 #[.agg (mv f), .int .i64 (i : Int)] w fun e w' => e = .returned (.bool true) ∧ Below w.heap.size w w' := fun w => by
      have := has_ref f (i : Int) w
      rw [hh] at this
      exact this
    rw [Bool.true_or]
    clear hh
    generalize hasB g (i : Int) = y at *
    go_enter Try.func51, Try.ntmps51
    go_wp2_with (first
      | (refine wpList_load_row rfl 25 _ rfl _ rfl _ _ _ _ ha maskType rfl (maskSize _) ?_)
      | (go_at_call 52; refine (c1 _).mono ?_; rintro e w1 ⟨rfl, hb1⟩; have hb2 := (hb1.block _ (lt_of_block hb)).trans hb; clear c1)
      | (refine load_g (by rfl) _ (by rfl) _ (by rfl) g (by assumption) ?_)
      | (go_at_call 52; refine (c2 _).mono ?_; rintro e w2 ⟨rfl, hb3⟩; have hb4 := hb1.trans (hb3.mono hb1.size)))
    go_ret
    exact ⟨rfl, hb1⟩

set_option maxRecDepth 10000 in
set_option maxHeartbeats 400000 in
theorem union_ref (f g : Nat → Bool) (w : World) :
    Calls Try.prog 23 #[.agg (mv f), .agg (mv g)] w fun e w' => e = .returned (.agg (mv fun i => (f i || g i) && decide (i < 1440))) ∧ Below w.heap.size w w' := by
  have hz := mv_lit
  have hmf := hmkf
  have h0 : (((w.alloc (.cells (mv f) 25)).alloc (.cells (mv g) 25)).alloc (.cells (mv fun _ => false) 25)).heap[w.heap.size]? = some (.cells (mv f) 25 (0, 0)) := by (repeat (first | refine blk_old _ _ _ (by simp only [size_alloc]; omega) ?_ | exact blk_new _ _ _ (by first | rfl | simp only [size_alloc])))
  have h1 : (((w.alloc (.cells (mv f) 25)).alloc (.cells (mv g) 25)).alloc (.cells (mv fun _ => false) 25)).heap[w.heap.size + 1]? = some (.cells (mv g) 25 (0, 0)) := by (repeat (first | refine blk_old _ _ _ (by simp only [size_alloc]; omega) ?_ | exact blk_new _ _ _ (by first | rfl | simp only [size_alloc])))
  have h2 : (((w.alloc (.cells (mv f) 25)).alloc (.cells (mv g) 25)).alloc (.cells (mv fun _ => false) 25)).heap[w.heap.size + 2]? = some (.cells (mv fun _ => false) 25 (0, 0)) := by (repeat (first | refine blk_old _ _ _ (by simp only [size_alloc]; omega) ?_ | exact blk_new _ _ _ (by first | rfl | simp only [size_alloc])))
  have hb0 : Below w.heap.size w (((w.alloc (.cells (mv f) 25)).alloc (.cells (mv g) 25)).alloc (.cells (mv fun _ => false) 25)) := (((Below.refl _ _).alloc (Nat.le_refl _) _).alloc (by simp) _).alloc (by simp; omega) _
  have cm := make_ref (fun i => (hasB f (i : Int) || hasB g (i : Int))) 51 #[.pointer (some ⟨w.heap.size, 0, none⟩), .pointer (some ⟨w.heap.size + 1, 0, none⟩)] _ (fun _ _ => by simp [go_sem]) fun i wr _ hbr => unionC f g i w.heap.size (w.heap.size + 1) wr ((hbr.block _ (lt_of_block h0)).trans h0) ((hbr.block _ (lt_of_block h1)).trans h1)
  rw [show (mv fun i => (hasB f (i : Int) || hasB g (i : Int)) && decide (i < 1440)) = mv fun i => (f i || g i) && decide (i < 1440) from mv_ext fun i _ => by
    rw [hasB_nat, hasB_nat]
    by_cases h : i < 1440 <;> simp [h]] at cm
  clear h0 h1
  go_enter Try.func23, Try.ntmps23
  go_wp2_with (first
    | (go_at_call 49; refine cm.mono ?_; rintro e w1 ⟨rfl, hb1⟩; have h3 := (hb1.block _ (lt_of_block h2)).trans h2; have hb2 := hb0.trans (hb1.mono hb0.size); clear h2 hb1)
    | (refine wpList_store_row rfl 25 _ _ rfl _ _ rfl rfl _ _ h3 (maskSize _) (by simp [mv_size]) (mv_all _) ?_))
  refine bodyPost_ret (v := .agg (mv fun i => (f i || g i) && decide (i < 1440))) ?_ rfl ⟨rfl, below_setRow hb2 (by omega) _⟩
  exact results_cell_row rfl _ _ (w.heap.size + 2) _ _ _ _ rfl (setRow_heap _ _ _ _ _ _ h3) maskType rfl (maskSize _)

set_option maxRecDepth 10000 in
set_option maxHeartbeats 400000 in
theorem diffC (f g : Nat → Bool) (i A B : Nat) (w : World) (ha : w.heap[A]? = some (.cells (mv f) 25 (0, 0))) (hb : w.heap[B]? = some (.cells (mv g) 25 (0, 0))) :
    Calls Try.prog 53 #[.int .i64 (i : Int), .pointer (some ⟨A, 0, none⟩), .pointer (some ⟨B, 0, none⟩)] w fun e w' => e = .returned (.bool (hasB f (i : Int) && !hasB g (i : Int))) ∧ Below w.heap.size w w' := by
  have c2 : ∀ w, Calls Try.prog 52 #[.agg (mv g), .int .i64 (i : Int)] w fun e w' => e = .returned (.bool (hasB g (i : Int))) ∧ Below w.heap.size w w' := fun w => has_ref g (i : Int) w
  cases hh : hasB f (i : Int) with
  | false =>
    have c1 : ∀ w, Calls Try.prog 52 #[.agg (mv f), .int .i64 (i : Int)] w fun e w' => e = .returned (.bool false) ∧ Below w.heap.size w w' := fun w => by
      have := has_ref f (i : Int) w
      rw [hh] at this
      exact this
    rw [Bool.false_and]
    clear hh
    generalize hasB g (i : Int) = y at *
    go_enter Try.func53, Try.ntmps53
    go_wp2_with (first
      | (refine wpList_load_row rfl 25 _ rfl _ rfl _ _ _ _ ha maskType rfl (maskSize _) ?_)
      | (go_at_call 52; refine (c1 _).mono ?_; rintro e w1 ⟨rfl, hb1⟩; have hb2 := (hb1.block _ (lt_of_block hb)).trans hb; clear c1)
      | (refine load_g (by rfl) _ (by rfl) _ (by rfl) g (by assumption) ?_)
      | (go_at_call 52; refine (c2 _).mono ?_; rintro e w2 ⟨rfl, hb3⟩; have hb4 := hb1.trans (hb3.mono hb1.size)))
    go_ret
    exact ⟨rfl, hb1⟩
  | true =>
    have c1 : ∀ w, Calls Try.prog 52 #[.agg (mv f), .int .i64 (i : Int)] w fun e w' => e = .returned (.bool true) ∧ Below w.heap.size w w' := fun w => by
      have := has_ref f (i : Int) w
      rw [hh] at this
      exact this
    rw [Bool.true_and]
    clear hh
    generalize hasB g (i : Int) = y at *
    go_enter Try.func53, Try.ntmps53
    go_wp2_with (first
      | (refine wpList_load_row rfl 25 _ rfl _ rfl _ _ _ _ ha maskType rfl (maskSize _) ?_)
      | (go_at_call 52; refine (c1 _).mono ?_; rintro e w1 ⟨rfl, hb1⟩; have hb2 := (hb1.block _ (lt_of_block hb)).trans hb; clear c1)
      | (refine load_g (by rfl) _ (by rfl) _ (by rfl) g (by assumption) ?_)
      | (go_at_call 52; refine (c2 _).mono ?_; rintro e w2 ⟨rfl, hb3⟩; have hb4 := hb1.trans (hb3.mono hb1.size)))
    go_ret
    exact ⟨rfl, hb4⟩

set_option maxRecDepth 10000 in
set_option maxHeartbeats 400000 in
theorem diff_ref (f g : Nat → Bool) (w : World) :
    Calls Try.prog 24 #[.agg (mv f), .agg (mv g)] w fun e w' => e = .returned (.agg (mv fun i => (f i && !g i) && decide (i < 1440))) ∧ Below w.heap.size w w' := by
  have hz := mv_lit
  have hmf := hmkf
  have h0 : (((w.alloc (.cells (mv f) 25)).alloc (.cells (mv g) 25)).alloc (.cells (mv fun _ => false) 25)).heap[w.heap.size]? = some (.cells (mv f) 25 (0, 0)) := by (repeat (first | refine blk_old _ _ _ (by simp only [size_alloc]; omega) ?_ | exact blk_new _ _ _ (by first | rfl | simp only [size_alloc])))
  have h1 : (((w.alloc (.cells (mv f) 25)).alloc (.cells (mv g) 25)).alloc (.cells (mv fun _ => false) 25)).heap[w.heap.size + 1]? = some (.cells (mv g) 25 (0, 0)) := by (repeat (first | refine blk_old _ _ _ (by simp only [size_alloc]; omega) ?_ | exact blk_new _ _ _ (by first | rfl | simp only [size_alloc])))
  have h2 : (((w.alloc (.cells (mv f) 25)).alloc (.cells (mv g) 25)).alloc (.cells (mv fun _ => false) 25)).heap[w.heap.size + 2]? = some (.cells (mv fun _ => false) 25 (0, 0)) := by (repeat (first | refine blk_old _ _ _ (by simp only [size_alloc]; omega) ?_ | exact blk_new _ _ _ (by first | rfl | simp only [size_alloc])))
  have hb0 : Below w.heap.size w (((w.alloc (.cells (mv f) 25)).alloc (.cells (mv g) 25)).alloc (.cells (mv fun _ => false) 25)) := (((Below.refl _ _).alloc (Nat.le_refl _) _).alloc (by simp) _).alloc (by simp; omega) _
  have cm := make_ref (fun i => (hasB f (i : Int) && !hasB g (i : Int))) 53 #[.pointer (some ⟨w.heap.size, 0, none⟩), .pointer (some ⟨w.heap.size + 1, 0, none⟩)] _ (fun _ _ => by simp [go_sem]) fun i wr _ hbr => diffC f g i w.heap.size (w.heap.size + 1) wr ((hbr.block _ (lt_of_block h0)).trans h0) ((hbr.block _ (lt_of_block h1)).trans h1)
  rw [show (mv fun i => (hasB f (i : Int) && !hasB g (i : Int)) && decide (i < 1440)) = mv fun i => (f i && !g i) && decide (i < 1440) from mv_ext fun i _ => by
    rw [hasB_nat, hasB_nat]
    by_cases h : i < 1440 <;> simp [h]] at cm
  clear h0 h1
  go_enter Try.func24, Try.ntmps24
  go_wp2_with (first
    | (go_at_call 49; refine cm.mono ?_; rintro e w1 ⟨rfl, hb1⟩; have h3 := (hb1.block _ (lt_of_block h2)).trans h2; have hb2 := hb0.trans (hb1.mono hb0.size); clear h2 hb1)
    | (refine wpList_store_row rfl 25 _ _ rfl _ _ rfl rfl _ _ h3 (maskSize _) (by simp [mv_size]) (mv_all _) ?_))
  refine bodyPost_ret (v := .agg (mv fun i => (f i && !g i) && decide (i < 1440))) ?_ rfl ⟨rfl, below_setRow hb2 (by omega) _⟩
  exact results_cell_row rfl _ _ (w.heap.size + 2) _ _ _ _ rfl (setRow_heap _ _ _ _ _ _ h3) maskType rfl (maskSize _)

set_option maxRecDepth 10000 in
set_option maxHeartbeats 400000 in
theorem bothC (f g : Nat → Bool) (i A B : Nat) (w : World) (ha : w.heap[A]? = some (.cells (mv f) 25 (0, 0))) (hb : w.heap[B]? = some (.cells (mv g) 25 (0, 0))) :
    Calls Try.prog 54 #[.int .i64 (i : Int), .pointer (some ⟨A, 0, none⟩), .pointer (some ⟨B, 0, none⟩)] w fun e w' => e = .returned (.bool (hasB f (i : Int) && hasB g (i : Int))) ∧ Below w.heap.size w w' := by
  have c2 : ∀ w, Calls Try.prog 52 #[.agg (mv g), .int .i64 (i : Int)] w fun e w' => e = .returned (.bool (hasB g (i : Int))) ∧ Below w.heap.size w w' := fun w => has_ref g (i : Int) w
  cases hh : hasB f (i : Int) with
  | false =>
    have c1 : ∀ w, Calls Try.prog 52 #[.agg (mv f), .int .i64 (i : Int)] w fun e w' => e = .returned (.bool false) ∧ Below w.heap.size w w' := fun w => by
      have := has_ref f (i : Int) w
      rw [hh] at this
      exact this
    rw [Bool.false_and]
    clear hh
    generalize hasB g (i : Int) = y at *
    go_enter Try.func54, Try.ntmps54
    go_wp2_with (first
      | (refine wpList_load_row rfl 25 _ rfl _ rfl _ _ _ _ ha maskType rfl (maskSize _) ?_)
      | (go_at_call 52; refine (c1 _).mono ?_; rintro e w1 ⟨rfl, hb1⟩; have hb2 := (hb1.block _ (lt_of_block hb)).trans hb; clear c1)
      | (refine load_g (by rfl) _ (by rfl) _ (by rfl) g (by assumption) ?_)
      | (go_at_call 52; refine (c2 _).mono ?_; rintro e w2 ⟨rfl, hb3⟩; have hb4 := hb1.trans (hb3.mono hb1.size)))
    go_ret
    exact ⟨rfl, hb1⟩
  | true =>
    have c1 : ∀ w, Calls Try.prog 52 #[.agg (mv f), .int .i64 (i : Int)] w fun e w' => e = .returned (.bool true) ∧ Below w.heap.size w w' := fun w => by
      have := has_ref f (i : Int) w
      rw [hh] at this
      exact this
    rw [Bool.true_and]
    clear hh
    generalize hasB g (i : Int) = y at *
    go_enter Try.func54, Try.ntmps54
    go_wp2_with (first
      | (refine wpList_load_row rfl 25 _ rfl _ rfl _ _ _ _ ha maskType rfl (maskSize _) ?_)
      | (go_at_call 52; refine (c1 _).mono ?_; rintro e w1 ⟨rfl, hb1⟩; have hb2 := (hb1.block _ (lt_of_block hb)).trans hb; clear c1)
      | (refine load_g (by rfl) _ (by rfl) _ (by rfl) g (by assumption) ?_)
      | (go_at_call 52; refine (c2 _).mono ?_; rintro e w2 ⟨rfl, hb3⟩; have hb4 := hb1.trans (hb3.mono hb1.size)))
    go_ret
    exact ⟨rfl, hb4⟩

set_option maxRecDepth 10000 in
set_option maxHeartbeats 400000 in
theorem both_ref (f g : Nat → Bool) (w : World) :
    Calls Try.prog 25 #[.agg (mv f), .agg (mv g)] w fun e w' => e = .returned (.agg (mv fun i => (f i && g i) && decide (i < 1440))) ∧ Below w.heap.size w w' := by
  have hz := mv_lit
  have hmf := hmkf
  have h0 : (((w.alloc (.cells (mv f) 25)).alloc (.cells (mv g) 25)).alloc (.cells (mv fun _ => false) 25)).heap[w.heap.size]? = some (.cells (mv f) 25 (0, 0)) := by (repeat (first | refine blk_old _ _ _ (by simp only [size_alloc]; omega) ?_ | exact blk_new _ _ _ (by first | rfl | simp only [size_alloc])))
  have h1 : (((w.alloc (.cells (mv f) 25)).alloc (.cells (mv g) 25)).alloc (.cells (mv fun _ => false) 25)).heap[w.heap.size + 1]? = some (.cells (mv g) 25 (0, 0)) := by (repeat (first | refine blk_old _ _ _ (by simp only [size_alloc]; omega) ?_ | exact blk_new _ _ _ (by first | rfl | simp only [size_alloc])))
  have h2 : (((w.alloc (.cells (mv f) 25)).alloc (.cells (mv g) 25)).alloc (.cells (mv fun _ => false) 25)).heap[w.heap.size + 2]? = some (.cells (mv fun _ => false) 25 (0, 0)) := by (repeat (first | refine blk_old _ _ _ (by simp only [size_alloc]; omega) ?_ | exact blk_new _ _ _ (by first | rfl | simp only [size_alloc])))
  have hb0 : Below w.heap.size w (((w.alloc (.cells (mv f) 25)).alloc (.cells (mv g) 25)).alloc (.cells (mv fun _ => false) 25)) := (((Below.refl _ _).alloc (Nat.le_refl _) _).alloc (by simp) _).alloc (by simp; omega) _
  have cm := make_ref (fun i => (hasB f (i : Int) && hasB g (i : Int))) 54 #[.pointer (some ⟨w.heap.size, 0, none⟩), .pointer (some ⟨w.heap.size + 1, 0, none⟩)] _ (fun _ _ => by simp [go_sem]) fun i wr _ hbr => bothC f g i w.heap.size (w.heap.size + 1) wr ((hbr.block _ (lt_of_block h0)).trans h0) ((hbr.block _ (lt_of_block h1)).trans h1)
  rw [show (mv fun i => (hasB f (i : Int) && hasB g (i : Int)) && decide (i < 1440)) = mv fun i => (f i && g i) && decide (i < 1440) from mv_ext fun i _ => by
    rw [hasB_nat, hasB_nat]
    by_cases h : i < 1440 <;> simp [h]] at cm
  clear h0 h1
  go_enter Try.func25, Try.ntmps25
  go_wp2_with (first
    | (go_at_call 49; refine cm.mono ?_; rintro e w1 ⟨rfl, hb1⟩; have h3 := (hb1.block _ (lt_of_block h2)).trans h2; have hb2 := hb0.trans (hb1.mono hb0.size); clear h2 hb1)
    | (refine wpList_store_row rfl 25 _ _ rfl _ _ rfl rfl _ _ h3 (maskSize _) (by simp [mv_size]) (mv_all _) ?_))
  refine bodyPost_ret (v := .agg (mv fun i => (f i && g i) && decide (i < 1440))) ?_ rfl ⟨rfl, below_setRow hb2 (by omega) _⟩
  exact results_cell_row rfl _ _ (w.heap.size + 2) _ _ _ _ rfl (setRow_heap _ _ _ _ _ _ h3) maskType rfl (maskSize _)
end Go.Proofs.Ytdpfhhmfamiboaa

/- What slotref2.Of comes to, over a row of spans that lies in memory. -/
namespace Go.Proofs.Ytdpfhhmfamiboaa
open Go.RowKit Msk

/-- Is a minute in one of the spans? -/
def inS (l : List (Int × Int)) (x : Int) : Bool := l.any fun s => decide (s.1 ≤ x) && decide (x < s.2)
theorem inS_take (l : List (Int × Int)) (x : Int) (k : Nat) (hk : k < l.length) : inS (l.take (k + 1)) x = (inS (l.take k) x || (decide ((l.getD k (0, 0)).1 ≤ x) && decide (x < (l.getD k (0, 0)).2))) := by
  have e : l.take (k + 1) = l.take k ++ [l.getD k (0, 0)] := by
    rw [List.take_succ_eq_append_getElem hk]; simp [List.getD, hk]
  rw [e]; simp [inS]
theorem inS_has (l : List (Int × Int)) (x : Int) (k : Nat) (hk : k < l.length) (h : (decide ((l.getD k (0, 0)).1 ≤ x) && decide (x < (l.getD k (0, 0)).2)) = true) : inS l x = true := by
  unfold inS
  rw [List.any_eq_true]
  refine ⟨l.getD k (0, 0), ?_, h⟩
  simp [List.getD, hk]
theorem mv_inS (l : List (Int × Int)) : (mv fun i => inS l (i : Int) && decide (i < 1440)) = mv (inl l) := mv_ext fun i _ => by
  unfold inS inl
  by_cases h : i < 1440 <;> simp [h]

set_option maxRecDepth 10000 in
set_option maxHeartbeats 1000000 in
theorem ofC (v : Value) (l : List (Int × Int)) (i A : Nat) (w : World) (hl : Row w v l) (ha : w.heap[A]? = some (.cells #[v] 63 (0, 0))) :
    Calls Try.prog 50 #[.int .i64 (i : Int), .pointer (some ⟨A, 0, none⟩)] w fun e w' => e = .returned (.bool (inS l (i : Int))) ∧ Below w.heap.size w w' := by
  have ca := cell_of_one ha
  rcases hl with ⟨c, rfl, rfl⟩ | ⟨g, o, c, rfl, hlen, hcell⟩
  · go_enter Try.func50, Try.ntmps50
    go_wp2
    refine wp_loop_rounds 1 ?_
    rw [rounds_succ]
    go_wp2
    go_ret
    exact ⟨rfl, Below.refl _ _⟩
  · have HC : Hid (∀ j, j < l.length → w.cell? ⟨g, o + j * 2, none⟩ = some (.int .i64 (l.getD j (0, 0)).1) ∧ w.cell? ⟨g, o + j * 2 + 1, none⟩ = some (.int .i64 (l.getD j (0, 0)).2)) := hcell
    clear hcell
    go_enter Try.func50, Try.ntmps50
    go_wp2
    go_loopw [8] (fun j wr => ∃ k : Nat, k ≤ l.length ∧ j = .int .i64 k ∧ inS (l.take k) (i : Int) = false ∧ Below w.heap.size w wr) (fun j _ => l.length - (intOf j).toNat)
    case atStart => exact ⟨0, Nat.zero_le _, rfl, rfl, Below.refl _ _⟩
    case round =>
      obtain ⟨k, hk, rfl, hno, hbel⟩ := hrel
      by_cases hlt : k < l.length
      · obtain ⟨c1, c2⟩ := HC.out k hlt
        have d1 := (hbel.cell (block_lt_of_cell c1)).trans c1
        have d2 := (hbel.cell (block_lt_of_cell c2)).trans c2
        have hstep := inS_take l (i : Int) k hlt
        have hhas := inS_has l (i : Int) k hlt
        generalize hs : l.getD k (0, 0) = s at d1 d2 hstep hhas
        obtain ⟨x, y⟩ := s
        dsimp only at d1 d2 hstep hhas
        rw [hno, Bool.false_or] at hstep
        have HN : Hid (inS (l.take (k + 1)) (i : Int) = (decide (x ≤ (i : Int)) && decide ((i : Int) < y))) := hstep
        have HH : Hid ((decide (x ≤ (i : Int)) && decide ((i : Int) < y)) = true → inS l (i : Int) = true) := hhas
        have hb2 := hbel.alloc hbel.size (.cells #[.int .i64 x, .int .i64 y] 97)
        clear c1 c2 hs hstep hhas hno
        by_cases h1 : x ≤ (i : Int)
        · by_cases h2 : (i : Int) < y
          · go_wp2
            go_ret
            exact ⟨by rw [HH.out (by simp [h1, h2])]; rfl, hb2⟩
          · go_wp2
            go_roundw
            case rel => exact ⟨k + 1, by omega, by go_num, by rw [HN.out]; simp [h2], hb2⟩
            case measure => simp [intOf]; omega
        · go_wp2
          go_roundw
          case rel => exact ⟨k + 1, by omega, by go_num, by rw [HN.out]; simp [h1], hb2⟩
          case measure => simp [intOf]; omega
      · have hkl : k = l.length := by omega
        subst hkl
        rw [List.take_length] at hno
        have HN : Hid (inS l (i : Int) = false) := hno
        clear hno
        go_wp2
        go_ret
        exact ⟨by rw [HN.out]; rfl, hbel⟩

set_option maxRecDepth 10000 in
set_option maxHeartbeats 400000 in
theorem of_ref (v : Value) (l : List (Int × Int)) (w : World) (hl : Row w v l) :
    Calls Try.prog 22 #[v] w fun e w' => e = .returned (.agg (mv (inl l))) ∧ Below w.heap.size w w' := by
  have hz := mv_lit
  have hmf := hmkf
  obtain ⟨p, c, rfl⟩ : ∃ p c, v = .slice p l.length c := by
    rcases hl with ⟨c, h, rfl⟩ | ⟨g, o, c, h, _⟩
    · exact ⟨none, c, h⟩
    · exact ⟨_, c, h⟩
  have h0 : ((w.alloc (.cells #[.slice p l.length c] 63)).alloc (.cells (mv fun _ => false) 25)).heap[w.heap.size]? = some (.cells #[.slice p l.length c] 63 (0, 0)) := by (repeat (first | refine blk_old _ _ _ (by simp only [size_alloc]; omega) ?_ | exact blk_new _ _ _ (by first | rfl | simp only [size_alloc])))
  have h2 : ((w.alloc (.cells #[.slice p l.length c] 63)).alloc (.cells (mv fun _ => false) 25)).heap[w.heap.size + 1]? = some (.cells (mv fun _ => false) 25 (0, 0)) := by (repeat (first | refine blk_old _ _ _ (by simp only [size_alloc]; omega) ?_ | exact blk_new _ _ _ (by first | rfl | simp only [size_alloc])))
  have hb0 : Below w.heap.size w ((w.alloc (.cells #[.slice p l.length c] 63)).alloc (.cells (mv fun _ => false) 25)) := ((Below.refl _ _).alloc (Nat.le_refl _) _).alloc (by simp) _
  have hl0 := hl.later hb0
  have cm := make_ref (fun i => inS l (i : Int)) 50 #[.pointer (some ⟨w.heap.size, 0, none⟩)] _ (fun _ _ => by simp [go_sem]) fun i wr _ hbr => ofC _ l i w.heap.size wr (hl0.later hbr) ((hbr.block _ (lt_of_block h0)).trans h0)
  rw [mv_inS] at cm
  clear h0 hl hl0
  go_enter Try.func22, Try.ntmps22
  go_wp2_with (first
    | (go_at_call 49; refine cm.mono ?_; rintro e w1 ⟨rfl, hb1⟩; have h3 := (hb1.block _ (lt_of_block h2)).trans h2; have hb2 := hb0.trans (hb1.mono hb0.size); clear h2 hb1)
    | (refine wpList_store_row rfl 25 _ _ rfl _ _ rfl rfl _ _ h3 (maskSize _) (by simp [mv_size]) (mv_all _) ?_))
  refine bodyPost_ret (v := .agg (mv (inl l))) ?_ rfl ⟨rfl, below_setRow hb2 (by omega) _⟩
  exact results_cell_row rfl _ _ (w.heap.size + 1) _ _ _ _ rfl (setRow_heap _ _ _ _ _ _ h3) maskType rfl (maskSize _)
end Go.Proofs.Ytdpfhhmfamiboaa

/- What slotref2.Shift comes to. -/
namespace Go.Proofs.Ytdpfhhmfamiboaa
open Go.RowKit Msk

set_option maxRecDepth 10000 in
set_option maxHeartbeats 400000 in
theorem shiftC (f : Nat → Bool) (x : Int) (i A B : Nat) (w : World) (hi : i < 1440) (hx0 : -1440 ≤ x) (hx1 : x ≤ 1440) (ha : w.heap[A]? = some (.cells (mv f) 25 (0, 0))) (hb : w.heap[B]? = some (.cells #[.int .i64 x] 3 (0, 0))) :
    Calls Try.prog 55 #[.int .i64 (i : Int), .pointer (some ⟨A, 0, none⟩), .pointer (some ⟨B, 0, none⟩)] w fun e w' => e = .returned (.bool (hasB f ((i : Int) - x))) ∧ Below w.heap.size w w' := by
  have c1 := fun w => has_ref f ((i : Int) - x) w
  have cb := cell_of_one hb
  have q1 : IntKind.i64.wrap ((i : Int) - x) = (i : Int) - x := by rw [IntKind.wrap_i64]; omega
  go_enter Try.func55, Try.ntmps55
  go_wp2_with (first
    | (refine wpList_load_row rfl 25 _ rfl _ rfl _ _ _ _ ha maskType rfl (maskSize _) ?_)
    | (go_at_call 52; refine (c1 _).mono ?_; rintro e w1 ⟨rfl, hb1⟩))
  go_ret
  exact ⟨rfl, hb1⟩

set_option maxRecDepth 10000 in
set_option maxHeartbeats 400000 in
theorem shift_ref (f : Nat → Bool) (x : Int) (w : World) :
    Calls Try.prog 26 #[.agg (mv f), .int .i64 x] w fun e w' => e = .returned (.agg (mv (shf f x))) ∧ Below w.heap.size w w' := by
  have hz := mv_lit
  have hmf := hmkf
  have h0 : (((w.alloc (.cells (mv f) 25)).alloc (.cells #[.int .i64 x] 3)).alloc (.cells (mv fun _ => false) 25)).heap[w.heap.size]? = some (.cells (mv f) 25 (0, 0)) := by (repeat (first | refine blk_old _ _ _ (by simp only [size_alloc]; omega) ?_ | exact blk_new _ _ _ (by first | rfl | simp only [size_alloc])))
  have h1 : (((w.alloc (.cells (mv f) 25)).alloc (.cells #[.int .i64 x] 3)).alloc (.cells (mv fun _ => false) 25)).heap[w.heap.size + 1]? = some (.cells #[.int .i64 x] 3 (0, 0)) := by (repeat (first | refine blk_old _ _ _ (by simp only [size_alloc]; omega) ?_ | exact blk_new _ _ _ (by first | rfl | simp only [size_alloc])))
  have h2 : (((w.alloc (.cells (mv f) 25)).alloc (.cells #[.int .i64 x] 3)).alloc (.cells (mv fun _ => false) 25)).heap[w.heap.size + 2]? = some (.cells (mv fun _ => false) 25 (0, 0)) := by (repeat (first | refine blk_old _ _ _ (by simp only [size_alloc]; omega) ?_ | exact blk_new _ _ _ (by first | rfl | simp only [size_alloc])))
  have hb0 : Below w.heap.size w (((w.alloc (.cells (mv f) 25)).alloc (.cells #[.int .i64 x] 3)).alloc (.cells (mv fun _ => false) 25)) := (((Below.refl _ _).alloc (Nat.le_refl _) _).alloc (by simp) _).alloc (by simp; omega) _
  by_cases hx : x < -1440 ∨ 1440 < x
  · rw [← shf_none f x (by omega)]
    clear h0 h1
    rcases hx with hx | hx
    · have hx' : ¬ 1440 < x := by omega
      go_enter Try.func26, Try.ntmps26
      go_wp2_with (refine wpList_store_row rfl 25 _ _ rfl _ _ rfl rfl _ _ h2 (maskSize _) (by simp [mv_size]) (mv_all _) ?_)
      refine bodyPost_ret (v := .agg (mv fun _ => false)) ?_ rfl ⟨rfl, below_setRow hb0 (by omega) _⟩
      exact results_cell_row rfl _ _ (w.heap.size + 2) _ _ _ _ rfl (setRow_heap _ _ _ _ _ _ h2) maskType rfl (maskSize _)
    · go_enter Try.func26, Try.ntmps26
      go_wp2_with (refine wpList_store_row rfl 25 _ _ rfl _ _ rfl rfl _ _ h2 (maskSize _) (by simp [mv_size]) (mv_all _) ?_)
      refine bodyPost_ret (v := .agg (mv fun _ => false)) ?_ rfl ⟨rfl, below_setRow hb0 (by omega) _⟩
      exact results_cell_row rfl _ _ (w.heap.size + 2) _ _ _ _ rfl (setRow_heap _ _ _ _ _ _ h2) maskType rfl (maskSize _)
  · have hx0 : -1440 ≤ x := by omega
    have hx1 : x ≤ 1440 := by omega
    have n0 : ¬ x < -1440 := by omega
    have n1 : ¬ 1440 < x := by omega
    clear hx
    have cm := make_ref (fun i => hasB f ((i : Int) - x)) 55 #[.pointer (some ⟨w.heap.size, 0, none⟩), .pointer (some ⟨w.heap.size + 1, 0, none⟩)] _ (fun _ _ => by simp [go_sem]) fun i wr hi hbr => shiftC f x i w.heap.size (w.heap.size + 1) wr hi hx0 hx1 ((hbr.block _ (lt_of_block h0)).trans h0) ((hbr.block _ (lt_of_block h1)).trans h1)
    rw [show (mv fun i => hasB f ((i : Int) - x) && decide (i < 1440)) = mv (shf f x) from mv_ext fun i _ => by
      unfold hasB shf
      have e : (0 ≤ (i : Int) - x) = (x ≤ (i : Int)) := by apply propext; omega
      simp only [e]
      cases decide (i < 1440) <;> cases decide (x ≤ (i : Int)) <;> cases decide ((i : Int) - x < 1440) <;> simp] at cm
    go_enter Try.func26, Try.ntmps26
    go_wp2_with (first
      | (go_at_call 49; refine cm.mono ?_; rintro e w1 ⟨rfl, hb1⟩; have h3 := (hb1.block _ (lt_of_block h2)).trans h2; have hb2 := hb0.trans (hb1.mono hb0.size); clear h2 hb1)
      | (refine wpList_store_row rfl 25 _ _ rfl _ _ rfl rfl _ _ h3 (maskSize _) (by simp [mv_size]) (mv_all _) ?_))
    refine bodyPost_ret (v := .agg (mv (shf f x))) ?_ rfl ⟨rfl, below_setRow hb2 (by omega) _⟩
    exact results_cell_row rfl _ _ (w.heap.size + 2) _ _ _ _ rfl (setRow_heap _ _ _ _ _ _ h3) maskType rfl (maskSize _)
end Go.Proofs.Ytdpfhhmfamiboaa

/- What the document's Run asks of others; its frames in memory. -/
namespace Go.Proofs.Ytdpfhhmfamiboaa
open Go.RowKit Msk Vx

set_option maxRecDepth 10000 in
set_option maxHeartbeats 1000000 in
theorem ofC_nil (p : Option Addr) (c : Nat) (i A : Nat) (w : World) (ha : w.heap[A]? = some (.cells #[.slice p 0 c] 63 (0, 0))) :
    Calls Try.prog 50 #[.int .i64 (i : Int), .pointer (some ⟨A, 0, none⟩)] w fun e w' => e = .returned (.bool (inS [] (i : Int))) ∧ Below w.heap.size w w' := by
  have ca := cell_of_one ha
  go_enter Try.func50, Try.ntmps50
  go_wp2
  refine wp_loop_rounds 1 ?_
  rw [rounds_succ]
  go_wp2
  go_ret
  exact ⟨rfl, Below.refl _ _⟩
set_option maxRecDepth 10000 in
set_option maxHeartbeats 400000 in
theorem of_ref_nil (p : Option Addr) (c : Nat) (w : World) :
    Calls Try.prog 22 #[.slice p 0 c] w fun e w' => e = .returned (.agg (mv (inl []))) ∧ Below w.heap.size w w' := by
  have hz := mv_lit
  have hmf := hmkf
  have h0 : ((w.alloc (.cells #[.slice p 0 c] 63)).alloc (.cells (mv fun _ => false) 25)).heap[w.heap.size]? = some (.cells #[.slice p 0 c] 63 (0, 0)) := by (repeat (first | refine blk_old _ _ _ (by simp only [size_alloc]; omega) ?_ | exact blk_new _ _ _ (by first | rfl | simp only [size_alloc])))
  have h2 : ((w.alloc (.cells #[.slice p 0 c] 63)).alloc (.cells (mv fun _ => false) 25)).heap[w.heap.size + 1]? = some (.cells (mv fun _ => false) 25 (0, 0)) := by (repeat (first | refine blk_old _ _ _ (by simp only [size_alloc]; omega) ?_ | exact blk_new _ _ _ (by first | rfl | simp only [size_alloc])))
  have hb0 : Below w.heap.size w ((w.alloc (.cells #[.slice p 0 c] 63)).alloc (.cells (mv fun _ => false) 25)) := ((Below.refl _ _).alloc (Nat.le_refl _) _).alloc (by simp) _
  have cm := make_ref (fun i => inS [] (i : Int)) 50 #[.pointer (some ⟨w.heap.size, 0, none⟩)] _ (fun _ _ => by simp [go_sem]) fun i wr _ hbr => ofC_nil p c i w.heap.size wr ((hbr.block _ (lt_of_block h0)).trans h0)
  rw [mv_inS] at cm
  clear h0
  go_enter Try.func22, Try.ntmps22
  go_wp2_with (first
    | (go_at_call 49; refine cm.mono ?_; rintro e w1 ⟨rfl, hb1⟩; have h3 := (hb1.block _ (lt_of_block h2)).trans h2; have hb2 := hb0.trans (hb1.mono hb0.size); clear h2 hb1)
    | (refine wpList_store_row rfl 25 _ _ rfl _ _ rfl rfl _ _ h3 (maskSize _) (by simp [mv_size]) (mv_all _) ?_))
  refine bodyPost_ret (v := .agg (mv (inl []))) ?_ rfl ⟨rfl, below_setRow hb2 (by omega) _⟩
  exact results_cell_row rfl _ _ (w.heap.size + 1) _ _ _ _ rfl (setRow_heap _ _ _ _ _ _ h3) maskType rfl (maskSize _)
theorem rof_anyV (v : Value) (l : List (Int × Int)) (w : World) (hl : RowV w v l) :
    Calls Try.prog 22 #[v] w fun e w' => e = .returned (.agg (mv (spM l))) ∧ Below w.heap.size w w' := by
  rcases hl with ⟨rfl, p, c, rfl⟩ | hl
  · exact of_ref_nil p c w
  · exact of_ref v l w hl
set_option maxHeartbeats 400000 in
theorem rweek9 (n : Int) (w : World) (a : 0 ≤ n) (b : n < 146097) : Calls Try.prog 27 #[.int .i64 n] w fun e w' => e = .returned (.int .i64 (wkd9 n)) ∧ w' = w := by
  have hb := wkd9_bd n a
  have h7 : 0 ≤ n.tmod 7 ∧ n.tmod 7 < 7 := by
    rw [Int.tmod_eq_emod_of_nonneg a]
    omega
  obtain ⟨h8, h9⟩ := h7
  have e : (n % 7 + 5) % 7 = wkd9 n := by
    rw [wkd9_eq n a]
    omega
  have HE := hidv e
  clear e
  go_enter Try.func27, Try.ntmps27
  go_wp2_with fail
  go_ret
  exact ⟨congrArg (fun x => Ending.returned (.int .i64 x)) HE.out, rfl⟩
/-- Frames as cells, the first one first. -/
def flatF : List Fr → List Value
  | [] => []
  | f :: F => flatF F ++ [.int .i64 (f.r : Int), .int .i64 (f.k : Int)]
theorem flatF_len : ∀ F : List Fr, (flatF F).length = F.length * 2
  | [] => rfl
  | f :: F => by
    have := flatF_len F
    simp only [flatF, List.length_append, List.length_cons, List.length_nil, this]
    omega
theorem ownF_slice {w : World} {base n : Nat} {sv : Value} {xs : List Value} (h : w.ownsRow base 60 2 sv n xs) : ∃ p c, sv = .slice p n c := by
  rcases h.2 with ⟨e, e2⟩ | ⟨b, cap, cur, e, _⟩
  · exact ⟨none, 0, by rw [e, e2]⟩
  · exact ⟨_, cap, e⟩
/-- Masks and frames lie apart. -/
theorem own_apart {w : World} {base n m : Nat} {sv fv : Value} {xs ys : List Value} (h : w.ownsRow base 25 23 sv n xs) (h' : w.ownsRow base 60 2 fv m ys) : fv.ownBlock = none ∨ sv.ownBlock ≠ fv.ownBlock := by
  rcases h'.2 with ⟨e, _⟩ | ⟨b, cap, cur, e, _, hb, _⟩
  · exact .inl (by rw [e]; rfl)
  · refine .inr fun q => ?_
    have := own_ne h hb (by decide)
    rw [q, e] at this
    exact this rfl
/-- The last frame. -/
theorem ownF_top {w : World} {base : Nat} {v : Value} {f : Fr} {G : List Fr} (h : w.ownsRow base 60 2 v (f :: G).length (flatF (f :: G))) :
    ∃ g cap cur, v = .slice (some ⟨g, 0, none⟩) (G.length + 1) cap ∧ G.length + 1 ≤ cap ∧ cap ≤ maxLen ∧ base ≤ g ∧ w.heap[g]? = some (.cells cur 60 (0, 0)) ∧ cur.size = cap * 2 ∧ w.ownsRow base 60 2 (.slice (some ⟨g, 0, none⟩) G.length cap) G.length (flatF G) ∧ cur[G.length * 2]? = some (.int .i64 (f.r : Int)) ∧ cur[G.length * 2 + 1]? = some (.int .i64 (f.k : Int)) := by
  obtain ⟨h1, h2⟩ := h
  rw [List.length_cons] at h2
  rcases h2 with ⟨_, e⟩ | ⟨g, cap, cur, e, hb, hg, hn, hc, hs, hx⟩
  · omega
  · have hfl := flatF_len G
    have e1 : cur.toList.take (G.length * 2) = flatF G := by
      have h3 : (cur.toList.take ((G.length + 1) * 2)).take (G.length * 2) = (flatF (f :: G)).take (G.length * 2) := by rw [hx]
      rw [List.take_take, Nat.min_eq_left (by omega)] at h3
      rw [h3]
      show (flatF G ++ _).take (G.length * 2) = _
      exact List.take_left' hfl
    have hat : ∀ j, j < 2 → cur[G.length * 2 + j]? = ([Value.int .i64 (f.r : Int), .int .i64 (f.k : Int)])[j]? := fun j hj => by
      have h4 : (cur.toList.take ((G.length + 1) * 2))[G.length * 2 + j]? = (flatF (f :: G))[G.length * 2 + j]? := by rw [hx]
      rw [List.getElem?_take_of_lt (by omega)] at h4
      rw [← Array.getElem?_toList, h4]
      show (flatF G ++ _)[G.length * 2 + j]? = _
      rw [List.getElem?_append_right (by omega), hfl, Nat.add_sub_cancel_left]
    exact ⟨g, cap, cur, e, hn, hc, hb, hg, hs, ⟨hfl, .inr ⟨g, cap, cur, rfl, hb, hg, by omega, hc, hs, e1⟩⟩, hat 0 (by omega), hat 1 (by omega)⟩
/-- The last frame goes on elsewhere. -/
theorem ownF_set {w : World} {base : Nat} {v : Value} {f : Fr} {G : List Fr} (h : w.ownsRow base 60 2 v (f :: G).length (flatF (f :: G))) {g n cap : Nat} (hv : v = .slice (some ⟨g, 0, none⟩) n cap) (k : Nat) (S : List M) : (w.setCell ⟨g, G.length * 2 + 1, none⟩ (.int .i64 (k : Int))).ownsRow base 60 2 v (⟨f.r, k, S⟩ :: G).length (flatF (⟨f.r, k, S⟩ :: G)) := by
  obtain ⟨g', cap', cur, e, hn, hc, hb, hg, hs, ho, c0, c1⟩ := ownF_top h
  have hgg : g = g' := by
    rw [hv] at e
    injection e with e1 _ _
    injection e1 with e1
    injection e1
  subst hgg
  have hh : (w.setCell ⟨g, G.length * 2 + 1, none⟩ (.int .i64 (k : Int))).heap[g]? = some (.cells (cur.setIfInBounds (G.length * 2 + 1) (.int .i64 (k : Int))) 60 (0, 0)) := heap_setCell_same w g _ _ _ _ hg
  obtain ⟨_, h2⟩ := ho
  rcases h2 with ⟨e', _⟩ | ⟨g2, cap2, cur2, e2, _, hg2, _, _, _, hx2⟩
  · exact absurd e' (by simp)
  · have hc2 : cur2 = cur := by
      injection e2 with e2 _ _
      injection e2 with e2
      injection e2 with e2
      subst e2
      rw [hg] at hg2
      injection hg2 with hg2
      injection hg2 with hg2
      exact hg2.symm
    subst hc2
    refine ⟨?_, .inr ⟨g, cap', _, e, hb, hh, hn, hc, by simpa using hs, ?_⟩⟩
    · rw [flatF_len]
    · have hfl := flatF_len G
      apply List.ext_getElem?
      intro j
      by_cases hj : j < (G.length + 1) * 2
      · rw [List.length_cons, List.getElem?_take_of_lt hj, Array.getElem?_toList, Array.getElem?_setIfInBounds]
        show _ = (flatF G ++ [.int .i64 (f.r : Int), .int .i64 (k : Int)])[j]?
        by_cases hj2 : j < G.length * 2
        · rw [if_neg (by omega), List.getElem?_append_left (by omega), ← hx2, List.getElem?_take_of_lt hj2, Array.getElem?_toList]
        · rw [List.getElem?_append_right (by omega), hfl]
          by_cases hj3 : j = G.length * 2
          · subst hj3
            rw [if_neg (by omega), c0, Nat.sub_self]
            rfl
          · have e3 : j = G.length * 2 + 1 := by omega
            subst e3
            rw [if_pos rfl, if_pos (by rw [hs]; omega), Nat.add_sub_cancel_left]
            rfl
      · rw [List.getElem?_eq_none (by rw [List.length_take, List.length_cons]; omega), List.getElem?_eq_none (by rw [flatF_len, List.length_cons]; omega)]
def wkAll9 : Bool := (List.range 128).all fun a => (List.range 7).all fun k => (bits BinOp.and IntKind.i64 ((a : Int) / 2 ^ k) 1 == 1) == !(bits BinOp.and IntKind.i64 (a : Int) (2 ^ k) == 0)
theorem wkAll9_yes : wkAll9 = true := by decide +kernel
/-- Whichever way the bit is asked for. -/
theorem wkB9_ref (n a : Int) (hn : 0 ≤ n) (h0 : 0 ≤ a) (h1 : a < 128) : wkB9 n a = !(bits BinOp.and IntKind.i64 a (2 ^ (wkd9 n).toNat) == 0) := by
  obtain ⟨w0, w1⟩ := wkd9_bd n hn
  have h := wkAll9_yes
  unfold wkAll9 at h
  rw [List.all_eq_true] at h
  have h2 := h a.toNat (List.mem_range.2 (by omega))
  rw [List.all_eq_true] at h2
  have h3 := h2 (wkd9 n).toNat (List.mem_range.2 (by omega))
  rw [show ((a.toNat : Nat) : Int) = a by omega] at h3
  unfold wkB9
  simpa using h3
theorem wrap_small9 (k : Int) (h : 0 ≤ k ∧ k < 7) : wrap64 (2 ^ k.toNat) = 2 ^ k.toNat := by
  have hk : k = 0 ∨ k = 1 ∨ k = 2 ∨ k = 3 ∨ k = 4 ∨ k = 5 ∨ k = 6 := by omega
  rcases hk with rfl | rfl | rfl | rfl | rfl | rfl | rfl <;> (unfold wrap64; decide)
/-- How long a slice is. -/
def slLen : Value → Nat
  | .slice _ n _ => n
  | _ => 0
theorem slLen_eq (p : Option Addr) (n c : Nat) : slLen (.slice p n c) = n := rfl
/-- What is so at the head of the document's loop. -/
structure RfI (wk : Int → Bool) (day : Int) (cs : List Cd) (m : M) (N : Nat) (w0 : World) (F : List Fr) (S : List M) (n : Nat) (sv fv : Value) (W : World) : Prop where
  bel : Below w0.heap.size w0 W
  own : W.ownsRow w0.heap.size 25 23 sv S.length (flatS S)
  fr : W.ownsRow w0.heap.size 60 2 fv F.length (flatF F)
  nil : F = [] → S = [m] ∧ n = N
  cons : ∀ f G, F = f :: G → S = stk (f :: G) ∧ FInv wk day cs m N f G n
def RfR (wk : Int → Bool) (day : Int) (cs : List Cd) (m : M) (N : Nat) (w0 : World) (t10 t11 t12 : Value) (W : World) : Prop := ∃ F S n, t11 = .int .i64 ((n : Nat) : Int) ∧ RfI wk day cs m N w0 F S n t10 t12 W
section
variable {wk : Int → Bool} {day : Int} {cs : List Cd} {m : M} {N : Nat} {w0 W W' : World} {F : List Fr} {S : List M} {n : Nat} {sv fv : Value}
theorem RfI.below (h : RfI wk day cs m N w0 F S n sv fv W) (hb : Below W.heap.size W W') : RfI wk day cs m N w0 F S n sv fv W' :=
  ⟨h.bel.trans (hb.mono h.bel.size), own_below h.own hb, own_below h.fr hb, h.nil, h.cons⟩
theorem stk_pop {f : Fr} {G : List Fr} {g : M} (hS : f.S = [g]) : stk (f :: G) = stk G ++ [g] := by simp [stk, hS]
/-- A rule's end: the frame before goes on. -/
theorem RfI.end {f : Fr} {G : List Fr} (hR : Right cs) (h : RfI wk day cs m N w0 (f :: G) S n sv fv W) (hk : f.k = (insR cs f.r).length) {fv' : Value} (hf : W.ownsRow w0.heap.size 60 2 fv' G.length (flatF G)) : ∃ F', F'.length = G.length ∧ RfI wk day cs m N w0 F' S n sv fv' W := by
  obtain ⟨e1, e2⟩ := h.cons f G rfl
  obtain ⟨g, hS⟩ := e2.one hR hk
  have e3 := e1.trans (stk_pop hS)
  cases G with
  | nil =>
    obtain ⟨e4, e5⟩ := e2.last hk hS
    refine ⟨[], rfl, h.bel, h.own, hf, fun _ => ⟨?_, e5⟩, fun f' G' e => (by cases e)⟩
    rw [e3, e4]
    rfl
  | cons f' G' =>
    refine ⟨⟨f'.r, f'.k, f'.S ++ [g]⟩ :: G', rfl, h.bel, h.own, ?_, fun e => (by cases e), fun f2 G2 e => ?_⟩
    · rw [List.length_cons] at hf ⊢
      exact hf
    · cases e
      refine ⟨?_, e2.pop hk hS⟩
      rw [e3]
      simp [stk]
theorem stk_len (hR : Right cs) : ∀ (G : List Fr), (∀ g ∈ G, FrOK cs g 1) → (stk G).length ≤ G.length * 2000
  | [], _ => by simp [stk]
  | g :: G, h => by
    have h1 := stk_len hR G fun q hq => h q (List.mem_cons_of_mem _ hq)
    have h2 := h g (by simp)
    obtain ⟨c, hc, hci, _, _, hl⟩ := hR.at h2.r
    have h3 := h2.S
    have h4 := h2.k
    rw [hci] at h3 h4
    have h5 := (hAt_bd (l := c.ins) g.k).2
    simp only [stk, List.length_append, List.length_cons]
    omega
theorem FInv.stk_le (hR : Right cs) {f : Fr} {G : List Fr} (h : FInv wk day cs m N f G n) : (stk (f :: G)).length ≤ (n + 1) * 2000 := by
  have h1 := stk_len hR G h.rest
  obtain ⟨c, hc, hci, _, _, hl⟩ := hR.at h.top.r
  have h3 := h.top.S
  have h4 := h.top.k
  rw [hci] at h3 h4
  have h5 := (hAt_bd (l := c.ins) f.k).2
  have h6 := h.len
  simp only [stk, List.length_append]
  have : G.length * 2000 ≤ n * 2000 := Nat.mul_le_mul_right _ h6
  omega
end
theorem rrun_post {R : Ending → World → Prop} {a : Act} {w : World} (g g' : Nat) (f : M) (n er at_ : Int) (hd : a.defers = []) (h6 : a.tmps.getD 6 undef = .pointer (some ⟨g, 0, none⟩)) (h7 : a.tmps.getD 7 undef = .int .i64 n) (h8 : a.tmps.getD 8 undef = .pointer (some ⟨g', 0, none⟩))
    (hg : w.heap[g]? = some (.cells (mv f) 25 (0, 0))) (hg' : w.heap[g']? = some (.cells #[.int .i64 er, .int .i64 at_] 28 (0, 0))) (hR : R (.returned (.tuple #[.agg (mv f), .int .i64 n, .agg #[.int .i64 er, .int .i64 at_]])) w) : bodyPost Try.prog Try.f10 R .ret a w := by
  refine bodyPost_ret (v := .tuple #[.agg (mv f), .int .i64 n, .agg #[.int .i64 er, .int .i64 at_]]) ?_ hd hR
  have h6' : a.tmps[6]?.getD undef = .pointer (some ⟨g, 0, none⟩) := by simpa using h6
  have h7' : a.tmps[7]?.getD undef = .int .i64 n := by simpa using h7
  have h8' : a.tmps[8]?.getD undef = .pointer (some ⟨g', 0, none⟩) := by simpa using h8
  have hv := run_loadVar_row (P := Try.prog) w g 25 25 _ _ _ hg maskType rfl (maskSize _)
  have hv' := run_loadVar_row (P := Try.prog) w g' 28 28 _ _ _ hg' faultTypeV rfl (by kernel_rfl)
  simp [results, Try.results10, h6', h7', h8', asAddr, hv, hv']
theorem frameInfo9 : (Try.prog.info? 60).map (fun i => (i.zero, i.size, i.bytes)) = some (some (.agg #[.int .i64 0, .int .i64 0]), 2, 16) := by kernel_rfl
theorem framesType : Try.prog.underlying 61 = some (.slice 60) := by kernel_rfl
end Go.Proofs.Ytdpfhhmfamiboaa

/- Rows of marks in memory, as the document's Calls makes them. -/
namespace Go.Proofs.Ytdpfhhmfamiboaa
open Go.RowKit Msk Vx

/-- Marks as cells. -/
def bcells (n : Nat) (m : Nat → Bool) : Array Value := ((List.range n).map fun i => Value.bool (m i)).toArray
theorem bcells_at {n : Nat} {m : Nat → Bool} {i : Nat} (h : i < n) : (bcells n m)[i]? = some (.bool (m i)) := by
  simp [bcells, h]
theorem bcells_none (n : Nat) : madeCells #[Value.bool false] n = bcells n (fun _ => false) := by
  apply Array.ext
  · simp [bcells, madeCells]
  · intro k h1 h2
    simp [bcells, madeCells, Nat.mod_one]
theorem bcells_setb {n : Nat} {m : Nat → Bool} {i : Nat} {b : Bool} : (bcells n m).setIfInBounds i (.bool b) = bcells n (fun k => if k = i then b else m k) := by
  apply Array.ext
  · simp [bcells]
  · intro k h1 h2
    have hk : k < n := by simpa [bcells] using h2
    rw [Array.getElem_setIfInBounds (by simpa [bcells] using hk)]
    by_cases e : i = k
    · subst e
      simp [bcells]
    · rw [if_neg e]
      simp [bcells, show k ≠ i from fun h => e h.symm]
/-- Rows as cells: the first so many are made. -/
def ocells (n p : Nat) (rs : Nat → Nat) : Array Value := ((List.range n).map fun j => if j < p then Value.slice (some ⟨rs j, 0, none⟩) n n else .slice none 0 0).toArray
theorem ocells_at {n p : Nat} {rs : Nat → Nat} {j : Nat} (h : j < p) (hn : j < n) : (ocells n p rs)[j]? = some (.slice (some ⟨rs j, 0, none⟩) n n) := by
  simp [ocells, hn, h]
theorem ocells_not {n p : Nat} {rs : Nat → Nat} {j : Nat} (h : p ≤ j) (hn : j < n) : (ocells n p rs)[j]? = some (.slice none 0 0) := by
  simp [ocells, hn]; omega
theorem ocells_none (n : Nat) (rs : Nat → Nat) : madeCells #[Value.slice none 0 0] n = ocells n 0 rs := by
  apply Array.ext
  · simp [ocells, madeCells]
  · intro k h1 h2
    simp [ocells, madeCells, Nat.mod_one]
theorem ocells_set {n p q : Nat} {rs : Nat → Nat} : (ocells n p rs).setIfInBounds p (.slice (some ⟨q, 0, none⟩) n n) = ocells n (p + 1) (fun j => if j = p then q else rs j) := by
  apply Array.ext
  · simp [ocells]
  · intro k h1 h2
    have hk : k < n := by simpa [ocells] using h2
    rw [Array.getElem_setIfInBounds (by simpa [ocells] using hk)]
    by_cases e : p = k
    · subst e
      simp [ocells]
    · rw [if_neg e]
      have e2 : k ≠ p := fun h => e h.symm
      by_cases h : k < p
      · simp [ocells, e2, h, show k < p + 1 by omega]
      · simp [ocells, h, show ¬ k < p + 1 by omega]
def upd2 (M : Nat → Nat → Bool) (i k : Nat) (b : Bool) : Nat → Nat → Bool := fun i' k' => if i' = i ∧ k' = k then b else M i' k'
/-- Rows of marks in memory, made since; the first so many of them. -/
structure RcM (w : World) (n p : Nat) (rs : Nat → Nat) (M : Nat → Nat → Bool) (W : World) : Prop where
  bel : Below w.heap.size w W
  outer : W.heap[w.heap.size]? = some (.cells (ocells n p rs) 80 (0, 0))
  rows : ∀ j, j < p → W.heap[rs j]? = some (.cells (bcells n (M j)) 4 (0, 0))
  inj : ∀ j k, j < p → k < p → rs j = rs k → j = k
  gt : ∀ j, j < p → w.heap.size < rs j
  le : p ≤ n
theorem RcM.below {w W W' : World} {n p : Nat} {rs : Nat → Nat} {M : Nat → Nat → Bool} (h : RcM w n p rs M W) (hb : Below W.heap.size W W') : RcM w n p rs M W' :=
  ⟨h.bel.trans (hb.mono h.bel.size), (hb.block _ (lt_of_block h.outer)).trans h.outer, fun j hj => (hb.block _ (lt_of_block (h.rows j hj))).trans (h.rows j hj), h.inj, h.gt, h.le⟩
theorem RcM.same {w W : World} {n p : Nat} {rs : Nat → Nat} {M M' : Nat → Nat → Bool} (h : RcM w n p rs M W) (he : ∀ j k, j < p → k < n → M j k = M' j k) : RcM w n p rs M' W := by
  refine ⟨h.bel, h.outer, fun j hj => ?_, h.inj, h.gt, h.le⟩
  rw [h.rows j hj]
  have : bcells n (M j) = bcells n (M' j) := by
    unfold bcells
    congr 1
    apply List.map_congr_left
    intro k hk
    rw [he j k hj (List.mem_range.1 hk)]
  rw [this]
theorem RcM.out {w W : World} {n p : Nat} {rs : Nat → Nat} {M : Nat → Nat → Bool} (h : RcM w n p rs M W) {i : Nat} (hi : i < p) : W.cell? ⟨w.heap.size, i, none⟩ = some (.slice (some ⟨rs i, 0, none⟩) n n) :=
  (cell_of_row _ _ i _ _ _ h.outer).trans (ocells_at hi (by have := h.le; omega))
theorem RcM.cell {w W : World} {n p : Nat} {rs : Nat → Nat} {M : Nat → Nat → Bool} (h : RcM w n p rs M W) {i k : Nat} (hi : i < p) (hk : k < n) : W.cell? ⟨rs i, k, none⟩ = some (.bool (M i k)) :=
  (cell_of_row _ _ k _ _ _ (h.rows i hi)).trans (bcells_at hk)
theorem RcM.frz {w W : World} {n p : Nat} {rs : Nat → Nat} {M : Nat → Nat → Bool} (h : RcM w n p rs M W) {i : Nat} (hi : i < p) (k : Nat) : W.frozen? ⟨rs i, k, none⟩ = false := frozen_of_row _ _ k _ _ (h.rows i hi)
theorem RcM.set {w W : World} {n p : Nat} {rs : Nat → Nat} {M : Nat → Nat → Bool} (h : RcM w n p rs M W) {i k : Nat} {b : Bool} (hi : i < p) : RcM w n p rs (upd2 M i k b) (W.setCell ⟨rs i, k, none⟩ (.bool b)) := by
  have ho : ∀ q, q ≠ rs i → (W.setCell ⟨rs i, k, none⟩ (.bool b)).heap[q]? = W.heap[q]? := fun q hq => heap_setCell_other W ⟨rs i, k, none⟩ q _ hq
  have hg := h.gt i hi
  refine ⟨h.bel.setCell (by show w.heap.size ≤ rs i; omega) _, (ho _ (by omega)).trans h.outer, fun j hj => ?_, h.inj, h.gt, h.le⟩
  by_cases e : j = i
  · subst e
    have := heap_setCell_same W (rs j) k _ _ (.bool b) (h.rows j hj)
    rw [bcells_setb] at this
    rw [this]
    have e2 : upd2 M j k b j = fun k' => if k' = k then b else M j k' := by
      funext k'
      simp [upd2]
    rw [e2]
  · rw [ho _ (fun h' => e (h.inj j i hj hi h'))]
    have e2 : upd2 M i k b j = M j := by
      funext k'
      simp [upd2, e]
    rw [e2]
    exact h.rows j hj
theorem RcM.add {w W : World} {n p : Nat} {rs : Nat → Nat} {M : Nat → Nat → Bool} (h : RcM w n p rs M W) (hp : p < n) : RcM w n (p + 1) (fun j => if j = p then W.heap.size else rs j) (fun j k => if j = p then false else M j k) ((W.alloc (.cells (bcells n (fun _ => false)) 4)).setCell ⟨w.heap.size, p, none⟩ (.slice (some ⟨W.heap.size, 0, none⟩) n n)) := by
  have hsz := h.bel.size
  have hlo := lt_of_block h.outer
  have bA := (Below.refl W.heap.size W).alloc (Nat.le_refl _) (.cells (bcells n (fun _ => false)) 4)
  have ho : ∀ q, q ≠ w.heap.size → ((W.alloc (.cells (bcells n (fun _ => false)) 4)).setCell ⟨w.heap.size, p, none⟩ (.slice (some ⟨W.heap.size, 0, none⟩) n n)).heap[q]? = (W.alloc (.cells (bcells n (fun _ => false)) 4)).heap[q]? := fun q hq => heap_setCell_other _ ⟨w.heap.size, p, none⟩ q _ hq
  have hA := h.below bA
  refine ⟨hA.bel.setCell (by show w.heap.size ≤ w.heap.size; omega) _, ?_, fun j hj => ?_, fun j k hj hk => ?_, fun j hj => ?_, by omega⟩
  · have := heap_setCell_same _ w.heap.size p _ _ (.slice (some ⟨W.heap.size, 0, none⟩) n n) hA.outer
    rw [ocells_set] at this
    exact this
  · by_cases e : j = p
    · subst e
      simp only [if_pos]
      rw [ho _ (by omega)]
      exact heap_alloc_new W _
    · simp only [if_neg e]
      have hj' : j < p := by omega
      have := h.gt j hj'
      rw [ho _ (by omega)]
      exact hA.rows j hj'
  · have hl1 : ∀ q, q < p → rs q < W.heap.size := fun q hq => lt_of_block (h.rows q hq)
    by_cases e : j = p
    · by_cases e' : k = p
      · intro _; omega
      · rw [if_pos e, if_neg e']
        have := hl1 k (by omega)
        intro h'; omega
    · by_cases e' : k = p
      · rw [if_neg e, if_pos e']
        have := hl1 j (by omega)
        intro h'; omega
      · rw [if_neg e, if_neg e']
        exact h.inj j k (by omega) (by omega)
  · split
    · omega
    · exact h.gt j (by omega)
theorem boolInfo9 : (Try.prog.info? 4).map (fun i => (i.zero, i.size, i.bytes)) = some (some (.bool false), 1, 1) := by kernel_rfl
theorem boolsType9 : Try.prog.underlying 80 = some (.slice 4) := by kernel_rfl
theorem slInfo9 : (Try.prog.info? 80).map (fun i => (i.zero, i.size, i.bytes)) = some (some (.slice none 0 0), 1, 24) := by kernel_rfl
theorem boolssType9 : Try.prog.underlying 78 = some (.slice 80) := by kernel_rfl
/-- All ways at once, so far: this round's so many rows, and so many of a row. -/
def sW (E : Nat → Nat → Bool) (m i k : Nat) : Nat → Nat → Bool := fun i' k' => if i' < i ∨ (i' = i ∧ k' < k) then wars E (m + 1) i' k' else wars E m i' k'
theorem wars_colV (E : Nat → Nat → Bool) (m i : Nat) : wars E (m + 1) i m = wars E m i m := by
  simp only [wars]
  cases wars E m i m <;> simp
theorem sW_col (E : Nat → Nat → Bool) (m i k i' : Nat) : sW E m i k i' m = wars E m i' m := by
  unfold sW
  split
  · exact wars_colV E m i'
  · rfl
theorem sW_row (E : Nat → Nat → Bool) (m i k k' : Nat) : sW E m i k m k' = wars E m m k' := by
  unfold sW
  split
  · exact wars_self E m k'
  · rfl
theorem sW_cur (E : Nat → Nat → Bool) (m i k : Nat) : sW E m i k i k = wars E m i k := if_neg (by omega)
theorem sW_next (E : Nat → Nat → Bool) (m i k : Nat) : upd2 (sW E m i k) i k (sW E m i k i k || (sW E m i k i m && sW E m i k m k)) = sW E m i (k + 1) := by
  funext i' k'
  unfold upd2
  by_cases h : i' = i ∧ k' = k
  · obtain ⟨rfl, rfl⟩ := h
    rw [if_pos ⟨rfl, rfl⟩, sW_cur, sW_col, sW_row]
    unfold sW
    rw [if_pos (by omega)]
    rfl
  · rw [if_neg h]
    unfold sW
    by_cases h2 : i' < i ∨ (i' = i ∧ k' < k)
    · rw [if_pos h2, if_pos (by omega)]
    · rw [if_neg h2, if_neg (by omega)]
end Go.Proofs.Ytdpfhhmfamiboaa

/- A region in the text's order, whose values are known beforehand: said as of one that draws its order. It speaks of no program. -/
namespace Go.Proofs.Ytdpfhhmfamiboaa
open Go Go.RowKit
section
variable {P : Program} {ops : Array Oper} {Q : Exit → Act → World → Prop} {id : Nat} {a0 : Act} {w : World}
theorem back_of (hB : backB ops = true) {i : Nat} {o : Oper} (ho : ops[i]? = some o) : ∀ e ∈ o.after, Region.binds .any e = true → e.on < i := fun e he hb => by
  have hi : i < ops.size := (Array.getElem?_eq_some_iff.1 ho).1
  have h1 := List.all_eq_true.1 hB i (by simpa using hi)
  rw [ho] at h1
  have h2 := Array.all_eq_true'.1 h1 e he
  rw [hb] at h2
  simpa using h2
theorem dst_ne (hD : dstB ops = true) {i j s t : Nat} {p q : Oper} (hp : ops[i]? = some p) (hq : ops[j]? = some q) (hs : p.dst = some s) (ht : q.dst = some t) (hij : i ≠ j) : s ≠ t := by
  have hi : i < ops.size := (Array.getElem?_eq_some_iff.1 hp).1
  have hj : j < ops.size := (Array.getElem?_eq_some_iff.1 hq).1
  have h1 := List.all_eq_true.1 hD i (by simpa using hi)
  have h2 := List.all_eq_true.1 h1 j (by simpa using hj)
  rw [hp, hq] at h2
  simp only [Option.bind_some, hs, ht] at h2
  have h3 : (i == j) = false := by simpa using hij
  rw [h3] at h2
  simpa using h2
theorem wp_plain_JL (J : (Nat → Bool) → World → Prop) (hJ0 : ∀ L : Nat → Bool, (∀ i, i < ops.size → L i = false) → J L w) (hJe : ∀ (L L' : Nat → Bool) (W : World), (∀ k, k < ops.size → L k = L' k) → J L W → J L' W) (hback : backB ops = true) (hdst : dstB ops = true) (hin : inB ops a0.tmps.size = true) (ds : List (Option Nat × Value)) (es : List (Nat × Value))
    (hds : ops.toList.map (fun o => o.dst) = ds.map (fun p => p.1)) (hes : ds.filterMap (fun p => p.1.map fun s => (s, p.2)) = es) (hnd : decide ((es.map (fun p => p.1)).Nodup) = true)
    (hstep : StepL P ops Q ds a0 J) (hend : ∀ (L : Nat → Bool) (W : World), (∀ i, i < ops.size → L i = true) → J L W → Q .normal (putAll es a0) W) : (Code.region id ops false).wp P Q a0 w := by
  have hl : ds.length = ops.size := by
    have h := congrArg List.length hds
    simpa using h.symm
  have atD : ∀ {j : Nat} {p : Oper}, ops[j]? = some p → ∃ v, ds[j]? = some (p.dst, v) := fun {j p} hp => by
    have h1 : (ops.toList.map (fun o => o.dst))[j]? = some p.dst := by
      rw [List.getElem?_map, Array.getElem?_toList, hp]
      rfl
    rw [hds, List.getElem?_map] at h1
    cases hs : ds[j]? with
    | none => rw [hs] at h1; cases h1
    | some q =>
      rw [hs] at h1
      exact ⟨q.2, by rw [← Option.some.inj h1]⟩
  have atO : ∀ {j : Nat} {d : Option Nat} {v : Value}, ds[j]? = some (d, v) → ∃ p, ops[j]? = some p ∧ p.dst = d := fun {j d v} hj => by
    have hj' := (List.getElem?_eq_some_iff.1 hj).1
    obtain ⟨p, hp⟩ : ∃ p, ops[j]? = some p := ⟨ops[j]'(by omega), Array.getElem?_eq_getElem _⟩
    obtain ⟨v', hv'⟩ := atD hp
    rw [hj] at hv'
    exact ⟨p, hp, (congrArg Prod.fst (Option.some.inj hv')).symm⟩
  have main : ∀ (m k : Nat) (A : Act) (W : World), k + m = ops.size → A.defers = a0.defers → A.tmps.size = a0.tmps.size →
      (∀ s, (∀ (j : Nat) (p : Oper), ops[j]? = some p → j < k → p.dst ≠ some s) → A.tmps.getD s undef = a0.tmps.getD s undef) →
      (∀ (j s : Nat) (u : Value), ds[j]? = some (some s, u) → j < k → A.tmps.getD s undef = u) → J (fun j => decide (j < k)) W → wpOps P ops Q (List.range' k m) A W := by
    intro m
    induction m with
    | zero =>
      intro k A W hk hdef hsize hkept hhas hJ
      show Q .normal A W
      have e : A = putAll es a0 := by
        refine act_is es hdef hsize (by
          have := of_decide_eq_true hnd
          rw [show es.map (fun p => some p.1) = (es.map (fun p => p.1)).map some by rw [List.map_map]; rfl]
          rw [List.nodup_iff_pairwise_ne] at this ⊢
          rw [List.pairwise_map]
          exact this.imp fun hab e => hab (Option.some.inj e)) (fun s h => hkept s fun j p hp _ e => ?_) (fun j s v hj => ?_)
        · obtain ⟨v, hv⟩ := atD hp
          refine h (s, v) ?_ rfl
          rw [← hes, List.mem_filterMap]
          exact ⟨_, List.mem_of_getElem? hv, by rw [e]; rfl⟩
        · have hm' := List.mem_of_getElem? hj
          rw [← hes, List.mem_filterMap] at hm'
          obtain ⟨q, hq, hqe⟩ := hm'
          obtain ⟨i, hi⟩ := List.getElem?_of_mem hq
          obtain ⟨d, v'⟩ := q
          cases d with
          | none => cases hqe
          | some t =>
            have h2 := Option.some.inj hqe
            have h3 : t = s := congrArg Prod.fst h2
            have h4 : v' = v := congrArg Prod.snd h2
            subst h3 h4
            exact hhas i t _ hi (by have := (List.getElem?_eq_some_iff.1 hi).1; omega)
      rw [e]
      exact hend _ W (fun i hi => by simp; omega) hJ
    | succ m ih =>
      intro k A W hk hdef hsize hkept hhas hJ
      rw [List.range'_succ, wpOps_cons]
      have hkl : k < ops.size := by omega
      obtain ⟨o, ho⟩ : ∃ o, ops[k]? = some o := ⟨ops[k], Array.getElem?_eq_getElem hkl⟩
      obtain ⟨v, hv⟩ := atD ho
      have hc : ClosL ops (fun j => decide (j < k)) := fun j p hp hj e he hb => by
        have := back_of hback hp e he hb
        simp at hj ⊢
        omega
      refine wpOp_mono ?_ (hstep k o.dst v o (fun j => decide (j < k)) A W ho hv (by simp) (fun e he hb => by
        have := back_of hback ho e he hb
        simpa using this) hc hJ (fun s h => hkept s fun j p hp _ => nd h j p hp) fun j s u hj hL => hhas j s u hj (by simpa using hL))
      rintro a' W' ⟨rfl, hJ'⟩
      refine ih (k + 1) _ W' (by omega) (by
        cases hd : o.dst with
        | none => exact hdef
        | some s => exact hdef) (by
        cases hd : o.dst with
        | none => exact hsize
        | some s => simpa [Act.put] using hsize) (fun s h => ?_) (fun j s u hj hjk => ?_) (hJe _ _ _ (fun q _ => by
          by_cases e : k = q
          · subst e; simp
          · by_cases e2 : q < k
            · simp [e, e2, show q < k + 1 by omega]
            · simp [e, e2, show ¬ q < k + 1 by omega]) hJ')
      · have h0 := hkept s fun j p hp hj => h j p hp (by omega)
        cases hd : o.dst with
        | none => exact h0
        | some t =>
          have hne : t ≠ s := fun e => h k o ho (by omega) (by rw [hd, e])
          exact (getD_set_other _ _ _ _ hne).trans h0
      · by_cases e : j = k
        · subst e
          rw [hv] at hj
          have h2 := Option.some.inj hj
          have h3 : o.dst = some s := congrArg Prod.fst h2
          have h4 : v = u := congrArg Prod.snd h2
          subst h4
          rw [h3]
          have hsl : s < A.tmps.size := by
            have q1 := List.all_eq_true.1 hin j (by simpa using hkl)
            rw [ho] at q1
            simp only [Option.bind_some, h3] at q1
            rw [hsize]
            simpa using q1
          exact getD_set_same _ _ _ hsl
        · have h0 := hhas j s u hj (by omega)
          obtain ⟨p, hp, hd'⟩ := atO hj
          cases hd : o.dst with
          | none => exact h0
          | some t =>
            have hne : t ≠ s := dst_ne hdst ho hp hd hd' (fun e' => e e'.symm)
            exact (getD_set_other _ _ _ _ hne).trans h0
  refine wp_region ?_
  rw [List.range_eq_range']
  refine main ops.size 0 a0 w (by omega) rfl rfl (fun _ _ => rfl) (fun _ _ _ _ h => by omega) (hJ0 _ fun i _ => by simp)
end
end Go.Proofs.Ytdpfhhmfamiboaa
