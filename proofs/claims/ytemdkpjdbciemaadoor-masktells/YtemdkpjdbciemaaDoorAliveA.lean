/- What the laws' own helpers come to: alive is true, all has every minute. -/
import Derived.Test.YtemdkpjdbciemaaDoorHoldsA
import Derived.Test.YtemdkpjdbciemaaDoorSpansA
namespace Go.Proofs.YtemdkpjdbciemaaDoor
open Go.RowKit Msk

/-- A span within the day, minute by minute. -/
theorem inl_one (x y : Int) (i : Nat) : inl [(x, y)] i = (decide (x ≤ (i : Int)) && decide ((i : Int) < y) && decide (i < 1440)) := by simp [inl]
theorem hold_true {f : Nat → Bool} {x y : Int} (h0 : 0 ≤ x) (h1 : y ≤ 1440) (h2 : x ≤ y) (h : ∀ i : Nat, x ≤ (i : Int) → (i : Int) < y → f i = true) : holdB f x y = true := by
  unfold holdB
  have e : eqm (fun i => (inl [(x, y)] i && !f i) && decide (i < 1440)) (fun _ => false) = true := eqm_true fun i _ => by
    rw [inl_one]
    by_cases a : x ≤ (i : Int)
    · by_cases b : (i : Int) < y
      · simp [h i a b]
      · simp [b]
    · simp [a]
  simp [h0, h1, h2, e]
theorem hold_spec {f : Nat → Bool} {x y : Int} (h : holdB f x y = true) : 0 ≤ x ∧ y ≤ 1440 ∧ x ≤ y ∧ ∀ i : Nat, x ≤ (i : Int) → (i : Int) < y → f i = true := by
  unfold holdB at h
  simp only [Bool.and_eq_true, decide_eq_true_eq] at h
  obtain ⟨⟨⟨h0, h1⟩, h2⟩, h3⟩ := h
  refine ⟨h0, h1, h2, fun i a b => ?_⟩
  have := eqm_same h3 i (by omega)
  have hi : i < 1440 := by omega
  rw [inl_one] at this
  simpa [a, b, hi] using this

theorem f0_at (i : Nat) : inl [((60 : Int), (130 : Int))] i = (decide (60 ≤ i) && decide (i < 130)) := by
  rw [inl_one]
  rw [Bool.eq_iff_iff]
  simp only [Bool.and_eq_true, decide_eq_true_eq]
  omega
theorem f0_cnt : cnt (inl [((60 : Int), (130 : Int))]) 1440 = 70 := by
  rw [cnt_ext (g := fun i => decide (60 ≤ i) && decide (i < 130)) fun i _ => f0_at i, cnt_span 60 130 1440 (by omega) (by omega)]
theorem f0_rs : rs (inl [((60 : Int), (130 : Int))]) 1440 = [((60 : Int), (130 : Int))] := by
  rw [rs_end _ 130 1440 (by omega) (fun i a _ => by rw [f0_at]; simp; omega), rs_next _ 0 60 130 (by omega) (by omega) (.inl rfl) (fun i _ b => by rw [f0_at]; simp; omega) (fun i a b => by rw [f0_at]; simp; omega)]
  rfl
theorem f0_next {v : Int} {ok : Bool} (h : NextTells (inl [((60 : Int), (130 : Int))]) 70 60 v ok) : v = 70 ∧ ok = true := by
  have hh : Hold (inl [((60 : Int), (130 : Int))]) 70 60 := ⟨by omega, fun i a b => by rw [f0_at]; simp; omega⟩
  rcases h with ⟨h, _, _⟩ | ⟨h, _⟩ | ⟨_, _, _, ⟨_, _, h⟩ | ⟨h, q, h1, h2, _, h4⟩⟩
  · omega
  · omega
  · exact absurd hh (h 70 (by omega) (by omega))
  · refine ⟨?_, h⟩
    rcases Nat.lt_or_ge 70 q with g | g
    · exact absurd hh (h4 70 (by omega) g)
    · omega
theorem f0_hold : holdB (inl [((60 : Int), (130 : Int))]) 60 130 = true := hold_true (by omega) (by omega) (by omega) fun i a b => by rw [f0_at]; simp; omega
theorem row_len {w : World} {v : Value} {l : List (Int × Int)} (h : Row w v l) (hl : l ≠ []) : ∃ g o c : Nat, v = .slice (some ⟨g, o, none⟩) l.length c := by
  rcases h with ⟨_, _, h⟩ | ⟨g, o, c, h, _⟩
  · exact absurd h hl
  · exact ⟨g, o, c, h⟩

set_option maxRecDepth 10000 in
set_option maxHeartbeats 1000000 in
theorem alive_any (w : World) (hT : Tab w) : Calls Tryd.prog 39 #[] w fun e w' => e = .returned (.bool true) ∧ Below w.heap.size w w' := by
  have hz := mv_lit
  have hrow := row_at (heap_alloc_new w (.cells #[.int .i64 60, .int .i64 130] 39 (0, 0)))
  have hb0 : Below w.heap.size w (w.alloc (.cells #[.int .i64 60, .int .i64 130] 39)) := (Below.refl _ _).alloc (Nat.le_refl _) _
  generalize hF : inl [((60 : Int), (130 : Int))] = F
  have cO := of_any _ _ _ hrow
  rw [hF] at cO
  have cC := fun w => count_any F w
  rw [← hF, f0_cnt, hF] at cC
  have cN := fun w hT => next_any F 70 60 w hT
  have cS := fun w hT => spans_any F w hT
  have cH := fun w => holds_any F 60 130 w
  rw [← hF, f0_hold, hF] at cH
  have HF : Hid (inl [((60 : Int), (130 : Int))] = F) := hF
  clear hrow hF
  go_enter Tryd.func39, Tryd.ntmps39
  go_wp2_with (first
    | (go_at_call 22; refine cO.mono ?_; rintro e w1 ⟨rfl, hb1⟩; have hm1 := heap_alloc_new w1 (.cells (mv fun _ => false) 37 (0, 0)))
    | (refine wpList_store_row rfl 37 _ _ rfl _ _ rfl rfl _ _ hm1 (maskSize _) (by simp [mv_size]) (mv_all _) ?_; have hm2 := setRow_heap _ _ _ (mv F) _ _ hm1; have hb2 : Below w.heap.size w ((w1.alloc (.cells (mv fun _ => false) 37)).setRow w1.heap.size (mv F)) := below_setRow ((hb0.trans (hb1.mono hb0.size)).alloc (by have := hb0.size; have := hb1.size; omega) _) (by have := hb0.size; have := hb1.size; omega) _; generalize ((w1.alloc (.cells (mv fun _ => false) 37)).setRow w1.heap.size (mv F)) = w2 at *)
    | (refine load_g (by rfl) _ (by rfl) _ (by rfl) F (by assumption) ?_)
    | (go_at_call 20; refine (cN _ (hT.later hb2)).mono ?_; rintro e w3 ⟨⟨v, ok, rfl, hn⟩, hbn⟩; rw [← HF.out] at hn; obtain ⟨rfl, rfl⟩ := f0_next hn; have hm3 := (hbn.block _ (lt_of_block hm2)).trans hm2; have hb3 := hb2.trans (hbn.mono hb2.size); clear hn hbn)
    | (go_at_call 35; refine (cC _).mono ?_; rintro e w4 ⟨rfl, hbc⟩; have hm4 := (hbc.block _ (lt_of_block hm3)).trans hm3; have hb4 := hb3.trans (hbc.mono hb3.size); clear hbc)
    | (go_at_call 25; refine (cS _ (hT.later hb4)).mono ?_; rintro e w5 ⟨⟨v, rfl, hr⟩, _, hbs⟩; rw [← HF.out, f0_rs] at hr; obtain ⟨g, o, c, rfl⟩ := row_len hr (by simp); have hm5 := (hbs.block _ (lt_of_block hm4)).trans hm4; have hb5 := hb4.trans (hbs.mono hb4.size); clear hr hbs)
    | (go_at_call 37; refine (cH _).mono ?_; rintro e w6 ⟨rfl, hbh⟩; have hb6 := hb5.trans (hbh.mono hb5.size); clear hbh))
  go_ret
  exact ⟨rfl, hb6⟩

set_option maxHeartbeats 400000 in
theorem all_any (w : World) : Calls Tryd.prog 40 #[] w fun e w' => e = .returned (.agg (mv fun i => decide (i < 1440))) ∧ Below w.heap.size w w' := by
  have hz := mv_lit
  have h1 : ((w.alloc (.cells (mv fun _ => false) 37)).alloc (.cells #[.int .i64 0, .int .i64 1440] 39)).heap[w.heap.size]? = some (.cells (mv fun _ => false) 37 (0, 0)) := by (repeat (first | refine blk_old _ _ _ (by simp only [size_alloc]; omega) ?_ | exact blk_new _ _ _ (by first | rfl | simp only [size_alloc])))
  have h2 : ((w.alloc (.cells (mv fun _ => false) 37)).alloc (.cells #[.int .i64 0, .int .i64 1440] 39)).heap[w.heap.size + 1]? = some (.cells #[.int .i64 0, .int .i64 1440] 39 (0, 0)) := by (repeat (first | refine blk_old _ _ _ (by simp only [size_alloc]; omega) ?_ | exact blk_new _ _ _ (by first | rfl | simp only [size_alloc])))
  have hb0 : Below w.heap.size w ((w.alloc (.cells (mv fun _ => false) 37)).alloc (.cells #[.int .i64 0, .int .i64 1440] 39)) := ((Below.refl _ _).alloc (Nat.le_refl _) _).alloc (by simp) _
  have cO := of_any _ _ _ (row_at h2)
  rw [inl_day] at cO
  clear h2
  go_enter Tryd.func40, Tryd.ntmps40
  go_wp2_with (first
    | (go_at_call 22; refine cO.mono ?_; rintro e w1 ⟨rfl, hb1⟩; have hm1 := (hb1.block _ (lt_of_block h1)).trans h1)
    | (refine wpList_store_row rfl 37 _ _ rfl _ _ rfl rfl _ _ hm1 (maskSize _) (by simp [mv_size]) (mv_all _) ?_))
  refine bodyPost_ret (v := .agg (mv fun i => decide (i < 1440))) ?_ rfl ⟨rfl, below_setRow (hb0.trans (hb1.mono hb0.size)) (Nat.le_refl _) _⟩
  exact results_cell_row rfl _ _ w.heap.size _ _ _ _ rfl (setRow_heap _ _ _ _ _ _ hm1) maskType rfl (maskSize _)
end Go.Proofs.YtemdkpjdbciemaaDoor
