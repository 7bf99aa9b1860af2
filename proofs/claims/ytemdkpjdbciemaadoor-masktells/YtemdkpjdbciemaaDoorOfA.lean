/- What masks.Of comes to, over a row of spans that lies in memory. -/
import Derived.Test.YtemdkpjdbciemaaDoorFillA
import Derived.Test.YtemdkpjdbciemaaDoorSets
namespace Go.Proofs.YtemdkpjdbciemaaDoor
open Go.RowKit Msk

/-- A row of spans in memory: the slice's value and its spans. -/
def Row (w : World) (v : Value) (l : List (Int × Int)) : Prop :=
  (∃ c, v = .slice none 0 c ∧ l = []) ∨ ∃ g o c : Nat, v = .slice (some ⟨g, o, none⟩) l.length c ∧ l.length < 9223372036854775808 ∧ ∀ j, j < l.length → w.cell? ⟨g, o + j * 2, none⟩ = some (.int .i64 (l.getD j (0, 0)).1) ∧ w.cell? ⟨g, o + j * 2 + 1, none⟩ = some (.int .i64 (l.getD j (0, 0)).2)
theorem Row.later {w w' : World} {v : Value} {l : List (Int × Int)} (h : Row w v l) (hb : Below w.heap.size w w') : Row w' v l := by
  rcases h with h | ⟨g, o, c, hv, hl, hc⟩
  · exact .inl h
  · refine .inr ⟨g, o, c, hv, hl, fun j hj => ?_⟩
    obtain ⟨c1, c2⟩ := hc j hj
    exact ⟨(hb.cell (block_lt_of_cell c1)).trans c1, (hb.cell (block_lt_of_cell c2)).trans c2⟩

/-- Is a minute in one of the spans? -/
def inl (l : List (Int × Int)) (i : Nat) : Bool := l.any fun s => decide (s.1 ≤ (i : Int)) && decide ((i : Int) < s.2) && decide (i < 1440)
theorem inl_snoc (l : List (Int × Int)) (k : Nat) (hk : k < l.length) : (mv fun i => inl (l.take k) i || (decide ((l.getD k (0, 0)).1 ≤ (i : Int)) && decide ((i : Int) < (l.getD k (0, 0)).2) && decide (i < 1440))) = mv (inl (l.take (k + 1))) := by
  have e : l.take (k + 1) = l.take k ++ [l.getD k (0, 0)] := by
    rw [List.take_succ_eq_append_getElem hk]; simp [List.getD, hk]
  refine mv_ext fun i _ => ?_
  rw [e]
  simp [inl]

set_option maxHeartbeats 1000000 in
theorem of_any (v : Value) (l : List (Int × Int)) (w : World) (hl : Row w v l) :
    Calls Tryd.prog 22 #[v] w fun e w' => e = .returned (.agg (mv (inl l))) ∧ Below w.heap.size w w' := by
  have hz := mv_lit
  have h1 : ((w.alloc (.cells (mv fun _ => false) 37)).alloc (.cells (mv fun _ => false) 37)).heap[w.heap.size]? = some (.cells (mv fun _ => false) 37 (0, 0)) := by (repeat (first | refine blk_old _ _ _ (by simp only [size_alloc]; omega) ?_ | exact blk_new _ _ _ (by first | rfl | simp only [size_alloc])))
  have h2 : ((w.alloc (.cells (mv fun _ => false) 37)).alloc (.cells (mv fun _ => false) 37)).heap[w.heap.size + 1]? = some (.cells (mv fun _ => false) 37 (0, 0)) := by (repeat (first | refine blk_old _ _ _ (by simp only [size_alloc]; omega) ?_ | exact blk_new _ _ _ (by first | rfl | simp only [size_alloc])))
  have hb0 : Below w.heap.size w ((w.alloc (.cells (mv fun _ => false) 37)).alloc (.cells (mv fun _ => false) 37)) := ((Below.refl _ _).alloc (Nat.le_refl _) _).alloc (by simp) _
  rcases hl with ⟨c, rfl, rfl⟩ | ⟨g, o, c, rfl, hlen, hcell⟩
  · go_enter Tryd.func22, Tryd.ntmps22
    go_wp2
    refine wp_loop_rounds 1 ?_
    rw [rounds_succ]
    go_wp2_with (first
      | (refine wpList_load_row rfl 37 _ rfl _ rfl _ _ _ _ h2 maskType rfl (maskSize _) ?_)
      | (refine wpList_store_row rfl 37 _ _ rfl _ _ rfl rfl _ _ h1 (maskSize _) (by simp [mv_size]) (mv_all _) ?_))
    refine bodyPost_ret (v := .agg (mv (inl []))) ?_ rfl ⟨rfl, below_setRow hb0 (Nat.le_refl _) _⟩
    exact results_cell_row rfl _ _ w.heap.size _ _ _ _ rfl (setRow_heap _ _ _ _ _ _ h1) maskType rfl (maskSize _)
  · have HC : Hid (∀ j, j < l.length → w.cell? ⟨g, o + j * 2, none⟩ = some (.int .i64 (l.getD j (0, 0)).1) ∧ w.cell? ⟨g, o + j * 2 + 1, none⟩ = some (.int .i64 (l.getD j (0, 0)).2)) := hcell
    clear hcell
    go_enter Tryd.func22, Tryd.ntmps22
    go_wp2
    go_loopw [8] (fun i wr => ∃ k : Nat, k ≤ l.length ∧ i = .int .i64 k ∧ wr.heap[w.heap.size]? = some (.cells (mv fun _ => false) 37 (0, 0)) ∧ wr.heap[w.heap.size + 1]? = some (.cells (mv (inl (l.take k))) 37 (0, 0)) ∧ Below w.heap.size w wr) (fun i _ => l.length - (intOf i).toNat)
    case atStart => exact ⟨0, Nat.zero_le _, rfl, h1, blk_eq h2 (mv_ext fun i _ => by simp [inl]), hb0⟩
    case round =>
      obtain ⟨k, hk, rfl, ho, hm, hbel⟩ := hrel
      by_cases hlt : k < l.length
      · obtain ⟨c1, c2⟩ := HC.out k hlt
        have d1 := (hbel.cell (block_lt_of_cell c1)).trans c1
        have d2 := (hbel.cell (block_lt_of_cell c2)).trans c2
        have hsn := inl_snoc l k hlt
        generalize hs : l.getD k (0, 0) = s at d1 d2 hsn
        obtain ⟨x, y⟩ := s
        dsimp only at d1 d2 hsn
        have HS : Hid ((mv fun i => inl (l.take k) i || (decide (x ≤ (i : Int)) && decide ((i : Int) < y) && decide (i < 1440))) = mv (inl (l.take (k + 1)))) := hsn
        have hm2 := blk_old _ (.cells #[.int .i64 x, .int .i64 y] 39) _ (lt_of_block hm) hm
        have ho2 := blk_old _ (.cells #[.int .i64 x, .int .i64 y] 39) _ (lt_of_block ho) ho
        have hb2 := hbel.alloc hbel.size (.cells #[.int .i64 x, .int .i64 y] 39)
        clear c1 c2 hsn hs
        go_wp2_with (go_at_call 49; refine (fill_any _ _ _ _ _ hm2).mono ?_; rintro e w' ⟨rfl, hm', hb'⟩)
        go_roundw
        case rel => exact ⟨k + 1, by omega, by go_num, (hb'.block _ (by omega)).trans ho2, blk_eq hm' HS.out, hb2.trans (hb'.mono (by omega))⟩
        case measure => simp [intOf]; omega
      · have hkl : k = l.length := by omega
        subst hkl
        have hm2 := blk_eq hm (by rw [List.take_length])
        clear hm
        go_wp2_with (first
          | (refine wpList_load_row rfl 37 _ rfl _ rfl _ _ _ _ hm2 maskType rfl (maskSize _) ?_)
          | (refine wpList_store_row rfl 37 _ _ rfl _ _ rfl rfl _ _ ho (maskSize _) (by simp [mv_size]) (mv_all _) ?_))
        refine bodyPost_ret (v := .agg (mv (inl l))) ?_ rfl ⟨rfl, below_setRow hbel (Nat.le_refl _) _⟩
        exact results_cell_row rfl _ _ w.heap.size _ _ _ _ rfl (setRow_heap _ _ _ _ _ _ ho) maskType rfl (maskSize _)
end Go.Proofs.YtemdkpjdbciemaaDoor
