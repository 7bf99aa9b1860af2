/- What slotref2.Of comes to, over a row of spans that lies in memory. -/
import Derived.Test.YtemdkpjdbciemaaDoorRefSets
import Derived.Test.YtemdkpjdbciemaaDoorOfA
namespace Go.Proofs.YtemdkpjdbciemaaDoor
open Go.RowKit Msk

/-- Is a minute in one of the spans? -/
def inS (l : List (Int × Int)) (x : Int) : Bool := l.any fun s => decide (s.1 ≤ x) && decide (x < s.2)
theorem inS_take (l : List (Int × Int)) (x : Int) (k : Nat) (hk : k < l.length) : inS (l.take (k + 1)) x = (inS (l.take k) x || (decide ((l.getD k (0, 0)).1 ≤ x) && decide (x < (l.getD k (0, 0)).2))) := by
  have e : l.take (k + 1) = l.take k ++ [l.getD k (0, 0)] := by
    rw [List.take_succ_eq_append_getElem hk]; simp [List.getD, hk]
  rw [e]; simp [inS]
theorem inS_has (l : List (Int × Int)) (x : Int) (k : Nat) (hk : k < l.length) (h : (decide ((l.getD k (0, 0)).1 ≤ x) && decide (x < (l.getD k (0, 0)).2)) = true) : inS l x = true := by
  unfold inS
  rw [List.any_eq_true]
  refine ⟨l.getD k (0, 0), ?_, h⟩
  simp [List.getD, hk]
theorem mv_inS (l : List (Int × Int)) : (mv fun i => inS l (i : Int) && decide (i < 1440)) = mv (inl l) := mv_ext fun i _ => by
  unfold inS inl
  by_cases h : i < 1440 <;> simp [h]

set_option maxRecDepth 10000 in
set_option maxHeartbeats 1000000 in
theorem ofC (v : Value) (l : List (Int × Int)) (i A : Nat) (w : World) (hl : Row w v l) (ha : w.heap[A]? = some (.cells #[v] 34 (0, 0))) :
    Calls Tryd.prog 51 #[.int .i64 (i : Int), .pointer (some ⟨A, 0, none⟩)] w fun e w' => e = .returned (.bool (inS l (i : Int))) ∧ Below w.heap.size w w' := by
  have ca := cell_of_one ha
  rcases hl with ⟨c, rfl, rfl⟩ | ⟨g, o, c, rfl, hlen, hcell⟩
  · go_enter Tryd.func51, Tryd.ntmps51
    go_wp2
    refine wp_loop_rounds 1 ?_
    rw [rounds_succ]
    go_wp2
    go_ret
    exact ⟨rfl, Below.refl _ _⟩
  · have HC : Hid (∀ j, j < l.length → w.cell? ⟨g, o + j * 2, none⟩ = some (.int .i64 (l.getD j (0, 0)).1) ∧ w.cell? ⟨g, o + j * 2 + 1, none⟩ = some (.int .i64 (l.getD j (0, 0)).2)) := hcell
    clear hcell
    go_enter Tryd.func51, Tryd.ntmps51
    go_wp2
    go_loopw [8] (fun j wr => ∃ k : Nat, k ≤ l.length ∧ j = .int .i64 k ∧ inS (l.take k) (i : Int) = false ∧ Below w.heap.size w wr) (fun j _ => l.length - (intOf j).toNat)
    case atStart => exact ⟨0, Nat.zero_le _, rfl, rfl, Below.refl _ _⟩
    case round =>
      obtain ⟨k, hk, rfl, hno, hbel⟩ := hrel
      by_cases hlt : k < l.length
      · obtain ⟨c1, c2⟩ := HC.out k hlt
        have d1 := (hbel.cell (block_lt_of_cell c1)).trans c1
        have d2 := (hbel.cell (block_lt_of_cell c2)).trans c2
        have hstep := inS_take l (i : Int) k hlt
        have hhas := inS_has l (i : Int) k hlt
        generalize hs : l.getD k (0, 0) = s at d1 d2 hstep hhas
        obtain ⟨x, y⟩ := s
        dsimp only at d1 d2 hstep hhas
        rw [hno, Bool.false_or] at hstep
        have HN : Hid (inS (l.take (k + 1)) (i : Int) = (decide (x ≤ (i : Int)) && decide ((i : Int) < y))) := hstep
        have HH : Hid ((decide (x ≤ (i : Int)) && decide ((i : Int) < y)) = true → inS l (i : Int) = true) := hhas
        have hb2 := hbel.alloc hbel.size (.cells #[.int .i64 x, .int .i64 y] 39)
        clear c1 c2 hs hstep hhas hno
        by_cases h1 : x ≤ (i : Int)
        · by_cases h2 : (i : Int) < y
          · go_wp2
            go_ret
            exact ⟨by rw [HH.out (by simp [h1, h2])]; rfl, hb2⟩
          · go_wp2
            go_roundw
            case rel => exact ⟨k + 1, by omega, by go_num, by rw [HN.out]; simp [h2], hb2⟩
            case measure => simp [intOf]; omega
        · go_wp2
          go_roundw
          case rel => exact ⟨k + 1, by omega, by go_num, by rw [HN.out]; simp [h1], hb2⟩
          case measure => simp [intOf]; omega
      · have hkl : k = l.length := by omega
        subst hkl
        rw [List.take_length] at hno
        have HN : Hid (inS l (i : Int) = false) := hno
        clear hno
        go_wp2
        go_ret
        exact ⟨by rw [HN.out]; rfl, hbel⟩

set_option maxRecDepth 10000 in
set_option maxHeartbeats 400000 in
theorem of_ref (v : Value) (l : List (Int × Int)) (w : World) (hl : Row w v l) :
    Calls Tryd.prog 23 #[v] w fun e w' => e = .returned (.agg (mv (inl l))) ∧ Below w.heap.size w w' := by
  have hz := mv_lit
  have hmf := hmkf
  obtain ⟨p, c, rfl⟩ : ∃ p c, v = .slice p l.length c := by
    rcases hl with ⟨c, h, rfl⟩ | ⟨g, o, c, h, _⟩
    · exact ⟨none, c, h⟩
    · exact ⟨_, c, h⟩
  have h0 : ((w.alloc (.cells #[.slice p l.length c] 34)).alloc (.cells (mv fun _ => false) 37)).heap[w.heap.size]? = some (.cells #[.slice p l.length c] 34 (0, 0)) := by (repeat (first | refine blk_old _ _ _ (by simp only [size_alloc]; omega) ?_ | exact blk_new _ _ _ (by first | rfl | simp only [size_alloc])))
  have h2 : ((w.alloc (.cells #[.slice p l.length c] 34)).alloc (.cells (mv fun _ => false) 37)).heap[w.heap.size + 1]? = some (.cells (mv fun _ => false) 37 (0, 0)) := by (repeat (first | refine blk_old _ _ _ (by simp only [size_alloc]; omega) ?_ | exact blk_new _ _ _ (by first | rfl | simp only [size_alloc])))
  have hb0 : Below w.heap.size w ((w.alloc (.cells #[.slice p l.length c] 34)).alloc (.cells (mv fun _ => false) 37)) := ((Below.refl _ _).alloc (Nat.le_refl _) _).alloc (by simp) _
  have hl0 := hl.later hb0
  have cm := make_ref (fun i => inS l (i : Int)) 51 #[.pointer (some ⟨w.heap.size, 0, none⟩)] _ (fun _ _ => by simp [go_sem]) fun i wr _ hbr => ofC _ l i w.heap.size wr (hl0.later hbr) ((hbr.block _ (lt_of_block h0)).trans h0)
  rw [mv_inS] at cm
  clear h0 hl hl0
  go_enter Tryd.func23, Tryd.ntmps23
  go_wp2_with (first
    | (go_at_call 50; refine cm.mono ?_; rintro e w1 ⟨rfl, hb1⟩; have h3 := (hb1.block _ (lt_of_block h2)).trans h2; have hb2 := hb0.trans (hb1.mono hb0.size); clear h2 hb1)
    | (refine wpList_store_row rfl 37 _ _ rfl _ _ rfl rfl _ _ h3 (maskSize _) (by simp [mv_size]) (mv_all _) ?_))
  refine bodyPost_ret (v := .agg (mv (inl l))) ?_ rfl ⟨rfl, below_setRow hb2 (by omega) _⟩
  exact results_cell_row rfl _ _ (w.heap.size + 1) _ _ _ _ rfl (setRow_heap _ _ _ _ _ _ h3) maskType rfl (maskSize _)
end Go.Proofs.YtemdkpjdbciemaaDoor
