/- What masks.fill comes to. -/
import Derived.Test.YtllcpoibnmhghaaGreatDoorTb26
import Derived.Deep.RegionHeld3
import Derived.Deep.DrawnRows
import Derived.Test.YtllcpoibnmhghaaGreatDoorTb25
namespace Go.Proofs.YtllcpoibnmhghaaGreatDoor
open Go.RowKit Msk

/-- One word, filled from a minute on up to another one of the same word. -/
theorem fill_word (f : Nat → Bool) (x y : Nat) (h1 : x ≤ y) :
    bits .or .u64 (wd f (x / 64) : Int) (IntKind.u64.wrap (((2 ^ (y - x) - 1 : Nat) : Int) * 2 ^ (x % 64))) = ((wd (fun i => f i || (decide (x ≤ i) && decide (i < y))) (x / 64) : Nat) : Int) := by
  have e : IntKind.u64.wrap (((2 ^ (y - x) - 1 : Nat) : Int) * 2 ^ (x % 64)) = ((wd (fun i => decide (x ≤ i) && decide (i < y)) (x / 64) : Nat) : Int) := by
    have e1 : wd (fun i => decide (x ≤ i) && decide (i < y)) (x / 64) = (2 ^ (y - x) - 1) * 2 ^ (x % 64) % 18446744073709551616 := by
      symm
      refine wd_eq _ _ _ (Nat.mod_lt _ (by omega)) fun j hj => ?_
      rw [shl_bit _ _ j hj, ones_bit]
      have q1 : (x % 64 ≤ j) = (x ≤ 64 * (x / 64) + j) := by apply propext; omega
      by_cases hr : x % 64 ≤ j
      · have q2 : (j - x % 64 < y - x) = (64 * (x / 64) + j < y) := by apply propext; omega
        simp only [q1, q2]
      · have q3 : ¬ x ≤ 64 * (x / 64) + j := by omega
        simp [hr, q3]
    rw [IntKind.wrap_u64, e1]
    have : ((2 : Int) ^ (x % 64)) = ((2 ^ (x % 64) : Nat) : Int) := by simp
    rw [this]
    omega
  rw [e, bits_or_u64_nat _ _ (wd_lt _ _) (wd_lt _ _), wd_or]

/-- The mask behind it. -/
theorem fill_mv (f : Nat → Bool) (x y : Nat) (h1 : x ≤ y) (h2 : y ≤ 64 * (x / 64) + 64) (hx : x < 1472) :
    (mv f).setIfInBounds (x / 64) (.int .u64 (bits .or .u64 (wd f (x / 64) : Int) (IntKind.u64.wrap (((2 ^ (y - x) - 1 : Nat) : Int) * 2 ^ (x % 64))))) = mv fun i => f i || (decide (x ≤ i) && decide (i < y)) := by
  rw [fill_word f x y h1, mv_set _ _ _ (by omega)]
  refine mv_ext fun i hi => ?_
  by_cases h : i / 64 = x / 64
  · rw [if_pos h]
  · rw [if_neg h]
    by_cases q : x ≤ i
    · have : ¬ i < y := by omega
      simp [this]
    · simp [q]

theorem fill_start (f : Nat → Bool) (x v : Int) (h : v = max x 0) : mv f = mv fun i => f i || (decide (x ≤ (i : Int)) && decide ((i : Int) < v)) := mv_ext fun i _ => by
  have : ¬ (x ≤ (i : Int) ∧ (i : Int) < v) := by omega
  by_cases h1 : x ≤ (i : Int)
  · have : ¬ (i : Int) < v := by omega
    simp [this]
  · simp [h1]
theorem fill_step (f : Nat → Bool) (x : Int) (k n : Nat) (h0 : x ≤ k) (hk : k ≤ n) : (mv fun i => (f i || (decide (x ≤ (i : Int)) && decide ((i : Int) < (k : Int)))) || (decide (k ≤ i) && decide (i < n))) = mv fun i => f i || (decide (x ≤ (i : Int)) && decide ((i : Int) < (n : Int))) := mv_ext fun i _ => by
  by_cases h1 : i < k
  · have h2 : ¬ k ≤ i := by omega
    have h3 : (i : Int) < k := by omega
    have h4 : (i : Int) < n := by omega
    simp [h2, h3, h4]
  · have h2 : k ≤ i := by omega
    have h3 : ¬ (i : Int) < k := by omega
    have h4 : ((i : Int) < n) = (i < n) := by apply propext; omega
    have h5 : x ≤ (i : Int) := by omega
    simp [h2, h3, h5]
theorem fill_put (f : Nat → Bool) (x : Int) (k n q r : Nat) (h0 : x ≤ k) (h1 : k ≤ n) (h2 : n ≤ 64 * (k / 64) + 64) (hx : k < 1472) (hq : q = k / 64) (hr : r = k % 64) (d : Nat) (hd : d = n - k)
    (F : Nat → Bool) (hF : F = fun i => f i || (decide (x ≤ (i : Int)) && decide ((i : Int) < (k : Int)))) :
    (mv F).setIfInBounds q (.int .u64 (bits .or .u64 (wd F q : Int) (IntKind.u64.wrap (((2 ^ d - 1 : Nat) : Int) * 2 ^ r)))) = mv fun i => f i || (decide (x ≤ (i : Int)) && decide ((i : Int) < (n : Int))) := by
  subst hq hr hd
  rw [fill_mv F k n h1 h2 hx, hF]
  exact fill_step f x k n h0 h1

theorem fill_end (f : Nat → Bool) (x y v : Int) (h1 : v = max x 0 ∨ (v ≤ y ∧ v ≤ 1440)) (h2 : y ≤ v ∨ 1440 ≤ v) : (mv fun i => f i || (decide (x ≤ (i : Int)) && decide ((i : Int) < v))) = mv fun i => f i || (decide (x ≤ (i : Int)) && decide ((i : Int) < y) && decide (i < 1440)) := mv_ext fun i _ => by
  congr 1
  rw [Bool.eq_iff_iff]
  simp only [Bool.and_eq_true, decide_eq_true_eq]
  omega

attribute [local go_sem ↓] Go.wp_at_zero Go.wp_at_succ
set_option maxRecDepth 10000 in
set_option maxHeartbeats 4000000 in
theorem fill_any (f : Nat → Bool) (g : Nat) (x y : Int) (w : World) (hg : w.heap[g]? = some (.cells (mv f) 29 (0, 0))) :
    Calls Tryz.prog 45 #[.pointer (some ⟨g, 0, none⟩), .agg #[.int .i64 x, .int .i64 y]] w fun e w' => e = .returned (.tuple #[]) ∧
      w'.heap[g]? = some (.cells (mv fun i => f i || (decide (x ≤ (i : Int)) && decide ((i : Int) < y) && decide (i < 1440))) 29 (0, 0)) ∧ Below g w w' := by
  have hgl := lt_of_block hg
  go_enter Tryz.func45, Tryz.ntmps45
  go_wp2
  go_region
  all_goals go_wp2
  all_goals
    go_loopw [4] (fun i wr => ∃ v : Int, i = .int .i64 v ∧ 0 ≤ v ∧ x ≤ v ∧ (v = max x 0 ∨ (v ≤ y ∧ v ≤ 1440)) ∧ wr.heap[g]? = some (.cells (mv fun i => f i || (decide (x ≤ (i : Int)) && decide ((i : Int) < v))) 29 (0, 0)) ∧ Below g w wr) (fun i _ => (1440 - intOf i).toNat)
    case atStart =>
      refine ⟨_, rfl, by omega, by omega, .inl (by omega), ?_, ?_⟩
      · exact blk_eq (blk_old _ _ _ hgl hg) (fill_start f x _ (by omega))
      · exact ((Below.refl _ _).alloc (Nat.le_of_lt hgl) _).drew
    case round =>
      obtain ⟨v, rfl, hv0, hvx, hv, hm, hbel⟩ := hrel
      by_cases hlt : v < y ∧ v < 1440
      · obtain ⟨hl1, hl2⟩ := hlt
        obtain ⟨k, rfl⟩ : ∃ k : Nat, v = k := ⟨v.toNat, by omega⟩
        obtain ⟨yn, rfl⟩ : ∃ yn : Nat, y = yn := ⟨y.toNat, by omega⟩
        generalize hF : (fun i : Nat => f i || (decide (x ≤ (i : Int)) && decide ((i : Int) < (k : Int)))) = F at hm
        have HF : Hid (F = fun i : Nat => f i || (decide (x ≤ (i : Int)) && decide ((i : Int) < (k : Int)))) := hF.symm
        obtain ⟨m, hm1⟩ : ∃ m : Nat, m = 64 * (k / 64) + 64 := ⟨_, rfl⟩
        have hmk : m ≤ k + 64 ∧ k < m ∧ m ≤ 1472 := by omega
        have HM : Hid (m = 64 * (k / 64) + 64) := hm1
        have cw := fun w => wordEnd_any k (by omega) w
        rw [← hm1] at cw
        have HV : Hid ((k : Int) = max x 0 ∨ ((k : Int) ≤ yn ∧ (k : Int) ≤ 1440)) := hv
        obtain ⟨q, hq⟩ : ∃ q : Nat, q = k / 64 := ⟨_, rfl⟩
        obtain ⟨r, hr⟩ : ∃ r : Nat, r = k % 64 := ⟨_, rfl⟩
        have HQ : Hid (q = k / 64) := hq
        have HR : Hid (r = k % 64) := hr
        have t1 : (k : Int) / 64 = (q : Int) := by omega
        have t2 : (k : Int) % 64 = (r : Int) := by omega
        have t3 : (k : Int).tdiv 64 = (q : Int) := by rw [Int.tdiv_eq_ediv_of_nonneg (by omega)]; exact t1
        have t4 : (k : Int).tmod 64 = (r : Int) := by rw [Int.tmod_eq_emod_of_nonneg (by omega)]; exact t2
        have cm := cell_mv hm q (by omega)
        have fm := frozen_of_row _ _ q _ _ hm
        have hi0 : (0 : Int) ≤ (q : Int) := by omega
        have hi1 : (q : Int) < 23 := by omega
        have hr0 : (0 : Int) ≤ (r : Int) := by omega
        have hr1 : (r : Int) < 64 := by omega
        have t5 : IntKind.i64.wrap (q : Int) = (q : Int) := by rw [IntKind.wrap_i64]; omega
        have t6 : IntKind.i64.wrap (r : Int) = (r : Int) := by rw [IntKind.wrap_i64]; omega
        have t7 : IntKind.i64.wrap ((m : Int) - (k : Int)) = (m : Int) - (k : Int) := by rw [IntKind.wrap_i64]; omega
        have t8 : IntKind.i64.wrap (1440 - (k : Int)) = 1440 - (k : Int) := by rw [IntKind.wrap_i64]; omega
        clear hv hm1 hq hr hF
        rcases (show (m ≤ yn ∧ m ≤ 1440) ∨ (yn < m ∧ yn ≤ 1440) ∨ (1440 < m ∧ 1440 < yn) from by omega) with hA | hA | hA
        · first
          | (exfalso; omega)
          | (have t9 : IntKind.i64.wrap ((m : Int) - (k : Int)) = (m : Int) - (k : Int) := by rw [IntKind.wrap_i64]; omega
             go_wp2_with (go_at_call 59; refine (cw _).mono ?_; rintro e w' ⟨rfl, rfl⟩)
             go_region_with ((go_at_call 60; refine (ones_at _ ?_ ?_ _).mono ?_; omega; omega; rintro e w2 ⟨rfl, rfl⟩))
             all_goals
               go_wp2
               go_roundw
               case rel =>
                 have hM := HM.out
                 refine ⟨m, rfl, by omega, by omega, .inr ⟨by omega, by omega⟩, ?_, (hbel.setCell (Nat.le_refl _) _).drew⟩
                 refine blk_eq (heap_setCell_same _ _ _ _ _ _ hm) ?_
                 exact fill_put f x k m q r hvx (by omega) (by omega) (by omega) HQ.out HR.out _ (by omega) F HF.out
               case measure => simp [intOf]; omega)
        · first
          | (exfalso; omega)
          | (have t9 : IntKind.i64.wrap ((yn : Int) - (k : Int)) = (yn : Int) - (k : Int) := by rw [IntKind.wrap_i64]; omega
             go_wp2_with (go_at_call 59; refine (cw _).mono ?_; rintro e w' ⟨rfl, rfl⟩)
             go_region_with ((go_at_call 60; refine (ones_at _ ?_ ?_ _).mono ?_; omega; omega; rintro e w2 ⟨rfl, rfl⟩))
             all_goals
               go_wp2
               go_roundw
               case rel =>
                 have hM := HM.out
                 refine ⟨yn, rfl, by omega, by omega, .inr ⟨by omega, by omega⟩, ?_, (hbel.setCell (Nat.le_refl _) _).drew⟩
                 refine blk_eq (heap_setCell_same _ _ _ _ _ _ hm) ?_
                 exact fill_put f x k yn q r hvx (by omega) (by omega) (by omega) HQ.out HR.out _ (by omega) F HF.out
               case measure => simp [intOf]; omega)
        · first
          | (exfalso; omega)
          | (have t9 : IntKind.i64.wrap ((1440 : Int) - (k : Int)) = (1440 : Int) - (k : Int) := by rw [IntKind.wrap_i64]; omega
             go_wp2_with (go_at_call 59; refine (cw _).mono ?_; rintro e w' ⟨rfl, rfl⟩)
             go_region_with ((go_at_call 60; refine (ones_at _ ?_ ?_ _).mono ?_; omega; omega; rintro e w2 ⟨rfl, rfl⟩))
             all_goals
               go_wp2
               go_roundw
               case rel =>
                 have hM := HM.out
                 refine ⟨1440, rfl, by omega, by omega, .inr ⟨by omega, by omega⟩, ?_, (hbel.setCell (Nat.le_refl _) _).drew⟩
                 refine blk_eq (heap_setCell_same _ _ _ _ _ _ hm) ?_
                 exact fill_put f x k 1440 q r hvx (by omega) (by omega) (by omega) HQ.out HR.out _ (by omega) F HF.out
               case measure => simp [intOf]; omega)
      · go_wp2
        go_end0
        exact ⟨rfl, blk_eq hm (fill_end f x y v hv (by omega)), hbel⟩
end Go.Proofs.YtllcpoibnmhghaaGreatDoor

/- What masks.Of comes to, over a row of spans that lies in memory. -/
namespace Go.Proofs.YtllcpoibnmhghaaGreatDoor
open Go.RowKit Msk

/-- A row of spans in memory: the slice's value and its spans. -/
def Row (w : World) (v : Value) (l : List (Int × Int)) : Prop :=
  (∃ c, v = .slice none 0 c ∧ l = []) ∨ ∃ g o c : Nat, v = .slice (some ⟨g, o, none⟩) l.length c ∧ l.length < 9223372036854775808 ∧ ∀ j, j < l.length → w.cell? ⟨g, o + j * 2, none⟩ = some (.int .i64 (l.getD j (0, 0)).1) ∧ w.cell? ⟨g, o + j * 2 + 1, none⟩ = some (.int .i64 (l.getD j (0, 0)).2)
theorem Row.later {w w' : World} {v : Value} {l : List (Int × Int)} (h : Row w v l) (hb : Below w.heap.size w w') : Row w' v l := by
  rcases h with h | ⟨g, o, c, hv, hl, hc⟩
  · exact .inl h
  · refine .inr ⟨g, o, c, hv, hl, fun j hj => ?_⟩
    obtain ⟨c1, c2⟩ := hc j hj
    exact ⟨(hb.cell (block_lt_of_cell c1)).trans c1, (hb.cell (block_lt_of_cell c2)).trans c2⟩

/-- Is a minute in one of the spans? -/
def inl (l : List (Int × Int)) (i : Nat) : Bool := l.any fun s => decide (s.1 ≤ (i : Int)) && decide ((i : Int) < s.2) && decide (i < 1440)
theorem inl_snoc (l : List (Int × Int)) (k : Nat) (hk : k < l.length) : (mv fun i => inl (l.take k) i || (decide ((l.getD k (0, 0)).1 ≤ (i : Int)) && decide ((i : Int) < (l.getD k (0, 0)).2) && decide (i < 1440))) = mv (inl (l.take (k + 1))) := by
  have e : l.take (k + 1) = l.take k ++ [l.getD k (0, 0)] := by
    rw [List.take_succ_eq_append_getElem hk]; simp [List.getD, hk]
  refine mv_ext fun i _ => ?_
  rw [e]
  simp [inl]

set_option maxHeartbeats 1000000 in
theorem of_any (v : Value) (l : List (Int × Int)) (w : World) (hl : Row w v l) :
    Calls Tryz.prog 33 #[v] w fun e w' => e = .returned (.agg (mv (inl l))) ∧ Below w.heap.size w w' := by
  have hz := mv_lit
  have h1 : ((w.alloc (.cells (mv fun _ => false) 29)).alloc (.cells (mv fun _ => false) 29)).heap[w.heap.size]? = some (.cells (mv fun _ => false) 29 (0, 0)) := by (repeat (first | refine blk_old _ _ _ (by simp only [size_alloc]; omega) ?_ | exact blk_new _ _ _ (by first | rfl | simp only [size_alloc])))
  have h2 : ((w.alloc (.cells (mv fun _ => false) 29)).alloc (.cells (mv fun _ => false) 29)).heap[w.heap.size + 1]? = some (.cells (mv fun _ => false) 29 (0, 0)) := by (repeat (first | refine blk_old _ _ _ (by simp only [size_alloc]; omega) ?_ | exact blk_new _ _ _ (by first | rfl | simp only [size_alloc])))
  have hb0 : Below w.heap.size w ((w.alloc (.cells (mv fun _ => false) 29)).alloc (.cells (mv fun _ => false) 29)) := ((Below.refl _ _).alloc (Nat.le_refl _) _).alloc (by simp) _
  rcases hl with ⟨c, rfl, rfl⟩ | ⟨g, o, c, rfl, hlen, hcell⟩
  · go_enter Tryz.func33, Tryz.ntmps33
    go_wp2
    refine wp_loop_rounds 1 ?_
    rw [rounds_succ]
    go_wp2_with (first
      | (refine wpList_load_row rfl 29 _ rfl _ rfl _ _ _ _ h2 maskType rfl (maskSize _) ?_)
      | (refine wpList_store_row rfl 29 _ _ rfl _ _ rfl rfl _ _ h1 (maskSize _) (by simp [mv_size]) (mv_all _) ?_))
    refine bodyPost_ret (v := .agg (mv (inl []))) ?_ rfl ⟨rfl, below_setRow hb0 (Nat.le_refl _) _⟩
    exact results_cell_row rfl _ _ w.heap.size _ _ _ _ rfl (setRow_heap _ _ _ _ _ _ h1) maskType rfl (maskSize _)
  · have HC : Hid (∀ j, j < l.length → w.cell? ⟨g, o + j * 2, none⟩ = some (.int .i64 (l.getD j (0, 0)).1) ∧ w.cell? ⟨g, o + j * 2 + 1, none⟩ = some (.int .i64 (l.getD j (0, 0)).2)) := hcell
    clear hcell
    go_enter Tryz.func33, Tryz.ntmps33
    go_wp2
    go_loopw [8] (fun i wr => ∃ k : Nat, k ≤ l.length ∧ i = .int .i64 k ∧ wr.heap[w.heap.size]? = some (.cells (mv fun _ => false) 29 (0, 0)) ∧ wr.heap[w.heap.size + 1]? = some (.cells (mv (inl (l.take k))) 29 (0, 0)) ∧ Below w.heap.size w wr) (fun i _ => l.length - (intOf i).toNat)
    case atStart => exact ⟨0, Nat.zero_le _, rfl, h1, blk_eq h2 (mv_ext fun i _ => by simp [inl]), hb0⟩
    case round =>
      obtain ⟨k, hk, rfl, ho, hm, hbel⟩ := hrel
      by_cases hlt : k < l.length
      · obtain ⟨c1, c2⟩ := HC.out k hlt
        have d1 := (hbel.cell (block_lt_of_cell c1)).trans c1
        have d2 := (hbel.cell (block_lt_of_cell c2)).trans c2
        have hsn := inl_snoc l k hlt
        generalize hs : l.getD k (0, 0) = s at d1 d2 hsn
        obtain ⟨x, y⟩ := s
        dsimp only at d1 d2 hsn
        have HS : Hid ((mv fun i => inl (l.take k) i || (decide (x ≤ (i : Int)) && decide ((i : Int) < y) && decide (i < 1440))) = mv (inl (l.take (k + 1)))) := hsn
        have hm2 := blk_old _ (.cells #[.int .i64 x, .int .i64 y] 56) _ (lt_of_block hm) hm
        have ho2 := blk_old _ (.cells #[.int .i64 x, .int .i64 y] 56) _ (lt_of_block ho) ho
        have hb2 := hbel.alloc hbel.size (.cells #[.int .i64 x, .int .i64 y] 56)
        clear c1 c2 hsn hs
        go_wp2_with (go_at_call 45; refine (fill_any _ _ _ _ _ hm2).mono ?_; rintro e w' ⟨rfl, hm', hb'⟩)
        go_roundw
        case rel => exact ⟨k + 1, by omega, by go_num, (hb'.block _ (by omega)).trans ho2, blk_eq hm' HS.out, hb2.trans (hb'.mono (by omega))⟩
        case measure => simp [intOf]; omega
      · have hkl : k = l.length := by omega
        subst hkl
        have hm2 := blk_eq hm (by rw [List.take_length])
        clear hm
        go_wp2_with (first
          | (refine wpList_load_row rfl 29 _ rfl _ rfl _ _ _ _ hm2 maskType rfl (maskSize _) ?_)
          | (refine wpList_store_row rfl 29 _ _ rfl _ _ rfl rfl _ _ ho (maskSize _) (by simp [mv_size]) (mv_all _) ?_))
        refine bodyPost_ret (v := .agg (mv (inl l))) ?_ rfl ⟨rfl, below_setRow hbel (Nat.le_refl _) _⟩
        exact results_cell_row rfl _ _ w.heap.size _ _ _ _ rfl (setRow_heap _ _ _ _ _ _ ho) maskType rfl (maskSize _)
end Go.Proofs.YtllcpoibnmhghaaGreatDoor
