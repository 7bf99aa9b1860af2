/- What masks.fill comes to. -/
import Derived.Test.YtaeengpppehlfaaCx02
import Derived.Deep.RegionHeld3
import Derived.Deep.DrawnRows
import Derived.Laws.CopyOwn
namespace Go.Proofs.Ytaeengpppehlfaa
open Go.RowKit Msk

/-- One word, filled from a minute on up to another one of the same word. -/
theorem fill_word (f : Nat → Bool) (x y : Nat) (h1 : x ≤ y) :
    bits .or .u64 (wd f (x / 64) : Int) (IntKind.u64.wrap (((2 ^ (y - x) - 1 : Nat) : Int) * 2 ^ (x % 64))) = ((wd (fun i => f i || (decide (x ≤ i) && decide (i < y))) (x / 64) : Nat) : Int) := by
  have e : IntKind.u64.wrap (((2 ^ (y - x) - 1 : Nat) : Int) * 2 ^ (x % 64)) = ((wd (fun i => decide (x ≤ i) && decide (i < y)) (x / 64) : Nat) : Int) := by
    have e1 : wd (fun i => decide (x ≤ i) && decide (i < y)) (x / 64) = (2 ^ (y - x) - 1) * 2 ^ (x % 64) % 18446744073709551616 := by
      symm
      refine wd_eq _ _ _ (Nat.mod_lt _ (by omega)) fun j hj => ?_
      rw [shl_bit _ _ j hj, ones_bit]
      have q1 : (x % 64 ≤ j) = (x ≤ 64 * (x / 64) + j) := by apply propext; omega
      by_cases hr : x % 64 ≤ j
      · have q2 : (j - x % 64 < y - x) = (64 * (x / 64) + j < y) := by apply propext; omega
        simp only [q1, q2]
      · have q3 : ¬ x ≤ 64 * (x / 64) + j := by omega
        simp [hr, q3]
    rw [IntKind.wrap_u64, e1]
    have : ((2 : Int) ^ (x % 64)) = ((2 ^ (x % 64) : Nat) : Int) := by simp
    rw [this]
    omega
  rw [e, bits_or_u64_nat _ _ (wd_lt _ _) (wd_lt _ _), wd_or]

/-- The mask behind it. -/
theorem fill_mv (f : Nat → Bool) (x y : Nat) (h1 : x ≤ y) (h2 : y ≤ 64 * (x / 64) + 64) (hx : x < 1472) :
    (mv f).setIfInBounds (x / 64) (.int .u64 (bits .or .u64 (wd f (x / 64) : Int) (IntKind.u64.wrap (((2 ^ (y - x) - 1 : Nat) : Int) * 2 ^ (x % 64))))) = mv fun i => f i || (decide (x ≤ i) && decide (i < y)) := by
  rw [fill_word f x y h1, mv_set _ _ _ (by omega)]
  refine mv_ext fun i hi => ?_
  by_cases h : i / 64 = x / 64
  · rw [if_pos h]
  · rw [if_neg h]
    by_cases q : x ≤ i
    · have : ¬ i < y := by omega
      simp [this]
    · simp [q]

theorem fill_start (f : Nat → Bool) (x v : Int) (h : v = max x 0) : mv f = mv fun i => f i || (decide (x ≤ (i : Int)) && decide ((i : Int) < v)) := mv_ext fun i _ => by
  have : ¬ (x ≤ (i : Int) ∧ (i : Int) < v) := by omega
  by_cases h1 : x ≤ (i : Int)
  · have : ¬ (i : Int) < v := by omega
    simp [this]
  · simp [h1]
theorem fill_step (f : Nat → Bool) (x : Int) (k n : Nat) (h0 : x ≤ k) (hk : k ≤ n) : (mv fun i => (f i || (decide (x ≤ (i : Int)) && decide ((i : Int) < (k : Int)))) || (decide (k ≤ i) && decide (i < n))) = mv fun i => f i || (decide (x ≤ (i : Int)) && decide ((i : Int) < (n : Int))) := mv_ext fun i _ => by
  by_cases h1 : i < k
  · have h2 : ¬ k ≤ i := by omega
    have h3 : (i : Int) < k := by omega
    have h4 : (i : Int) < n := by omega
    simp [h2, h3, h4]
  · have h2 : k ≤ i := by omega
    have h3 : ¬ (i : Int) < k := by omega
    have h4 : ((i : Int) < n) = (i < n) := by apply propext; omega
    have h5 : x ≤ (i : Int) := by omega
    simp [h2, h3, h5]
theorem fill_put (f : Nat → Bool) (x : Int) (k n q r : Nat) (h0 : x ≤ k) (h1 : k ≤ n) (h2 : n ≤ 64 * (k / 64) + 64) (hx : k < 1472) (hq : q = k / 64) (hr : r = k % 64) (d : Nat) (hd : d = n - k)
    (F : Nat → Bool) (hF : F = fun i => f i || (decide (x ≤ (i : Int)) && decide ((i : Int) < (k : Int)))) :
    (mv F).setIfInBounds q (.int .u64 (bits .or .u64 (wd F q : Int) (IntKind.u64.wrap (((2 ^ d - 1 : Nat) : Int) * 2 ^ r)))) = mv fun i => f i || (decide (x ≤ (i : Int)) && decide ((i : Int) < (n : Int))) := by
  subst hq hr hd
  rw [fill_mv F k n h1 h2 hx, hF]
  exact fill_step f x k n h0 h1

theorem fill_end (f : Nat → Bool) (x y v : Int) (h1 : v = max x 0 ∨ (v ≤ y ∧ v ≤ 1440)) (h2 : y ≤ v ∨ 1440 ≤ v) : (mv fun i => f i || (decide (x ≤ (i : Int)) && decide ((i : Int) < v))) = mv fun i => f i || (decide (x ≤ (i : Int)) && decide ((i : Int) < y) && decide (i < 1440)) := mv_ext fun i _ => by
  congr 1
  rw [Bool.eq_iff_iff]
  simp only [Bool.and_eq_true, decide_eq_true_eq]
  omega

attribute [local go_sem ↓] Go.wp_at_zero Go.wp_at_succ
set_option maxRecDepth 10000 in
set_option maxHeartbeats 4000000 in
theorem fill_any (f : Nat → Bool) (g : Nat) (x y : Int) (w : World) (hg : w.heap[g]? = some (.cells (mv f) 25 (0, 0))) :
    Calls Try.prog 76 #[.pointer (some ⟨g, 0, none⟩), .agg #[.int .i64 x, .int .i64 y]] w fun e w' => e = .returned (.tuple #[]) ∧
      w'.heap[g]? = some (.cells (mv fun i => f i || (decide (x ≤ (i : Int)) && decide ((i : Int) < y) && decide (i < 1440))) 25 (0, 0)) ∧ Below g w w' := by
  have hgl := lt_of_block hg
  go_enter Try.func76, Try.ntmps76
  go_wp2
  go_region
  all_goals go_wp2
  all_goals
    go_loopw [4] (fun i wr => ∃ v : Int, i = .int .i64 v ∧ 0 ≤ v ∧ x ≤ v ∧ (v = max x 0 ∨ (v ≤ y ∧ v ≤ 1440)) ∧ wr.heap[g]? = some (.cells (mv fun i => f i || (decide (x ≤ (i : Int)) && decide ((i : Int) < v))) 25 (0, 0)) ∧ Below g w wr) (fun i _ => (1440 - intOf i).toNat)
    case atStart =>
      refine ⟨_, rfl, by omega, by omega, .inl (by omega), ?_, ?_⟩
      · exact blk_eq (blk_old _ _ _ hgl hg) (fill_start f x _ (by omega))
      · exact ((Below.refl _ _).alloc (Nat.le_of_lt hgl) _).drew
    case round =>
      obtain ⟨v, rfl, hv0, hvx, hv, hm, hbel⟩ := hrel
      by_cases hlt : v < y ∧ v < 1440
      · obtain ⟨hl1, hl2⟩ := hlt
        obtain ⟨k, rfl⟩ : ∃ k : Nat, v = k := ⟨v.toNat, by omega⟩
        obtain ⟨yn, rfl⟩ : ∃ yn : Nat, y = yn := ⟨y.toNat, by omega⟩
        generalize hF : (fun i : Nat => f i || (decide (x ≤ (i : Int)) && decide ((i : Int) < (k : Int)))) = F at hm
        have HF : Hid (F = fun i : Nat => f i || (decide (x ≤ (i : Int)) && decide ((i : Int) < (k : Int)))) := hF.symm
        obtain ⟨m, hm1⟩ : ∃ m : Nat, m = 64 * (k / 64) + 64 := ⟨_, rfl⟩
        have hmk : m ≤ k + 64 ∧ k < m ∧ m ≤ 1472 := by omega
        have HM : Hid (m = 64 * (k / 64) + 64) := hm1
        have cw := fun w => wordEnd_any k (by omega) w
        rw [← hm1] at cw
        have HV : Hid ((k : Int) = max x 0 ∨ ((k : Int) ≤ yn ∧ (k : Int) ≤ 1440)) := hv
        obtain ⟨q, hq⟩ : ∃ q : Nat, q = k / 64 := ⟨_, rfl⟩
        obtain ⟨r, hr⟩ : ∃ r : Nat, r = k % 64 := ⟨_, rfl⟩
        have HQ : Hid (q = k / 64) := hq
        have HR : Hid (r = k % 64) := hr
        have t1 : (k : Int) / 64 = (q : Int) := by omega
        have t2 : (k : Int) % 64 = (r : Int) := by omega
        have t3 : (k : Int).tdiv 64 = (q : Int) := by rw [Int.tdiv_eq_ediv_of_nonneg (by omega)]; exact t1
        have t4 : (k : Int).tmod 64 = (r : Int) := by rw [Int.tmod_eq_emod_of_nonneg (by omega)]; exact t2
        have cm := cell_mv hm q (by omega)
        have fm := frozen_of_row _ _ q _ _ hm
        have hi0 : (0 : Int) ≤ (q : Int) := by omega
        have hi1 : (q : Int) < 23 := by omega
        have hr0 : (0 : Int) ≤ (r : Int) := by omega
        have hr1 : (r : Int) < 64 := by omega
        have t5 : IntKind.i64.wrap (q : Int) = (q : Int) := by rw [IntKind.wrap_i64]; omega
        have t6 : IntKind.i64.wrap (r : Int) = (r : Int) := by rw [IntKind.wrap_i64]; omega
        have t7 : IntKind.i64.wrap ((m : Int) - (k : Int)) = (m : Int) - (k : Int) := by rw [IntKind.wrap_i64]; omega
        have t8 : IntKind.i64.wrap (1440 - (k : Int)) = 1440 - (k : Int) := by rw [IntKind.wrap_i64]; omega
        clear hv hm1 hq hr hF
        rcases (show (m ≤ yn ∧ m ≤ 1440) ∨ (yn < m ∧ yn ≤ 1440) ∨ (1440 < m ∧ 1440 < yn) from by omega) with hA | hA | hA
        · first
          | (exfalso; omega)
          | (have t9 : IntKind.i64.wrap ((m : Int) - (k : Int)) = (m : Int) - (k : Int) := by rw [IntKind.wrap_i64]; omega
             go_wp2_with (go_at_call 82; refine (cw _).mono ?_; rintro e w' ⟨rfl, rfl⟩)
             go_region_with ((go_at_call 83; refine (ones_at _ ?_ ?_ _).mono ?_; omega; omega; rintro e w2 ⟨rfl, rfl⟩))
             all_goals
               go_wp2
               go_roundw
               case rel =>
                 have hM := HM.out
                 refine ⟨m, rfl, by omega, by omega, .inr ⟨by omega, by omega⟩, ?_, (hbel.setCell (Nat.le_refl _) _).drew⟩
                 refine blk_eq (heap_setCell_same _ _ _ _ _ _ hm) ?_
                 exact fill_put f x k m q r hvx (by omega) (by omega) (by omega) HQ.out HR.out _ (by omega) F HF.out
               case measure => simp [intOf]; omega)
        · first
          | (exfalso; omega)
          | (have t9 : IntKind.i64.wrap ((yn : Int) - (k : Int)) = (yn : Int) - (k : Int) := by rw [IntKind.wrap_i64]; omega
             go_wp2_with (go_at_call 82; refine (cw _).mono ?_; rintro e w' ⟨rfl, rfl⟩)
             go_region_with ((go_at_call 83; refine (ones_at _ ?_ ?_ _).mono ?_; omega; omega; rintro e w2 ⟨rfl, rfl⟩))
             all_goals
               go_wp2
               go_roundw
               case rel =>
                 have hM := HM.out
                 refine ⟨yn, rfl, by omega, by omega, .inr ⟨by omega, by omega⟩, ?_, (hbel.setCell (Nat.le_refl _) _).drew⟩
                 refine blk_eq (heap_setCell_same _ _ _ _ _ _ hm) ?_
                 exact fill_put f x k yn q r hvx (by omega) (by omega) (by omega) HQ.out HR.out _ (by omega) F HF.out
               case measure => simp [intOf]; omega)
        · first
          | (exfalso; omega)
          | (have t9 : IntKind.i64.wrap ((1440 : Int) - (k : Int)) = (1440 : Int) - (k : Int) := by rw [IntKind.wrap_i64]; omega
             go_wp2_with (go_at_call 82; refine (cw _).mono ?_; rintro e w' ⟨rfl, rfl⟩)
             go_region_with ((go_at_call 83; refine (ones_at _ ?_ ?_ _).mono ?_; omega; omega; rintro e w2 ⟨rfl, rfl⟩))
             all_goals
               go_wp2
               go_roundw
               case rel =>
                 have hM := HM.out
                 refine ⟨1440, rfl, by omega, by omega, .inr ⟨by omega, by omega⟩, ?_, (hbel.setCell (Nat.le_refl _) _).drew⟩
                 refine blk_eq (heap_setCell_same _ _ _ _ _ _ hm) ?_
                 exact fill_put f x k 1440 q r hvx (by omega) (by omega) (by omega) HQ.out HR.out _ (by omega) F HF.out
               case measure => simp [intOf]; omega)
      · go_wp2
        go_end0
        exact ⟨rfl, blk_eq hm (fill_end f x y v hv (by omega)), hbel⟩
end Go.Proofs.Ytaeengpppehlfaa

/- What masks.trim, combine, Union, Diff and Both come to. -/
namespace Go.Proofs.Ytaeengpppehlfaa
open Go.RowKit Msk

set_option maxHeartbeats 400000 in
theorem trim_any (f : Nat → Bool) (w : World) :
    Calls Try.prog 60 #[.agg (mv f)] w fun e w' => e = .returned (.agg (mv fun i => f i && decide (i < 1440))) ∧ Below w.heap.size w w' := by
  have g22 := mv_get f 22 (by omega)
  have e22 := mv_trim f
  have hz := mv_lit
  go_enter Try.func60, Try.ntmps60
  go_wp2_with (first
    | (refine wpList_load_row rfl 25 _ rfl _ rfl _ _ _ _ (heap_alloc2_old _ _ _) maskType rfl (maskSize _) ?_)
    | (refine wpList_store_row rfl 25 _ _ rfl _ _ rfl rfl _ _ (heap_alloc2_new _ _ _) (maskSize _) (by simp [mv_size]) (mv_all _) ?_))
  refine bodyPost_ret (v := .agg (mv fun i => f i && decide (i < 1440))) ?_ rfl ⟨rfl, ?_⟩
  · exact results_cell_row rfl _ _ (w.heap.size + 1) _ _ _ _ rfl (setRow_heap _ _ _ _ _ _ (heap_alloc2_new _ _ _)) maskType rfl (maskSize _)
  · exact below_setRow (((Below.refl _ _).alloc (Nat.le_refl _) _).alloc (by simp) _) (by omega) _

attribute [local go_sem ↓] Go.wp_at_zero Go.wp_at_succ
set_option maxRecDepth 100000 in
set_option maxHeartbeats 1000000 in
theorem combine_any (K : Nat) (o : Bool → Bool → Bool) (hK : ∀ (f g : Nat → Bool) (k : Nat) (w : World), Calls Try.prog K #[.int .u64 (wd f k : Int), .int .u64 (wd g k : Int)] w fun e w' => e = .returned (.int .u64 (wd (fun i => o (f i) (g i)) k : Int)) ∧ w' = w)
    (eK : ∀ args w, (callFunc K args).run Try.prog w = .ok (.enter K args) w) (a b : Nat → Bool) (w : World) :
    Calls Try.prog 41 #[.agg (mv a), .agg (mv b), .func (.func K) #[] #[]] w fun e w' => e = .returned (.agg (mv fun i => o (a i) (b i) && decide (i < 1440))) ∧ Below w.heap.size w w' := by
  have hz := mv_lit
  go_enter Try.func41, Try.ntmps41
  go_wp2
  go_loopw [9] (fun i wr => ∃ k : Nat, k ≤ 23 ∧ i = .int .i64 k ∧ wr.heap[w.heap.size]? = some (.cells (mv a) 25 (0, 0)) ∧ wr.heap[w.heap.size + 1]? = some (.cells (mv b) 25 (0, 0)) ∧ wr.heap[w.heap.size + 1 + 1]? = some (.cells (mv fun _ => false) 25 (0, 0)) ∧
      wr.heap[w.heap.size + 1 + 1 + 1]? = some (.cells (mv fun i => decide (i < 64 * k) && o (a i) (b i)) 25 (0, 0)) ∧ Below w.heap.size w wr) (fun i _ => 23 - (intOf i).toNat)
  case atStart =>
    refine ⟨0, by omega, rfl, ?_, ?_, ?_, ?_, ?_⟩
    · (repeat (first | refine blk_old _ _ _ (by simp only [size_alloc]; omega) ?_ | exact blk_new _ _ _ (by first | rfl | simp only [size_alloc])))
    · (repeat (first | refine blk_old _ _ _ (by simp only [size_alloc]; omega) ?_ | exact blk_new _ _ _ (by first | rfl | simp only [size_alloc])))
    · (repeat (first | refine blk_old _ _ _ (by simp only [size_alloc]; omega) ?_ | exact blk_new _ _ _ (by first | rfl | simp only [size_alloc])))
    · refine blk_eq ?_ (mv_start _)
      (repeat (first | refine blk_old _ _ _ (by simp only [size_alloc]; omega) ?_ | exact blk_new _ _ _ (by first | rfl | simp only [size_alloc])))
    · exact ((((Below.refl _ _).alloc (Nat.le_refl _) _).alloc (by simp) _).alloc (by simp; omega) _).alloc (by simp; omega) _
  case round =>
    obtain ⟨k, hk, rfl, ha, hb, ho, hm, hbel⟩ := hrel
    by_cases hlt : k < 23
    · have ca := cell_mv ha k hlt
      have cb := cell_mv hb k hlt
      have cm := cell_mv hm k hlt
      have fm := frozen_of_row _ _ k _ _ hm
      have hi0 : (0 : Int) ≤ (k : Int) := by omega
      have hi1 : (k : Int) < 23 := by omega
      have n1 : w.heap.size + 1 + 1 + 1 ≠ w.heap.size := by omega
      have n2 : w.heap.size + 1 + 1 ≠ w.heap.size := by omega
      go_wp2
      go_region_held3 (fun w' => w'.cell? ⟨w.heap.size, k, none⟩ = some (.int .u64 (wd a k : Int)) ∧ w'.cell? ⟨w.heap.size + 1, k, none⟩ = some (.int .u64 (wd b k : Int)))
        (go_keep)
        ((refine (hK a b k _).mono ?_; rintro e w' ⟨rfl, rfl⟩))
      go_wp2
      go_roundw
      case rel =>
        refine ⟨k + 1, by omega, by go_num, ?_, ?_, ?_, ?_, ?_⟩
        · exact (heap_setCell_other _ _ _ _ (by dsimp only; omega)).trans ha
        · exact (heap_setCell_other _ _ _ _ (by dsimp only; omega)).trans hb
        · exact (heap_setCell_other _ _ _ _ (by dsimp only; omega)).trans ho
        · exact blk_eq (heap_setCell_same _ _ _ _ _ _ hm) (mv_step k hlt fun i => o (a i) (b i))
        · exact (hbel.setCell (by dsimp only; omega) _).drew
      case measure => simp [intOf]; omega
    · have hk23 : k = 23 := by omega
      subst hk23
      have hm' := blk_eq hm (mv_full fun i => o (a i) (b i))
      clear hm
      go_wp2_with (first
        | (refine wpList_load_row rfl 25 _ rfl _ rfl _ _ _ _ hm' maskType rfl (maskSize _) ?_)
        | (go_at_call 60; refine (trim_any _ _).mono ?_; rintro e w' ⟨rfl, hb'⟩; have ho' := (hb'.block (w.heap.size + 1 + 1) (lt_of_block ho)).trans ho)
        | (refine wpList_store_row rfl 25 _ _ rfl _ _ rfl rfl _ _ (by assumption) (maskSize _) (by simp [mv_size]) (mv_all _) ?_))
      refine bodyPost_ret (v := .agg (mv fun i => o (a i) (b i) && decide (i < 1440))) ?_ rfl ⟨rfl, ?_⟩
      · exact results_cell_row rfl _ _ (w.heap.size + 1 + 1) _ _ _ _ rfl (setRow_heap _ _ _ _ _ _ ho') maskType rfl (maskSize _)
      · exact below_setRow (hbel.trans (hb'.mono hbel.size)) (by omega) _

theorem or_any (f g : Nat → Bool) (k : Nat) (w : World) : Calls Try.prog 77 #[.int .u64 (wd f k : Int), .int .u64 (wd g k : Int)] w fun e w' => e = .returned (.int .u64 (wd (fun i => f i || g i) k : Int)) ∧ w' = w := by
  have e1 := bits_or_u64_nat _ _ (wd_lt f k) (wd_lt g k)
  rw [wd_or] at e1
  go_enter Try.func77, Try.ntmps77
  go_wp2
  go_ret
  exact ⟨rfl, rfl⟩
theorem and_any (f g : Nat → Bool) (k : Nat) (w : World) : Calls Try.prog 42 #[.int .u64 (wd f k : Int), .int .u64 (wd g k : Int)] w fun e w' => e = .returned (.int .u64 (wd (fun i => f i && g i) k : Int)) ∧ w' = w := by
  have e1 := bits_and_u64_nat _ _ (wd_lt f k) (wd_lt g k)
  rw [wd_and] at e1
  go_enter Try.func42, Try.ntmps42
  go_wp2
  go_ret
  exact ⟨rfl, rfl⟩
theorem not_any (f g : Nat → Bool) (k : Nat) (w : World) : Calls Try.prog 78 #[.int .u64 (wd f k : Int), .int .u64 (wd g k : Int)] w fun e w' => e = .returned (.int .u64 (wd (fun i => f i && !g i) k : Int)) ∧ w' = w := by
  have e1 := andNot_nat _ _ (wd_lt f k) (wd_lt g k)
  rw [wd_andNot] at e1
  go_enter Try.func78, Try.ntmps78
  go_wp2
  go_ret
  exact ⟨rfl, rfl⟩

set_option maxHeartbeats 400000 in
theorem union_any (a b : Nat → Bool) (w : World) :
    Calls Try.prog 66 #[.agg (mv a), .agg (mv b)] w fun e w' => e = .returned (.agg (mv fun i => (a i || b i) && decide (i < 1440))) ∧ Below w.heap.size w w' := by
  have hz := mv_lit
  have h1 : (((w.alloc (.cells (mv a) 25)).alloc (.cells (mv b) 25)).alloc (.cells (mv fun _ => false) 25)).heap[w.heap.size]? = some (.cells (mv a) 25 (0, 0)) := by (repeat (first | refine blk_old _ _ _ (by simp only [size_alloc]; omega) ?_ | exact blk_new _ _ _ (by first | rfl | simp only [size_alloc])))
  have h2 : (((w.alloc (.cells (mv a) 25)).alloc (.cells (mv b) 25)).alloc (.cells (mv fun _ => false) 25)).heap[w.heap.size + 1]? = some (.cells (mv b) 25 (0, 0)) := by (repeat (first | refine blk_old _ _ _ (by simp only [size_alloc]; omega) ?_ | exact blk_new _ _ _ (by first | rfl | simp only [size_alloc])))
  have h3 : (((w.alloc (.cells (mv a) 25)).alloc (.cells (mv b) 25)).alloc (.cells (mv fun _ => false) 25)).heap[w.heap.size + 1 + 1]? = some (.cells (mv fun _ => false) 25 (0, 0)) := by (repeat (first | refine blk_old _ _ _ (by simp only [size_alloc]; omega) ?_ | exact blk_new _ _ _ (by first | rfl | simp only [size_alloc])))
  have hb0 : Below w.heap.size w (((w.alloc (.cells (mv a) 25)).alloc (.cells (mv b) 25)).alloc (.cells (mv fun _ => false) 25)) := (((Below.refl _ _).alloc (Nat.le_refl _) _).alloc (by simp) _).alloc (by simp only [size_alloc]; omega) _
  go_enter Try.func66, Try.ntmps66
  go_wp2_with (first
    | (refine wpList_load_row rfl 25 _ rfl _ rfl _ _ _ _ h1 maskType rfl (maskSize _) ?_)
    | (refine wpList_load_row rfl 25 _ rfl _ rfl _ _ _ _ h2 maskType rfl (maskSize _) ?_)
    | (go_at_call 41; refine (combine_any 77 (fun x y => x || y) or_any (fun _ _ => by simp [go_sem]) a b _).mono ?_; rintro e w' ⟨rfl, hb'⟩; have ho' := (hb'.block _ (lt_of_block h3)).trans h3)
    | (refine wpList_store_row rfl 25 _ _ rfl _ _ rfl rfl _ _ (by assumption) (maskSize _) (by simp [mv_size]) (mv_all _) ?_))
  refine bodyPost_ret (v := .agg (mv fun i => (a i || b i) && decide (i < 1440))) ?_ rfl ⟨rfl, ?_⟩
  · exact results_cell_row rfl _ _ (w.heap.size + 1 + 1) _ _ _ _ rfl (setRow_heap _ _ _ _ _ _ ho') maskType rfl (maskSize _)
  · exact below_setRow (hb0.trans (hb'.mono hb0.size)) (by omega) _

set_option maxHeartbeats 400000 in
theorem diff_any (a b : Nat → Bool) (w : World) :
    Calls Try.prog 67 #[.agg (mv a), .agg (mv b)] w fun e w' => e = .returned (.agg (mv fun i => (a i && !b i) && decide (i < 1440))) ∧ Below w.heap.size w w' := by
  have hz := mv_lit
  have h1 : (((w.alloc (.cells (mv a) 25)).alloc (.cells (mv b) 25)).alloc (.cells (mv fun _ => false) 25)).heap[w.heap.size]? = some (.cells (mv a) 25 (0, 0)) := by (repeat (first | refine blk_old _ _ _ (by simp only [size_alloc]; omega) ?_ | exact blk_new _ _ _ (by first | rfl | simp only [size_alloc])))
  have h2 : (((w.alloc (.cells (mv a) 25)).alloc (.cells (mv b) 25)).alloc (.cells (mv fun _ => false) 25)).heap[w.heap.size + 1]? = some (.cells (mv b) 25 (0, 0)) := by (repeat (first | refine blk_old _ _ _ (by simp only [size_alloc]; omega) ?_ | exact blk_new _ _ _ (by first | rfl | simp only [size_alloc])))
  have h3 : (((w.alloc (.cells (mv a) 25)).alloc (.cells (mv b) 25)).alloc (.cells (mv fun _ => false) 25)).heap[w.heap.size + 1 + 1]? = some (.cells (mv fun _ => false) 25 (0, 0)) := by (repeat (first | refine blk_old _ _ _ (by simp only [size_alloc]; omega) ?_ | exact blk_new _ _ _ (by first | rfl | simp only [size_alloc])))
  have hb0 : Below w.heap.size w (((w.alloc (.cells (mv a) 25)).alloc (.cells (mv b) 25)).alloc (.cells (mv fun _ => false) 25)) := (((Below.refl _ _).alloc (Nat.le_refl _) _).alloc (by simp) _).alloc (by simp only [size_alloc]; omega) _
  go_enter Try.func67, Try.ntmps67
  go_wp2_with (first
    | (refine wpList_load_row rfl 25 _ rfl _ rfl _ _ _ _ h1 maskType rfl (maskSize _) ?_)
    | (refine wpList_load_row rfl 25 _ rfl _ rfl _ _ _ _ h2 maskType rfl (maskSize _) ?_)
    | (go_at_call 41; refine (combine_any 78 (fun x y => x && !y) not_any (fun _ _ => by simp [go_sem]) a b _).mono ?_; rintro e w' ⟨rfl, hb'⟩; have ho' := (hb'.block _ (lt_of_block h3)).trans h3)
    | (refine wpList_store_row rfl 25 _ _ rfl _ _ rfl rfl _ _ (by assumption) (maskSize _) (by simp [mv_size]) (mv_all _) ?_))
  refine bodyPost_ret (v := .agg (mv fun i => (a i && !b i) && decide (i < 1440))) ?_ rfl ⟨rfl, ?_⟩
  · exact results_cell_row rfl _ _ (w.heap.size + 1 + 1) _ _ _ _ rfl (setRow_heap _ _ _ _ _ _ ho') maskType rfl (maskSize _)
  · exact below_setRow (hb0.trans (hb'.mono hb0.size)) (by omega) _

set_option maxHeartbeats 400000 in
theorem both_any (a b : Nat → Bool) (w : World) :
    Calls Try.prog 14 #[.agg (mv a), .agg (mv b)] w fun e w' => e = .returned (.agg (mv fun i => (a i && b i) && decide (i < 1440))) ∧ Below w.heap.size w w' := by
  have hz := mv_lit
  have h1 : (((w.alloc (.cells (mv a) 25)).alloc (.cells (mv b) 25)).alloc (.cells (mv fun _ => false) 25)).heap[w.heap.size]? = some (.cells (mv a) 25 (0, 0)) := by (repeat (first | refine blk_old _ _ _ (by simp only [size_alloc]; omega) ?_ | exact blk_new _ _ _ (by first | rfl | simp only [size_alloc])))
  have h2 : (((w.alloc (.cells (mv a) 25)).alloc (.cells (mv b) 25)).alloc (.cells (mv fun _ => false) 25)).heap[w.heap.size + 1]? = some (.cells (mv b) 25 (0, 0)) := by (repeat (first | refine blk_old _ _ _ (by simp only [size_alloc]; omega) ?_ | exact blk_new _ _ _ (by first | rfl | simp only [size_alloc])))
  have h3 : (((w.alloc (.cells (mv a) 25)).alloc (.cells (mv b) 25)).alloc (.cells (mv fun _ => false) 25)).heap[w.heap.size + 1 + 1]? = some (.cells (mv fun _ => false) 25 (0, 0)) := by (repeat (first | refine blk_old _ _ _ (by simp only [size_alloc]; omega) ?_ | exact blk_new _ _ _ (by first | rfl | simp only [size_alloc])))
  have hb0 : Below w.heap.size w (((w.alloc (.cells (mv a) 25)).alloc (.cells (mv b) 25)).alloc (.cells (mv fun _ => false) 25)) := (((Below.refl _ _).alloc (Nat.le_refl _) _).alloc (by simp) _).alloc (by simp only [size_alloc]; omega) _
  go_enter Try.func14, Try.ntmps14
  go_wp2_with (first
    | (refine wpList_load_row rfl 25 _ rfl _ rfl _ _ _ _ h1 maskType rfl (maskSize _) ?_)
    | (refine wpList_load_row rfl 25 _ rfl _ rfl _ _ _ _ h2 maskType rfl (maskSize _) ?_)
    | (go_at_call 41; refine (combine_any 42 (fun x y => x && y) and_any (fun _ _ => by simp [go_sem]) a b _).mono ?_; rintro e w' ⟨rfl, hb'⟩; have ho' := (hb'.block _ (lt_of_block h3)).trans h3)
    | (refine wpList_store_row rfl 25 _ _ rfl _ _ rfl rfl _ _ (by assumption) (maskSize _) (by simp [mv_size]) (mv_all _) ?_))
  refine bodyPost_ret (v := .agg (mv fun i => (a i && b i) && decide (i < 1440))) ?_ rfl ⟨rfl, ?_⟩
  · exact results_cell_row rfl _ _ (w.heap.size + 1 + 1) _ _ _ _ rfl (setRow_heap _ _ _ _ _ _ ho') maskType rfl (maskSize _)
  · exact below_setRow (hb0.trans (hb'.mono hb0.size)) (by omega) _

end Go.Proofs.Ytaeengpppehlfaa

/- What masks.Of comes to, over a row of spans that lies in memory. -/
namespace Go.Proofs.Ytaeengpppehlfaa
open Go.RowKit Msk

/-- A row of spans in memory: the slice's value and its spans. -/
def Row (w : World) (v : Value) (l : List (Int × Int)) : Prop :=
  (∃ c, v = .slice none 0 c ∧ l = []) ∨ ∃ g o c : Nat, v = .slice (some ⟨g, o, none⟩) l.length c ∧ l.length < 9223372036854775808 ∧ ∀ j, j < l.length → w.cell? ⟨g, o + j * 2, none⟩ = some (.int .i64 (l.getD j (0, 0)).1) ∧ w.cell? ⟨g, o + j * 2 + 1, none⟩ = some (.int .i64 (l.getD j (0, 0)).2)
theorem Row.later {w w' : World} {v : Value} {l : List (Int × Int)} (h : Row w v l) (hb : Below w.heap.size w w') : Row w' v l := by
  rcases h with h | ⟨g, o, c, hv, hl, hc⟩
  · exact .inl h
  · refine .inr ⟨g, o, c, hv, hl, fun j hj => ?_⟩
    obtain ⟨c1, c2⟩ := hc j hj
    exact ⟨(hb.cell (block_lt_of_cell c1)).trans c1, (hb.cell (block_lt_of_cell c2)).trans c2⟩

/-- Is a minute in one of the spans? -/
def inl (l : List (Int × Int)) (i : Nat) : Bool := l.any fun s => decide (s.1 ≤ (i : Int)) && decide ((i : Int) < s.2) && decide (i < 1440)
theorem inl_snoc (l : List (Int × Int)) (k : Nat) (hk : k < l.length) : (mv fun i => inl (l.take k) i || (decide ((l.getD k (0, 0)).1 ≤ (i : Int)) && decide ((i : Int) < (l.getD k (0, 0)).2) && decide (i < 1440))) = mv (inl (l.take (k + 1))) := by
  have e : l.take (k + 1) = l.take k ++ [l.getD k (0, 0)] := by
    rw [List.take_succ_eq_append_getElem hk]; simp [List.getD, hk]
  refine mv_ext fun i _ => ?_
  rw [e]
  simp [inl]

set_option maxHeartbeats 1000000 in
theorem of_any (v : Value) (l : List (Int × Int)) (w : World) (hl : Row w v l) :
    Calls Try.prog 64 #[v] w fun e w' => e = .returned (.agg (mv (inl l))) ∧ Below w.heap.size w w' := by
  have hz := mv_lit
  have h1 : ((w.alloc (.cells (mv fun _ => false) 25)).alloc (.cells (mv fun _ => false) 25)).heap[w.heap.size]? = some (.cells (mv fun _ => false) 25 (0, 0)) := by (repeat (first | refine blk_old _ _ _ (by simp only [size_alloc]; omega) ?_ | exact blk_new _ _ _ (by first | rfl | simp only [size_alloc])))
  have h2 : ((w.alloc (.cells (mv fun _ => false) 25)).alloc (.cells (mv fun _ => false) 25)).heap[w.heap.size + 1]? = some (.cells (mv fun _ => false) 25 (0, 0)) := by (repeat (first | refine blk_old _ _ _ (by simp only [size_alloc]; omega) ?_ | exact blk_new _ _ _ (by first | rfl | simp only [size_alloc])))
  have hb0 : Below w.heap.size w ((w.alloc (.cells (mv fun _ => false) 25)).alloc (.cells (mv fun _ => false) 25)) := ((Below.refl _ _).alloc (Nat.le_refl _) _).alloc (by simp) _
  rcases hl with ⟨c, rfl, rfl⟩ | ⟨g, o, c, rfl, hlen, hcell⟩
  · go_enter Try.func64, Try.ntmps64
    go_wp2
    refine wp_loop_rounds 1 ?_
    rw [rounds_succ]
    go_wp2_with (first
      | (refine wpList_load_row rfl 25 _ rfl _ rfl _ _ _ _ h2 maskType rfl (maskSize _) ?_)
      | (refine wpList_store_row rfl 25 _ _ rfl _ _ rfl rfl _ _ h1 (maskSize _) (by simp [mv_size]) (mv_all _) ?_))
    refine bodyPost_ret (v := .agg (mv (inl []))) ?_ rfl ⟨rfl, below_setRow hb0 (Nat.le_refl _) _⟩
    exact results_cell_row rfl _ _ w.heap.size _ _ _ _ rfl (setRow_heap _ _ _ _ _ _ h1) maskType rfl (maskSize _)
  · have HC : Hid (∀ j, j < l.length → w.cell? ⟨g, o + j * 2, none⟩ = some (.int .i64 (l.getD j (0, 0)).1) ∧ w.cell? ⟨g, o + j * 2 + 1, none⟩ = some (.int .i64 (l.getD j (0, 0)).2)) := hcell
    clear hcell
    go_enter Try.func64, Try.ntmps64
    go_wp2
    go_loopw [8] (fun i wr => ∃ k : Nat, k ≤ l.length ∧ i = .int .i64 k ∧ wr.heap[w.heap.size]? = some (.cells (mv fun _ => false) 25 (0, 0)) ∧ wr.heap[w.heap.size + 1]? = some (.cells (mv (inl (l.take k))) 25 (0, 0)) ∧ Below w.heap.size w wr) (fun i _ => l.length - (intOf i).toNat)
    case atStart => exact ⟨0, Nat.zero_le _, rfl, h1, blk_eq h2 (mv_ext fun i _ => by simp [inl]), hb0⟩
    case round =>
      obtain ⟨k, hk, rfl, ho, hm, hbel⟩ := hrel
      by_cases hlt : k < l.length
      · obtain ⟨c1, c2⟩ := HC.out k hlt
        have d1 := (hbel.cell (block_lt_of_cell c1)).trans c1
        have d2 := (hbel.cell (block_lt_of_cell c2)).trans c2
        have hsn := inl_snoc l k hlt
        generalize hs : l.getD k (0, 0) = s at d1 d2 hsn
        obtain ⟨x, y⟩ := s
        dsimp only at d1 d2 hsn
        have HS : Hid ((mv fun i => inl (l.take k) i || (decide (x ≤ (i : Int)) && decide ((i : Int) < y) && decide (i < 1440))) = mv (inl (l.take (k + 1)))) := hsn
        have hm2 := blk_old _ (.cells #[.int .i64 x, .int .i64 y] 97) _ (lt_of_block hm) hm
        have ho2 := blk_old _ (.cells #[.int .i64 x, .int .i64 y] 97) _ (lt_of_block ho) ho
        have hb2 := hbel.alloc hbel.size (.cells #[.int .i64 x, .int .i64 y] 97)
        clear c1 c2 hsn hs
        go_wp2_with (go_at_call 76; refine (fill_any _ _ _ _ _ hm2).mono ?_; rintro e w' ⟨rfl, hm', hb'⟩)
        go_roundw
        case rel => exact ⟨k + 1, by omega, by go_num, (hb'.block _ (by omega)).trans ho2, blk_eq hm' HS.out, hb2.trans (hb'.mono (by omega))⟩
        case measure => simp [intOf]; omega
      · have hkl : k = l.length := by omega
        subst hkl
        have hm2 := blk_eq hm (by rw [List.take_length])
        clear hm
        go_wp2_with (first
          | (refine wpList_load_row rfl 25 _ rfl _ rfl _ _ _ _ hm2 maskType rfl (maskSize _) ?_)
          | (refine wpList_store_row rfl 25 _ _ rfl _ _ rfl rfl _ _ ho (maskSize _) (by simp [mv_size]) (mv_all _) ?_))
        refine bodyPost_ret (v := .agg (mv (inl l))) ?_ rfl ⟨rfl, below_setRow hbel (Nat.le_refl _) _⟩
        exact results_cell_row rfl _ _ w.heap.size _ _ _ _ rfl (setRow_heap _ _ _ _ _ _ ho) maskType rfl (maskSize _)
end Go.Proofs.Ytaeengpppehlfaa

/- What is wrong with an instruction: vm.instruction, and what it calls. -/
namespace Go.Proofs.Ytaeengpppehlfaa
open Go.RowKit Msk Vx

theorem hidv {p : Prop} (h : p) : Hid p := h
theorem isNumber_any (n m : Int) (w : World) : Calls Try.prog 19 #[.int .i64 n, .int .i64 m] w fun e w' => e = .returned (.bool (decide (0 ≤ n ∧ n < m))) ∧ w' = w := by
  by_cases h1 : 0 ≤ n
  · by_cases h2 : n < m
    · rw [decide_eq_true (⟨h1, h2⟩ : 0 ≤ n ∧ n < m)]
      go_enter Try.func19, Try.ntmps19
      go_wp2
      go_ret
      exact ⟨rfl, rfl⟩
    · rw [decide_eq_false (fun e : 0 ≤ n ∧ n < m => h2 e.2)]
      go_enter Try.func19, Try.ntmps19
      go_wp2
      go_ret
      exact ⟨rfl, rfl⟩
  · rw [decide_eq_false (fun e : 0 ≤ n ∧ n < m => h1 e.1)]
    go_enter Try.func19, Try.ntmps19
    go_wp2
    go_ret
    exact ⟨rfl, rfl⟩
theorem within_any (n lo hi : Int) (w : World) : Calls Try.prog 56 #[.int .i64 n, .int .i64 lo, .int .i64 hi] w fun e w' => e = .returned (.bool (decide (lo ≤ n ∧ n ≤ hi))) ∧ w' = w := by
  by_cases h1 : lo ≤ n
  · by_cases h2 : n ≤ hi
    · rw [decide_eq_true (⟨h1, h2⟩ : lo ≤ n ∧ n ≤ hi)]
      go_enter Try.func56, Try.ntmps56
      go_wp2
      go_ret
      exact ⟨rfl, rfl⟩
    · rw [decide_eq_false (fun e : lo ≤ n ∧ n ≤ hi => h2 e.2)]
      go_enter Try.func56, Try.ntmps56
      go_wp2
      go_ret
      exact ⟨rfl, rfl⟩
  · rw [decide_eq_false (fun e : lo ≤ n ∧ n ≤ hi => h1 e.1)]
    go_enter Try.func56, Try.ntmps56
    go_wp2
    go_ret
    exact ⟨rfl, rfl⟩
theorem unless_any (b : Bool) (e : Int) (w : World) : Calls Try.prog 70 #[.bool b, .int .i64 e] w fun r w' => r = .returned (.int .i64 (if b = true then 0 else e)) ∧ w' = w := by
  cases b
  · go_enter Try.func70, Try.ntmps70
    go_wp2
    go_ret
    exact ⟨rfl, rfl⟩
  · go_enter Try.func70, Try.ntmps70
    go_wp2
    go_ret
    exact ⟨rfl, rfl⟩
/-- A row of spans in memory; where there are none, anywhere. -/
def RowV (w : World) (v : Value) (l : List (Int × Int)) : Prop := (l = [] ∧ ∃ p c, v = .slice p 0 c) ∨ Row w v l
theorem RowV.later {w w' : World} {v : Value} {l : List (Int × Int)} (h : RowV w v l) (hb : Below w.heap.size w w') : RowV w' v l := by
  rcases h with h | h
  · exact .inl h
  · exact .inr (h.later hb)
theorem RowV.form {w : World} {v : Value} {l : List (Int × Int)} (h : RowV w v l) : ∃ p c, v = .slice p l.length c ∧ l.length < 9223372036854775808 ∧ ∀ (j : Nat) (s : Int × Int), l[j]? = some s → ∃ g o : Nat, p = some ⟨g, o, none⟩ ∧ w.cell? ⟨g, o + j * 2, none⟩ = some (.int .i64 s.1) ∧ w.cell? ⟨g, o + j * 2 + 1, none⟩ = some (.int .i64 s.2) := by
  rcases h with ⟨rfl, p, c, rfl⟩ | ⟨c, rfl, rfl⟩ | ⟨g, o, c, rfl, hl, hc⟩
  · exact ⟨p, c, rfl, by decide, fun j s hj => by simp at hj⟩
  · exact ⟨none, c, rfl, by decide, fun j s hj => by simp at hj⟩
  · refine ⟨_, c, rfl, hl, fun j s hj => ⟨g, o, rfl, ?_⟩⟩
    have h1 := (List.getElem?_eq_some_iff.1 hj).1
    have := hc j h1
    have e : l.getD j (0, 0) = s := by simp [List.getD, hj]
    rw [e] at this
    exact this
set_option maxHeartbeats 1000000 in
theorem of_nil (p : Option Addr) (c : Nat) (w : World) :
    Calls Try.prog 64 #[.slice p 0 c] w fun e w' => e = .returned (.agg (mv (inl []))) ∧ Below w.heap.size w w' := by
  have hz := mv_lit
  have h1 : ((w.alloc (.cells (mv fun _ => false) 25)).alloc (.cells (mv fun _ => false) 25)).heap[w.heap.size]? = some (.cells (mv fun _ => false) 25 (0, 0)) := by (repeat (first | refine blk_old _ _ _ (by simp only [size_alloc]; omega) ?_ | exact blk_new _ _ _ (by first | rfl | simp only [size_alloc])))
  have h2 : ((w.alloc (.cells (mv fun _ => false) 25)).alloc (.cells (mv fun _ => false) 25)).heap[w.heap.size + 1]? = some (.cells (mv fun _ => false) 25 (0, 0)) := by (repeat (first | refine blk_old _ _ _ (by simp only [size_alloc]; omega) ?_ | exact blk_new _ _ _ (by first | rfl | simp only [size_alloc])))
  have hb0 : Below w.heap.size w ((w.alloc (.cells (mv fun _ => false) 25)).alloc (.cells (mv fun _ => false) 25)) := ((Below.refl _ _).alloc (Nat.le_refl _) _).alloc (by simp) _
  · go_enter Try.func64, Try.ntmps64
    go_wp2
    refine wp_loop_rounds 1 ?_
    rw [rounds_succ]
    go_wp2_with (first
      | (refine wpList_load_row rfl 25 _ rfl _ rfl _ _ _ _ h2 maskType rfl (maskSize _) ?_)
      | (refine wpList_store_row rfl 25 _ _ rfl _ _ rfl rfl _ _ h1 (maskSize _) (by simp [mv_size]) (mv_all _) ?_))
    refine bodyPost_ret (v := .agg (mv (inl []))) ?_ rfl ⟨rfl, below_setRow hb0 (Nat.le_refl _) _⟩
    exact results_cell_row rfl _ _ w.heap.size _ _ _ _ rfl (setRow_heap _ _ _ _ _ _ h1) maskType rfl (maskSize _)
theorem of_anyV (v : Value) (l : List (Int × Int)) (w : World) (hl : RowV w v l) :
    Calls Try.prog 64 #[v] w fun e w' => e = .returned (.agg (mv (inl l))) ∧ Below w.heap.size w w' := by
  rcases hl with ⟨rfl, p, c, rfl⟩ | hl
  · exact of_nil p c w
  · exact of_any v l w hl
set_option maxRecDepth 100000 in
set_option maxHeartbeats 1000000 in
theorem rising_any (l : List (Int × Int)) (v : Value) (w : World) (h : RowV w v l) : Calls Try.prog 71 #[v] w fun r w' => r = .returned (.bool (risL l (-1))) ∧ Below w.heap.size w w' := by
  obtain ⟨p, c, rfl, hlen, hc⟩ := h.form
  have HC := hidv hc
  clear hc h
  go_enter Try.func71, Try.ntmps71
  go_wp2_with fail
  go_loopw [3, 8] (fun x t wr => ∃ (j : Nat) (e : Int), x = .int .i64 e ∧ t = .int .i64 (j : Int) ∧ j ≤ l.length ∧ risL l (-1) = risL (l.drop j) e ∧ Below w.heap.size w wr) (fun _ t _ => l.length - (intOf t).toNat)
  case atStart => exact ⟨0, -1, rfl, rfl, by omega, rfl, Below.refl _ _⟩
  case round =>
    obtain ⟨j, e, rfl, rfl, hj, hX, hb⟩ := hrel
    have hj0 : (0 : Int) ≤ (j : Int) := by omega
    by_cases hlt : j < l.length
    · have hlt' : (j : Int) < (l.length : Int) := by omega
      obtain ⟨s, hjk⟩ : ∃ p, l[j]? = some p := ⟨l[j], List.getElem?_eq_getElem hlt⟩
      rw [risL_step hjk] at hX
      obtain ⟨g, o, hpe, c0, c1⟩ := HC.out j _ hjk
      subst hpe
      obtain ⟨x, y⟩ := s
      dsimp only at c0 c1 hX
      have d0 := (hb.cell (block_lt_of_cell c0)).trans c0
      have d1 := (hb.cell (block_lt_of_cell c1)).trans c1
      have hb2 := hb.alloc hb.size (.cells #[.int .i64 x, .int .i64 y] 97)
      by_cases h1 : x ≤ e
      · rw [if_pos (.inl h1)] at hX
        have HX := hidv hX
        clear hX hjk HC c0 c1
        go_wp2_with fail
        go_ret
        exact ⟨by (rw [HX.out]) <;> rfl, hb2⟩
      · by_cases h2 : y ≤ x
        · rw [if_pos (.inr (.inl h2))] at hX
          have HX := hidv hX
          clear hX hjk HC c0 c1
          go_wp2_with fail
          go_ret
          exact ⟨by (rw [HX.out]) <;> rfl, hb2⟩
        · by_cases h3 : 1440 < y
          · rw [if_pos (.inr (.inr h3))] at hX
            have HX := hidv hX
            clear hX hjk HC c0 c1
            go_wp2_with fail
            go_ret
            exact ⟨by (rw [HX.out]) <;> rfl, hb2⟩
          · rw [if_neg (by omega)] at hX
            have HX := hidv hX
            clear hX hjk c0 c1
            go_wp2_with fail
            go_roundw
            case rel => exact ⟨j + 1, y, rfl, by go_num, by omega, HX.out, hb2⟩
            case measure => simp [intOf]; omega
    · have hlt' : ¬ (j : Int) < (l.length : Int) := by omega
      have HX : Hid (risL l (-1) = true) := by
        show _ = _
        rw [hX, List.drop_of_length_le (by omega)]
        rfl
      clear hX HC
      go_wp2_with fail
      go_ret
      exact ⟨by (rw [HX.out]) <;> rfl, hb⟩
end Go.Proofs.Ytaeengpppehlfaa

/- What is wrong with an instruction. Written by genvmb.py. -/
namespace Go.Proofs.Ytaeengpppehlfaa
open Go.RowKit Msk Vx

theorem insType : Try.prog.underlying 65 = some (.struct (Try.prog.fieldsOf 65)) := by kernel_rfl
/-- Are a guard's numbers days? -/
def nmD (op a b : Int) : Bool := if op = 6 then decide (1 ≤ a ∧ a ≤ 127) else decide (0 ≤ a ∧ a ≤ b ∧ b < 146097)
set_option maxRecDepth 100000 in
set_option maxHeartbeats 1000000 in
theorem namesDays_any (op a b t : Int) (sv : Value) (w : World) : Calls Try.prog 72 #[.agg #[.int .i64 op, .int .i64 a, .int .i64 b, .int .i64 t, sv]] w fun r w' => r = .returned (.bool (nmD op a b)) ∧ Below w.heap.size w w' := by
  have hbA := (Below.refl w.heap.size w).alloc (Nat.le_refl _) (.cells #[.int .i64 op, .int .i64 a, .int .i64 b, .int .i64 t, sv] 65)
  have hxA := heap_alloc_new w (.cells #[.int .i64 op, .int .i64 a, .int .i64 b, .int .i64 t, sv] 65)
  generalize hwA : w.alloc (.cells #[.int .i64 op, .int .i64 a, .int .i64 b, .int .i64 t, sv] 65) = wA at *
  have z0 := (cell_of_row _ _ 0 _ _ _ hxA).trans rfl
  have z1 := (cell_of_row _ _ 1 _ _ _ hxA).trans rfl
  have z2 := (cell_of_row _ _ 2 _ _ _ hxA).trans rfl
  have z3 := (cell_of_row _ _ 3 _ _ _ hxA).trans rfl
  have z4 := (cell_of_row _ _ 4 _ _ _ hxA).trans rfl
  by_cases h6 : op = 6
  · have e : nmD op a b = decide (1 ≤ a ∧ a ≤ 127) := if_pos h6
    rw [e]
    subst h6
    have c1 := within_any a 1 127 wA
    generalize decide (1 ≤ a ∧ a ≤ 127) = q at *
    go_enter Try.func72, Try.ntmps72
    go_wp2_with fail
    refine c1.mono ?_
    rintro r w' ⟨rfl, rfl⟩
    clear c1
    go_wp2_with fail
    go_ret
    exact ⟨rfl, hbA⟩
  · have e : nmD op a b = decide (0 ≤ a ∧ a ≤ b ∧ b < 146097) := if_neg h6
    have h6' : (op == 6) = false := beq_eq_false_iff_ne.2 h6
    rw [e]
    by_cases h1 : 0 ≤ a
    · by_cases h2 : a ≤ b
      · by_cases h3 : b < 146097
        · rw [decide_eq_true (⟨h1, h2, h3⟩ : 0 ≤ a ∧ a ≤ b ∧ b < 146097)]
          go_enter Try.func72, Try.ntmps72
          go_wp2_with fail
          go_ret
          exact ⟨rfl, hbA⟩
        · rw [decide_eq_false (fun e : 0 ≤ a ∧ a ≤ b ∧ b < 146097 => h3 e.2.2)]
          go_enter Try.func72, Try.ntmps72
          go_wp2_with fail
          go_ret
          exact ⟨rfl, hbA⟩
      · rw [decide_eq_false (fun e : 0 ≤ a ∧ a ≤ b ∧ b < 146097 => h2 e.2.1)]
        go_enter Try.func72, Try.ntmps72
        go_wp2_with fail
        go_ret
        exact ⟨rfl, hbA⟩
    · rw [decide_eq_false (fun e : 0 ≤ a ∧ a ≤ b ∧ b < 146097 => h1 e.1)]
      go_enter Try.func72, Try.ntmps72
      go_wp2_with fail
      go_ret
      exact ⟨rfl, hbA⟩
set_option maxRecDepth 100000 in
set_option maxHeartbeats 1000000 in
theorem instr_2 (a b t : Int) (sv : Value) (k n r : Nat) (w : World) : Calls Try.prog 57 #[.agg #[.int .i64 2, .int .i64 a, .int .i64 b, .int .i64 t, sv], .int .i64 (k : Int), .int .i64 (n : Int), .int .i64 (r : Int)] w fun e w' => e = .returned (.int .i64 0) ∧ Below w.heap.size w w' := by
  have hbA := (Below.refl w.heap.size w).alloc (Nat.le_refl _) (.cells #[.int .i64 2, .int .i64 a, .int .i64 b, .int .i64 t, sv] 65)
  have hxA := heap_alloc_new w (.cells #[.int .i64 2, .int .i64 a, .int .i64 b, .int .i64 t, sv] 65)
  generalize hwA : w.alloc (.cells #[.int .i64 2, .int .i64 a, .int .i64 b, .int .i64 t, sv] 65) = wA at *
  have z0 := (cell_of_row _ _ 0 _ _ _ hxA).trans rfl
  have z1 := (cell_of_row _ _ 1 _ _ _ hxA).trans rfl
  have z2 := (cell_of_row _ _ 2 _ _ _ hxA).trans rfl
  have z3 := (cell_of_row _ _ 3 _ _ _ hxA).trans rfl
  have z4 := (cell_of_row _ _ 4 _ _ _ hxA).trans rfl
  go_enter Try.func57, Try.ntmps57
  go_wp2_with fail
  go_ret
  exact ⟨rfl, hbA⟩
set_option maxRecDepth 100000 in
set_option maxHeartbeats 1000000 in
theorem instr_3 (a b t : Int) (sv : Value) (k n r : Nat) (w : World) : Calls Try.prog 57 #[.agg #[.int .i64 3, .int .i64 a, .int .i64 b, .int .i64 t, sv], .int .i64 (k : Int), .int .i64 (n : Int), .int .i64 (r : Int)] w fun e w' => e = .returned (.int .i64 0) ∧ Below w.heap.size w w' := by
  have hbA := (Below.refl w.heap.size w).alloc (Nat.le_refl _) (.cells #[.int .i64 3, .int .i64 a, .int .i64 b, .int .i64 t, sv] 65)
  have hxA := heap_alloc_new w (.cells #[.int .i64 3, .int .i64 a, .int .i64 b, .int .i64 t, sv] 65)
  generalize hwA : w.alloc (.cells #[.int .i64 3, .int .i64 a, .int .i64 b, .int .i64 t, sv] 65) = wA at *
  have z0 := (cell_of_row _ _ 0 _ _ _ hxA).trans rfl
  have z1 := (cell_of_row _ _ 1 _ _ _ hxA).trans rfl
  have z2 := (cell_of_row _ _ 2 _ _ _ hxA).trans rfl
  have z3 := (cell_of_row _ _ 3 _ _ _ hxA).trans rfl
  have z4 := (cell_of_row _ _ 4 _ _ _ hxA).trans rfl
  go_enter Try.func57, Try.ntmps57
  go_wp2_with fail
  go_ret
  exact ⟨rfl, hbA⟩
set_option maxRecDepth 100000 in
set_option maxHeartbeats 1000000 in
theorem instr_4 (a b t : Int) (sv : Value) (k n r : Nat) (w : World) : Calls Try.prog 57 #[.agg #[.int .i64 4, .int .i64 a, .int .i64 b, .int .i64 t, sv], .int .i64 (k : Int), .int .i64 (n : Int), .int .i64 (r : Int)] w fun e w' => e = .returned (.int .i64 0) ∧ Below w.heap.size w w' := by
  have hbA := (Below.refl w.heap.size w).alloc (Nat.le_refl _) (.cells #[.int .i64 4, .int .i64 a, .int .i64 b, .int .i64 t, sv] 65)
  have hxA := heap_alloc_new w (.cells #[.int .i64 4, .int .i64 a, .int .i64 b, .int .i64 t, sv] 65)
  generalize hwA : w.alloc (.cells #[.int .i64 4, .int .i64 a, .int .i64 b, .int .i64 t, sv] 65) = wA at *
  have z0 := (cell_of_row _ _ 0 _ _ _ hxA).trans rfl
  have z1 := (cell_of_row _ _ 1 _ _ _ hxA).trans rfl
  have z2 := (cell_of_row _ _ 2 _ _ _ hxA).trans rfl
  have z3 := (cell_of_row _ _ 3 _ _ _ hxA).trans rfl
  have z4 := (cell_of_row _ _ 4 _ _ _ hxA).trans rfl
  go_enter Try.func57, Try.ntmps57
  go_wp2_with fail
  go_ret
  exact ⟨rfl, hbA⟩
set_option maxRecDepth 100000 in
set_option maxHeartbeats 1000000 in
theorem instr_1 (a b t : Int) (sv : Value) (k n r : Nat) (w : World) (sp : List (Int × Int)) (h : RowV w sv sp) : Calls Try.prog 57 #[.agg #[.int .i64 1, .int .i64 a, .int .i64 b, .int .i64 t, sv], .int .i64 (k : Int), .int .i64 (n : Int), .int .i64 (r : Int)] w fun e w' => e = .returned (.int .i64 (if risL sp (-1) = true then 0 else 2)) ∧ Below w.heap.size w w' := by
  have hbA := (Below.refl w.heap.size w).alloc (Nat.le_refl _) (.cells #[.int .i64 1, .int .i64 a, .int .i64 b, .int .i64 t, sv] 65)
  have hxA := heap_alloc_new w (.cells #[.int .i64 1, .int .i64 a, .int .i64 b, .int .i64 t, sv] 65)
  generalize hwA : w.alloc (.cells #[.int .i64 1, .int .i64 a, .int .i64 b, .int .i64 t, sv] 65) = wA at *
  have z0 := (cell_of_row _ _ 0 _ _ _ hxA).trans rfl
  have z1 := (cell_of_row _ _ 1 _ _ _ hxA).trans rfl
  have z2 := (cell_of_row _ _ 2 _ _ _ hxA).trans rfl
  have z3 := (cell_of_row _ _ 3 _ _ _ hxA).trans rfl
  have z4 := (cell_of_row _ _ 4 _ _ _ hxA).trans rfl
  have c1 := rising_any sp sv wA (h.later hbA)
  have c2 := fun W => unless_any (risL sp (-1)) 2 W
  generalize (if risL sp (-1) = true then (0 : Int) else 2) = u at *
  generalize risL sp (-1) = q at *
  clear h
  go_enter Try.func57, Try.ntmps57
  go_wp2_with fail
  refine c1.mono ?_
  rintro e w1 ⟨rfl, hb1⟩
  have hbw := hbA.trans (hb1.mono hbA.size)
  have c3 := c2 w1
  clear c1 c2 hb1 hbA
  go_wp2_with fail
  refine c3.mono ?_
  rintro e w2 ⟨rfl, rfl⟩
  clear c3
  go_wp2_with fail
  go_ret
  exact ⟨rfl, hbw⟩
set_option maxRecDepth 100000 in
set_option maxHeartbeats 1000000 in
theorem instr_5 (a b t : Int) (sv : Value) (k n r : Nat) (w : World) : Calls Try.prog 57 #[.agg #[.int .i64 5, .int .i64 a, .int .i64 b, .int .i64 t, sv], .int .i64 (k : Int), .int .i64 (n : Int), .int .i64 (r : Int)] w fun e w' => e = .returned (.int .i64 (if a ≠ 0 ∧ -1439 ≤ a ∧ a ≤ 1439 then 0 else 3)) ∧ Below w.heap.size w w' := by
  have hbA := (Below.refl w.heap.size w).alloc (Nat.le_refl _) (.cells #[.int .i64 5, .int .i64 a, .int .i64 b, .int .i64 t, sv] 65)
  have hxA := heap_alloc_new w (.cells #[.int .i64 5, .int .i64 a, .int .i64 b, .int .i64 t, sv] 65)
  generalize hwA : w.alloc (.cells #[.int .i64 5, .int .i64 a, .int .i64 b, .int .i64 t, sv] 65) = wA at *
  have z0 := (cell_of_row _ _ 0 _ _ _ hxA).trans rfl
  have z1 := (cell_of_row _ _ 1 _ _ _ hxA).trans rfl
  have z2 := (cell_of_row _ _ 2 _ _ _ hxA).trans rfl
  have z3 := (cell_of_row _ _ 3 _ _ _ hxA).trans rfl
  have z4 := (cell_of_row _ _ 4 _ _ _ hxA).trans rfl
  by_cases ha : a = 0
  · subst ha
    have c2 := unless_any false 3 wA
    rw [if_neg (fun e => e.1 rfl)]
    go_enter Try.func57, Try.ntmps57
    go_wp2_with fail
    refine c2.mono ?_
    rintro e w2 ⟨rfl, rfl⟩
    clear c2
    go_wp2_with fail
    go_ret
    exact ⟨rfl, hbA⟩
  · have hb0 : (a == 0) = false := beq_eq_false_iff_ne.2 ha
    have c1 := within_any a (-1439) 1439 wA
    have c2 := unless_any (decide (-1439 ≤ a ∧ a ≤ 1439)) 3 wA
    have HE : Hid ((if a ≠ 0 ∧ -1439 ≤ a ∧ a ≤ 1439 then (0 : Int) else 3) = if decide (-1439 ≤ a ∧ a ≤ 1439) = true then 0 else 3) := by
      show _ = _
      by_cases h : -1439 ≤ a ∧ a ≤ 1439
      · rw [if_pos ⟨ha, h⟩, if_pos (decide_eq_true h)]
      · rw [if_neg (fun e => h e.2), if_neg (by simpa using h)]
    rw [HE.out]
    clear HE
    generalize (if decide (-1439 ≤ a ∧ a ≤ 1439) = true then (0 : Int) else 3) = u at *
    generalize decide (-1439 ≤ a ∧ a ≤ 1439) = q at *
    have hbn : (a != 0) = true := by simpa using ha
    go_enter Try.func57, Try.ntmps57
    go_wp2_with fail
    refine c1.mono ?_
    rintro e w1 ⟨rfl, rfl⟩
    clear c1
    go_wp2_with fail
    refine c2.mono ?_
    rintro e w2 ⟨rfl, rfl⟩
    clear c2
    go_wp2_with fail
    go_ret
    exact ⟨rfl, hbA⟩
set_option maxRecDepth 100000 in
set_option maxHeartbeats 1000000 in
theorem instr_6 (a b t : Int) (sv : Value) (k n r : Nat) (w : World) (hk : k ≤ 2000) : Calls Try.prog 57 #[.agg #[.int .i64 6, .int .i64 a, .int .i64 b, .int .i64 t, sv], .int .i64 (k : Int), .int .i64 (n : Int), .int .i64 (r : Int)] w fun e w' => e = .returned (.int .i64 (if (k : Int) + 2 ≤ t ∧ t ≤ n then (if nmD 6 a b = true then 0 else 3) else 8)) ∧ Below w.heap.size w w' := by
  have hbA := (Below.refl w.heap.size w).alloc (Nat.le_refl _) (.cells #[.int .i64 6, .int .i64 a, .int .i64 b, .int .i64 t, sv] 65)
  have hxA := heap_alloc_new w (.cells #[.int .i64 6, .int .i64 a, .int .i64 b, .int .i64 t, sv] 65)
  generalize hwA : w.alloc (.cells #[.int .i64 6, .int .i64 a, .int .i64 b, .int .i64 t, sv] 65) = wA at *
  have z0 := (cell_of_row _ _ 0 _ _ _ hxA).trans rfl
  have z1 := (cell_of_row _ _ 1 _ _ _ hxA).trans rfl
  have z2 := (cell_of_row _ _ 2 _ _ _ hxA).trans rfl
  have z3 := (cell_of_row _ _ 3 _ _ _ hxA).trans rfl
  have z4 := (cell_of_row _ _ 4 _ _ _ hxA).trans rfl
  have hk0 : (0 : Int) ≤ (k : Int) := by omega
  have hk1 : (k : Int) ≤ 2000 := by omega
  have c1 := within_any t ((k : Int) + 2) (n : Int) wA
  have c2 := namesDays_any 6 a b t sv wA
  have c3 := fun W => unless_any (nmD 6 a b) 3 W
  by_cases h : (k : Int) + 2 ≤ t ∧ t ≤ n
  · rw [if_pos h]
    rw [decide_eq_true h] at c1
    generalize (if nmD 6 a b = true then (0 : Int) else 3) = u at *
    generalize nmD 6 a b = q at *
    clear h
    go_enter Try.func57, Try.ntmps57
    go_wp2_with fail
    refine c1.mono ?_
    rintro e w1 ⟨rfl, rfl⟩
    clear c1
    go_wp2_with (refine wpList_load_row rfl 65 _ rfl _ rfl _ _ _ _ hxA insType rfl (by kernel_rfl) ?_)
    refine c2.mono ?_
    rintro e w1 ⟨rfl, hb1⟩
    have hbw := hbA.trans (hb1.mono hbA.size)
    have c4 := c3 w1
    clear c2 c3 hb1 hbA
    go_wp2_with fail
    refine c4.mono ?_
    rintro e w2 ⟨rfl, rfl⟩
    clear c4
    go_wp2_with fail
    go_ret
    exact ⟨rfl, hbw⟩
  · rw [if_neg h]
    rw [decide_eq_false h] at c1
    clear h c2 c3
    go_enter Try.func57, Try.ntmps57
    go_wp2_with fail
    refine c1.mono ?_
    rintro e w1 ⟨rfl, rfl⟩
    clear c1
    go_wp2_with fail
    go_ret
    exact ⟨rfl, hbA⟩
set_option maxRecDepth 100000 in
set_option maxHeartbeats 1000000 in
theorem instr_7 (a b t : Int) (sv : Value) (k n r : Nat) (w : World) (hk : k ≤ 2000) : Calls Try.prog 57 #[.agg #[.int .i64 7, .int .i64 a, .int .i64 b, .int .i64 t, sv], .int .i64 (k : Int), .int .i64 (n : Int), .int .i64 (r : Int)] w fun e w' => e = .returned (.int .i64 (if (k : Int) + 2 ≤ t ∧ t ≤ n then (if nmD 7 a b = true then 0 else 3) else 8)) ∧ Below w.heap.size w w' := by
  have hbA := (Below.refl w.heap.size w).alloc (Nat.le_refl _) (.cells #[.int .i64 7, .int .i64 a, .int .i64 b, .int .i64 t, sv] 65)
  have hxA := heap_alloc_new w (.cells #[.int .i64 7, .int .i64 a, .int .i64 b, .int .i64 t, sv] 65)
  generalize hwA : w.alloc (.cells #[.int .i64 7, .int .i64 a, .int .i64 b, .int .i64 t, sv] 65) = wA at *
  have z0 := (cell_of_row _ _ 0 _ _ _ hxA).trans rfl
  have z1 := (cell_of_row _ _ 1 _ _ _ hxA).trans rfl
  have z2 := (cell_of_row _ _ 2 _ _ _ hxA).trans rfl
  have z3 := (cell_of_row _ _ 3 _ _ _ hxA).trans rfl
  have z4 := (cell_of_row _ _ 4 _ _ _ hxA).trans rfl
  have hk0 : (0 : Int) ≤ (k : Int) := by omega
  have hk1 : (k : Int) ≤ 2000 := by omega
  have c1 := within_any t ((k : Int) + 2) (n : Int) wA
  have c2 := namesDays_any 7 a b t sv wA
  have c3 := fun W => unless_any (nmD 7 a b) 3 W
  by_cases h : (k : Int) + 2 ≤ t ∧ t ≤ n
  · rw [if_pos h]
    rw [decide_eq_true h] at c1
    generalize (if nmD 7 a b = true then (0 : Int) else 3) = u at *
    generalize nmD 7 a b = q at *
    clear h
    go_enter Try.func57, Try.ntmps57
    go_wp2_with fail
    refine c1.mono ?_
    rintro e w1 ⟨rfl, rfl⟩
    clear c1
    go_wp2_with (refine wpList_load_row rfl 65 _ rfl _ rfl _ _ _ _ hxA insType rfl (by kernel_rfl) ?_)
    refine c2.mono ?_
    rintro e w1 ⟨rfl, hb1⟩
    have hbw := hbA.trans (hb1.mono hbA.size)
    have c4 := c3 w1
    clear c2 c3 hb1 hbA
    go_wp2_with fail
    refine c4.mono ?_
    rintro e w2 ⟨rfl, rfl⟩
    clear c4
    go_wp2_with fail
    go_ret
    exact ⟨rfl, hbw⟩
  · rw [if_neg h]
    rw [decide_eq_false h] at c1
    clear h c2 c3
    go_enter Try.func57, Try.ntmps57
    go_wp2_with fail
    refine c1.mono ?_
    rintro e w1 ⟨rfl, rfl⟩
    clear c1
    go_wp2_with fail
    go_ret
    exact ⟨rfl, hbA⟩
set_option maxRecDepth 100000 in
set_option maxHeartbeats 1000000 in
theorem instr_8 (a b t : Int) (sv : Value) (k n r : Nat) (w : World) : Calls Try.prog 57 #[.agg #[.int .i64 8, .int .i64 a, .int .i64 b, .int .i64 t, sv], .int .i64 (k : Int), .int .i64 (n : Int), .int .i64 (r : Int)] w fun e w' => e = .returned (.int .i64 (if 0 ≤ a ∧ a < r then 0 else 6)) ∧ Below w.heap.size w w' := by
  have hbA := (Below.refl w.heap.size w).alloc (Nat.le_refl _) (.cells #[.int .i64 8, .int .i64 a, .int .i64 b, .int .i64 t, sv] 65)
  have hxA := heap_alloc_new w (.cells #[.int .i64 8, .int .i64 a, .int .i64 b, .int .i64 t, sv] 65)
  generalize hwA : w.alloc (.cells #[.int .i64 8, .int .i64 a, .int .i64 b, .int .i64 t, sv] 65) = wA at *
  have z0 := (cell_of_row _ _ 0 _ _ _ hxA).trans rfl
  have z1 := (cell_of_row _ _ 1 _ _ _ hxA).trans rfl
  have z2 := (cell_of_row _ _ 2 _ _ _ hxA).trans rfl
  have z3 := (cell_of_row _ _ 3 _ _ _ hxA).trans rfl
  have z4 := (cell_of_row _ _ 4 _ _ _ hxA).trans rfl
  have c1 := isNumber_any a (r : Int) wA
  have c2 := unless_any (decide (0 ≤ a ∧ a < (r : Int))) 6 wA
  have HE : Hid ((if 0 ≤ a ∧ a < (r : Int) then (0 : Int) else 6) = if decide (0 ≤ a ∧ a < (r : Int)) = true then 0 else 6) := by
    show _ = _
    by_cases h : 0 ≤ a ∧ a < (r : Int)
    · rw [if_pos h, if_pos (decide_eq_true h)]
    · rw [if_neg h, if_neg (by simpa using h)]
  rw [HE.out]
  clear HE
  generalize (if decide (0 ≤ a ∧ a < (r : Int)) = true then (0 : Int) else 6) = u at *
  generalize decide (0 ≤ a ∧ a < (r : Int)) = q at *
  go_enter Try.func57, Try.ntmps57
  go_wp2_with fail
  refine c1.mono ?_
  rintro e w1 ⟨rfl, rfl⟩
  clear c1
  go_wp2_with fail
  refine c2.mono ?_
  rintro e w2 ⟨rfl, rfl⟩
  clear c2
  go_wp2_with fail
  go_ret
  exact ⟨rfl, hbA⟩
set_option maxRecDepth 100000 in
set_option maxHeartbeats 1000000 in
theorem instr_0 (op : Int) (a b t : Int) (sv : Value) (k n r : Nat) (w : World) (h1 : (op == 1) = false) (h2 : (op == 2) = false) (h3 : (op == 3) = false) (h4 : (op == 4) = false) (h5 : (op == 5) = false) (h6 : (op == 6) = false) (h7 : (op == 7) = false) (h8 : (op == 8) = false) : Calls Try.prog 57 #[.agg #[.int .i64 op, .int .i64 a, .int .i64 b, .int .i64 t, sv], .int .i64 (k : Int), .int .i64 (n : Int), .int .i64 (r : Int)] w fun e w' => e = .returned (.int .i64 1) ∧ Below w.heap.size w w' := by
  have hbA := (Below.refl w.heap.size w).alloc (Nat.le_refl _) (.cells #[.int .i64 op, .int .i64 a, .int .i64 b, .int .i64 t, sv] 65)
  have hxA := heap_alloc_new w (.cells #[.int .i64 op, .int .i64 a, .int .i64 b, .int .i64 t, sv] 65)
  generalize hwA : w.alloc (.cells #[.int .i64 op, .int .i64 a, .int .i64 b, .int .i64 t, sv] 65) = wA at *
  have z0 := (cell_of_row _ _ 0 _ _ _ hxA).trans rfl
  have z1 := (cell_of_row _ _ 1 _ _ _ hxA).trans rfl
  have z2 := (cell_of_row _ _ 2 _ _ _ hxA).trans rfl
  have z3 := (cell_of_row _ _ 3 _ _ _ hxA).trans rfl
  have z4 := (cell_of_row _ _ 4 _ _ _ hxA).trans rfl
  go_enter Try.func57, Try.ntmps57
  go_wp2_with fail
  go_ret
  exact ⟨rfl, hbA⟩
theorem instr_any (x : In) (sv : Value) (k n r : Nat) (w : World) (h : RowV w sv x.sp) (hk : k ≤ 2000) : Calls Try.prog 57 #[.agg #[.int .i64 x.op, .int .i64 x.a, .int .i64 x.b, .int .i64 x.to, sv], .int .i64 (k : Int), .int .i64 (n : Int), .int .i64 (r : Int)] w fun e w' => e = .returned (.int .i64 (insE x k n r)) ∧ Below w.heap.size w w' := by
  obtain ⟨op, a, b, t, sp⟩ := x
  dsimp only at h ⊢
  unfold insE
  dsimp only
  by_cases h2 : op = 2
  · subst h2; exact instr_2 a b t sv k n r w
  by_cases h3 : op = 3
  · subst h3; exact instr_3 a b t sv k n r w
  by_cases h4 : op = 4
  · subst h4; exact instr_4 a b t sv k n r w
  rw [if_neg (by omega)]
  by_cases h1 : op = 1
  · subst h1; exact instr_1 a b t sv k n r w sp h
  rw [if_neg h1]
  by_cases h5 : op = 5
  · subst h5; exact instr_5 a b t sv k n r w
  rw [if_neg h5]
  by_cases h6 : op = 6
  · subst h6
    have c := instr_6 a b t sv k n r w hk
    have e : nmD 6 a b = decide (1 ≤ a ∧ a ≤ 127) := if_pos rfl
    rw [e] at c
    rw [if_pos rfl]
    simpa only [decide_eq_true_eq] using c
  rw [if_neg h6]
  by_cases h7 : op = 7
  · subst h7
    have c := instr_7 a b t sv k n r w hk
    have e : nmD 7 a b = decide (0 ≤ a ∧ a ≤ b ∧ b < 146097) := if_neg (by decide)
    rw [e] at c
    rw [if_pos rfl]
    simpa only [decide_eq_true_eq] using c
  rw [if_neg h7]
  by_cases h8 : op = 8
  · subst h8; exact instr_8 a b t sv k n r w
  rw [if_neg h8]
  exact instr_0 op a b t sv k n r w (beq_eq_false_iff_ne.2 h1) (beq_eq_false_iff_ne.2 h2) (beq_eq_false_iff_ne.2 h3) (beq_eq_false_iff_ne.2 h4) (beq_eq_false_iff_ne.2 h5) (beq_eq_false_iff_ne.2 h6) (beq_eq_false_iff_ne.2 h7) (beq_eq_false_iff_ne.2 h8)
end Go.Proofs.Ytaeengpppehlfaa
