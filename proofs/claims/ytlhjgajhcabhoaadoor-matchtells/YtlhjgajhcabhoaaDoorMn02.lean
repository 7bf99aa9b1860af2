/- What masks.trim, combine, Union, Diff and Both come to. -/
import Derived.Test.YtlhjgajhcabhoaaDoorMn01
import Derived.Deep.RegionHeld3
import Derived.Deep.DrawnRows
import Derived.Laws.CopyOwn
import Derived.Lib.TrailingZeros
import Derived.WalkKit
import Derived.Deep.Quiet
import Derived.RegionTactic
namespace Go.Proofs.YtlhjgajhcabhoaaDoor
open Go.RowKit Msk

set_option maxHeartbeats 400000 in
theorem trim_any (f : Nat → Bool) (w : World) :
    Calls Tryd.prog 32 #[.agg (mv f)] w fun e w' => e = .returned (.agg (mv fun i => f i && decide (i < 1440))) ∧ Below w.heap.size w w' := by
  have g22 := mv_get f 22 (by omega)
  have e22 := mv_trim f
  have hz := mv_lit
  go_enter Tryd.func32, Tryd.ntmps32
  go_wp2_with (first
    | (refine wpList_load_row rfl 41 _ rfl _ rfl _ _ _ _ (heap_alloc2_old _ _ _) maskType rfl (maskSize _) ?_)
    | (refine wpList_store_row rfl 41 _ _ rfl _ _ rfl rfl _ _ (heap_alloc2_new _ _ _) (maskSize _) (by simp [mv_size]) (mv_all _) ?_))
  refine bodyPost_ret (v := .agg (mv fun i => f i && decide (i < 1440))) ?_ rfl ⟨rfl, ?_⟩
  · exact results_cell_row rfl _ _ (w.heap.size + 1) _ _ _ _ rfl (setRow_heap _ _ _ _ _ _ (heap_alloc2_new _ _ _)) maskType rfl (maskSize _)
  · exact below_setRow (((Below.refl _ _).alloc (Nat.le_refl _) _).alloc (by simp) _) (by omega) _

attribute [local go_sem ↓] Go.wp_at_zero Go.wp_at_succ
set_option maxRecDepth 100000 in
set_option maxHeartbeats 1000000 in
theorem combine_any (K : Nat) (o : Bool → Bool → Bool) (hK : ∀ (f g : Nat → Bool) (k : Nat) (w : World), Calls Tryd.prog K #[.int .u64 (wd f k : Int), .int .u64 (wd g k : Int)] w fun e w' => e = .returned (.int .u64 (wd (fun i => o (f i) (g i)) k : Int)) ∧ w' = w)
    (eK : ∀ args w, (callFunc K args).run Tryd.prog w = .ok (.enter K args) w) (a b : Nat → Bool) (w : World) :
    Calls Tryd.prog 24 #[.agg (mv a), .agg (mv b), .func (.func K) #[] #[]] w fun e w' => e = .returned (.agg (mv fun i => o (a i) (b i) && decide (i < 1440))) ∧ Below w.heap.size w w' := by
  have hz := mv_lit
  go_enter Tryd.func24, Tryd.ntmps24
  go_wp2
  go_loopw [9] (fun i wr => ∃ k : Nat, k ≤ 23 ∧ i = .int .i64 k ∧ wr.heap[w.heap.size]? = some (.cells (mv a) 41 (0, 0)) ∧ wr.heap[w.heap.size + 1]? = some (.cells (mv b) 41 (0, 0)) ∧ wr.heap[w.heap.size + 1 + 1]? = some (.cells (mv fun _ => false) 41 (0, 0)) ∧
      wr.heap[w.heap.size + 1 + 1 + 1]? = some (.cells (mv fun i => decide (i < 64 * k) && o (a i) (b i)) 41 (0, 0)) ∧ Below w.heap.size w wr) (fun i _ => 23 - (intOf i).toNat)
  case atStart =>
    refine ⟨0, by omega, rfl, ?_, ?_, ?_, ?_, ?_⟩
    · (repeat (first | refine blk_old _ _ _ (by simp only [size_alloc]; omega) ?_ | exact blk_new _ _ _ (by first | rfl | simp only [size_alloc])))
    · (repeat (first | refine blk_old _ _ _ (by simp only [size_alloc]; omega) ?_ | exact blk_new _ _ _ (by first | rfl | simp only [size_alloc])))
    · (repeat (first | refine blk_old _ _ _ (by simp only [size_alloc]; omega) ?_ | exact blk_new _ _ _ (by first | rfl | simp only [size_alloc])))
    · refine blk_eq ?_ (mv_start _)
      (repeat (first | refine blk_old _ _ _ (by simp only [size_alloc]; omega) ?_ | exact blk_new _ _ _ (by first | rfl | simp only [size_alloc])))
    · exact ((((Below.refl _ _).alloc (Nat.le_refl _) _).alloc (by simp) _).alloc (by simp; omega) _).alloc (by simp; omega) _
  case round =>
    obtain ⟨k, hk, rfl, ha, hb, ho, hm, hbel⟩ := hrel
    by_cases hlt : k < 23
    · have ca := cell_mv ha k hlt
      have cb := cell_mv hb k hlt
      have cm := cell_mv hm k hlt
      have fm := frozen_of_row _ _ k _ _ hm
      have hi0 : (0 : Int) ≤ (k : Int) := by omega
      have hi1 : (k : Int) < 23 := by omega
      have n1 : w.heap.size + 1 + 1 + 1 ≠ w.heap.size := by omega
      have n2 : w.heap.size + 1 + 1 ≠ w.heap.size := by omega
      go_wp2
      go_region_held3 (fun w' => w'.cell? ⟨w.heap.size, k, none⟩ = some (.int .u64 (wd a k : Int)) ∧ w'.cell? ⟨w.heap.size + 1, k, none⟩ = some (.int .u64 (wd b k : Int)))
        (go_keep)
        ((refine (hK a b k _).mono ?_; rintro e w' ⟨rfl, rfl⟩))
      go_wp2
      go_roundw
      case rel =>
        refine ⟨k + 1, by omega, by go_num, ?_, ?_, ?_, ?_, ?_⟩
        · exact (heap_setCell_other _ _ _ _ (by dsimp only; omega)).trans ha
        · exact (heap_setCell_other _ _ _ _ (by dsimp only; omega)).trans hb
        · exact (heap_setCell_other _ _ _ _ (by dsimp only; omega)).trans ho
        · exact blk_eq (heap_setCell_same _ _ _ _ _ _ hm) (mv_step k hlt fun i => o (a i) (b i))
        · exact (hbel.setCell (by dsimp only; omega) _).drew
      case measure => simp [intOf]; omega
    · have hk23 : k = 23 := by omega
      subst hk23
      have hm' := blk_eq hm (mv_full fun i => o (a i) (b i))
      clear hm
      go_wp2_with (first
        | (refine wpList_load_row rfl 41 _ rfl _ rfl _ _ _ _ hm' maskType rfl (maskSize _) ?_)
        | (go_at_call 32; refine (trim_any _ _).mono ?_; rintro e w' ⟨rfl, hb'⟩; have ho' := (hb'.block (w.heap.size + 1 + 1) (lt_of_block ho)).trans ho)
        | (refine wpList_store_row rfl 41 _ _ rfl _ _ rfl rfl _ _ (by assumption) (maskSize _) (by simp [mv_size]) (mv_all _) ?_))
      refine bodyPost_ret (v := .agg (mv fun i => o (a i) (b i) && decide (i < 1440))) ?_ rfl ⟨rfl, ?_⟩
      · exact results_cell_row rfl _ _ (w.heap.size + 1 + 1) _ _ _ _ rfl (setRow_heap _ _ _ _ _ _ ho') maskType rfl (maskSize _)
      · exact below_setRow (hbel.trans (hb'.mono hbel.size)) (by omega) _

theorem or_any (f g : Nat → Bool) (k : Nat) (w : World) : Calls Tryd.prog 25 #[.int .u64 (wd f k : Int), .int .u64 (wd g k : Int)] w fun e w' => e = .returned (.int .u64 (wd (fun i => f i || g i) k : Int)) ∧ w' = w := by
  have e1 := bits_or_u64_nat _ _ (wd_lt f k) (wd_lt g k)
  rw [wd_or] at e1
  go_enter Tryd.func25, Tryd.ntmps25
  go_wp2
  go_ret
  exact ⟨rfl, rfl⟩
theorem not_any (f g : Nat → Bool) (k : Nat) (w : World) : Calls Tryd.prog 39 #[.int .u64 (wd f k : Int), .int .u64 (wd g k : Int)] w fun e w' => e = .returned (.int .u64 (wd (fun i => f i && !g i) k : Int)) ∧ w' = w := by
  have e1 := andNot_nat _ _ (wd_lt f k) (wd_lt g k)
  rw [wd_andNot] at e1
  go_enter Tryd.func39, Tryd.ntmps39
  go_wp2
  go_ret
  exact ⟨rfl, rfl⟩

set_option maxHeartbeats 400000 in
theorem union_any (a b : Nat → Bool) (w : World) :
    Calls Tryd.prog 15 #[.agg (mv a), .agg (mv b)] w fun e w' => e = .returned (.agg (mv fun i => (a i || b i) && decide (i < 1440))) ∧ Below w.heap.size w w' := by
  have hz := mv_lit
  have h1 : (((w.alloc (.cells (mv a) 41)).alloc (.cells (mv b) 41)).alloc (.cells (mv fun _ => false) 41)).heap[w.heap.size]? = some (.cells (mv a) 41 (0, 0)) := by (repeat (first | refine blk_old _ _ _ (by simp only [size_alloc]; omega) ?_ | exact blk_new _ _ _ (by first | rfl | simp only [size_alloc])))
  have h2 : (((w.alloc (.cells (mv a) 41)).alloc (.cells (mv b) 41)).alloc (.cells (mv fun _ => false) 41)).heap[w.heap.size + 1]? = some (.cells (mv b) 41 (0, 0)) := by (repeat (first | refine blk_old _ _ _ (by simp only [size_alloc]; omega) ?_ | exact blk_new _ _ _ (by first | rfl | simp only [size_alloc])))
  have h3 : (((w.alloc (.cells (mv a) 41)).alloc (.cells (mv b) 41)).alloc (.cells (mv fun _ => false) 41)).heap[w.heap.size + 1 + 1]? = some (.cells (mv fun _ => false) 41 (0, 0)) := by (repeat (first | refine blk_old _ _ _ (by simp only [size_alloc]; omega) ?_ | exact blk_new _ _ _ (by first | rfl | simp only [size_alloc])))
  have hb0 : Below w.heap.size w (((w.alloc (.cells (mv a) 41)).alloc (.cells (mv b) 41)).alloc (.cells (mv fun _ => false) 41)) := (((Below.refl _ _).alloc (Nat.le_refl _) _).alloc (by simp) _).alloc (by simp only [size_alloc]; omega) _
  go_enter Tryd.func15, Tryd.ntmps15
  go_wp2_with (first
    | (refine wpList_load_row rfl 41 _ rfl _ rfl _ _ _ _ h1 maskType rfl (maskSize _) ?_)
    | (refine wpList_load_row rfl 41 _ rfl _ rfl _ _ _ _ h2 maskType rfl (maskSize _) ?_)
    | (go_at_call 24; refine (combine_any 25 (fun x y => x || y) or_any (fun _ _ => by simp [go_sem]) a b _).mono ?_; rintro e w' ⟨rfl, hb'⟩; have ho' := (hb'.block _ (lt_of_block h3)).trans h3)
    | (refine wpList_store_row rfl 41 _ _ rfl _ _ rfl rfl _ _ (by assumption) (maskSize _) (by simp [mv_size]) (mv_all _) ?_))
  refine bodyPost_ret (v := .agg (mv fun i => (a i || b i) && decide (i < 1440))) ?_ rfl ⟨rfl, ?_⟩
  · exact results_cell_row rfl _ _ (w.heap.size + 1 + 1) _ _ _ _ rfl (setRow_heap _ _ _ _ _ _ ho') maskType rfl (maskSize _)
  · exact below_setRow (hb0.trans (hb'.mono hb0.size)) (by omega) _

set_option maxHeartbeats 400000 in
theorem diff_any (a b : Nat → Bool) (w : World) :
    Calls Tryd.prog 31 #[.agg (mv a), .agg (mv b)] w fun e w' => e = .returned (.agg (mv fun i => (a i && !b i) && decide (i < 1440))) ∧ Below w.heap.size w w' := by
  have hz := mv_lit
  have h1 : (((w.alloc (.cells (mv a) 41)).alloc (.cells (mv b) 41)).alloc (.cells (mv fun _ => false) 41)).heap[w.heap.size]? = some (.cells (mv a) 41 (0, 0)) := by (repeat (first | refine blk_old _ _ _ (by simp only [size_alloc]; omega) ?_ | exact blk_new _ _ _ (by first | rfl | simp only [size_alloc])))
  have h2 : (((w.alloc (.cells (mv a) 41)).alloc (.cells (mv b) 41)).alloc (.cells (mv fun _ => false) 41)).heap[w.heap.size + 1]? = some (.cells (mv b) 41 (0, 0)) := by (repeat (first | refine blk_old _ _ _ (by simp only [size_alloc]; omega) ?_ | exact blk_new _ _ _ (by first | rfl | simp only [size_alloc])))
  have h3 : (((w.alloc (.cells (mv a) 41)).alloc (.cells (mv b) 41)).alloc (.cells (mv fun _ => false) 41)).heap[w.heap.size + 1 + 1]? = some (.cells (mv fun _ => false) 41 (0, 0)) := by (repeat (first | refine blk_old _ _ _ (by simp only [size_alloc]; omega) ?_ | exact blk_new _ _ _ (by first | rfl | simp only [size_alloc])))
  have hb0 : Below w.heap.size w (((w.alloc (.cells (mv a) 41)).alloc (.cells (mv b) 41)).alloc (.cells (mv fun _ => false) 41)) := (((Below.refl _ _).alloc (Nat.le_refl _) _).alloc (by simp) _).alloc (by simp only [size_alloc]; omega) _
  go_enter Tryd.func31, Tryd.ntmps31
  go_wp2_with (first
    | (refine wpList_load_row rfl 41 _ rfl _ rfl _ _ _ _ h1 maskType rfl (maskSize _) ?_)
    | (refine wpList_load_row rfl 41 _ rfl _ rfl _ _ _ _ h2 maskType rfl (maskSize _) ?_)
    | (go_at_call 24; refine (combine_any 39 (fun x y => x && !y) not_any (fun _ _ => by simp [go_sem]) a b _).mono ?_; rintro e w' ⟨rfl, hb'⟩; have ho' := (hb'.block _ (lt_of_block h3)).trans h3)
    | (refine wpList_store_row rfl 41 _ _ rfl _ _ rfl rfl _ _ (by assumption) (maskSize _) (by simp [mv_size]) (mv_all _) ?_))
  refine bodyPost_ret (v := .agg (mv fun i => (a i && !b i) && decide (i < 1440))) ?_ rfl ⟨rfl, ?_⟩
  · exact results_cell_row rfl _ _ (w.heap.size + 1 + 1) _ _ _ _ rfl (setRow_heap _ _ _ _ _ _ ho') maskType rfl (maskSize _)
  · exact below_setRow (hb0.trans (hb'.mono hb0.size)) (by omega) _

end Go.Proofs.YtlhjgajhcabhoaaDoor

/- What the small functions on numbers come to: ones, wordEnd, and the library's OnesCount64 and TrailingZeros64. -/
namespace Go.Proofs.YtlhjgajhcabhoaaDoor
open Go.RowKit Msk

theorem ret_val {v v' : Value} (h : v = v') : Ending.returned v = .returned v' := by rw [h]
theorem int_eq {k : IntKind} {a b : Int} (h : a = b) : Value.int k a = .int k b := by rw [h]

theorem ones_num (n : Nat) (hn : n ≤ 64) : IntKind.u64.wrap (IntKind.u64.wrap (2 ^ n) - 1) = ((2 ^ n - 1 : Nat) : Int) := by
  rw [IntKind.wrap_u64, IntKind.wrap_u64]
  have hp : (1 : Nat) ≤ 2 ^ n := Nat.two_pow_pos n
  have hc : ((2 : Int) ^ n) = ((2 ^ n : Nat) : Int) := by simp
  rw [hc]
  by_cases h : n = 64
  · subst h; decide
  · have hl : 2 ^ n ≤ 2 ^ 63 := Nat.pow_le_pow_right (by omega) (by omega)
    generalize 2 ^ n = p at *
    omega
theorem ones_any (n : Nat) (hn : n ≤ 64) (w : World) : Calls Tryd.prog 38 #[.int .i64 n] w fun e w' => e = .returned (.int .u64 ((2 ^ n - 1 : Nat) : Int)) ∧ w' = w := by
  go_enter Tryd.func38, Tryd.ntmps38
  go_wp2
  go_ret
  exact ⟨ret_val (int_eq (ones_num n hn)), rfl⟩
theorem ones_at (d : Int) (h0 : 0 ≤ d) (h1 : d ≤ 64) (w : World) : Calls Tryd.prog 38 #[.int .i64 d] w fun e w' => e = .returned (.int .u64 ((2 ^ d.toNat - 1 : Nat) : Int)) ∧ w' = w := by
  have := ones_any d.toNat (by omega) w
  rw [Int.toNat_of_nonneg h0] at this
  exact this
theorem wordEnd_any (n : Nat) (hn : n ≤ 1440) (w : World) : Calls Tryd.prog 37 #[.int .i64 n] w fun e w' => e = .returned (.int .i64 ((64 * (n / 64) + 64 : Nat) : Int)) ∧ w' = w := by
  go_enter Tryd.func37, Tryd.ntmps37
  go_wp2
  go_ret
  exact ⟨ret_val (int_eq (by omega)), rfl⟩

theorem bits_and_i64_nat (a b : Nat) (ha : a < 9223372036854775808) (hb : b < 9223372036854775808) :
    bits .and .i64 (a : Int) (b : Int) = ((a &&& b : Nat) : Int) := by
  have hx : a &&& b < 2 ^ 63 := Nat.and_lt_two_pow _ (by omega)
  have h1 : (BitVec.ofInt 64 (a : Int)).toNat = a := by
    rw [BitVec.ofInt_natCast, BitVec.toNat_ofNat]; exact Nat.mod_eq_of_lt (by omega)
  have h2 : (BitVec.ofInt 64 (b : Int)).toNat = b := by
    rw [BitVec.ofInt_natCast, BitVec.toNat_ofNat]; exact Nat.mod_eq_of_lt (by omega)
  show IntKind.i64.wrap ((BitVec.ofInt 64 (a : Int) &&& BitVec.ofInt 64 (b : Int)).toNat : Int) = _
  rw [BitVec.toNat_and, h1, h2, IntKind.wrap_i64]
  omega

/-- The library's rounds, one by one, as the walk writes them. -/
theorem pop_chain (x : Nat) (hx : x < 18446744073709551616) : ∃ y z d a b c : Nat, c < 9223372036854775808 ∧
    IntKind.u64.wrap (bits .and .u64 ((x : Int) / 2) 6148914691236517205 + bits .and .u64 (x : Int) 6148914691236517205) = (y : Int) ∧
    IntKind.u64.wrap (bits .and .u64 ((y : Int) / 4) 3689348814741910323 + bits .and .u64 (y : Int) 3689348814741910323) = (z : Int) ∧
    bits .and .u64 (IntKind.u64.wrap ((z : Int) / 16 + (z : Int))) 1085102592571150095 = (d : Int) ∧
    IntKind.u64.wrap ((d : Int) + (d : Int) / 256) = (a : Int) ∧ IntKind.u64.wrap ((a : Int) + (a : Int) / 65536) = (b : Int) ∧
    IntKind.u64.wrap ((b : Int) + (b : Int) / 4294967296) = (c : Int) ∧ bits .and .i64 (c : Int) 127 = ((cnt (fun j => x.testBit j) 64 : Nat) : Int) := by
  obtain ⟨e1, h1, t1, r1⟩ := pop_one x hx
  obtain ⟨e2, h2, t2, r2⟩ := pop_two e1 h1
  obtain ⟨e3, h3, t3, l3, r3⟩ := pop_three e2 h2
  obtain ⟨a, b, c, ha, la, hb, lb, hc, lc, hs⟩ := pop_last e3 h3
  have ly : dig e1 2 32 < 2 ^ (2 * 32) := dig_lt e1 2 32 fun i _ => by have := h1 i; omega
  simp only [Nat.reduceMul, Nat.reducePow] at ly
  rw [t3, t2, t1] at hs
  clear t1 t2 t3 h1 h2 h3
  generalize dig e1 2 32 = y at *
  generalize dig e2 4 16 = z at *
  generalize dig e3 8 8 = d at *
  have lz : z < 18446744073709551616 := by omega
  have q1 := bits_and_u64_nat (x / 2) 6148914691236517205 (by omega) (by omega)
  have q2 := bits_and_u64_nat x 6148914691236517205 hx (by omega)
  have q3 := bits_and_u64_nat (y / 4) 3689348814741910323 (by omega) (by omega)
  have q4 := bits_and_u64_nat y 3689348814741910323 ly (by omega)
  have q5 := bits_and_u64_nat (z / 16 + z) 1085102592571150095 l3 (by omega)
  have q6 := bits_and_i64_nat c 127 lc (by omega)
  have q7 : c &&& 127 = c % 128 := Nat.and_two_pow_sub_one_eq_mod c 7
  refine ⟨y, z, d, a, b, c, lc, ?_, ?_, ?_, ?_, ?_, ?_, ?_⟩
  · have e : ((x / 2 : Nat) : Int) = (x : Int) / 2 := by omega
    have e' : ((6148914691236517205 : Nat) : Int) = 6148914691236517205 := rfl
    rw [e, e'] at q1; rw [e'] at q2
    rw [q1, q2, IntKind.wrap_u64]
    omega
  · have e : ((y / 4 : Nat) : Int) = (y : Int) / 4 := by omega
    have e' : ((3689348814741910323 : Nat) : Int) = 3689348814741910323 := rfl
    rw [e, e'] at q3; rw [e'] at q4
    rw [q3, q4, IntKind.wrap_u64]
    omega
  · have e : IntKind.u64.wrap ((z : Int) / 16 + (z : Int)) = ((z / 16 + z : Nat) : Int) := by rw [IntKind.wrap_u64]; omega
    have e' : ((1085102592571150095 : Nat) : Int) = 1085102592571150095 := rfl
    rw [e'] at q5
    rw [e, q5, r3]
  · rw [IntKind.wrap_u64]; omega
  · rw [IntKind.wrap_u64]; omega
  · rw [IntKind.wrap_u64]; omega
  · have e' : ((127 : Nat) : Int) = 127 := rfl
    rw [e'] at q6
    rw [q6, q7, hs]

/-- The library's table, as its text lays it. -/
def Tab (w : World) : Prop := ∀ j, j < 64 → w.cell? ⟨0, j, none⟩ = some (.int .u8 ((Lib.deBruijn64tab.getD j 0 : Nat) : Int))
theorem Tab.later {w w' : World} (h : Tab w) (hb : Below w.heap.size w w') : Tab w' := fun j hj => (hb.cell (block_lt_of_cell (h j hj))).trans (h j hj)

theorem tz_key (x a : Nat) (hx : x < 18446744073709551616) (hx0 : x ≠ 0) (hlow : x &&& (18446744073709551616 - x) = a) :
    IntKind.u64.wrap (bits BinOp.and IntKind.u64 (x : Int) (IntKind.u64.wrap (-(x : Int))) * 285870213051353865) / 288230376151711744 = ((a * 285870213051353865 % 18446744073709551616 / 288230376151711744 : Nat) : Int) := by
  have e1 : IntKind.u64.wrap (-(x : Int)) = ((18446744073709551616 - x : Nat) : Int) := by rw [IntKind.wrap_u64]; omega
  rw [e1, bits_and_u64_nat x _ hx (by omega), hlow, IntKind.wrap_u64]
  omega
set_option maxHeartbeats 400000 in
theorem tz_core (x k idx : Nat) (w : World) (hx0 : ((x : Int) == 0) = false)
    (key : IntKind.u64.wrap (bits BinOp.and IntKind.u64 (x : Int) (IntKind.u64.wrap (-(x : Int))) * 285870213051353865) / 288230376151711744 = (idx : Int))
    (hi : idx < 64) (hk : k < 64) (hcell : w.cell? ⟨0, idx, none⟩ = some (.int .u8 k)) :
    Calls Tryd.prog 57 #[.int .u64 x] w fun e w' => e = .returned (.int .i64 k) ∧ w' = w := by
  go_enter Tryd.func57, Tryd.ntmps57
  go_wp2_with (simp only [key])
  go_ret
  exact ⟨rfl, rfl⟩
/-- The first bit that is set. -/
theorem tz_any (x : Nat) (hx : x < 18446744073709551616) (hx0 : x ≠ 0) (w : World) (hT : Tab w) :
    ∃ k : Nat, k < 64 ∧ x.testBit k = true ∧ (∀ j, j < k → x.testBit j = false) ∧ Calls Tryd.prog 57 #[.int .u64 x] w fun e w' => e = .returned (.int .i64 k) ∧ w' = w := by
  obtain ⟨hlow, hk⟩ := Lib.lowest_bit 64 x hx0 hx
  obtain ⟨hi, htab⟩ := Lib.deBruijn64_at _ hk
  have hcell := hT _ hi
  rw [htab] at hcell
  have hb : ∀ j, j ≤ Lib.ctz 64 x → x.testBit j = decide (j = Lib.ctz 64 x) := by
    obtain ⟨m, hm, hlt⟩ := Lib.ctzFrom_spec 64 x (by omega) hx
    have e : Lib.ctz 64 x = Lib.ctzFrom 64 x := by simp [Lib.ctz, hx0]
    rw [e]
    clear hcell htab hi hlow hk e
    generalize Lib.ctzFrom 64 x = k at *
    intro j hj
    rw [hm, Nat.mul_comm, Nat.testBit_mul_two_pow]
    by_cases hjk : j = k
    · subst hjk; simp
    · have : ¬ k ≤ j := by omega
      simp [this, hjk]
  exact ⟨_, hk, by rw [hb _ (Nat.le_refl _)]; simp, fun j hj => by rw [hb _ (by omega)]; simp; omega, tz_core x _ _ w (by simp; omega) (tz_key x _ hx hx0 hlow) hi hk hcell⟩

end Go.Proofs.YtlhjgajhcabhoaaDoor

/- What masks.first comes to: the first minute that a mask has, from one on. -/
namespace Go.Proofs.YtlhjgajhcabhoaaDoor
open Go.RowKit Msk

/-- The first minute from one on, up to the day's end. -/
def FirstAt (f : Nat → Bool) (p r : Nat) : Prop := p ≤ r ∧ r ≤ 1440 ∧ (∀ i, p ≤ i → i < r → f i = false) ∧ (r < 1440 → f r = true)

theorem shr_zero (f : Nat → Bool) (k q r x : Nat) (hq : q = k / 64) (hr : r = k % 64) (hx : x = wd f q / 2 ^ r) (h0 : x = 0) : ∀ i, k ≤ i → i < 64 * q + 64 → f i = false := by
  intro i h1 h2
  have hb : (wd f q / 2 ^ r).testBit (i - k) = f i := by
    rw [shr_bit, wd_bit]
    have e1 : 64 * q + (i - k + r) = i := by omega
    have e2 : i - k + r < 64 := by omega
    simp [e1, e2]
  rw [← hx, h0] at hb
  simpa using hb.symm
theorem shr_some (f : Nat → Bool) (k q r x t : Nat) (hq : q = k / 64) (hr : r = k % 64) (hx : x = wd f q / 2 ^ r) (h1 : x.testBit t = true) (h2 : ∀ j, j < t → x.testBit j = false) :
    f (k + t) = true ∧ k + t < 64 * q + 64 ∧ ∀ i, k ≤ i → i < k + t → f i = false := by
  subst hx
  have hb : ∀ j, (wd f q / 2 ^ r).testBit j = (decide (j + r < 64) && f (k + j)) := by
    intro j
    rw [shr_bit, wd_bit]
    have e1 : 64 * q + (j + r) = k + j := by omega
    rw [e1]
  rw [hb] at h1
  simp only [Bool.and_eq_true, decide_eq_true_eq] at h1
  refine ⟨h1.2, by omega, fun i a b => ?_⟩
  have := h2 (i - k) (by omega)
  rw [hb] at this
  have e2 : i - k + r < 64 := by omega
  have e3 : k + (i - k) = i := by omega
  simpa [e2, e3] using this

set_option maxRecDepth 10000 in
set_option maxHeartbeats 2000000 in
theorem first_any (f : Nat → Bool) (p : Nat) (hp : p ≤ 1440) (w : World) (hT : Tab w) :
    Calls Tryd.prog 45 #[.agg (mv f), .int .i64 p] w fun e w' => (∃ r : Nat, e = .returned (.int .i64 r) ∧ FirstAt f p r) ∧ Below w.heap.size w w' := by
  have h1 : (w.alloc (.cells (mv f) 41)).heap[w.heap.size]? = some (.cells (mv f) 41 (0, 0)) := by (repeat (first | refine blk_old _ _ _ (by simp only [size_alloc]; omega) ?_ | exact blk_new _ _ _ (by first | rfl | simp only [size_alloc])))
  have hb0 : Below w.heap.size w (w.alloc (.cells (mv f) 41)) := (Below.refl _ _).alloc (Nat.le_refl _) _
  have hT' := hT.later hb0
  have HT : Hid (Tab (w.alloc (.cells (mv f) 41))) := hT'
  clear hT hT'
  go_enter Tryd.func45, Tryd.ntmps45
  go_wp2
  go_loop [5] (fun a => ∃ k : Nat, p ≤ k ∧ k ≤ 1472 ∧ a = .int .i64 k ∧ ∀ i, p ≤ i → i < k → f i = false) (fun a => 1472 - (intOf a).toNat)
  case atStart => exact ⟨p, Nat.le_refl _, by omega, rfl, fun i a b => by omega⟩
  case round =>
    obtain ⟨k, hpk, hk2, rfl, hno⟩ := hrel
    have HN : Hid (∀ i, p ≤ i → i < k → f i = false) := hno
    clear hno
    by_cases hlt : k < 1440
    · obtain ⟨q, hq⟩ : ∃ q : Nat, q = k / 64 := ⟨_, rfl⟩
      obtain ⟨r, hr⟩ : ∃ r : Nat, r = k % 64 := ⟨_, rfl⟩
      have t1 : (k : Int) / 64 = (q : Int) := by omega
      have t2 : (k : Int) % 64 = (r : Int) := by omega
      have hq23 : q < 23 := by omega
      have hi0 : (0 : Int) ≤ (q : Int) := by omega
      have hi1 : (q : Int) < 23 := by omega
      have hr1 : (r : Int) < 64 := by omega
      have ca := cell_mv h1 q hq23
      obtain ⟨x, hx⟩ : ∃ x : Nat, x = wd f q / 2 ^ r := ⟨_, rfl⟩
      have hxl : x < 18446744073709551616 := by have := wd_lt f q; have := Nat.div_le_self (wd f q) (2 ^ r); omega
      have p1 : (wd f q : Int) / 2 ^ r = (x : Int) := by rw [hx]; simp
      have cw := fun w => wordEnd_any k (by omega) w
      obtain ⟨m, hm⟩ : ∃ m : Nat, m = 64 * (k / 64) + 64 := ⟨_, rfl⟩
      rw [← hm] at cw
      by_cases hx0 : x = 0
      · have z := shr_zero f k q r x hq hr hx hx0
        have x0 : ((x : Int) != 0) = false := by simp [hx0]
        have HZ : Hid (∀ i, k ≤ i → i < 64 * q + 64 → f i = false) := z
        have hm' : m = 64 * q + 64 := by omega
        have HM : Hid (m = 64 * q + 64) := hm'
        have HQ : Hid (q = k / 64) := hq
        clear z hx hx0 hq hr hm hm'
        go_wp2_with (go_at_call 37; refine (cw _).mono ?_; rintro e w' ⟨rfl, rfl⟩)
        have hM := HM.out
        have hQ := HQ.out
        go_round
        case rel =>
          refine ⟨m, by omega, by omega, rfl, fun i a b => ?_⟩
          by_cases hik : i < k
          · exact HN.out i a hik
          · exact HZ.out i (by omega) (by omega)
        case measure => simp [intOf]; omega
      · obtain ⟨t, ht64, hb1, hb2, ct⟩ := tz_any x hxl hx0 _ HT.out
        obtain ⟨s1, s2, s3⟩ := shr_some f k q r x t hq hr hx hb1 hb2
        have x0 : ((x : Int) != 0) = true := by simp [hx0]
        have HS : Hid (f (k + t) = true ∧ k + t < 64 * q + 64 ∧ ∀ i, k ≤ i → i < k + t → f i = false) := ⟨s1, s2, s3⟩
        have HE : Hid (∀ j, j < t → x.testBit j = false) := hb2
        clear hx hx0 hq hr hm hb1 hb2 s1 s3 cw
        by_cases hle : k + t ≤ 1440
        · go_wp2_with (go_at_call 57; refine ct.mono ?_; rintro e w' ⟨rfl, rfl⟩)
          go_ret
          refine ⟨⟨k + t, ret_val (int_eq (by omega)), ?_⟩, hb0⟩
          refine ⟨by omega, hle, fun i a b => ?_, fun _ => HS.out.1⟩
          by_cases hik : i < k
          · exact HN.out i a hik
          · exact HS.out.2.2 i (by omega) b
        · go_wp2_with (go_at_call 57; refine ct.mono ?_; rintro e w' ⟨rfl, rfl⟩)
          go_ret
          refine ⟨⟨1440, ret_val (int_eq (by omega)), ?_⟩, hb0⟩
          refine ⟨by omega, by omega, fun i a b => ?_, fun h => by omega⟩
          by_cases hik : i < k
          · exact HN.out i a hik
          · exact HS.out.2.2 i (by omega) (by omega)
    · go_wp2
      go_ret
      refine ⟨⟨1440, ret_val (int_eq (by omega)), ?_⟩, hb0⟩
      exact ⟨by omega, by omega, fun i a b => HN.out i a (by omega), fun h => by omega⟩
end Go.Proofs.YtlhjgajhcabhoaaDoor

/- What masks.fill comes to. -/
namespace Go.Proofs.YtlhjgajhcabhoaaDoor
open Go.RowKit Msk

/-- One word, filled from a minute on up to another one of the same word. -/
theorem fill_word (f : Nat → Bool) (x y : Nat) (h1 : x ≤ y) :
    bits .or .u64 (wd f (x / 64) : Int) (IntKind.u64.wrap (((2 ^ (y - x) - 1 : Nat) : Int) * 2 ^ (x % 64))) = ((wd (fun i => f i || (decide (x ≤ i) && decide (i < y))) (x / 64) : Nat) : Int) := by
  have e : IntKind.u64.wrap (((2 ^ (y - x) - 1 : Nat) : Int) * 2 ^ (x % 64)) = ((wd (fun i => decide (x ≤ i) && decide (i < y)) (x / 64) : Nat) : Int) := by
    have e1 : wd (fun i => decide (x ≤ i) && decide (i < y)) (x / 64) = (2 ^ (y - x) - 1) * 2 ^ (x % 64) % 18446744073709551616 := by
      symm
      refine wd_eq _ _ _ (Nat.mod_lt _ (by omega)) fun j hj => ?_
      rw [shl_bit _ _ j hj, ones_bit]
      have q1 : (x % 64 ≤ j) = (x ≤ 64 * (x / 64) + j) := by apply propext; omega
      by_cases hr : x % 64 ≤ j
      · have q2 : (j - x % 64 < y - x) = (64 * (x / 64) + j < y) := by apply propext; omega
        simp only [q1, q2]
      · have q3 : ¬ x ≤ 64 * (x / 64) + j := by omega
        simp [hr, q3]
    rw [IntKind.wrap_u64, e1]
    have : ((2 : Int) ^ (x % 64)) = ((2 ^ (x % 64) : Nat) : Int) := by simp
    rw [this]
    omega
  rw [e, bits_or_u64_nat _ _ (wd_lt _ _) (wd_lt _ _), wd_or]

/-- The mask behind it. -/
theorem fill_mv (f : Nat → Bool) (x y : Nat) (h1 : x ≤ y) (h2 : y ≤ 64 * (x / 64) + 64) (hx : x < 1472) :
    (mv f).setIfInBounds (x / 64) (.int .u64 (bits .or .u64 (wd f (x / 64) : Int) (IntKind.u64.wrap (((2 ^ (y - x) - 1 : Nat) : Int) * 2 ^ (x % 64))))) = mv fun i => f i || (decide (x ≤ i) && decide (i < y)) := by
  rw [fill_word f x y h1, mv_set _ _ _ (by omega)]
  refine mv_ext fun i hi => ?_
  by_cases h : i / 64 = x / 64
  · rw [if_pos h]
  · rw [if_neg h]
    by_cases q : x ≤ i
    · have : ¬ i < y := by omega
      simp [this]
    · simp [q]

theorem fill_start (f : Nat → Bool) (x v : Int) (h : v = max x 0) : mv f = mv fun i => f i || (decide (x ≤ (i : Int)) && decide ((i : Int) < v)) := mv_ext fun i _ => by
  have : ¬ (x ≤ (i : Int) ∧ (i : Int) < v) := by omega
  by_cases h1 : x ≤ (i : Int)
  · have : ¬ (i : Int) < v := by omega
    simp [this]
  · simp [h1]
theorem fill_step (f : Nat → Bool) (x : Int) (k n : Nat) (h0 : x ≤ k) (hk : k ≤ n) : (mv fun i => (f i || (decide (x ≤ (i : Int)) && decide ((i : Int) < (k : Int)))) || (decide (k ≤ i) && decide (i < n))) = mv fun i => f i || (decide (x ≤ (i : Int)) && decide ((i : Int) < (n : Int))) := mv_ext fun i _ => by
  by_cases h1 : i < k
  · have h2 : ¬ k ≤ i := by omega
    have h3 : (i : Int) < k := by omega
    have h4 : (i : Int) < n := by omega
    simp [h2, h3, h4]
  · have h2 : k ≤ i := by omega
    have h3 : ¬ (i : Int) < k := by omega
    have h4 : ((i : Int) < n) = (i < n) := by apply propext; omega
    have h5 : x ≤ (i : Int) := by omega
    simp [h2, h3, h5]
theorem fill_put (f : Nat → Bool) (x : Int) (k n q r : Nat) (h0 : x ≤ k) (h1 : k ≤ n) (h2 : n ≤ 64 * (k / 64) + 64) (hx : k < 1472) (hq : q = k / 64) (hr : r = k % 64) (d : Nat) (hd : d = n - k)
    (F : Nat → Bool) (hF : F = fun i => f i || (decide (x ≤ (i : Int)) && decide ((i : Int) < (k : Int)))) :
    (mv F).setIfInBounds q (.int .u64 (bits .or .u64 (wd F q : Int) (IntKind.u64.wrap (((2 ^ d - 1 : Nat) : Int) * 2 ^ r)))) = mv fun i => f i || (decide (x ≤ (i : Int)) && decide ((i : Int) < (n : Int))) := by
  subst hq hr hd
  rw [fill_mv F k n h1 h2 hx, hF]
  exact fill_step f x k n h0 h1

theorem fill_end (f : Nat → Bool) (x y v : Int) (h1 : v = max x 0 ∨ (v ≤ y ∧ v ≤ 1440)) (h2 : y ≤ v ∨ 1440 ≤ v) : (mv fun i => f i || (decide (x ≤ (i : Int)) && decide ((i : Int) < v))) = mv fun i => f i || (decide (x ≤ (i : Int)) && decide ((i : Int) < y) && decide (i < 1440)) := mv_ext fun i _ => by
  congr 1
  rw [Bool.eq_iff_iff]
  simp only [Bool.and_eq_true, decide_eq_true_eq]
  omega

attribute [local go_sem ↓] Go.wp_at_zero Go.wp_at_succ
set_option maxRecDepth 10000 in
set_option maxHeartbeats 4000000 in
theorem fill_any (f : Nat → Bool) (g : Nat) (x y : Int) (w : World) (hg : w.heap[g]? = some (.cells (mv f) 41 (0, 0))) :
    Calls Tryd.prog 30 #[.pointer (some ⟨g, 0, none⟩), .agg #[.int .i64 x, .int .i64 y]] w fun e w' => e = .returned (.tuple #[]) ∧
      w'.heap[g]? = some (.cells (mv fun i => f i || (decide (x ≤ (i : Int)) && decide ((i : Int) < y) && decide (i < 1440))) 41 (0, 0)) ∧ Below g w w' := by
  have hgl := lt_of_block hg
  go_enter Tryd.func30, Tryd.ntmps30
  go_wp2
  go_region
  all_goals go_wp2
  all_goals
    go_loopw [4] (fun i wr => ∃ v : Int, i = .int .i64 v ∧ 0 ≤ v ∧ x ≤ v ∧ (v = max x 0 ∨ (v ≤ y ∧ v ≤ 1440)) ∧ wr.heap[g]? = some (.cells (mv fun i => f i || (decide (x ≤ (i : Int)) && decide ((i : Int) < v))) 41 (0, 0)) ∧ Below g w wr) (fun i _ => (1440 - intOf i).toNat)
    case atStart =>
      refine ⟨_, rfl, by omega, by omega, .inl (by omega), ?_, ?_⟩
      · exact blk_eq (blk_old _ _ _ hgl hg) (fill_start f x _ (by omega))
      · exact ((Below.refl _ _).alloc (Nat.le_of_lt hgl) _).drew
    case round =>
      obtain ⟨v, rfl, hv0, hvx, hv, hm, hbel⟩ := hrel
      by_cases hlt : v < y ∧ v < 1440
      · obtain ⟨hl1, hl2⟩ := hlt
        obtain ⟨k, rfl⟩ : ∃ k : Nat, v = k := ⟨v.toNat, by omega⟩
        obtain ⟨yn, rfl⟩ : ∃ yn : Nat, y = yn := ⟨y.toNat, by omega⟩
        generalize hF : (fun i : Nat => f i || (decide (x ≤ (i : Int)) && decide ((i : Int) < (k : Int)))) = F at hm
        have HF : Hid (F = fun i : Nat => f i || (decide (x ≤ (i : Int)) && decide ((i : Int) < (k : Int)))) := hF.symm
        obtain ⟨m, hm1⟩ : ∃ m : Nat, m = 64 * (k / 64) + 64 := ⟨_, rfl⟩
        have hmk : m ≤ k + 64 ∧ k < m ∧ m ≤ 1472 := by omega
        have HM : Hid (m = 64 * (k / 64) + 64) := hm1
        have cw := fun w => wordEnd_any k (by omega) w
        rw [← hm1] at cw
        have HV : Hid ((k : Int) = max x 0 ∨ ((k : Int) ≤ yn ∧ (k : Int) ≤ 1440)) := hv
        obtain ⟨q, hq⟩ : ∃ q : Nat, q = k / 64 := ⟨_, rfl⟩
        obtain ⟨r, hr⟩ : ∃ r : Nat, r = k % 64 := ⟨_, rfl⟩
        have HQ : Hid (q = k / 64) := hq
        have HR : Hid (r = k % 64) := hr
        have t1 : (k : Int) / 64 = (q : Int) := by omega
        have t2 : (k : Int) % 64 = (r : Int) := by omega
        have t3 : (k : Int).tdiv 64 = (q : Int) := by rw [Int.tdiv_eq_ediv_of_nonneg (by omega)]; exact t1
        have t4 : (k : Int).tmod 64 = (r : Int) := by rw [Int.tmod_eq_emod_of_nonneg (by omega)]; exact t2
        have cm := cell_mv hm q (by omega)
        have fm := frozen_of_row _ _ q _ _ hm
        have hi0 : (0 : Int) ≤ (q : Int) := by omega
        have hi1 : (q : Int) < 23 := by omega
        have hr0 : (0 : Int) ≤ (r : Int) := by omega
        have hr1 : (r : Int) < 64 := by omega
        have t5 : IntKind.i64.wrap (q : Int) = (q : Int) := by rw [IntKind.wrap_i64]; omega
        have t6 : IntKind.i64.wrap (r : Int) = (r : Int) := by rw [IntKind.wrap_i64]; omega
        have t7 : IntKind.i64.wrap ((m : Int) - (k : Int)) = (m : Int) - (k : Int) := by rw [IntKind.wrap_i64]; omega
        have t8 : IntKind.i64.wrap (1440 - (k : Int)) = 1440 - (k : Int) := by rw [IntKind.wrap_i64]; omega
        clear hv hm1 hq hr hF
        rcases (show (m ≤ yn ∧ m ≤ 1440) ∨ (yn < m ∧ yn ≤ 1440) ∨ (1440 < m ∧ 1440 < yn) from by omega) with hA | hA | hA
        · first
          | (exfalso; omega)
          | (have t9 : IntKind.i64.wrap ((m : Int) - (k : Int)) = (m : Int) - (k : Int) := by rw [IntKind.wrap_i64]; omega
             go_wp2_with (go_at_call 37; refine (cw _).mono ?_; rintro e w' ⟨rfl, rfl⟩)
             go_region_with ((go_at_call 38; refine (ones_at _ ?_ ?_ _).mono ?_; omega; omega; rintro e w2 ⟨rfl, rfl⟩))
             all_goals
               go_wp2
               go_roundw
               case rel =>
                 have hM := HM.out
                 refine ⟨m, rfl, by omega, by omega, .inr ⟨by omega, by omega⟩, ?_, (hbel.setCell (Nat.le_refl _) _).drew⟩
                 refine blk_eq (heap_setCell_same _ _ _ _ _ _ hm) ?_
                 exact fill_put f x k m q r hvx (by omega) (by omega) (by omega) HQ.out HR.out _ (by omega) F HF.out
               case measure => simp [intOf]; omega)
        · first
          | (exfalso; omega)
          | (have t9 : IntKind.i64.wrap ((yn : Int) - (k : Int)) = (yn : Int) - (k : Int) := by rw [IntKind.wrap_i64]; omega
             go_wp2_with (go_at_call 37; refine (cw _).mono ?_; rintro e w' ⟨rfl, rfl⟩)
             go_region_with ((go_at_call 38; refine (ones_at _ ?_ ?_ _).mono ?_; omega; omega; rintro e w2 ⟨rfl, rfl⟩))
             all_goals
               go_wp2
               go_roundw
               case rel =>
                 have hM := HM.out
                 refine ⟨yn, rfl, by omega, by omega, .inr ⟨by omega, by omega⟩, ?_, (hbel.setCell (Nat.le_refl _) _).drew⟩
                 refine blk_eq (heap_setCell_same _ _ _ _ _ _ hm) ?_
                 exact fill_put f x k yn q r hvx (by omega) (by omega) (by omega) HQ.out HR.out _ (by omega) F HF.out
               case measure => simp [intOf]; omega)
        · first
          | (exfalso; omega)
          | (have t9 : IntKind.i64.wrap ((1440 : Int) - (k : Int)) = (1440 : Int) - (k : Int) := by rw [IntKind.wrap_i64]; omega
             go_wp2_with (go_at_call 37; refine (cw _).mono ?_; rintro e w' ⟨rfl, rfl⟩)
             go_region_with ((go_at_call 38; refine (ones_at _ ?_ ?_ _).mono ?_; omega; omega; rintro e w2 ⟨rfl, rfl⟩))
             all_goals
               go_wp2
               go_roundw
               case rel =>
                 have hM := HM.out
                 refine ⟨1440, rfl, by omega, by omega, .inr ⟨by omega, by omega⟩, ?_, (hbel.setCell (Nat.le_refl _) _).drew⟩
                 refine blk_eq (heap_setCell_same _ _ _ _ _ _ hm) ?_
                 exact fill_put f x k 1440 q r hvx (by omega) (by omega) (by omega) HQ.out HR.out _ (by omega) F HF.out
               case measure => simp [intOf]; omega)
      · go_wp2
        go_end0
        exact ⟨rfl, blk_eq hm (fill_end f x y v hv (by omega)), hbel⟩
end Go.Proofs.YtlhjgajhcabhoaaDoor

/- What masks.Of comes to, over a row of spans that lies in memory. -/
namespace Go.Proofs.YtlhjgajhcabhoaaDoor
open Go.RowKit Msk

/-- A row of spans in memory: the slice's value and its spans. -/
def Row (w : World) (v : Value) (l : List (Int × Int)) : Prop :=
  (∃ c, v = .slice none 0 c ∧ l = []) ∨ ∃ g o c : Nat, v = .slice (some ⟨g, o, none⟩) l.length c ∧ l.length < 9223372036854775808 ∧ ∀ j, j < l.length → w.cell? ⟨g, o + j * 2, none⟩ = some (.int .i64 (l.getD j (0, 0)).1) ∧ w.cell? ⟨g, o + j * 2 + 1, none⟩ = some (.int .i64 (l.getD j (0, 0)).2)
theorem Row.later {w w' : World} {v : Value} {l : List (Int × Int)} (h : Row w v l) (hb : Below w.heap.size w w') : Row w' v l := by
  rcases h with h | ⟨g, o, c, hv, hl, hc⟩
  · exact .inl h
  · refine .inr ⟨g, o, c, hv, hl, fun j hj => ?_⟩
    obtain ⟨c1, c2⟩ := hc j hj
    exact ⟨(hb.cell (block_lt_of_cell c1)).trans c1, (hb.cell (block_lt_of_cell c2)).trans c2⟩

/-- Is a minute in one of the spans? -/
def inl (l : List (Int × Int)) (i : Nat) : Bool := l.any fun s => decide (s.1 ≤ (i : Int)) && decide ((i : Int) < s.2) && decide (i < 1440)
theorem inl_snoc (l : List (Int × Int)) (k : Nat) (hk : k < l.length) : (mv fun i => inl (l.take k) i || (decide ((l.getD k (0, 0)).1 ≤ (i : Int)) && decide ((i : Int) < (l.getD k (0, 0)).2) && decide (i < 1440))) = mv (inl (l.take (k + 1))) := by
  have e : l.take (k + 1) = l.take k ++ [l.getD k (0, 0)] := by
    rw [List.take_succ_eq_append_getElem hk]; simp [List.getD, hk]
  refine mv_ext fun i _ => ?_
  rw [e]
  simp [inl]

set_option maxHeartbeats 1000000 in
theorem of_any (v : Value) (l : List (Int × Int)) (w : World) (hl : Row w v l) :
    Calls Tryd.prog 22 #[v] w fun e w' => e = .returned (.agg (mv (inl l))) ∧ Below w.heap.size w w' := by
  have hz := mv_lit
  have h1 : ((w.alloc (.cells (mv fun _ => false) 41)).alloc (.cells (mv fun _ => false) 41)).heap[w.heap.size]? = some (.cells (mv fun _ => false) 41 (0, 0)) := by (repeat (first | refine blk_old _ _ _ (by simp only [size_alloc]; omega) ?_ | exact blk_new _ _ _ (by first | rfl | simp only [size_alloc])))
  have h2 : ((w.alloc (.cells (mv fun _ => false) 41)).alloc (.cells (mv fun _ => false) 41)).heap[w.heap.size + 1]? = some (.cells (mv fun _ => false) 41 (0, 0)) := by (repeat (first | refine blk_old _ _ _ (by simp only [size_alloc]; omega) ?_ | exact blk_new _ _ _ (by first | rfl | simp only [size_alloc])))
  have hb0 : Below w.heap.size w ((w.alloc (.cells (mv fun _ => false) 41)).alloc (.cells (mv fun _ => false) 41)) := ((Below.refl _ _).alloc (Nat.le_refl _) _).alloc (by simp) _
  rcases hl with ⟨c, rfl, rfl⟩ | ⟨g, o, c, rfl, hlen, hcell⟩
  · go_enter Tryd.func22, Tryd.ntmps22
    go_wp2
    refine wp_loop_rounds 1 ?_
    rw [rounds_succ]
    go_wp2_with (first
      | (refine wpList_load_row rfl 41 _ rfl _ rfl _ _ _ _ h2 maskType rfl (maskSize _) ?_)
      | (refine wpList_store_row rfl 41 _ _ rfl _ _ rfl rfl _ _ h1 (maskSize _) (by simp [mv_size]) (mv_all _) ?_))
    refine bodyPost_ret (v := .agg (mv (inl []))) ?_ rfl ⟨rfl, below_setRow hb0 (Nat.le_refl _) _⟩
    exact results_cell_row rfl _ _ w.heap.size _ _ _ _ rfl (setRow_heap _ _ _ _ _ _ h1) maskType rfl (maskSize _)
  · have HC : Hid (∀ j, j < l.length → w.cell? ⟨g, o + j * 2, none⟩ = some (.int .i64 (l.getD j (0, 0)).1) ∧ w.cell? ⟨g, o + j * 2 + 1, none⟩ = some (.int .i64 (l.getD j (0, 0)).2)) := hcell
    clear hcell
    go_enter Tryd.func22, Tryd.ntmps22
    go_wp2
    go_loopw [8] (fun i wr => ∃ k : Nat, k ≤ l.length ∧ i = .int .i64 k ∧ wr.heap[w.heap.size]? = some (.cells (mv fun _ => false) 41 (0, 0)) ∧ wr.heap[w.heap.size + 1]? = some (.cells (mv (inl (l.take k))) 41 (0, 0)) ∧ Below w.heap.size w wr) (fun i _ => l.length - (intOf i).toNat)
    case atStart => exact ⟨0, Nat.zero_le _, rfl, h1, blk_eq h2 (mv_ext fun i _ => by simp [inl]), hb0⟩
    case round =>
      obtain ⟨k, hk, rfl, ho, hm, hbel⟩ := hrel
      by_cases hlt : k < l.length
      · obtain ⟨c1, c2⟩ := HC.out k hlt
        have d1 := (hbel.cell (block_lt_of_cell c1)).trans c1
        have d2 := (hbel.cell (block_lt_of_cell c2)).trans c2
        have hsn := inl_snoc l k hlt
        generalize hs : l.getD k (0, 0) = s at d1 d2 hsn
        obtain ⟨x, y⟩ := s
        dsimp only at d1 d2 hsn
        have HS : Hid ((mv fun i => inl (l.take k) i || (decide (x ≤ (i : Int)) && decide ((i : Int) < y) && decide (i < 1440))) = mv (inl (l.take (k + 1)))) := hsn
        have hm2 := blk_old _ (.cells #[.int .i64 x, .int .i64 y] 57) _ (lt_of_block hm) hm
        have ho2 := blk_old _ (.cells #[.int .i64 x, .int .i64 y] 57) _ (lt_of_block ho) ho
        have hb2 := hbel.alloc hbel.size (.cells #[.int .i64 x, .int .i64 y] 57)
        clear c1 c2 hsn hs
        go_wp2_with (go_at_call 30; refine (fill_any _ _ _ _ _ hm2).mono ?_; rintro e w' ⟨rfl, hm', hb'⟩)
        go_roundw
        case rel => exact ⟨k + 1, by omega, by go_num, (hb'.block _ (by omega)).trans ho2, blk_eq hm' HS.out, hb2.trans (hb'.mono (by omega))⟩
        case measure => simp [intOf]; omega
      · have hkl : k = l.length := by omega
        subst hkl
        have hm2 := blk_eq hm (by rw [List.take_length])
        clear hm
        go_wp2_with (first
          | (refine wpList_load_row rfl 41 _ rfl _ rfl _ _ _ _ hm2 maskType rfl (maskSize _) ?_)
          | (refine wpList_store_row rfl 41 _ _ rfl _ _ rfl rfl _ _ ho (maskSize _) (by simp [mv_size]) (mv_all _) ?_))
        refine bodyPost_ret (v := .agg (mv (inl l))) ?_ rfl ⟨rfl, below_setRow hbel (Nat.le_refl _) _⟩
        exact results_cell_row rfl _ _ w.heap.size _ _ _ _ rfl (setRow_heap _ _ _ _ _ _ ho) maskType rfl (maskSize _)
end Go.Proofs.YtlhjgajhcabhoaaDoor

/- A region that draws its order and makes memory: what each operation yields is said by a predicate that later operations keep; then whatever order is drawn, all that is said holds at the end. It speaks of no program. -/
namespace Go.Proofs.YtlhjgajhcabhoaaDoor
open Go

/-- How many are not listed yet. -/
def uc : List Bool → Nat
  | [] => 0
  | b :: l => (if b then 0 else 1) + uc l
theorem uc_set : ∀ (l : List Bool) (i : Nat), l[i]? = some false → uc (l.set i true) + 1 = uc l
  | [], i, h => by simp at h
  | b :: l, 0, h => by
    simp at h; subst h
    simp [uc]; omega
  | b :: l, i + 1, h => by
    have := uc_set l i (by simpa using h)
    simp only [List.set_cons_succ, uc]
    omega
theorem uc_zero : ∀ (l : List Bool), uc l = 0 → ∀ i : Nat, l[i]? ≠ some false
  | [], _, i => by simp
  | b :: l, h, 0 => by
    cases b
    · simp [uc] at h
    · simp
  | b :: l, h, i + 1 => by
    have : uc l = 0 := by simp only [uc] at h; omega
    simpa using uc_zero l this i
theorem uc_rep : ∀ n, uc (List.replicate n false) = n
  | 0 => rfl
  | n + 1 => by simp only [List.replicate_succ, uc, uc_rep n]; simp; omega

section
variable {P : Program} {ops : Array Oper} {Q : Exit → Act → World → Prop}

theorem ready_false {listed : Array Bool} {i : Nat} (h : i ∈ Region.ready .any ops listed) : listed.toList[i]? = some false := by
  have := (mem_ready.1 h).1
  by_cases hi : i < listed.size
  · simp [Array.getD, hi] at this
    simp [hi, this]
  · simp [Array.getD, hi] at this

/-- A step of the drawn order keeps the invariant: so the region's end is reached under it. -/
theorem wpAny_inv (I : Array Bool → Act → World → Prop) (hstep : ∀ listed a w i, I listed a w → i ∈ Region.ready .any ops listed → wpOp P ops Q i (fun a' w' => I (listed.setIfInBounds i true) a' w') a w)
    (hend : ∀ listed a w, I listed a w → Region.ready .any ops listed = [] → Q .normal a w) :
    ∀ (fuel : Nat) (listed : Array Bool) (a : Act) (w : World), uc listed.toList ≤ fuel → I listed a w → wpAny P .any ops Q fuel listed a w
  | 0, listed, a, w, hu, h => by
    have hr : Region.ready .any ops listed = [] := by
      cases hr : Region.ready .any ops listed with
      | nil => rfl
      | cons i l =>
        have h1 := ready_false (ops := ops) (listed := listed) (i := i) (by rw [hr]; simp)
        exact absurd h1 (uc_zero _ (by omega) i)
    exact ⟨hr, hend _ _ _ h hr⟩
  | fuel + 1, listed, a, w, hu, h => by
    refine ⟨fun hr => hend _ _ _ h hr, fun i hi => ?_⟩
    have h1 := ready_false hi
    have h2 := uc_set _ i h1
    refine wpOp_mono (fun a' w' h' => ?_) (hstep listed a w i h hi)
    refine wpAny_inv I hstep hend fuel _ a' w' ?_ h'
    rw [Array.toList_setIfInBounds]
    omega

/-- Each operation waits only for earlier ones. -/
def backB (ops : Array Oper) : Bool := (List.range ops.size).all fun i => match ops[i]? with | none => true | some o => o.after.all fun e => !Region.binds .any e || decide (e.on < i)
theorem ready_nil (hB : backB ops = true) {listed : Array Bool} (hr : Region.ready .any ops listed = []) : ∀ i, i < ops.size → listed.getD i true = true := by
  intro i
  induction i using Nat.strongRecOn with
  | ind i ih =>
    intro hi
    cases hb : listed.getD i true with
    | true => rfl
    | false =>
      exfalso
      have ho : ops[i]? = some ops[i] := by simp [hi]
      have hm : i ∈ Region.ready .any ops listed := mem_ready.2 ⟨hb, ops[i], ho, fun e he hbd => by
        have h1 := List.all_eq_true.1 hB i (by simpa using hi)
        rw [ho] at h1
        have h2 := Array.all_eq_true'.1 h1 e he
        have h3 : e.on < i := by rw [hbd] at h2; simpa using h2
        have h4 := ih e.on h3 (by omega)
        by_cases hs : e.on < listed.size
        · simp [Array.getD, hs] at h4 ⊢; exact h4
        · exfalso
          have h5 : i < listed.size := by
            by_cases h6 : i < listed.size
            · exact h6
            · simp [Array.getD, h6] at hb
          omega⟩
      rw [hr] at hm
      cases hm

/-- The slots that the operations write are apart, and are there. -/
def dstB (ops : Array Oper) : Bool := (List.range ops.size).all fun i => (List.range ops.size).all fun j => i == j || (match (ops[i]?).bind (·.dst), (ops[j]?).bind (·.dst) with | some s, some t => s != t | _, _ => true)
def inB (ops : Array Oper) (n : Nat) : Bool := (List.range ops.size).all fun i => (match (ops[i]?).bind (·.dst) with | some s => decide (s < n) | none => true)

/-- What is said of the frame while some operations are listed. -/
structure St (ops : Array Oper) (sp : Nat → Value → World → Prop) (a0 : Act) (listed : Array Bool) (a : Act) (w : World) : Prop where
  defs : a.defers = a0.defers
  size : a.tmps.size = a0.tmps.size
  kept : ∀ s, (∀ i o, ops[i]? = some o → listed.getD i true = true → o.dst ≠ some s) → a.tmps.getD s undef = a0.tmps.getD s undef
  has : ∀ i o, ops[i]? = some o → listed.getD i true = true → ∀ s, o.dst = some s → sp i (a.tmps.getD s undef) w

theorem getD_set_same (t : Array Value) (s : Nat) (v : Value) (h : s < t.size) : (t.setIfInBounds s v).getD s undef = v := by simp [Array.getD, h]
theorem getD_set_other (t : Array Value) (s s' : Nat) (v : Value) (h : s ≠ s') : (t.setIfInBounds s v).getD s' undef = t.getD s' undef := by
  by_cases hs : s' < t.size
  · simp [Array.getD, hs, h]
  · simp [Array.getD, hs]
theorem getD_listed (l : Array Bool) (i j : Nat) : (l.setIfInBounds i true).getD j true = (decide (i = j) || l.getD j true) := by
  by_cases hj : j < l.size
  · by_cases hij : i = j
    · subst hij; simp [Array.getD, hj]
    · simp [Array.getD, hj, hij]
  · simp [Array.getD, hj]

/-- No operation writes the slot. -/
def notDst (ops : Array Oper) (s : Nat) : Bool := ops.all fun o => o.dst != some s
theorem nd {s : Nat} (h : notDst ops s = true) (j : Nat) (p : Oper) (hp : ops[j]? = some p) : p.dst ≠ some s := by
  have := Array.all_eq_true'.1 h p (Array.mem_of_getElem? hp)
  simpa using this
theorem arr_ext (t : Array Value) (l : List Value) (hs : t.size = l.length) (h : ∀ i, i < l.length → t.getD i undef = l.getD i undef) : t = l.toArray := by
  apply Array.ext
  · simpa using hs
  · intro i h1 h2
    have := h i (by simpa using h2)
    simp only [List.size_toArray] at h2
    simpa [Array.getD, List.getD, h1, h2] using this

/-- **The law.** -/
theorem wp_region_flow {id : Nat} {a0 : Act} {w : World} (hm : P.follows .mixedOrders = true) (hback : backB ops = true) (hdst : dstB ops = true) (hin : inB ops a0.tmps.size = true)
    (J : (Nat → Bool) → Act → World → Prop) (sp : Nat → Value → World → Prop)
    (hJ : ∀ L : Nat → Bool, (∀ i, i < ops.size → L i = false) → J L a0 { w with drawn := w.drawn + 1 })
    (hstep : ∀ (i : Nat) (o : Oper) (L : Nat → Bool) (a : Act) (W : World), ops[i]? = some o → L i = false → (∀ e ∈ o.after, Region.binds .any e = true → L e.on = true) → J L a W →
      a.defers = a0.defers → (∀ s, (∀ (j : Nat) (p : Oper), ops[j]? = some p → L j = true → p.dst ≠ some s) → a.tmps.getD s undef = a0.tmps.getD s undef) → (∀ (j : Nat) (p : Oper), ops[j]? = some p → L j = true → ∀ s, p.dst = some s → sp j (a.tmps.getD s undef) W) →
      wpOp P ops Q i (fun a' W' => ∃ v, a' = a.put o.dst v ∧ (o.dst ≠ none → sp i v W') ∧ (∀ j u, L j = true → sp j u W → sp j u W') ∧ J (fun k => decide (i = k) || L k) a' W') a W)
    (hend : ∀ (L : Nat → Bool) (a : Act) (W : World), (∀ i, i < ops.size → L i = true) → J L a W → a.defers = a0.defers → a.tmps.size = a0.tmps.size → (∀ s, (∀ (j : Nat) (p : Oper), ops[j]? = some p → p.dst ≠ some s) → a.tmps.getD s undef = a0.tmps.getD s undef) →
      (∀ (j : Nat) (p : Oper), ops[j]? = some p → ∀ s, p.dst = some s → sp j (a.tmps.getD s undef) W) → Q .normal a W) : (Code.region id ops true).wp P Q a0 w := by
  refine wp_region_any hm (wpAny_inv (fun listed a W => listed.size = ops.size ∧ J (fun i => listed.getD i true) a W ∧ St ops sp a0 listed a W) ?_ ?_ _ _ _ _ ?_ ?_)
  · rintro listed a W i ⟨hs, hj, st⟩ hi
    obtain ⟨hf, o, ho, hall⟩ := mem_ready.1 hi
    have hL : ∀ e ∈ o.after, Region.binds .any e = true → listed.getD e.on true = true := fun e he hb => by
      have := hall e he hb
      by_cases hs : e.on < listed.size
      · simp [Array.getD, hs] at this ⊢; exact this
      · simp [Array.getD, hs]
    have hil : i < ops.size := (Array.getElem?_eq_some_iff.1 ho).1
    refine wpOp_mono ?_ (hstep i o (fun i => listed.getD i true) a W ho hf hL hj st.defs (fun s h => st.kept s h) (fun j p hp hl s hsd => st.has j p hp hl s hsd))
    rintro a' W' ⟨v, rfl, hv, hmono, hj'⟩
    have hfun : (fun k => (listed.setIfInBounds i true).getD k true) = fun k => decide (i = k) || listed.getD k true := funext fun k => getD_listed listed i k
    refine ⟨by simpa using hs, by rw [hfun]; exact hj', ?_⟩
    have hdd : ∀ (j : Nat) (p : Oper) s t, ops[j]? = some p → i ≠ j → o.dst = some s → p.dst = some t → s ≠ t := fun j p s t hp hij h1 h2 => by
      have q1 := List.all_eq_true.1 hdst i (by simpa using hil)
      have q2 := List.all_eq_true.1 q1 j (by simpa using (Array.getElem?_eq_some_iff.1 hp).1)
      rw [ho, hp] at q2
      simp only [Option.bind_some, h1, h2] at q2
      simpa [hij] using q2
    have hds : ∀ s, o.dst = some s → s < a.tmps.size := fun s h1 => by
      have q1 := List.all_eq_true.1 hin i (by simpa using hil)
      rw [ho] at q1
      simp only [Option.bind_some, h1] at q1
      rw [st.size]
      simpa using q1
    have hlist : ∀ j, (listed.setIfInBounds i true).getD j true = true → i = j ∨ listed.getD j true = true := fun j h => by
      rw [getD_listed] at h
      simpa using h
    cases hd : o.dst with
    | none =>
      refine ⟨st.defs, st.size, fun s h => ?_, fun j p hp hl s hps => ?_⟩
      · exact st.kept s fun j p hp hl => h j p hp (by rw [getD_listed, hl]; simp)
      · rcases hlist j hl with rfl | hl'
        · rw [ho] at hp
          have := Option.some.inj hp
          subst this
          rw [hd] at hps; cases hps
        · exact hmono j _ hl' (st.has j p hp hl' s hps)
    | some d =>
      have hdl := hds d hd
      refine ⟨st.defs, by simpa [Act.put] using st.size, fun s h => ?_, fun j p hp hl s hps => ?_⟩
      · have hsd : d ≠ s := fun e => by
          subst e
          exact h i o ho (by rw [getD_listed]; simp) hd
        show (a.tmps.setIfInBounds d v).getD s undef = _
        rw [getD_set_other _ _ _ _ hsd]
        exact st.kept s fun j p hp hl => h j p hp (by rw [getD_listed, hl]; simp)
      · show sp j ((a.tmps.setIfInBounds d v).getD s undef) W'
        rcases hlist j hl with rfl | hl'
        · rw [ho] at hp
          have := Option.some.inj hp
          subst this
          rw [hd] at hps
          have := Option.some.inj hps
          subst this
          rw [getD_set_same _ _ _ hdl]
          exact hv (by rw [hd]; simp)
        · by_cases hij : i = j
          · subst hij
            rw [hf] at hl'; cases hl'
          · rw [getD_set_other _ _ _ _ (hdd j p d s hp hij hd hps)]
            exact hmono j _ hl' (st.has j p hp hl' s hps)
  · rintro listed a W ⟨hs, hj, st⟩ hr
    have hall := ready_nil hback hr
    exact hend _ a W hall hj st.defs st.size (fun s h => st.kept s fun j p hp _ => h j p hp) (fun j p hp s hps => st.has j p hp (hall j (Array.getElem?_eq_some_iff.1 hp).1) s hps)
  · simp [uc_rep]
  · have hf : ∀ i, i < ops.size → (Array.replicate ops.size false).getD i true = false := fun i hi => by simp [Array.getD, hi]
    refine ⟨by simp, hJ _ hf, rfl, rfl, fun _ _ => rfl, fun i o ho hl s _ => ?_⟩
    rw [hf i (Array.getElem?_eq_some_iff.1 ho).1] at hl
    cases hl
end
end Go.Proofs.YtlhjgajhcabhoaaDoor

/- The flow law, as the later texts have it. -/
