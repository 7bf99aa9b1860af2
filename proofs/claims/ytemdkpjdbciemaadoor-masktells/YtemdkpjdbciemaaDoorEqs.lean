/- '==' and '!=' between two masks; a word of a mask by its place; how many minutes a mask has. -/
import Derived.Test.YtemdkpjdbciemaaDoorSets
import Derived.Test.YtemdkpjdbciemaaDoorNums
import Derived.ChangeKeysEq
import Derived.Laws.StructEq
namespace Go.Proofs.YtemdkpjdbciemaaDoor
open Go.RowKit Msk

/-- Do two masks have the same bits? -/
def eqm (f g : Nat → Bool) : Bool := (List.range 23).all fun k => wd f k == wd g k
theorem eqm_true {f g : Nat → Bool} (h : ∀ i, i < 1472 → f i = g i) : eqm f g = true := by
  unfold eqm
  rw [List.all_eq_true]
  intro k hk
  have hk' : k < 23 := by simpa using hk
  rw [wd_ext (f := f) (g := g) fun j hj => h _ (by omega)]
  simp
theorem eqm_same {f g : Nat → Bool} (h : eqm f g = true) (i : Nat) (hi : i < 1472) : f i = g i := by
  unfold eqm at h
  rw [List.all_eq_true] at h
  have h1 := h (i / 64) (by simp; omega)
  have h2 := wd_inj (by simpa using h1) (i % 64) (by omega)
  have e : 64 * (i / 64) + i % 64 = i := by omega
  rw [e] at h2
  exact h2
theorem u64info : ∃ i, Tryd.prog.info? 35 = some i ∧ Tryd.prog.cellsOf 35 = 1 := ⟨_, rfl, by kernel_rfl⟩
theorem u64type : Tryd.prog.underlying 35 = some (.int .u64) := by kernel_rfl
theorem part_mv (f : Nat → Bool) (k : Nat) (hk : k < 23) (w : World) : (part 35 (mv f) (k * 1)).run Tryd.prog w = .ok (.int .u64 (wd f k : Int)) w := by
  simp [part, isAgg, run_underlying u64type, mv_get f k hk]
theorem eqItems_mv (f g : Nat → Bool) (w : World) (d : Nat) : ∀ l : List Nat, (∀ k ∈ l, k < 23) → (Op.eqItems (d + 1) 35 1 (mv f) (mv g) l).run Tryd.prog w = .ok (l.all fun k => wd f k == wd g k) w
  | [], _ => by simp [Op.eqItems]
  | k :: l, h => by
    have ih := eqItems_mv f g w d l fun j hj => h j (by simp [hj])
    have hk := h k (by simp)
    simp only [Op.eqItems, Sem.run_bind, part_mv f k hk, part_mv g k hk, Result.andThen_ok, run_equalIn_int w d 35 .u64 .u64 _ _ u64type, List.all_cons]
    have e : (((wd f k : Nat) : Int) == ((wd g k : Nat) : Int)) = (wd f k == wd g k) := by
      rw [Bool.eq_iff_iff]; simp only [beq_iff_eq]; omega
    rw [e]
    cases (wd f k == wd g k)
    · simp
    · simpa using ih
theorem eq_mask (f g : Nat → Bool) (w : World) : (Op.equalIn 10000 37 (.agg (mv f)) (.agg (mv g))).run Tryd.prog w = .ok (eqm f g) w := by
  obtain ⟨i, hi, hc⟩ := u64info
  rw [run_equalIn_array w 9999 (mv f) (mv g) maskType hi, hc]
  exact eqItems_mv f g w 9998 _ fun k hk => by simpa using hk
theorem eql_mask (f g : Nat → Bool) (w : World) : (binOp .eql 37 (.agg (mv f)) (.agg (mv g))).run Tryd.prog w = .ok (.bool (eqm f g)) w := by
  rw [run_eql_struct, eq_mask]; rfl
theorem neq_mask (f g : Nat → Bool) (w : World) : (binOp .neq 37 (.agg (mv f)) (.agg (mv g))).run Tryd.prog w = .ok (.bool (!eqm f g)) w := by
  rw [run_neq_struct, eq_mask]; rfl
theorem index_mask (f : Nat → Bool) (k : Nat) (hk : k < 23) (w : World) : (Instr.index 37 (.agg (mv f)) (.int .i64 (k : Int))).run Tryd.prog w = .ok (.int .u64 (wd f k : Int)) w := by
  obtain ⟨i, hi, hc⟩ := u64info
  have hs : (sizeOf 35).run Tryd.prog w = .ok 1 w := by rw [run_sizeOf w hi, hc]
  have h0 : (0 : Int) ≤ (k : Int) ∧ (k : Int) < (23 : Nat) := by omega
  have hp := part_mv f k hk w
  simp only [Instr.index, asIntOf, Sem.run_bind, Sem.run_pure, Result.andThen_ok, run_underlying maskType]
  rw [if_pos h0]
  simp only [Sem.run_bind, hs, Result.andThen_ok, Int.toNat_natCast]
  exact hp

/-- A whole mask that is loaded under a guard. -/
theorem load_g {ops : Array Oper} {rest : List Oper} {o : Oper} {a : Act} {w : World} {Q : Exit → Act → World → Prop} (hw : Region.wanted o (yielded ops a.tmps) = true) (x : Operand) (ho : o.op = .load 37 x)
    (g : Nat) (hx : a.eval x = .pointer (some ⟨g, 0, none⟩)) (f : Nat → Bool) (hg : w.heap[g]? = some (.cells (mv f) 37 (0, 0))) (h : wpList Tryd.prog ops Q rest (a.put o.dst (.agg (mv f))) w) : wpList Tryd.prog ops Q (o :: rest) a w :=
  wpList_step fun K hK => by
    rw [if_pos hw]
    exact wp_load_row 37 x ho g hx _ _ _ _ hg maskType rfl (maskSize _) (hK _ _ h)

set_option maxHeartbeats 400000 in
theorem count_any (f : Nat → Bool) (w : World) :
    Calls Tryd.prog 35 #[.agg (mv f)] w fun e w' => e = .returned (.int .i64 ((cnt f 1440 : Nat) : Int)) ∧ Below w.heap.size w w' := by
  have h1 : (w.alloc (.cells (mv f) 37)).heap[w.heap.size]? = some (.cells (mv f) 37 (0, 0)) := by (repeat (first | refine blk_old _ _ _ (by simp only [size_alloc]; omega) ?_ | exact blk_new _ _ _ (by first | rfl | simp only [size_alloc])))
  have hb0 : Below w.heap.size w (w.alloc (.cells (mv f) 37)) := (Below.refl _ _).alloc (Nat.le_refl _) _
  go_enter Tryd.func35, Tryd.ntmps35
  go_wp2_with (first
    | (refine wpList_load_row rfl 37 _ rfl _ rfl _ _ _ _ h1 maskType rfl (maskSize _) ?_)
    | (go_at_call 62; refine (trim_any _ _).mono ?_; rintro e w' ⟨rfl, hb'⟩))
  go_loop [3, 8] (fun n i => ∃ k : Nat, k ≤ 23 ∧ i = .int .i64 k ∧ n = .int .i64 ((cnt (fun i => f i && decide (i < 1440)) (64 * k) : Nat) : Int)) (fun _ i => 23 - (intOf i).toNat)
  case atStart => exact ⟨0, by omega, rfl, rfl⟩
  case round =>
    obtain ⟨k, hk, rfl, rfl⟩ := hrel
    have hn := cnt_le (fun i => f i && decide (i < 1440)) (64 * k)
    by_cases hlt : k < 23
    · have hx := index_mask (fun i => f i && decide (i < 1440)) k hlt
      have hs := cnt_add (fun i => f i && decide (i < 1440)) (64 * k) 64
      have hw := cnt_word (fun i => f i && decide (i < 1440)) k
      have hl := wd_lt (fun i => f i && decide (i < 1440)) k
      have hc := cnt_le (fun j => (wd (fun i => f i && decide (i < 1440)) k).testBit j) 64
      have HS : Hid (cnt (fun i => f i && decide (i < 1440)) (64 * (k + 1)) = cnt (fun i => f i && decide (i < 1440)) (64 * k) + cnt (fun j => (wd (fun i => f i && decide (i < 1440)) k).testBit j) 64) := by
        rw [hw, ← hs]; rfl
      clear hs hw
      go_wp2_with (go_at_call 65; refine (pop_any _ hl _).mono ?_; rintro e w' ⟨rfl, rfl⟩)
      go_round
      case rel => exact ⟨k + 1, by omega, by go_num, by rw [HS.out]; go_num⟩
      case measure => simp [intOf]; omega
    · have : k = 23 := by omega
      subst this
      have e : cnt (fun i => f i && decide (i < 1440)) (64 * 23) = cnt f 1440 := by
        have h1 := cnt_add (fun i => f i && decide (i < 1440)) 1440 32
        have h2 : cnt (fun j => f (1440 + j) && decide (1440 + j < 1440)) 32 = 0 := cnt_false fun j _ => by
          have : ¬ 1440 + j < 1440 := by omega
          simp [this]
        rw [h2] at h1
        have h3 : cnt (fun i => f i && decide (i < 1440)) 1440 = cnt f 1440 := cnt_ext fun i hi => by simp [hi]
        rw [h3] at h1
        have h4 : 64 * 23 = 1440 + 32 := rfl
        rw [h4, h1, Nat.add_zero]
      have HE : Hid (cnt (fun i => f i && decide (i < 1440)) (64 * 23) = cnt f 1440) := e
      clear e
      go_wp2
      go_ret
      exact ⟨ret_val (int_eq (by rw [← HE.out])), hb0.trans (hb'.mono hb0.size)⟩

end Go.Proofs.YtemdkpjdbciemaaDoor
