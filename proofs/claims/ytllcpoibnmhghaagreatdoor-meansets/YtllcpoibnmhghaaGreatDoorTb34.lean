/- What masks.Next comes to. -/
import Derived.Test.YtllcpoibnmhghaaGreatDoorTb33
import Derived.Test.YtllcpoibnmhghaaGreatDoorTb25
import Derived.Test.YtllcpoibnmhghaaGreatDoorTb26
import Derived.ChangeKeysEq
import Derived.Laws.StructEq
import Derived.Test.YtllcpoibnmhghaaGreatDoorTb32
namespace Go.Proofs.YtllcpoibnmhghaaGreatDoor
open Go.RowKit Msk

/-- A mask has all minutes of a span of n minutes from q on, within the day. -/
def Hold (f : Nat → Bool) (q n : Nat) : Prop := q + n ≤ 1440 ∧ ∀ i, q ≤ i → i < q + n → f i = true
/-- No such span begins at x or behind it, ahead of p. -/
def NoneTo (f : Nat → Bool) (x : Int) (n p : Nat) : Prop := ∀ q : Nat, x ≤ (q : Int) → q < p → ¬ Hold f q n
theorem none_step {f : Nat → Bool} {x : Int} {n p a b : Nat} (h : NoneTo f x n p) (hn : 1 ≤ n) (h3 : b ≤ 1440) (hno : ∀ i, p ≤ i → i < a → f i = false) (hb : b < 1440 → f b = false)
    (hs : (b : Int) - max (a : Int) x < (n : Int)) : NoneTo f x n b := by
  intro q hx hq ⟨h1, h2⟩
  rcases Nat.lt_or_ge q p with g | g
  · exact h q hx g ⟨h1, h2⟩
  · have fq := h2 q (Nat.le_refl _) (by omega)
    rcases Nat.lt_or_ge q a with g2 | g2
    · rw [hno q g g2] at fq; cases fq
    · rcases Nat.lt_or_ge b (q + n) with g3 | g3
      · have hb' : b < 1440 := by omega
        have := h2 b (by omega) g3
        rw [hb hb'] at this; cases this
      · omega
theorem none_found {f : Nat → Bool} {x : Int} {n p a b : Nat} (h : NoneTo f x n p) (hn : 1 ≤ n) (h3 : b ≤ 1440) (hno : ∀ i, p ≤ i → i < a → f i = false) (hyes : ∀ i, a ≤ i → i < b → f i = true)
    (hs : (n : Int) ≤ (b : Int) - max (a : Int) x) : ∃ q : Nat, max (a : Int) x = (q : Int) ∧ x ≤ (q : Int) ∧ Hold f q n ∧ NoneTo f x n q := by
  refine ⟨(max (a : Int) x).toNat, by omega, by omega, ⟨by omega, fun i g1 g2 => hyes i (by omega) (by omega)⟩, ?_⟩
  intro q hx hq ⟨h1, h2⟩
  have fq := h2 q (Nat.le_refl _) (by omega)
  rcases Nat.lt_or_ge q p with g | g
  · exact h q hx g ⟨h1, h2⟩
  · rw [hno q g (by omega)] at fq; cases fq

/-- What masks.Next tells. -/
def NextTells (f : Nat → Bool) (x n : Int) (v : Int) (ok : Bool) : Prop :=
  ((n < 0 ∨ 1440 < n ∨ 1440 < x) ∧ v = 0 ∧ ok = false) ∨ (n = 0 ∧ x ≤ 1440 ∧ v = max x 0 ∧ ok = true) ∨
  (1 ≤ n ∧ n ≤ 1440 ∧ x ≤ 1440 ∧ ((v = 0 ∧ ok = false ∧ NoneTo f x n.toNat 1440) ∨ (ok = true ∧ ∃ q : Nat, v = q ∧ x ≤ (q : Int) ∧ Hold f q n.toNat ∧ NoneTo f x n.toNat q)))

/-- What holds while the spans are gone through. -/
structure NI (f : Nat → Bool) (x n : Int) (w0 : World) (Bf Bl Ba Bo : Nat) (p : Nat) (w : World) : Prop where
  bel : Below w0.heap.size w0 w
  fr : w.heap[Bf]? = some (.cells #[.int .i64 x] 3 (0, 0))
  le : w.heap[Bl]? = some (.cells #[.int .i64 n] 3 (0, 0))
  at' : ∃ u : Int, w.heap[Ba]? = some (.cells #[.int .i64 u] 3 (0, 0))
  fo : w.heap[Bo]? = some (.cells #[.bool false] 4 (0, 0))
  none : NoneTo f x n.toNat p
/-- What holds behind them. -/
def NR (f : Nat → Bool) (x n : Int) (w0 : World) (Ba Bo : Nat) (w : World) : Prop :=
  Below w0.heap.size w0 w ∧ ∃ u : Int, ∃ ok : Bool, w.heap[Ba]? = some (.cells #[.int .i64 u] 3 (0, 0)) ∧ w.heap[Bo]? = some (.cells #[.bool ok] 4 (0, 0)) ∧ ((ok = false ∧ NoneTo f x n.toNat 1440) ∨
    (ok = true ∧ ∃ q : Nat, u = (q : Int) ∧ x ≤ (q : Int) ∧ Hold f q n.toNat ∧ NoneTo f x n.toNat q))

theorem none_all {f : Nat → Bool} {x : Int} {n p : Nat} (hn : 1 ≤ n) (h : NoneTo f x n p) (hno : ∀ i, p ≤ i → i < 1440 → f i = false) : NoneTo f x n 1440 := by
  intro q hx hq ⟨h1, h2⟩
  rcases Nat.lt_or_ge q p with g | g
  · exact h q hx g ⟨h1, h2⟩
  · have fq := h2 q (Nat.le_refl _) (by omega)
    rw [hno q g hq] at fq; cases fq

end Go.Proofs.YtllcpoibnmhghaaGreatDoor

/- '==' and '!=' between two masks; a word of a mask by its place; how many minutes a mask has. -/
namespace Go.Proofs.YtllcpoibnmhghaaGreatDoor
open Go.RowKit Msk

/-- Do two masks have the same bits? -/
def eqm (f g : Nat → Bool) : Bool := (List.range 23).all fun k => wd f k == wd g k
theorem eqm_true {f g : Nat → Bool} (h : ∀ i, i < 1472 → f i = g i) : eqm f g = true := by
  unfold eqm
  rw [List.all_eq_true]
  intro k hk
  have hk' : k < 23 := by simpa using hk
  rw [wd_ext (f := f) (g := g) fun j hj => h _ (by omega)]
  simp
theorem eqm_same {f g : Nat → Bool} (h : eqm f g = true) (i : Nat) (hi : i < 1472) : f i = g i := by
  unfold eqm at h
  rw [List.all_eq_true] at h
  have h1 := h (i / 64) (by simp; omega)
  have h2 := wd_inj (by simpa using h1) (i % 64) (by omega)
  have e : 64 * (i / 64) + i % 64 = i := by omega
  rw [e] at h2
  exact h2
set_option maxRecDepth 100000 in
theorem u64info : ∃ i, Tryz.prog.info? 27 = some i ∧ Tryz.prog.cellsOf 27 = 1 := ⟨_, rfl, by kernel_rfl⟩
theorem u64type : Tryz.prog.underlying 27 = some (.int .u64) := by kernel_rfl
theorem part_mv (f : Nat → Bool) (k : Nat) (hk : k < 23) (w : World) : (Go.part 27 (mv f) (k * 1)).run Tryz.prog w = .ok (.int .u64 (wd f k : Int)) w := by
  simp [Go.part, isAgg, run_underlying u64type, mv_get f k hk]
theorem eqItems_mv (f g : Nat → Bool) (w : World) (d : Nat) : ∀ l : List Nat, (∀ k ∈ l, k < 23) → (Op.eqItems (d + 1) 27 1 (mv f) (mv g) l).run Tryz.prog w = .ok (l.all fun k => wd f k == wd g k) w
  | [], _ => by simp [Op.eqItems]
  | k :: l, h => by
    have ih := eqItems_mv f g w d l fun j hj => h j (by simp [hj])
    have hk := h k (by simp)
    simp only [Op.eqItems, Sem.run_bind, part_mv f k hk, part_mv g k hk, Result.andThen_ok, run_equalIn_int w d 27 .u64 .u64 _ _ u64type, List.all_cons]
    have e : (((wd f k : Nat) : Int) == ((wd g k : Nat) : Int)) = (wd f k == wd g k) := by
      rw [Bool.eq_iff_iff]; simp only [beq_iff_eq]; omega
    rw [e]
    cases (wd f k == wd g k)
    · simp
    · simpa using ih
theorem eq_mask (f g : Nat → Bool) (w : World) : (Op.equalIn 10000 29 (.agg (mv f)) (.agg (mv g))).run Tryz.prog w = .ok (eqm f g) w := by
  obtain ⟨i, hi, hc⟩ := u64info
  rw [run_equalIn_array w 9999 (mv f) (mv g) maskType hi, hc]
  exact eqItems_mv f g w 9998 _ fun k hk => by simpa using hk
theorem eql_mask (f g : Nat → Bool) (w : World) : (binOp .eql 29 (.agg (mv f)) (.agg (mv g))).run Tryz.prog w = .ok (.bool (eqm f g)) w := by
  rw [run_eql_struct, eq_mask]; rfl
theorem neq_mask (f g : Nat → Bool) (w : World) : (binOp .neq 29 (.agg (mv f)) (.agg (mv g))).run Tryz.prog w = .ok (.bool (!eqm f g)) w := by
  rw [run_neq_struct, eq_mask]; rfl
theorem index_mask (f : Nat → Bool) (k : Nat) (hk : k < 23) (w : World) : (Instr.index 29 (.agg (mv f)) (.int .i64 (k : Int))).run Tryz.prog w = .ok (.int .u64 (wd f k : Int)) w := by
  obtain ⟨i, hi, hc⟩ := u64info
  have hs : (sizeOf 27).run Tryz.prog w = .ok 1 w := by rw [run_sizeOf w hi, hc]
  have h0 : (0 : Int) ≤ (k : Int) ∧ (k : Int) < (23 : Nat) := by omega
  have hp := part_mv f k hk w
  simp only [Instr.index, asIntOf, Sem.run_bind, Sem.run_pure, Result.andThen_ok, run_underlying maskType]
  rw [if_pos h0]
  simp only [Sem.run_bind, hs, Result.andThen_ok, Int.toNat_natCast]
  exact hp

/-- A whole mask that is loaded under a guard. -/
theorem load_g {ops : Array Oper} {rest : List Oper} {o : Oper} {a : Act} {w : World} {Q : Exit → Act → World → Prop} (hw : Region.wanted o (yielded ops a.tmps) = true) (x : Operand) (ho : o.op = .load 29 x)
    (g : Nat) (hx : a.eval x = .pointer (some ⟨g, 0, none⟩)) (f : Nat → Bool) (hg : w.heap[g]? = some (.cells (mv f) 29 (0, 0))) (h : wpList Tryz.prog ops Q rest (a.put o.dst (.agg (mv f))) w) : wpList Tryz.prog ops Q (o :: rest) a w :=
  wpList_step fun K hK => by
    rw [if_pos hw]
    exact wp_load_row 29 x ho g hx _ _ _ _ hg maskType rfl (maskSize _) (hK _ _ h)

set_option maxHeartbeats 400000 in
theorem count_any (f : Nat → Bool) (w : World) :
    Calls Tryz.prog 20 #[.agg (mv f)] w fun e w' => e = .returned (.int .i64 ((cnt f 1440 : Nat) : Int)) ∧ Below w.heap.size w w' := by
  have h1 : (w.alloc (.cells (mv f) 29)).heap[w.heap.size]? = some (.cells (mv f) 29 (0, 0)) := by (repeat (first | refine blk_old _ _ _ (by simp only [size_alloc]; omega) ?_ | exact blk_new _ _ _ (by first | rfl | simp only [size_alloc])))
  have hb0 : Below w.heap.size w (w.alloc (.cells (mv f) 29)) := (Below.refl _ _).alloc (Nat.le_refl _) _
  go_enter Tryz.func20, Tryz.ntmps20
  go_wp2_with (first
    | (refine wpList_load_row rfl 29 _ rfl _ rfl _ _ _ _ h1 maskType rfl (maskSize _) ?_)
    | (go_at_call 31; refine (trim_any _ _).mono ?_; rintro e w' ⟨rfl, hb'⟩))
  go_loop [3, 8] (fun n i => ∃ k : Nat, k ≤ 23 ∧ i = .int .i64 k ∧ n = .int .i64 ((cnt (fun i => f i && decide (i < 1440)) (64 * k) : Nat) : Int)) (fun _ i => 23 - (intOf i).toNat)
  case atStart => exact ⟨0, by omega, rfl, rfl⟩
  case round =>
    obtain ⟨k, hk, rfl, rfl⟩ := hrel
    have hn := cnt_le (fun i => f i && decide (i < 1440)) (64 * k)
    by_cases hlt : k < 23
    · have hx := index_mask (fun i => f i && decide (i < 1440)) k hlt
      have hs := cnt_add (fun i => f i && decide (i < 1440)) (64 * k) 64
      have hw := cnt_word (fun i => f i && decide (i < 1440)) k
      have hl := wd_lt (fun i => f i && decide (i < 1440)) k
      have hc := cnt_le (fun j => (wd (fun i => f i && decide (i < 1440)) k).testBit j) 64
      have HS : Hid (cnt (fun i => f i && decide (i < 1440)) (64 * (k + 1)) = cnt (fun i => f i && decide (i < 1440)) (64 * k) + cnt (fun j => (wd (fun i => f i && decide (i < 1440)) k).testBit j) 64) := by
        rw [hw, ← hs]; rfl
      clear hs hw
      go_wp2_with (go_at_call 32; refine (pop_any _ hl _).mono ?_; rintro e w' ⟨rfl, rfl⟩)
      go_round
      case rel => exact ⟨k + 1, by omega, by go_num, by rw [HS.out]; go_num⟩
      case measure => simp [intOf]; omega
    · have : k = 23 := by omega
      subst this
      have e : cnt (fun i => f i && decide (i < 1440)) (64 * 23) = cnt f 1440 := by
        have h1 := cnt_add (fun i => f i && decide (i < 1440)) 1440 32
        have h2 : cnt (fun j => f (1440 + j) && decide (1440 + j < 1440)) 32 = 0 := cnt_false fun j _ => by
          have : ¬ 1440 + j < 1440 := by omega
          simp [this]
        rw [h2] at h1
        have h3 : cnt (fun i => f i && decide (i < 1440)) 1440 = cnt f 1440 := cnt_ext fun i hi => by simp [hi]
        rw [h3] at h1
        have h4 : 64 * 23 = 1440 + 32 := rfl
        rw [h4, h1, Nat.add_zero]
      have HE : Hid (cnt (fun i => f i && decide (i < 1440)) (64 * 23) = cnt f 1440) := e
      clear e
      go_wp2
      go_ret
      exact ⟨ret_val (int_eq (by rw [← HE.out])), hb0.trans (hb'.mono hb0.size)⟩

end Go.Proofs.YtllcpoibnmhghaaGreatDoor

/- What masks.Holds comes to. -/
namespace Go.Proofs.YtllcpoibnmhghaaGreatDoor
open Go.RowKit Msk

/-- What each operation of the region yields. -/
def hsp (f : Nat → Bool) (x y : Int) (i : Nat) (v : Value) (W : World) : Prop := match i with
  | 0 => v = .agg #[.int .i64 x, .int .i64 y]
  | 1 => ∃ g, v = .slice (some ⟨g, 0, none⟩) 1 1 ∧ W.heap[g]? = some (.cells #[.int .i64 x, .int .i64 y] 56 (0, 0))
  | 2 => v = .agg (mv (inl [(x, y)]))
  | 3 => v = .agg (mv f)
  | 4 => v = .agg (mv fun i => (inl [(x, y)] i && !f i) && decide (i < 1440))
  | 5 => v = .agg (mv fun _ => false)
  | 6 => v = .bool (eqm (fun i => (inl [(x, y)] i && !f i) && decide (i < 1440)) fun _ => false)
  | 7 => v = .bool (eqm (fun i => (inl [(x, y)] i && !f i) && decide (i < 1440)) fun _ => false)
  | _ => True
theorem hsp_mono {f : Nat → Bool} {x y : Int} {W W' : World} (hb : Below W.heap.size W W') (i : Nat) (v : Value) (h : hsp f x y i v W) : hsp f x y i v W' := by
  unfold hsp at *
  split at h
  · exact h
  · obtain ⟨g, h1, h2⟩ := h
    exact ⟨g, h1, (hb.block g (lt_of_block h2)).trans h2⟩
  all_goals exact h

/-- Does a mask have all minutes of a span? -/
def holdB (f : Nat → Bool) (x y : Int) : Bool := decide (0 ≤ x) && decide (y ≤ 1440) && decide (x ≤ y) && eqm (fun i => (inl [(x, y)] i && !f i) && decide (i < 1440)) fun _ => false

set_option maxRecDepth 10000 in
set_option maxHeartbeats 1000000 in
theorem holds_any (f : Nat → Bool) (x y : Int) (w : World) :
    Calls Tryz.prog 21 #[.agg (mv f), .agg #[.int .i64 x, .int .i64 y]] w fun e w' => e = .returned (.bool (holdB f x y)) ∧ Below w.heap.size w w' := by
  have hz := mv_lit
  have hb0 : Below w.heap.size w ((w.alloc (.cells (mv f) 29)).alloc (.cells #[.int .i64 x, .int .i64 y] 56)) := ((Below.refl _ _).alloc (Nat.le_refl _) _).alloc (by simp) _
  have h1 : ((w.alloc (.cells (mv f) 29)).alloc (.cells #[.int .i64 x, .int .i64 y] 56)).heap[w.heap.size]? = some (.cells (mv f) 29 (0, 0)) := by (repeat (first | refine blk_old _ _ _ (by simp only [size_alloc]; omega) ?_ | exact blk_new _ _ _ (by first | rfl | simp only [size_alloc])))
  have h2 : ((w.alloc (.cells (mv f) 29)).alloc (.cells #[.int .i64 x, .int .i64 y] 56)).heap[w.heap.size + 1]? = some (.cells #[.int .i64 x, .int .i64 y] 56 (0, 0)) := by (repeat (first | refine blk_old _ _ _ (by simp only [size_alloc]; omega) ?_ | exact blk_new _ _ _ (by first | rfl | simp only [size_alloc])))
  by_cases hx : x < 0
  · have e : holdB f x y = false := by unfold holdB; have : ¬ 0 ≤ x := by omega
                                       simp [this]
    rw [e]
    go_enter Tryz.func21, Tryz.ntmps21
    go_wp2
    go_ret
    exact ⟨rfl, hb0⟩
  · have hx' : 0 ≤ x := by omega
    clear hx
    by_cases hy : 1440 < y
    · have e : holdB f x y = false := by unfold holdB; have : ¬ y ≤ 1440 := by omega
                                         simp [this]
      rw [e]
      go_enter Tryz.func21, Tryz.ntmps21
      go_wp2
      go_ret
      exact ⟨rfl, hb0⟩
    · have hy' : y ≤ 1440 := by omega
      clear hy
      by_cases hxy : y < x
      · have e : holdB f x y = false := by unfold holdB; have : ¬ x ≤ y := by omega
                                           simp [this]
        rw [e]
        go_enter Tryz.func21, Tryz.ntmps21
        go_wp2
        go_ret
        exact ⟨rfl, hb0⟩
      · have hxy' : x ≤ y := by omega
        clear hxy
        have e : holdB f x y = eqm (fun i => (inl [(x, y)] i && !f i) && decide (i < 1440)) fun _ => false := by unfold holdB; simp [hx', hy', hxy']
        rw [e]
        clear e
        go_enter Tryz.func21, Tryz.ntmps21
        go_wp2
        refine wp_region_flow (by kernel_rfl) (by kernel_rfl) (by kernel_rfl) (by kernel_rfl) (fun _ _ W => Below (w.heap.size + 1 + 1) ((w.alloc (.cells (mv f) 29)).alloc (.cells #[.int .i64 x, .int .i64 y] 56)) W) (hsp f x y) ?_ ?_ ?_
        · intro L hL
          exact (Below.refl _ _).drew
        · intro i o L a W ho hLi hdep hJ hdef hkept hhas
          clear hdef hLi
          have fin : ∀ (v : Value) (d : Nat) (W' : World), Below W.heap.size W W' → hsp f x y i v W' → ∃ u, a.put (some d) v = a.put (some d) u ∧ (some d ≠ none → hsp f x y i u W') ∧ (∀ j x', L j = true → hsp f x y j x' W → hsp f x y j x' W') ∧ Below (w.heap.size + 1 + 1) ((w.alloc (.cells (mv f) 29)).alloc (.cells #[.int .i64 x, .int .i64 y] 56)) W' := by
            intro v d W' hb hv
            exact ⟨v, rfl, fun _ => hv, fun j x' _ h => hsp_mono hb j x' h, hJ.trans (hb.mono (by have := hJ.size; simp only [size_alloc] at this; omega))⟩
          match i, ho with
          | 0, ho =>
            cases Option.some.inj ho
            have hA : a.eval (.tmp 3) = .pointer (some ⟨w.heap.size + 1, 0, none⟩) := hkept 3 (fun j p hp _ => nd (by kernel_rfl) j p hp)
            have hg := (hJ.block _ (by omega)).trans h2
            refine wpOp_step rfl (fun K hK => ?_)
            show Oper.wp _ _ _ _ _ _
            refine wp_load_row 56 _ rfl _ hA _ _ _ _ hg Tryz.underlying56 rfl (by kernel_rfl) ?_
            exact hK _ _ (fin _ 20 _ (Below.refl _ _) rfl)
          | 1, ho =>
            cases Option.some.inj ho
            have hA : a.tmps[20]?.getD undef = .agg #[.int .i64 x, .int .i64 y] := by
              have := hhas 0 _ rfl (hdep ⟨0, .data⟩ (by simp) rfl) 20 rfl
              simpa [hsp] using this
            refine wpOp_step rfl (fun K hK => ?_)
            go_simp
            exact hK _ _ (fin _ 21 _ ((Below.refl _ _).alloc (Nat.le_refl _) _) ⟨_, rfl, heap_alloc_new W _⟩)
          | 2, ho =>
            cases Option.some.inj ho
            obtain ⟨g, hA0, hg⟩ := hhas 1 _ rfl (hdep ⟨1, .data⟩ (by simp) rfl) 21 rfl
            have hA : a.tmps[21]?.getD undef = .slice (some ⟨g, 0, none⟩) 1 1 := by simpa using hA0
            have hrow : Row W (.slice (some ⟨g, 0, none⟩) 1 1) [(x, y)] := row_at hg
            refine wpOp_step rfl (fun K hK => ?_)
            go_simp
            refine (of_any _ _ _ hrow).mono ?_
            rintro e W' ⟨rfl, hb⟩
            exact hK _ _ (fin _ 22 _ hb rfl)
          | 3, ho =>
            cases Option.some.inj ho
            have hA : a.eval (.tmp 2) = .pointer (some ⟨w.heap.size, 0, none⟩) := hkept 2 (fun j p hp _ => nd (by kernel_rfl) j p hp)
            have hg := (hJ.block _ (by omega)).trans h1
            refine wpOp_step rfl (fun K hK => ?_)
            show Oper.wp _ _ _ _ _ _
            refine wp_load_row 29 _ rfl _ hA _ _ _ _ hg maskType rfl (maskSize _) ?_
            exact hK _ _ (fin _ 23 _ (Below.refl _ _) rfl)
          | 4, ho =>
            cases Option.some.inj ho
            have hA : a.tmps[22]?.getD undef = .agg (mv (inl [(x, y)])) := by
              have := hhas 2 _ rfl (hdep ⟨2, .data⟩ (by simp) rfl) 22 rfl
              simpa [hsp] using this
            have hB : a.tmps[23]?.getD undef = .agg (mv f) := by
              have := hhas 3 _ rfl (hdep ⟨3, .data⟩ (by simp) rfl) 23 rfl
              simpa [hsp] using this
            refine wpOp_step rfl (fun K hK => ?_)
            go_simp
            refine (diff_any _ _ _).mono ?_
            rintro e W' ⟨rfl, hb⟩
            exact hK _ _ (fin _ 24 _ hb rfl)
          | 5, ho =>
            cases Option.some.inj ho
            refine wpOp_step rfl (fun K hK => ?_)
            go_simp
            exact hK _ _ (fin _ 25 _ (Below.refl _ _) rfl)
          | 6, ho =>
            cases Option.some.inj ho
            have hA : a.tmps[24]?.getD undef = .agg (mv fun i => (inl [(x, y)] i && !f i) && decide (i < 1440)) := by
              have := hhas 4 _ rfl (hdep ⟨4, .data⟩ (by simp) rfl) 24 rfl
              simpa [hsp] using this
            have hB : a.tmps[25]?.getD undef = .agg (mv fun _ => false) := by
              have := hhas 5 _ rfl (hdep ⟨5, .data⟩ (by simp) rfl) 25 rfl
              simpa [hsp] using this
            have he := eq_mask (fun i => (inl [(x, y)] i && !f i) && decide (i < 1440)) (fun _ => false)
            refine wpOp_step rfl (fun K hK => ?_)
            go_simp
            exact hK _ _ (fin _ 26 _ (Below.refl _ _) rfl)
          | 7, ho =>
            cases Option.some.inj ho
            have hA : a.tmps[26]?.getD undef = .bool (eqm (fun i => (inl [(x, y)] i && !f i) && decide (i < 1440)) fun _ => false) := by
              have := hhas 6 _ rfl (hdep ⟨6, .data⟩ (by simp) rfl) 26 rfl
              simpa [hsp] using this
            refine wpOp_step rfl (fun K hK => ?_)
            go_simp
            exact hK _ _ (fin _ 4 _ (Below.refl _ _) rfl)
          | k + 8, ho => simp at ho
        · intro L a W hL hJ hdef hsize hkept hhas
          have h4 : a.tmps[4]?.getD undef = .bool (eqm (fun i => (inl [(x, y)] i && !f i) && decide (i < 1440)) fun _ => false) := by
            have := hhas 7 _ rfl 4 rfl
            simpa [hsp] using this
          clear hL hkept hhas hsize hz
          go_wp2
          refine bodyPost_ret (v := .bool (eqm (fun i => (inl [(x, y)] i && !f i) && decide (i < 1440)) fun _ => false)) ?_ hdef ⟨rfl, hb0.trans (hJ.mono (by omega))⟩
          simp [results, Tryz.results21, h4]
end Go.Proofs.YtllcpoibnmhghaaGreatDoor

/- What the laws' own question of mean comes to: true. -/
namespace Go.Proofs.YtllcpoibnmhghaaGreatDoor
open Go.RowKit Lx Msk
set_option maxRecDepth 100000 in
set_option maxHeartbeats 2000000 in
theorem rules6_any (s : List UInt8) (n : Nat) (T : List Tk) (L : List Ru) (hit : iterN s n = some (T, s.length)) (hr : rulesR s.length (T.length + 1) [] T = .ok L) (h6 : s.length ≤ 6000) (hn : NmR L) (w : World) (hT : CTab w) (hD : DTab w) :
    Calls Tryz.prog 19 #[.string ⟨s.toArray⟩] w (OutRu L w) := by
  have c1 := parse_any ⟨s.toArray⟩ s (by simp) (by omega) w hT hD
  go_enter Tryz.func19, Tryz.ntmps19
  go_wp2_with fail
  refine c1.mono ?_
  rintro e w1 ⟨⟨v, er, at_, rfl, hx⟩, hb1⟩
  obtain ⟨rfl, us, hus, h40, hrow⟩ := tells_of hit hr h6 hx
  have hin := inR_of_made hrow h40 (by rw [hus]; exact hn)
  have hb1a := hb1.alloc hb1.size (.cells #[.int .i64 0, .int .i64 at_] 43)
  have b1 := (Below.refl _ w1).alloc (Nat.le_refl _) (.cells #[.int .i64 0, .int .i64 at_] 43)
  have hf1 := heap_alloc_new w1 (.cells #[.int .i64 0, .int .i64 at_] 43)
  have HO : Hid (OutRu L w (.returned v) (w1.alloc (.cells #[.int .i64 0, .int .i64 at_] 43))) := ⟨v, us, rfl, hus, hin.below b1, hb1a⟩
  obtain ⟨pv, cv, rfl⟩ := hin.form
  clear c1 hx hrow hin hus h40 b1 hb1a hb1 hit hr
  generalize hwA : w1.alloc (.cells #[.int .i64 0, .int .i64 at_] 43) = wA at *
  have z0 := (cell_of_row _ _ 0 _ _ _ hf1).trans rfl
  go_wp2_with fail
  go_ret
  exact HO.out
theorem a6_names : NmR a6L := fun p hp => by
  simp only [a6L, List.mem_cons, List.not_mem_nil, or_false] at hp
  rcases hp with rfl | rfl
  · exact ⟨by decide, by decide, nmk_cons (by decide) nmk_nil nmk_nil⟩
  · exact ⟨by decide, by decide, nmk_cons (by decide) nmk_nil nmk_nil⟩
theorem g6_cnt : cnt g6 1440 = 60 := by
  rw [cnt_ext (g := fun i => decide (540 ≤ i) && decide (i < 600)) fun i hi => ?_, cnt_span 540 600 1440 (by omega) (by omega)]
  unfold g6
  by_cases h1 : 540 ≤ i <;> by_cases h2 : i < 600 <;> simp [h1, h2, hi] <;> omega
theorem g6_hold : holdB (shf g6 60) 600 660 = true := by
  have e : eqm (fun i => (inl [((600 : Int), (660 : Int))] i && !shf g6 60 i) && decide (i < 1440)) (fun _ => false) = true := eqm_true fun i hi => by
    have hin : inl [((600 : Int), (660 : Int))] i = ((decide ((600 : Int) ≤ (i : Int)) && decide ((i : Int) < 660)) && decide (i < 1440)) := by simp [inl]
    rw [hin]
    by_cases h1 : (600 : Int) ≤ (i : Int)
    · by_cases h2 : (i : Int) < 660
      · have : shf g6 60 i = true := by
          unfold shf g6
          simp
          omega
        rw [this]
        simp
      · simp [h2]
    · simp [h1]
  unfold holdB
  rw [e]
  decide
theorem load_gm {ops : Array Oper} {rest : List Oper} {op : Oper} {a : Act} {w : World} {Q : Exit → Act → World → Prop} (hw : Region.wanted op (yielded ops a.tmps) = true) (x : Operand) (ho : op.op = .load 29 x)
    (g o : Nat) (hx : a.eval x = .pointer (some ⟨g, o, none⟩)) (f : Nat → Bool) (hc : w.rangeAt g o (mv f).toList) (h : wpList Tryz.prog ops Q rest (a.put op.dst (.agg (mv f))) w) : wpList Tryz.prog ops Q (op :: rest) a w :=
  wpList_step fun K hK => by
    rw [if_pos hw]
    exact wp_load_mask x ho g o hx f hc (hK _ _ h)
set_option maxRecDepth 100000 in
set_option maxHeartbeats 2000000 in
theorem alive6_any (w : World) (hPT : PT2 w) : Calls Tryz.prog 8 #[] w fun e w' => e = .returned (.bool true) ∧ Below w.heap.size w w' := by
  have t0 := hPT w (Below.refl _ _)
  have c1 := rules6_any a6S 17 a6T a6L a6_iter a6_rules (by decide) a6_names w t0.1 t0.2
  unfold a6S at c1
  clear t0 hPT
  go_enter Tryz.func8, Tryz.ntmps8
  go_wp2_with fail
  refine c1.mono ?_
  rintro e w1 ⟨v, us, rfl, hus, hin, hb1⟩
  have c2 := mall_any us v 0 w1 hin
  rw [hus] at c2
  unfold OutMe at c2
  rw [a6_flt, a6_mean] at c2
  clear c1 hus hin
  go_wp2_with fail
  refine c2.mono ?_
  rintro e w2 ⟨vm, rfl, hrow, b2⟩
  have hb2 := hb1.trans (b2.mono hb1.size)
  obtain ⟨p, c, rfl, _, hr⟩ := hrow
  obtain ⟨g, o, hp, hr0⟩ := hr 0 g6 rfl
  obtain ⟨g', o', hp', hr1⟩ := hr 1 (shf g6 60) rfl
  subst hp
  cases hp'
  rw [Nat.zero_mul, Nat.add_zero] at hr0
  rw [Nat.one_mul] at hr1
  have b3 := below_setRow ((Below.refl w2.heap.size w2).alloc (Nat.le_refl _) (.cells #[.int .i64 0, .int .i64 0] 43)) (Nat.le_refl _) #[.int .i64 0, .int .i64 0]
  have n3 := heap_alloc_new w2 (.cells #[.int .i64 0, .int .i64 0] 43)
  have n4 := setRow_heap _ _ _ #[.int .i64 0, .int .i64 0] _ _ n3
  have HR0 := hid5 (range_later hr0 b3)
  have HR1 := hid5 (range_later hr1 b3)
  have hb3 := hb2.trans (b3.mono hb2.size)
  generalize hw3 : w2.alloc (.cells #[.int .i64 0, .int .i64 0] 43) = w3 at *
  generalize hw4 : w3.setRow w2.heap.size #[.int .i64 0, .int .i64 0] = w4 at *
  have z0 := (cell_of_row _ _ 0 _ _ _ n4).trans rfl
  have cC := count_any g6 w4
  rw [g6_cnt] at cC
  clear c2 hr hr0 hr1 b2 hb2 b3 hb1
  have cH := fun W => holds_any (shf g6 60) 600 660 W
  simp only [g6_hold] at cH
  go_wp2_with (first
    | (refine wpList_store_row rfl 43 _ _ rfl _ _ rfl rfl _ _ n3 (by kernel_rfl) (by simp) (by simp [Value.oneCell']) ?_)
    | (refine load_gm (by rfl) _ (by rfl) g o (by rfl) g6 ?r ?_; (case r => exact HR0.out))
    | (go_at_call 20; refine cC.mono ?_; rintro e w5 ⟨rfl, b4⟩; have HR2 := hid5 (range_later HR1.out b4); have hb4 := hb3.trans (b4.mono hb3.size); clear b4)
    | (refine load_gm (by rfl) _ (by rfl) g (o + 23) (by rfl) (shf g6 60) ?r ?_; (case r => exact HR2.out))
    | (go_at_call 21; refine (cH _).mono ?_; rintro e w6 ⟨rfl, b5⟩; have hb5 := hb4.trans (b5.mono hb4.size); clear b5))
  go_ret
  exact ⟨rfl, hb5⟩
end Go.Proofs.YtllcpoibnmhghaaGreatDoor
