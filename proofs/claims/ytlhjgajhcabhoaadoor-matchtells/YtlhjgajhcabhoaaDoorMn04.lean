/- What masks.Next comes to. -/
import Derived.Test.YtlhjgajhcabhoaaDoorMn03
import Derived.Test.YtlhjgajhcabhoaaDoorMn02
import Derived.ChangeKeysEq
import Derived.Laws.StructEq
import Derived.Below
namespace Go.Proofs.YtlhjgajhcabhoaaDoor
open Go.RowKit Msk

/-- A mask has all minutes of a span of n minutes from q on, within the day. -/
def Hold (f : Nat → Bool) (q n : Nat) : Prop := q + n ≤ 1440 ∧ ∀ i, q ≤ i → i < q + n → f i = true
/-- No such span begins at x or behind it, ahead of p. -/
def NoneTo (f : Nat → Bool) (x : Int) (n p : Nat) : Prop := ∀ q : Nat, x ≤ (q : Int) → q < p → ¬ Hold f q n
theorem none_step {f : Nat → Bool} {x : Int} {n p a b : Nat} (h : NoneTo f x n p) (hn : 1 ≤ n) (h3 : b ≤ 1440) (hno : ∀ i, p ≤ i → i < a → f i = false) (hb : b < 1440 → f b = false)
    (hs : (b : Int) - max (a : Int) x < (n : Int)) : NoneTo f x n b := by
  intro q hx hq ⟨h1, h2⟩
  rcases Nat.lt_or_ge q p with g | g
  · exact h q hx g ⟨h1, h2⟩
  · have fq := h2 q (Nat.le_refl _) (by omega)
    rcases Nat.lt_or_ge q a with g2 | g2
    · rw [hno q g g2] at fq; cases fq
    · rcases Nat.lt_or_ge b (q + n) with g3 | g3
      · have hb' : b < 1440 := by omega
        have := h2 b (by omega) g3
        rw [hb hb'] at this; cases this
      · omega
theorem none_found {f : Nat → Bool} {x : Int} {n p a b : Nat} (h : NoneTo f x n p) (hn : 1 ≤ n) (h3 : b ≤ 1440) (hno : ∀ i, p ≤ i → i < a → f i = false) (hyes : ∀ i, a ≤ i → i < b → f i = true)
    (hs : (n : Int) ≤ (b : Int) - max (a : Int) x) : ∃ q : Nat, max (a : Int) x = (q : Int) ∧ x ≤ (q : Int) ∧ Hold f q n ∧ NoneTo f x n q := by
  refine ⟨(max (a : Int) x).toNat, by omega, by omega, ⟨by omega, fun i g1 g2 => hyes i (by omega) (by omega)⟩, ?_⟩
  intro q hx hq ⟨h1, h2⟩
  have fq := h2 q (Nat.le_refl _) (by omega)
  rcases Nat.lt_or_ge q p with g | g
  · exact h q hx g ⟨h1, h2⟩
  · rw [hno q g (by omega)] at fq; cases fq

/-- What masks.Next tells. -/
def NextTells (f : Nat → Bool) (x n : Int) (v : Int) (ok : Bool) : Prop :=
  ((n < 0 ∨ 1440 < n ∨ 1440 < x) ∧ v = 0 ∧ ok = false) ∨ (n = 0 ∧ x ≤ 1440 ∧ v = max x 0 ∧ ok = true) ∨
  (1 ≤ n ∧ n ≤ 1440 ∧ x ≤ 1440 ∧ ((v = 0 ∧ ok = false ∧ NoneTo f x n.toNat 1440) ∨ (ok = true ∧ ∃ q : Nat, v = q ∧ x ≤ (q : Int) ∧ Hold f q n.toNat ∧ NoneTo f x n.toNat q)))

/-- What holds while the spans are gone through. -/
structure NI (f : Nat → Bool) (x n : Int) (w0 : World) (Bf Bl Ba Bo : Nat) (p : Nat) (w : World) : Prop where
  bel : Below w0.heap.size w0 w
  fr : w.heap[Bf]? = some (.cells #[.int .i64 x] 3 (0, 0))
  le : w.heap[Bl]? = some (.cells #[.int .i64 n] 3 (0, 0))
  at' : ∃ u : Int, w.heap[Ba]? = some (.cells #[.int .i64 u] 3 (0, 0))
  fo : w.heap[Bo]? = some (.cells #[.bool false] 4 (0, 0))
  none : NoneTo f x n.toNat p
/-- What holds behind them. -/
def NR (f : Nat → Bool) (x n : Int) (w0 : World) (Ba Bo : Nat) (w : World) : Prop :=
  Below w0.heap.size w0 w ∧ ∃ u : Int, ∃ ok : Bool, w.heap[Ba]? = some (.cells #[.int .i64 u] 3 (0, 0)) ∧ w.heap[Bo]? = some (.cells #[.bool ok] 4 (0, 0)) ∧ ((ok = false ∧ NoneTo f x n.toNat 1440) ∨
    (ok = true ∧ ∃ q : Nat, u = (q : Int) ∧ x ≤ (q : Int) ∧ Hold f q n.toNat ∧ NoneTo f x n.toNat q))

theorem none_all {f : Nat → Bool} {x : Int} {n p : Nat} (hn : 1 ≤ n) (h : NoneTo f x n p) (hno : ∀ i, p ≤ i → i < 1440 → f i = false) : NoneTo f x n 1440 := by
  intro q hx hq ⟨h1, h2⟩
  rcases Nat.lt_or_ge q p with g | g
  · exact h q hx g ⟨h1, h2⟩
  · have fq := h2 q (Nat.le_refl _) (by omega)
    rw [hno q g hq] at fq; cases fq

end Go.Proofs.YtlhjgajhcabhoaaDoor

/- '==' and '!=' between two masks; a word of a mask by its place; how many minutes a mask has. -/
namespace Go.Proofs.YtlhjgajhcabhoaaDoor
open Go.RowKit Msk

/-- Do two masks have the same bits? -/
def eqm (f g : Nat → Bool) : Bool := (List.range 23).all fun k => wd f k == wd g k
theorem eqm_true {f g : Nat → Bool} (h : ∀ i, i < 1472 → f i = g i) : eqm f g = true := by
  unfold eqm
  rw [List.all_eq_true]
  intro k hk
  have hk' : k < 23 := by simpa using hk
  rw [wd_ext (f := f) (g := g) fun j hj => h _ (by omega)]
  simp
theorem eqm_same {f g : Nat → Bool} (h : eqm f g = true) (i : Nat) (hi : i < 1472) : f i = g i := by
  unfold eqm at h
  rw [List.all_eq_true] at h
  have h1 := h (i / 64) (by simp; omega)
  have h2 := wd_inj (by simpa using h1) (i % 64) (by omega)
  have e : 64 * (i / 64) + i % 64 = i := by omega
  rw [e] at h2
  exact h2
set_option maxRecDepth 100000 in
theorem u64info : ∃ i, Tryd.prog.info? 39 = some i ∧ Tryd.prog.cellsOf 39 = 1 := ⟨_, rfl, by kernel_rfl⟩
theorem u64type : Tryd.prog.underlying 39 = some (.int .u64) := by kernel_rfl
theorem part_mv (f : Nat → Bool) (k : Nat) (hk : k < 23) (w : World) : (Go.part 39 (mv f) (k * 1)).run Tryd.prog w = .ok (.int .u64 (wd f k : Int)) w := by
  simp [Go.part, isAgg, run_underlying u64type, mv_get f k hk]
theorem eqItems_mv (f g : Nat → Bool) (w : World) (d : Nat) : ∀ l : List Nat, (∀ k ∈ l, k < 23) → (Op.eqItems (d + 1) 39 1 (mv f) (mv g) l).run Tryd.prog w = .ok (l.all fun k => wd f k == wd g k) w
  | [], _ => by simp [Op.eqItems]
  | k :: l, h => by
    have ih := eqItems_mv f g w d l fun j hj => h j (by simp [hj])
    have hk := h k (by simp)
    simp only [Op.eqItems, Sem.run_bind, part_mv f k hk, part_mv g k hk, Result.andThen_ok, run_equalIn_int w d 39 .u64 .u64 _ _ u64type, List.all_cons]
    have e : (((wd f k : Nat) : Int) == ((wd g k : Nat) : Int)) = (wd f k == wd g k) := by
      rw [Bool.eq_iff_iff]; simp only [beq_iff_eq]; omega
    rw [e]
    cases (wd f k == wd g k)
    · simp
    · simpa using ih
theorem eq_mask (f g : Nat → Bool) (w : World) : (Op.equalIn 10000 41 (.agg (mv f)) (.agg (mv g))).run Tryd.prog w = .ok (eqm f g) w := by
  obtain ⟨i, hi, hc⟩ := u64info
  rw [run_equalIn_array w 9999 (mv f) (mv g) maskType hi, hc]
  exact eqItems_mv f g w 9998 _ fun k hk => by simpa using hk
theorem eql_mask (f g : Nat → Bool) (w : World) : (binOp .eql 41 (.agg (mv f)) (.agg (mv g))).run Tryd.prog w = .ok (.bool (eqm f g)) w := by
  rw [run_eql_struct, eq_mask]; rfl
theorem neq_mask (f g : Nat → Bool) (w : World) : (binOp .neq 41 (.agg (mv f)) (.agg (mv g))).run Tryd.prog w = .ok (.bool (!eqm f g)) w := by
  rw [run_neq_struct, eq_mask]; rfl
theorem index_mask (f : Nat → Bool) (k : Nat) (hk : k < 23) (w : World) : (Instr.index 41 (.agg (mv f)) (.int .i64 (k : Int))).run Tryd.prog w = .ok (.int .u64 (wd f k : Int)) w := by
  obtain ⟨i, hi, hc⟩ := u64info
  have hs : (sizeOf 39).run Tryd.prog w = .ok 1 w := by rw [run_sizeOf w hi, hc]
  have h0 : (0 : Int) ≤ (k : Int) ∧ (k : Int) < (23 : Nat) := by omega
  have hp := part_mv f k hk w
  simp only [Instr.index, asIntOf, Sem.run_bind, Sem.run_pure, Result.andThen_ok, run_underlying maskType]
  rw [if_pos h0]
  simp only [Sem.run_bind, hs, Result.andThen_ok, Int.toNat_natCast]
  exact hp

/-- A whole mask that is loaded under a guard. -/
theorem load_g {ops : Array Oper} {rest : List Oper} {o : Oper} {a : Act} {w : World} {Q : Exit → Act → World → Prop} (hw : Region.wanted o (yielded ops a.tmps) = true) (x : Operand) (ho : o.op = .load 41 x)
    (g : Nat) (hx : a.eval x = .pointer (some ⟨g, 0, none⟩)) (f : Nat → Bool) (hg : w.heap[g]? = some (.cells (mv f) 41 (0, 0))) (h : wpList Tryd.prog ops Q rest (a.put o.dst (.agg (mv f))) w) : wpList Tryd.prog ops Q (o :: rest) a w :=
  wpList_step fun K hK => by
    rw [if_pos hw]
    exact wp_load_row 41 x ho g hx _ _ _ _ hg maskType rfl (maskSize _) (hK _ _ h)

end Go.Proofs.YtlhjgajhcabhoaaDoor

/- What masks.Holds comes to. -/
namespace Go.Proofs.YtlhjgajhcabhoaaDoor
open Go.RowKit Msk

/-- What each operation of the region yields. -/
def hsp (f : Nat → Bool) (x y : Int) (i : Nat) (v : Value) (W : World) : Prop := match i with
  | 0 => v = .agg #[.int .i64 x, .int .i64 y]
  | 1 => ∃ g, v = .slice (some ⟨g, 0, none⟩) 1 1 ∧ W.heap[g]? = some (.cells #[.int .i64 x, .int .i64 y] 57 (0, 0))
  | 2 => v = .agg (mv (inl [(x, y)]))
  | 3 => v = .agg (mv f)
  | 4 => v = .agg (mv fun i => (inl [(x, y)] i && !f i) && decide (i < 1440))
  | 5 => v = .agg (mv fun _ => false)
  | 6 => v = .bool (eqm (fun i => (inl [(x, y)] i && !f i) && decide (i < 1440)) fun _ => false)
  | 7 => v = .bool (eqm (fun i => (inl [(x, y)] i && !f i) && decide (i < 1440)) fun _ => false)
  | _ => True
theorem hsp_mono {f : Nat → Bool} {x y : Int} {W W' : World} (hb : Below W.heap.size W W') (i : Nat) (v : Value) (h : hsp f x y i v W) : hsp f x y i v W' := by
  unfold hsp at *
  split at h
  · exact h
  · obtain ⟨g, h1, h2⟩ := h
    exact ⟨g, h1, (hb.block g (lt_of_block h2)).trans h2⟩
  all_goals exact h

/-- Does a mask have all minutes of a span? -/
def holdB (f : Nat → Bool) (x y : Int) : Bool := decide (0 ≤ x) && decide (y ≤ 1440) && decide (x ≤ y) && eqm (fun i => (inl [(x, y)] i && !f i) && decide (i < 1440)) fun _ => false

set_option maxRecDepth 10000 in
set_option maxHeartbeats 1000000 in
theorem holds_any (f : Nat → Bool) (x y : Int) (w : World) :
    Calls Tryd.prog 23 #[.agg (mv f), .agg #[.int .i64 x, .int .i64 y]] w fun e w' => e = .returned (.bool (holdB f x y)) ∧ Below w.heap.size w w' := by
  have hz := mv_lit
  have hb0 : Below w.heap.size w ((w.alloc (.cells (mv f) 41)).alloc (.cells #[.int .i64 x, .int .i64 y] 57)) := ((Below.refl _ _).alloc (Nat.le_refl _) _).alloc (by simp) _
  have h1 : ((w.alloc (.cells (mv f) 41)).alloc (.cells #[.int .i64 x, .int .i64 y] 57)).heap[w.heap.size]? = some (.cells (mv f) 41 (0, 0)) := by (repeat (first | refine blk_old _ _ _ (by simp only [size_alloc]; omega) ?_ | exact blk_new _ _ _ (by first | rfl | simp only [size_alloc])))
  have h2 : ((w.alloc (.cells (mv f) 41)).alloc (.cells #[.int .i64 x, .int .i64 y] 57)).heap[w.heap.size + 1]? = some (.cells #[.int .i64 x, .int .i64 y] 57 (0, 0)) := by (repeat (first | refine blk_old _ _ _ (by simp only [size_alloc]; omega) ?_ | exact blk_new _ _ _ (by first | rfl | simp only [size_alloc])))
  by_cases hx : x < 0
  · have e : holdB f x y = false := by unfold holdB; have : ¬ 0 ≤ x := by omega
                                       simp [this]
    rw [e]
    go_enter Tryd.func23, Tryd.ntmps23
    go_wp2
    go_ret
    exact ⟨rfl, hb0⟩
  · have hx' : 0 ≤ x := by omega
    clear hx
    by_cases hy : 1440 < y
    · have e : holdB f x y = false := by unfold holdB; have : ¬ y ≤ 1440 := by omega
                                         simp [this]
      rw [e]
      go_enter Tryd.func23, Tryd.ntmps23
      go_wp2
      go_ret
      exact ⟨rfl, hb0⟩
    · have hy' : y ≤ 1440 := by omega
      clear hy
      by_cases hxy : y < x
      · have e : holdB f x y = false := by unfold holdB; have : ¬ x ≤ y := by omega
                                           simp [this]
        rw [e]
        go_enter Tryd.func23, Tryd.ntmps23
        go_wp2
        go_ret
        exact ⟨rfl, hb0⟩
      · have hxy' : x ≤ y := by omega
        clear hxy
        have e : holdB f x y = eqm (fun i => (inl [(x, y)] i && !f i) && decide (i < 1440)) fun _ => false := by unfold holdB; simp [hx', hy', hxy']
        rw [e]
        clear e
        go_enter Tryd.func23, Tryd.ntmps23
        go_wp2
        refine wp_region_flow (by kernel_rfl) (by kernel_rfl) (by kernel_rfl) (by kernel_rfl) (fun _ _ W => Below (w.heap.size + 1 + 1) ((w.alloc (.cells (mv f) 41)).alloc (.cells #[.int .i64 x, .int .i64 y] 57)) W) (hsp f x y) ?_ ?_ ?_
        · intro L hL
          exact (Below.refl _ _).drew
        · intro i o L a W ho hLi hdep hJ hdef hkept hhas
          clear hdef hLi
          have fin : ∀ (v : Value) (d : Nat) (W' : World), Below W.heap.size W W' → hsp f x y i v W' → ∃ u, a.put (some d) v = a.put (some d) u ∧ (some d ≠ none → hsp f x y i u W') ∧ (∀ j x', L j = true → hsp f x y j x' W → hsp f x y j x' W') ∧ Below (w.heap.size + 1 + 1) ((w.alloc (.cells (mv f) 41)).alloc (.cells #[.int .i64 x, .int .i64 y] 57)) W' := by
            intro v d W' hb hv
            exact ⟨v, rfl, fun _ => hv, fun j x' _ h => hsp_mono hb j x' h, hJ.trans (hb.mono (by have := hJ.size; simp only [size_alloc] at this; omega))⟩
          match i, ho with
          | 0, ho =>
            cases Option.some.inj ho
            have hA : a.eval (.tmp 3) = .pointer (some ⟨w.heap.size + 1, 0, none⟩) := hkept 3 (fun j p hp _ => nd (by kernel_rfl) j p hp)
            have hg := (hJ.block _ (by omega)).trans h2
            refine wpOp_step rfl (fun K hK => ?_)
            show Oper.wp _ _ _ _ _ _
            refine wp_load_row 57 _ rfl _ hA _ _ _ _ hg Tryd.underlying57 rfl (by kernel_rfl) ?_
            exact hK _ _ (fin _ 20 _ (Below.refl _ _) rfl)
          | 1, ho =>
            cases Option.some.inj ho
            have hA : a.tmps[20]?.getD undef = .agg #[.int .i64 x, .int .i64 y] := by
              have := hhas 0 _ rfl (hdep ⟨0, .data⟩ (by simp) rfl) 20 rfl
              simpa [hsp] using this
            refine wpOp_step rfl (fun K hK => ?_)
            go_simp
            exact hK _ _ (fin _ 21 _ ((Below.refl _ _).alloc (Nat.le_refl _) _) ⟨_, rfl, heap_alloc_new W _⟩)
          | 2, ho =>
            cases Option.some.inj ho
            obtain ⟨g, hA0, hg⟩ := hhas 1 _ rfl (hdep ⟨1, .data⟩ (by simp) rfl) 21 rfl
            have hA : a.tmps[21]?.getD undef = .slice (some ⟨g, 0, none⟩) 1 1 := by simpa using hA0
            have hrow : Row W (.slice (some ⟨g, 0, none⟩) 1 1) [(x, y)] := row_at hg
            refine wpOp_step rfl (fun K hK => ?_)
            go_simp
            refine (of_any _ _ _ hrow).mono ?_
            rintro e W' ⟨rfl, hb⟩
            exact hK _ _ (fin _ 22 _ hb rfl)
          | 3, ho =>
            cases Option.some.inj ho
            have hA : a.eval (.tmp 2) = .pointer (some ⟨w.heap.size, 0, none⟩) := hkept 2 (fun j p hp _ => nd (by kernel_rfl) j p hp)
            have hg := (hJ.block _ (by omega)).trans h1
            refine wpOp_step rfl (fun K hK => ?_)
            show Oper.wp _ _ _ _ _ _
            refine wp_load_row 41 _ rfl _ hA _ _ _ _ hg maskType rfl (maskSize _) ?_
            exact hK _ _ (fin _ 23 _ (Below.refl _ _) rfl)
          | 4, ho =>
            cases Option.some.inj ho
            have hA : a.tmps[22]?.getD undef = .agg (mv (inl [(x, y)])) := by
              have := hhas 2 _ rfl (hdep ⟨2, .data⟩ (by simp) rfl) 22 rfl
              simpa [hsp] using this
            have hB : a.tmps[23]?.getD undef = .agg (mv f) := by
              have := hhas 3 _ rfl (hdep ⟨3, .data⟩ (by simp) rfl) 23 rfl
              simpa [hsp] using this
            refine wpOp_step rfl (fun K hK => ?_)
            go_simp
            refine (diff_any _ _ _).mono ?_
            rintro e W' ⟨rfl, hb⟩
            exact hK _ _ (fin _ 24 _ hb rfl)
          | 5, ho =>
            cases Option.some.inj ho
            refine wpOp_step rfl (fun K hK => ?_)
            go_simp
            exact hK _ _ (fin _ 25 _ (Below.refl _ _) rfl)
          | 6, ho =>
            cases Option.some.inj ho
            have hA : a.tmps[24]?.getD undef = .agg (mv fun i => (inl [(x, y)] i && !f i) && decide (i < 1440)) := by
              have := hhas 4 _ rfl (hdep ⟨4, .data⟩ (by simp) rfl) 24 rfl
              simpa [hsp] using this
            have hB : a.tmps[25]?.getD undef = .agg (mv fun _ => false) := by
              have := hhas 5 _ rfl (hdep ⟨5, .data⟩ (by simp) rfl) 25 rfl
              simpa [hsp] using this
            have he := eq_mask (fun i => (inl [(x, y)] i && !f i) && decide (i < 1440)) (fun _ => false)
            refine wpOp_step rfl (fun K hK => ?_)
            go_simp
            exact hK _ _ (fin _ 26 _ (Below.refl _ _) rfl)
          | 7, ho =>
            cases Option.some.inj ho
            have hA : a.tmps[26]?.getD undef = .bool (eqm (fun i => (inl [(x, y)] i && !f i) && decide (i < 1440)) fun _ => false) := by
              have := hhas 6 _ rfl (hdep ⟨6, .data⟩ (by simp) rfl) 26 rfl
              simpa [hsp] using this
            refine wpOp_step rfl (fun K hK => ?_)
            go_simp
            exact hK _ _ (fin _ 4 _ (Below.refl _ _) rfl)
          | k + 8, ho => simp at ho
        · intro L a W hL hJ hdef hsize hkept hhas
          have h4 : a.tmps[4]?.getD undef = .bool (eqm (fun i => (inl [(x, y)] i && !f i) && decide (i < 1440)) fun _ => false) := by
            have := hhas 7 _ rfl 4 rfl
            simpa [hsp] using this
          clear hL hkept hhas hsize hz
          go_wp2
          refine bodyPost_ret (v := .bool (eqm (fun i => (inl [(x, y)] i && !f i) && decide (i < 1440)) fun _ => false)) ?_ hdef ⟨rfl, hb0.trans (hJ.mono (by omega))⟩
          simp [results, Tryd.results23, h4]
end Go.Proofs.YtlhjgajhcabhoaaDoor

/- Small facts about frames and lists of values. -/
namespace Go.Proofs.YtlhjgajhcabhoaaDoor
open Go

theorem gd (A : Act) (s : Nat) : A.tmps[s]?.getD undef = A.tmps.getD s undef := by simp
theorem gdb {A : Act} {s : Nat} {b : Bool} (h : A.tmps.getD s undef = .bool b) : A.tmps[s]? = some (.bool b) := by
  rw [← gd] at h
  cases hx : A.tmps[s]? with
  | none => rw [hx] at h; simp [undef] at h
  | some v => rw [hx] at h; simp at h; rw [h]
/-- For all lists of so many. -/
def AllL : Nat → (List Value → Prop) → Prop
  | 0, P => P []
  | n + 1, P => ∀ u, AllL n fun l => P (u :: l)
theorem allL : ∀ (n : Nat) (P : List Value → Prop), AllL n P → ∀ l, l.length = n → P l
  | 0, P, h, l, hl => by
    have e : l = [] := List.length_eq_zero_iff.1 hl
    subst e
    exact h
  | n + 1, P, h, [], hl => by simp at hl
  | n + 1, P, h, u :: l, hl => allL n (fun l => P (u :: l)) (h u) l (by simpa using hl)
end Go.Proofs.YtlhjgajhcabhoaaDoor

/- Regions that draw their order and yield values that are known beforehand: the frame behind them is written out. It speaks of no program. -/
namespace Go.Proofs.YtlhjgajhcabhoaaDoor
open Go Go.RowKit

/-- Values put into slots. -/
def putAll (ds : List (Nat × Value)) (a : Act) : Act := ds.foldl (fun a p => a.put (some p.1) p.2) a
theorem putAll_nil (a : Act) : putAll [] a = a := rfl
theorem putAll_cons (p : Nat × Value) (ds : List (Nat × Value)) (a : Act) : putAll (p :: ds) a = putAll ds (a.put (some p.1) p.2) := rfl
theorem putAll_defers : ∀ (ds : List (Nat × Value)) (a : Act), (putAll ds a).defers = a.defers
  | [], _ => rfl
  | p :: ds, a => (putAll_defers ds (a.put (some p.1) p.2)).trans rfl
theorem putAll_size : ∀ (ds : List (Nat × Value)) (a : Act), (putAll ds a).tmps.size = a.tmps.size
  | [], _ => rfl
  | p :: ds, a => (putAll_size ds (a.put (some p.1) p.2)).trans (by simp [Act.put])
theorem putAll_other : ∀ (ds : List (Nat × Value)) (a : Act) (s : Nat), (∀ p ∈ ds, p.1 ≠ s) → (putAll ds a).tmps.getD s undef = a.tmps.getD s undef
  | [], _, _, _ => rfl
  | p :: ds, a, s, h => by
    rw [putAll_cons, putAll_other ds _ s (fun q hq => h q (List.mem_cons_of_mem _ hq))]
    exact getD_set_other _ _ _ _ (h p List.mem_cons_self)
theorem putAll_same : ∀ (ds : List (Nat × Value)) (a : Act) (j s : Nat) (v : Value), (ds.map (fun p => some p.1)).Nodup → s < a.tmps.size → ds[j]? = some (s, v) → (putAll ds a).tmps.getD s undef = v
  | [], _, _, _, _, _, _, h => by simp at h
  | p :: ds, a, 0, s, v, hn, hs, h => by
    simp at h
    subst h
    rw [putAll_cons, putAll_other ds _ s ?_]
    · exact getD_set_same _ _ _ hs
    · intro q hq e
      rw [List.map_cons, List.nodup_cons] at hn
      exact hn.1 (List.mem_map.2 ⟨q, hq, by rw [e]⟩)
  | p :: ds, a, j + 1, s, v, hn, hs, h => by
    rw [putAll_cons]
    rw [List.map_cons, List.nodup_cons] at hn
    exact putAll_same ds _ j s v hn.2 (by simpa [Act.put] using hs) (by simpa using h)
theorem act_is {A a0 : Act} (ds : List (Nat × Value)) (hd : A.defers = a0.defers) (hs : A.tmps.size = a0.tmps.size) (hn : (ds.map (fun p => some p.1)).Nodup)
    (hk : ∀ s, (∀ p ∈ ds, p.1 ≠ s) → A.tmps.getD s undef = a0.tmps.getD s undef) (hh : ∀ (j s : Nat) (v : Value), ds[j]? = some (s, v) → A.tmps.getD s undef = v) : A = putAll ds a0 := by
  have e1 := putAll_defers ds a0
  have e2 := putAll_size ds a0
  have e3 : ∀ s, s < a0.tmps.size → A.tmps.getD s undef = (putAll ds a0).tmps.getD s undef := by
    intro s hs'
    by_cases h : ∃ p ∈ ds, p.1 = s
    · obtain ⟨p, hp, rfl⟩ := h
      obtain ⟨j, hj⟩ := List.getElem?_of_mem hp
      rw [hh j _ _ hj, putAll_same ds a0 j _ _ hn hs' hj]
    · have h' : ∀ p ∈ ds, p.1 ≠ s := fun p hp e => h ⟨p, hp, e⟩
      rw [hk s h', putAll_other ds a0 s h']
  generalize putAll ds a0 = F at *
  obtain ⟨t, d⟩ := A
  obtain ⟨t', d'⟩ := F
  dsimp only at *
  have : t = t' := by
    apply Array.ext
    · omega
    · intro i h1 h2
      have := e3 i (by omega)
      simpa [Array.getD, h1, h2] using this
  rw [this, hd, e1]

section
variable {P : Program} {ops : Array Oper} {Q : Exit → Act → World → Prop} {id : Nat} {a0 : Act} {w : World}

/-- What an operation of the region comes to, in whatever world behind the first. -/
def StepV (P : Program) (ops : Array Oper) (Q : Exit → Act → World → Prop) (ds : List (Nat × Value)) (a0 : Act) (w : World) : Prop :=
  ∀ (i s : Nat) (v : Value) (o : Oper) (L : Nat → Bool) (A : Act) (W : World), ops[i]? = some o → ds[i]? = some (s, v) → (∀ e ∈ o.after, Region.binds .any e = true → L e.on = true) → Below w.heap.size w W →
    (∀ s, notDst ops s = true → A.tmps.getD s undef = a0.tmps.getD s undef) → (∀ (j s : Nat) (u : Value), ds[j]? = some (s, u) → L j = true → A.tmps.getD s undef = u) → wpOp P ops Q i (fun a' W' => a' = A.put (some s) v ∧ Below W.heap.size W W') A W

theorem dst_at {k : Nat} {ds : List (Nat × Value)} (hds : (ops.toList.take k).map (fun o => o.dst) = ds.map (fun p => some p.1)) {i s : Nat} {v : Value} {o : Oper} (ho : ops[i]? = some o) (h : ds[i]? = some (s, v)) : o.dst = some s := by
  have h1 : (ds.map (fun p => some p.1))[i]? = some (some s) := by rw [List.getElem?_map, h]; rfl
  rw [← hds, List.getElem?_map] at h1
  have h2 : (ops.toList.take k)[i]? = some o ∨ (ops.toList.take k)[i]? = none := by
    rw [List.getElem?_take]
    split
    · left; simpa using ho
    · right; rfl
  rcases h2 with h2 | h2
  · rw [h2] at h1; simpa using h1
  · rw [h2] at h1; simp at h1
theorem at_dst {k : Nat} {ds : List (Nat × Value)} (hds : (ops.toList.take k).map (fun o => o.dst) = ds.map (fun p => some p.1)) {i : Nat} {o : Oper} (hi : i < k) (ho : ops[i]? = some o) : ∃ s v, ds[i]? = some (s, v) := by
  have h1 : (ops.toList.take k)[i]? = some o := by rw [List.getElem?_take, if_pos hi]; simpa using ho
  have h2 : ((ops.toList.take k).map (fun o => o.dst))[i]? = some o.dst := by rw [List.getElem?_map, h1]; rfl
  rw [hds, List.getElem?_map] at h2
  cases h3 : ds[i]? with
  | none => rw [h3] at h2; simp at h2
  | some p => exact ⟨p.1, p.2, rfl⟩

theorem wp_region_vals (hm : P.follows .mixedOrders = true) (hback : backB ops = true) (hdst : dstB ops = true) (hin : inB ops a0.tmps.size = true) (ds : List (Nat × Value))
    (hds : (ops.toList.take ops.size).map (fun o => o.dst) = ds.map (fun p => some p.1)) (hnd : decide (((ops.toList.take ops.size).map (fun o => o.dst)).Nodup) = true)
    (hstep : StepV P ops Q ds a0 w) (hend : ∀ W, Below w.heap.size w W → Q .normal (putAll ds a0) W) : (Code.region id ops true).wp P Q a0 w := by
  have hnd' : (ds.map (fun p => some p.1)).Nodup := by rw [← hds]; exact of_decide_eq_true hnd
  refine wp_region_flow hm hback hdst hin (fun _ _ W => Below w.heap.size w W) (fun j x _ => ∀ s v, ds[j]? = some (s, v) → x = v) ?_ ?_ ?_
  · intro L _
    exact (Below.refl _ _).drew
  · intro i o L A W ho hLi hdep hJ hdef hkept hhas
    have hi : i < ops.size := (Array.getElem?_eq_some_iff.1 ho).1
    obtain ⟨s, v, hv⟩ := at_dst hds hi ho
    have hd := dst_at hds ho hv
    refine wpOp_mono ?_ (hstep i s v o L A W ho hv hdep hJ (fun s' h => hkept s' fun j p hp _ => nd h j p hp) (fun j s' u hj hL => ?_))
    · rintro a' W' ⟨rfl, hb⟩
      exact ⟨v, by rw [hd], fun _ s' v' h => by rw [hv] at h; cases h; rfl, fun _ _ _ h => h, hJ.trans (hb.mono hJ.size)⟩
    · have hj' : j < ds.length := (List.getElem?_eq_some_iff.1 hj).1
      have hl : ds.length = ops.size := by have := congrArg List.length hds; simpa using this.symm
      obtain ⟨p, hp⟩ : ∃ p, ops[j]? = some p := ⟨ops[j]'(by omega), Array.getElem?_eq_getElem _⟩
      exact hhas j p hp hL s' (dst_at hds hp hj) s' u hj
  · intro L A W hL hJ hdef hsize hkept hhas
    have : A = putAll ds a0 := act_is ds hdef hsize hnd' (fun s h => hkept s fun j p hp e => ?_) (fun j s v hj => ?_)
    · rw [this]; exact hend W hJ
    · have hi : j < ops.size := (Array.getElem?_eq_some_iff.1 hp).1
      obtain ⟨s', v, hv⟩ := at_dst hds hi hp
      have := (dst_at hds hp hv).symm.trans e
      cases this
      exact h _ (List.mem_of_getElem? hv) rfl
    · have hj' : j < ds.length := (List.getElem?_eq_some_iff.1 hj).1
      have hl : ds.length = ops.size := by have := congrArg List.length hds; simpa using this.symm
      obtain ⟨p, hp⟩ : ∃ p, ops[j]? = some p := ⟨ops[j]'(by omega), Array.getElem?_eq_getElem _⟩
      exact hhas j p hp s (dst_at hds hp hj) s v hj

/-- Each operation but the last is waited for by a later one. -/
def useB (ops : Array Oper) : Bool := (List.range (ops.size - 1)).all fun i => (List.range ops.size).any fun j => decide (i < j) && match ops[j]? with | none => false | some o => o.after.any fun e => Region.binds .any e && decide (e.on = i)
theorem use_all (hu : useB ops = true) {n : Nat} (hn : ops.size = n + 1) {L : Nat → Bool} (hc : ∀ (j : Nat) (p : Oper), ops[j]? = some p → L j = true → ∀ e ∈ p.after, Region.binds .any e = true → L e.on = true) (hL : L n = true) : ∀ k i, n - i ≤ k → i ≤ n → L i = true
  | 0, i, hk, hi => by rw [show i = n by omega]; exact hL
  | k + 1, i, hk, hi => by
    by_cases e : i = n
    · rw [e]; exact hL
    have h1 := List.all_eq_true.1 hu i (by simp; omega)
    obtain ⟨j, hj, h2⟩ := List.any_eq_true.1 h1
    simp at hj
    simp only [Bool.and_eq_true, decide_eq_true_eq] at h2
    obtain ⟨hij, h3⟩ := h2
    cases ho : ops[j]? with
    | none => rw [ho] at h3; cases h3
    | some o =>
      rw [ho] at h3
      obtain ⟨e', he, h4⟩ := Array.any_eq_true'.1 h3
      simp only [Bool.and_eq_true, decide_eq_true_eq] at h4
      have := hc j o ho (use_all hu hn hc hL k j (by omega) (by omega)) e' he h4.1
      rw [h4.2] at this
      exact this

theorem wp_region_last (hm : P.follows .mixedOrders = true) (hback : backB ops = true) (hdst : dstB ops = true) (hin : inB ops a0.tmps.size = true) (n : Nat) (hn : ops.size = n + 1) (huse : useB ops = true) (ds : List (Nat × Value))
    (hds : (ops.toList.take n).map (fun o => o.dst) = ds.map (fun p => some p.1)) (hnd : decide (((ops.toList.take n).map (fun o => o.dst)).Nodup) = true)
    (hstep : StepV P ops Q ds a0 w) (hlast : ∀ (o : Oper) (W : World), ops[n]? = some o → Below w.heap.size w W → wpOp P ops Q n (fun a' W' => (∃ v, a' = (putAll ds a0).put o.dst v) ∧ Q .normal a' W') (putAll ds a0) W) : (Code.region id ops true).wp P Q a0 w := by
  have hnd' : (ds.map (fun p => some p.1)).Nodup := by rw [← hds]; exact of_decide_eq_true hnd
  have hl : ds.length = n := by
    have h := congrArg List.length hds
    simp only [List.length_map, List.length_take, Array.length_toList] at h
    omega
  refine wp_region_flow hm hback hdst hin (fun L A W => (∀ (j : Nat) (p : Oper), ops[j]? = some p → L j = true → ∀ e ∈ p.after, Region.binds .any e = true → L e.on = true) ∧ (L n = false → Below w.heap.size w W ∧ A.tmps.size = a0.tmps.size) ∧ (L n = true → Q .normal A W)) (fun j x _ => ∀ s v, ds[j]? = some (s, v) → x = v) ?_ ?_ ?_
  · intro L h
    refine ⟨fun j p hp hj => ?_, fun _ => ⟨(Below.refl _ _).drew, rfl⟩, fun h' => ?_⟩
    · have := h j (Array.getElem?_eq_some_iff.1 hp).1
      rw [this] at hj; cases hj
    · rw [h n (by omega)] at h'; cases h'
  · intro i o L A W ho hLi hdep hJ hdef hkept hhas
    obtain ⟨hc, hbel, hdone⟩ := hJ
    have hi : i < ops.size := (Array.getElem?_eq_some_iff.1 ho).1
    have hLn : L n = false := by
      cases h : L n with
      | false => rfl
      | true =>
        have := use_all huse hn hc h n i (by omega) (by omega)
        rw [this] at hLi; cases hLi
    obtain ⟨hbw, hsz⟩ := hbel hLn
    have hc' : ∀ (j : Nat) (p : Oper), ops[j]? = some p → (decide (i = j) || L j) = true → ∀ e ∈ p.after, Region.binds .any e = true → (decide (i = e.on) || L e.on) = true := by
      intro j p hp hj e he hb
      by_cases hij : i = j
      · subst hij
        rw [ho] at hp
        cases hp
        rw [hdep e he hb]; simp
      · rw [hc j p hp (by simpa [hij] using hj) e he hb]; simp
    have hread : ∀ (j s : Nat) (u : Value), ds[j]? = some (s, u) → L j = true → A.tmps.getD s undef = u := fun j s' u hj hL => by
      have hj' : j < ds.length := (List.getElem?_eq_some_iff.1 hj).1
      obtain ⟨p, hp⟩ : ∃ p, ops[j]? = some p := ⟨ops[j]'(by omega), Array.getElem?_eq_getElem _⟩
      exact hhas j p hp hL s' (dst_at hds hp hj) s' u hj
    by_cases hin' : i = n
    · subst hin'
      have hall : ∀ j, j < i → L j = true := fun j hj => by
        have := use_all huse hn hc' (L := fun k => decide (i = k) || L k) (by simp) i j (by omega) (by omega)
        simpa [show i ≠ j by omega] using this
      have e : A = putAll ds a0 := by
        refine act_is ds hdef hsz hnd' (fun s h => hkept s fun j p hp hj e => ?_) (fun j s v hj => ?_)
        · have hjn : j < i := by
            have h1 := (Array.getElem?_eq_some_iff.1 hp).1
            have h2 : j ≠ i := fun e' => by rw [e', hLn] at hj; cases hj
            omega
          obtain ⟨s', v, hv⟩ := at_dst hds hjn hp
          have := (dst_at hds hp hv).symm.trans e
          cases this
          exact h _ (List.mem_of_getElem? hv) rfl
        · exact hread j s v hj (hall j (by have := (List.getElem?_eq_some_iff.1 hj).1; omega))
      rw [e]
      refine wpOp_mono ?_ (hlast o W ho hbw)
      rintro a' W' ⟨⟨v, hv⟩, hq⟩
      refine ⟨v, hv, fun _ s' v' h => ?_, fun _ _ _ h => h, hc', fun h => by simp at h, fun _ => hq⟩
      have := (List.getElem?_eq_some_iff.1 h).1
      omega
    · obtain ⟨s, v, hv⟩ := at_dst hds (show i < n by omega) ho
      have hd := dst_at hds ho hv
      refine wpOp_mono ?_ (hstep i s v o L A W ho hv hdep hbw (fun s' h => hkept s' fun j p hp _ => nd h j p hp) hread)
      rintro a' W' ⟨rfl, hb⟩
      refine ⟨v, by rw [hd], fun _ s' v' h => by rw [hv] at h; cases h; rfl, fun _ _ _ h => h, hc', fun _ => ⟨hbw.trans (hb.mono hbw.size), by simpa [Act.put] using hsz⟩, fun h => ?_⟩
      simp [hin', hLn] at h
  · intro L A W hL hJ hdef hsize hkept hhas
    exact hJ.2.2 (hL n (by omega))
end
end Go.Proofs.YtlhjgajhcabhoaaDoor

/- A region that draws its order, whose values are known beforehand, and whose operations keep what is said of the world; the last one waits for all. It speaks of no program. -/
namespace Go.Proofs.YtlhjgajhcabhoaaDoor
open Go Go.RowKit
section
variable {P : Program} {ops : Array Oper} {Q : Exit → Act → World → Prop} {id : Nat} {a0 : Act} {w : World}
/-- What an operation of the region comes to, in whatever world of which that is said. -/
def StepJ (P : Program) (ops : Array Oper) (Q : Exit → Act → World → Prop) (ds : List (Nat × Value)) (a0 : Act) (J : World → Prop) : Prop :=
  ∀ (i s : Nat) (v : Value) (o : Oper) (L : Nat → Bool) (A : Act) (W : World), ops[i]? = some o → ds[i]? = some (s, v) → (∀ e ∈ o.after, Region.binds .any e = true → L e.on = true) → J W →
    (∀ s, notDst ops s = true → A.tmps.getD s undef = a0.tmps.getD s undef) → (∀ (j s : Nat) (u : Value), ds[j]? = some (s, u) → L j = true → A.tmps.getD s undef = u) → wpOp P ops Q i (fun a' W' => a' = A.put (some s) v ∧ J W') A W
theorem wp_region_lastJ (J : World → Prop) (hJ0 : J w.drew) (hm : P.follows .mixedOrders = true) (hback : backB ops = true) (hdst : dstB ops = true) (hin : inB ops a0.tmps.size = true) (n : Nat) (hn : ops.size = n + 1) (huse : useB ops = true) (ds : List (Nat × Value))
    (hds : (ops.toList.take n).map (fun o => o.dst) = ds.map (fun p => some p.1)) (hnd : decide (((ops.toList.take n).map (fun o => o.dst)).Nodup) = true)
    (hstep : StepJ P ops Q ds a0 J) (hlast : ∀ (o : Oper) (W : World), ops[n]? = some o → J W → wpOp P ops Q n (fun a' W' => (∃ v, a' = (putAll ds a0).put o.dst v) ∧ Q .normal a' W') (putAll ds a0) W) : (Code.region id ops true).wp P Q a0 w := by
  have hnd' : (ds.map (fun p => some p.1)).Nodup := by rw [← hds]; exact of_decide_eq_true hnd
  have hl : ds.length = n := by
    have h := congrArg List.length hds
    simp only [List.length_map, List.length_take, Array.length_toList] at h
    omega
  refine wp_region_flow hm hback hdst hin (fun L A W => (∀ (j : Nat) (p : Oper), ops[j]? = some p → L j = true → ∀ e ∈ p.after, Region.binds .any e = true → L e.on = true) ∧ (L n = false → J W ∧ A.tmps.size = a0.tmps.size) ∧ (L n = true → Q .normal A W)) (fun j x _ => ∀ s v, ds[j]? = some (s, v) → x = v) ?_ ?_ ?_
  · intro L h
    refine ⟨fun j p hp hj => ?_, fun _ => ⟨hJ0, rfl⟩, fun h' => ?_⟩
    · have := h j (Array.getElem?_eq_some_iff.1 hp).1
      rw [this] at hj; cases hj
    · rw [h n (by omega)] at h'; cases h'
  · intro i o L A W ho hLi hdep hJ hdef hkept hhas
    obtain ⟨hc, hbel, hdone⟩ := hJ
    have hi : i < ops.size := (Array.getElem?_eq_some_iff.1 ho).1
    have hLn : L n = false := by
      cases h : L n with
      | false => rfl
      | true =>
        have := use_all huse hn hc h n i (by omega) (by omega)
        rw [this] at hLi; cases hLi
    obtain ⟨hbw, hsz⟩ := hbel hLn
    have hc' : ∀ (j : Nat) (p : Oper), ops[j]? = some p → (decide (i = j) || L j) = true → ∀ e ∈ p.after, Region.binds .any e = true → (decide (i = e.on) || L e.on) = true := by
      intro j p hp hj e he hb
      by_cases hij : i = j
      · subst hij
        rw [ho] at hp
        cases hp
        rw [hdep e he hb]; simp
      · rw [hc j p hp (by simpa [hij] using hj) e he hb]; simp
    have hread : ∀ (j s : Nat) (u : Value), ds[j]? = some (s, u) → L j = true → A.tmps.getD s undef = u := fun j s' u hj hL => by
      have hj' : j < ds.length := (List.getElem?_eq_some_iff.1 hj).1
      obtain ⟨p, hp⟩ : ∃ p, ops[j]? = some p := ⟨ops[j]'(by omega), Array.getElem?_eq_getElem _⟩
      exact hhas j p hp hL s' (dst_at hds hp hj) s' u hj
    by_cases hin' : i = n
    · subst hin'
      have hall : ∀ j, j < i → L j = true := fun j hj => by
        have := use_all huse hn hc' (L := fun k => decide (i = k) || L k) (by simp) i j (by omega) (by omega)
        simpa [show i ≠ j by omega] using this
      have e : A = putAll ds a0 := by
        refine act_is ds hdef hsz hnd' (fun s h => hkept s fun j p hp hj e => ?_) (fun j s v hj => ?_)
        · have hjn : j < i := by
            have h1 := (Array.getElem?_eq_some_iff.1 hp).1
            have h2 : j ≠ i := fun e' => by rw [e', hLn] at hj; cases hj
            omega
          obtain ⟨s', v, hv⟩ := at_dst hds hjn hp
          have := (dst_at hds hp hv).symm.trans e
          cases this
          exact h _ (List.mem_of_getElem? hv) rfl
        · exact hread j s v hj (hall j (by have := (List.getElem?_eq_some_iff.1 hj).1; omega))
      rw [e]
      refine wpOp_mono ?_ (hlast o W ho hbw)
      rintro a' W' ⟨⟨v, hv⟩, hq⟩
      refine ⟨v, hv, fun _ s' v' h => ?_, fun _ _ _ h => h, hc', fun h => by simp at h, fun _ => hq⟩
      have := (List.getElem?_eq_some_iff.1 h).1
      omega
    · obtain ⟨s, v, hv⟩ := at_dst hds (show i < n by omega) ho
      have hd := dst_at hds ho hv
      refine wpOp_mono ?_ (hstep i s v o L A W ho hv hdep hbw (fun s' h => hkept s' fun j p hp _ => nd h j p hp) hread)
      rintro a' W' ⟨rfl, hb⟩
      refine ⟨v, by rw [hd], fun _ s' v' h => by rw [hv] at h; cases h; rfl, fun _ _ _ h => h, hc', fun _ => ⟨hb, by simpa [Act.put] using hsz⟩, fun h => ?_⟩
      simp [hin', hLn] at h
  · intro L A W hL hJ hdef hsize hkept hhas
    exact hJ.2.2 (hL n (by omega))
theorem wp_region_lastK (J : World → Prop) (hJ0 : J w.drew) (hm : P.follows .mixedOrders = true) (hback : backB ops = true) (hdst : dstB ops = true) (hin : inB ops a0.tmps.size = true) (n : Nat) (hn : ops.size = n + 1) (huse : useB ops = true) (ds : List (Nat × Value))
    (hds : (ops.toList.take n).map (fun o => o.dst) = ds.map (fun p => some p.1)) (hnd : decide (((ops.toList.take n).map (fun o => o.dst)).Nodup) = true)
    (hstep : StepJ P ops Q ds a0 J) (hlast : ∀ (o : Oper) (W : World) (A : Act), ops[n]? = some o → J W → A = putAll ds a0 → wpOp P ops Q n (fun a' W' => (∃ v, a' = A.put o.dst v) ∧ Q .normal a' W') A W) : (Code.region id ops true).wp P Q a0 w :=
  wp_region_lastJ J hJ0 hm hback hdst hin n hn huse ds hds hnd hstep fun o W ho hJ => hlast o W _ ho hJ rfl
end
end Go.Proofs.YtlhjgajhcabhoaaDoor

/- A region that draws its order, whose values are known beforehand; what is said of the world hangs on what has been done. It speaks of no program. -/
namespace Go.Proofs.YtlhjgajhcabhoaaDoor
open Go Go.RowKit
section
variable {P : Program} {ops : Array Oper} {Q : Exit → Act → World → Prop} {id : Nat} {a0 : Act} {w : World}
/-- What has been done was ready. -/
def ClosL (ops : Array Oper) (L : Nat → Bool) : Prop := ∀ (j : Nat) (p : Oper), ops[j]? = some p → L j = true → ∀ e ∈ p.after, Region.binds .any e = true → L e.on = true
/-- What an operation of the region comes to. -/
def StepL (P : Program) (ops : Array Oper) (Q : Exit → Act → World → Prop) (ds : List (Option Nat × Value)) (a0 : Act) (J : (Nat → Bool) → World → Prop) : Prop :=
  ∀ (i : Nat) (d : Option Nat) (v : Value) (o : Oper) (L : Nat → Bool) (A : Act) (W : World), ops[i]? = some o → ds[i]? = some (d, v) → L i = false → (∀ e ∈ o.after, Region.binds .any e = true → L e.on = true) → ClosL ops L → J L W →
    (∀ s, notDst ops s = true → A.tmps.getD s undef = a0.tmps.getD s undef) → (∀ (j s : Nat) (u : Value), ds[j]? = some (some s, u) → L j = true → A.tmps.getD s undef = u) → wpOp P ops Q i (fun a' W' => a' = A.put d v ∧ J (fun k => decide (i = k) || L k) W') A W
theorem clos_lt {m : Nat} (hu : useB (ops.extract 0 (m + 1)) = true) (hm : m < ops.size) {L : Nat → Bool} (hc : ClosL ops L) {i : Nat} (hi : i < m) (hL : L i = false) : L m = false := by
  cases h : L m with
  | false => rfl
  | true =>
    have hs : (ops.extract 0 (m + 1)).size = m + 1 := by simp; omega
    have hex : ∀ (j : Nat) (p : Oper), (ops.extract 0 (m + 1))[j]? = some p → ops[j]? = some p := fun j p hp => by
      rw [Array.getElem?_extract] at hp
      split at hp
      · simpa using hp
      · cases hp
    have := use_all hu hs (L := L) (fun j p hp hj => hc j p (hex j p hp) hj) h m i (by omega) (by omega)
    rw [this] at hL; cases hL
theorem wp_region_JL (J : (Nat → Bool) → World → Prop) (hJ0 : ∀ L : Nat → Bool, (∀ i, i < ops.size → L i = false) → J L w.drew) (hm : P.follows .mixedOrders = true) (hback : backB ops = true) (hdst : dstB ops = true) (hin : inB ops a0.tmps.size = true) (ds : List (Option Nat × Value)) (es : List (Nat × Value))
    (hds : ops.toList.map (fun o => o.dst) = ds.map (fun p => p.1)) (hes : ds.filterMap (fun p => p.1.map fun s => (s, p.2)) = es) (hnd : decide ((es.map (fun p => p.1)).Nodup) = true)
    (hstep : StepL P ops Q ds a0 J) (hend : ∀ (L : Nat → Bool) (W : World), (∀ i, i < ops.size → L i = true) → J L W → Q .normal (putAll es a0) W) : (Code.region id ops true).wp P Q a0 w := by
  have hl : ds.length = ops.size := by
    have h := congrArg List.length hds
    simpa using h.symm
  have atD : ∀ {j : Nat} {p : Oper}, ops[j]? = some p → ∃ v, ds[j]? = some (p.dst, v) := fun {j p} hp => by
    have h1 : (ops.toList.map (fun o => o.dst))[j]? = some p.dst := by
      rw [List.getElem?_map, Array.getElem?_toList, hp]
      rfl
    rw [hds, List.getElem?_map] at h1
    cases hs : ds[j]? with
    | none => rw [hs] at h1; cases h1
    | some q =>
      rw [hs] at h1
      exact ⟨q.2, by rw [← Option.some.inj h1]⟩
  have atO : ∀ {j : Nat} {d : Option Nat} {v : Value}, ds[j]? = some (d, v) → ∃ p, ops[j]? = some p ∧ p.dst = d := fun {j d v} hj => by
    have hj' := (List.getElem?_eq_some_iff.1 hj).1
    obtain ⟨p, hp⟩ : ∃ p, ops[j]? = some p := ⟨ops[j]'(by omega), Array.getElem?_eq_getElem _⟩
    obtain ⟨v', hv'⟩ := atD hp
    rw [hj] at hv'
    exact ⟨p, hp, (congrArg Prod.fst (Option.some.inj hv')).symm⟩
  refine wp_region_flow hm hback hdst hin (fun L _ W => ClosL ops L ∧ J L W) (fun j x _ => ∀ d v, ds[j]? = some (d, v) → x = v) ?_ ?_ ?_
  · intro L h
    refine ⟨fun j p hp hj => ?_, hJ0 L h⟩
    have := h j (Array.getElem?_eq_some_iff.1 hp).1
    rw [this] at hj; cases hj
  · intro i o L A W ho hLi hdep hJ hdef hkept hhas
    obtain ⟨hc, hJ⟩ := hJ
    have hc' : ClosL ops (fun k => decide (i = k) || L k) := by
      intro j p hp hj e he hb
      show (decide (i = e.on) || L e.on) = true
      by_cases hij : i = j
      · subst hij
        rw [ho] at hp
        cases hp
        rw [hdep e he hb]; simp
      · rw [hc j p hp (by simpa [hij] using hj) e he hb]; simp
    obtain ⟨v, hv⟩ := atD ho
    refine wpOp_mono ?_ (hstep i o.dst v o L A W ho hv hLi hdep hc hJ (fun s' h => hkept s' fun j p hp _ => nd h j p hp) fun j s u hj hL => ?_)
    · rintro a' W' ⟨rfl, hJ'⟩
      exact ⟨v, rfl, fun _ d' v' h => by rw [hv] at h; exact congrArg Prod.snd (Option.some.inj h), fun _ _ _ h => h, hc', hJ'⟩
    · obtain ⟨p, hp, hd⟩ := atO hj
      exact hhas j p hp hL s hd _ _ hj
  · intro L A W hL hJ hdef hsize hkept hhas
    have e : A = putAll es a0 := by
      refine act_is es hdef hsize (by
        have := of_decide_eq_true hnd
        rw [show es.map (fun p => some p.1) = (es.map (fun p => p.1)).map some by rw [List.map_map]; rfl]
        rw [List.nodup_iff_pairwise_ne] at this ⊢
        rw [List.pairwise_map]
        exact this.imp fun hab e => hab (Option.some.inj e)) (fun s h => hkept s fun j p hp e => ?_) (fun j s v hj => ?_)
      · obtain ⟨v, hv⟩ := atD hp
        refine h (s, v) ?_ rfl
        rw [← hes, List.mem_filterMap]
        exact ⟨_, List.mem_of_getElem? hv, by rw [e]; rfl⟩
      · have hm' := List.mem_of_getElem? hj
        rw [← hes, List.mem_filterMap] at hm'
        obtain ⟨q, hq, hqe⟩ := hm'
        obtain ⟨k, hk⟩ := List.getElem?_of_mem hq
        obtain ⟨d, v'⟩ := q
        cases d with
        | none => cases hqe
        | some t =>
          have h2 := Option.some.inj hqe
          have h3 : t = s := congrArg Prod.fst h2
          have h4 : v' = v := congrArg Prod.snd h2
          subst h3 h4
          obtain ⟨p, hp, hd⟩ := atO hk
          exact hhas k p hp t hd _ _ hk
    rw [e]
    exact hend L W hL hJ.2
/-- Ahead of an operation this is said of the world, and behind it that. -/
def JJ (m : Nat) (Pre Post : World → Prop) (L : Nat → Bool) (W : World) : Prop := (L m = false → Pre W) ∧ (L m = true → Post W)
variable {m : Nat} {Pre Post : World → Prop} {L : Nat → Bool} {W W' : World} {i : Nat}
theorem JJ.start (hm : m < ops.size) (h : Pre W) (hL : ∀ i, i < ops.size → L i = false) : JJ m Pre Post L W := ⟨fun _ => h, fun e => by rw [hL m hm] at e; cases e⟩
theorem JJ.keep (h : JJ m Pre Post L W) (hi : i ≠ m) : JJ m Pre Post (fun k => decide (i = k) || L k) W := ⟨fun e => h.1 (by simpa [hi] using e), fun e => h.2 (by simpa [hi] using e)⟩
theorem JJ.low (hi : i ≠ m) (hL : L m = false) (h : Pre W') : JJ m Pre Post (fun k => decide (i = k) || L k) W' := ⟨fun _ => h, fun e => by simp [hi, hL] at e⟩
theorem JJ.both {R : Prop} (h : JJ m Pre Post L W) (h1 : Pre W → R) (h2 : Post W → R) : R := by
  cases hL : L m with
  | false => exact h1 (h.1 hL)
  | true => exact h2 (h.2 hL)
theorem JJ.done (h : Post W') : JJ m Pre Post (fun k => decide (m = k) || L k) W' := ⟨fun e => by simp at e, fun _ => h⟩
end
end Go.Proofs.YtlhjgajhcabhoaaDoor
