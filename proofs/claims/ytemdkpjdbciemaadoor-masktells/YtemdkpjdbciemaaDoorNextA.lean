/- What masks.Next comes to. -/
import Derived.Test.YtemdkpjdbciemaaDoorVisitA
namespace Go.Proofs.YtemdkpjdbciemaaDoor
open Go.RowKit Msk

/-- A mask has all minutes of a span of n minutes from q on, within the day. -/
def Hold (f : Nat → Bool) (q n : Nat) : Prop := q + n ≤ 1440 ∧ ∀ i, q ≤ i → i < q + n → f i = true
/-- No such span begins at x or behind it, ahead of p. -/
def NoneTo (f : Nat → Bool) (x : Int) (n p : Nat) : Prop := ∀ q : Nat, x ≤ (q : Int) → q < p → ¬ Hold f q n
theorem none_step {f : Nat → Bool} {x : Int} {n p a b : Nat} (h : NoneTo f x n p) (hn : 1 ≤ n) (h3 : b ≤ 1440) (hno : ∀ i, p ≤ i → i < a → f i = false) (hb : b < 1440 → f b = false)
    (hs : (b : Int) - max (a : Int) x < (n : Int)) : NoneTo f x n b := by
  intro q hx hq ⟨h1, h2⟩
  rcases Nat.lt_or_ge q p with g | g
  · exact h q hx g ⟨h1, h2⟩
  · have fq := h2 q (Nat.le_refl _) (by omega)
    rcases Nat.lt_or_ge q a with g2 | g2
    · rw [hno q g g2] at fq; cases fq
    · rcases Nat.lt_or_ge b (q + n) with g3 | g3
      · have hb' : b < 1440 := by omega
        have := h2 b (by omega) g3
        rw [hb hb'] at this; cases this
      · omega
theorem none_found {f : Nat → Bool} {x : Int} {n p a b : Nat} (h : NoneTo f x n p) (hn : 1 ≤ n) (h3 : b ≤ 1440) (hno : ∀ i, p ≤ i → i < a → f i = false) (hyes : ∀ i, a ≤ i → i < b → f i = true)
    (hs : (n : Int) ≤ (b : Int) - max (a : Int) x) : ∃ q : Nat, max (a : Int) x = (q : Int) ∧ x ≤ (q : Int) ∧ Hold f q n ∧ NoneTo f x n q := by
  refine ⟨(max (a : Int) x).toNat, by omega, by omega, ⟨by omega, fun i g1 g2 => hyes i (by omega) (by omega)⟩, ?_⟩
  intro q hx hq ⟨h1, h2⟩
  have fq := h2 q (Nat.le_refl _) (by omega)
  rcases Nat.lt_or_ge q p with g | g
  · exact h q hx g ⟨h1, h2⟩
  · rw [hno q g (by omega)] at fq; cases fq

set_option maxRecDepth 10000 in
set_option maxHeartbeats 1000000 in
theorem nextClosure_any (a b : Nat) (x n u : Int) (bo : Bool) (Bf Ba Bl Bo : Nat) (w : World) (ha : a ≤ 1440) (hb : b ≤ 1440) (hx0 : x ≤ 1440) (d2 : Ba ≠ Bl) (d3 : Bo ≠ Ba) (d4 : Bo ≠ Bf) (d5 : Bo ≠ Bl)
    (hf : w.heap[Bf]? = some (.cells #[.int .i64 x] 3 (0, 0))) (hl : w.heap[Bl]? = some (.cells #[.int .i64 n] 3 (0, 0))) (hat : w.heap[Ba]? = some (.cells #[.int .i64 u] 3 (0, 0))) (hfo : w.heap[Bo]? = some (.cells #[.bool bo] 4 (0, 0))) :
    Calls Tryd.prog 48 #[.agg #[.int .i64 a, .int .i64 b], .pointer (some ⟨Bf, 0, none⟩), .pointer (some ⟨Ba, 0, none⟩), .pointer (some ⟨Bl, 0, none⟩), .pointer (some ⟨Bo, 0, none⟩)] w fun e w' =>
      e = .returned (.bool (!decide (n ≤ (b : Int) - max (a : Int) x))) ∧ w' = ((w.setCell ⟨Ba, 0, none⟩ (.int .i64 (max (a : Int) x))).setCell ⟨Bo, 0, none⟩ (.bool (decide (n ≤ (b : Int) - max (a : Int) x)))).alloc (.cells #[.int .i64 a, .int .i64 b] 39) := by
  have c1 := cell_of_one hf
  have c2 := cell_of_one hl
  have c3 := cell_of_one hat
  have c4 := cell_of_one hfo
  have f3 := free_of_one hat
  have f4 := free_of_one hfo
  have l1 := lt_of_block hf
  have l2 := lt_of_block hl
  have l3 := lt_of_block hat
  have l4 := lt_of_block hfo
  clear hf hl hat hfo
  rcases Int.lt_or_le (a : Int) x with h | h
  · have hmax : max (a : Int) x = x := by omega
    rw [hmax]
    clear hmax
    go_enter Tryd.func48, Tryd.ntmps48
    go_wp2
    go_ret
    exact ⟨rfl, rfl⟩
  · have hmax : max (a : Int) x = (a : Int) := by omega
    rw [hmax]
    clear hmax
    go_enter Tryd.func48, Tryd.ntmps48
    go_wp2
    go_ret
    exact ⟨rfl, rfl⟩

/-- What masks.Next tells. -/
def NextTells (f : Nat → Bool) (x n : Int) (v : Int) (ok : Bool) : Prop :=
  ((n < 0 ∨ 1440 < n ∨ 1440 < x) ∧ v = 0 ∧ ok = false) ∨ (n = 0 ∧ x ≤ 1440 ∧ v = max x 0 ∧ ok = true) ∨
  (1 ≤ n ∧ n ≤ 1440 ∧ x ≤ 1440 ∧ ((v = 0 ∧ ok = false ∧ NoneTo f x n.toNat 1440) ∨ (ok = true ∧ ∃ q : Nat, v = q ∧ x ≤ (q : Int) ∧ Hold f q n.toNat ∧ NoneTo f x n.toNat q)))

/-- What holds while the spans are gone through. -/
structure NI (f : Nat → Bool) (x n : Int) (w0 : World) (Bf Bl Ba Bo : Nat) (p : Nat) (w : World) : Prop where
  bel : Below w0.heap.size w0 w
  fr : w.heap[Bf]? = some (.cells #[.int .i64 x] 3 (0, 0))
  le : w.heap[Bl]? = some (.cells #[.int .i64 n] 3 (0, 0))
  at' : ∃ u : Int, w.heap[Ba]? = some (.cells #[.int .i64 u] 3 (0, 0))
  fo : w.heap[Bo]? = some (.cells #[.bool false] 4 (0, 0))
  none : NoneTo f x n.toNat p
/-- What holds behind them. -/
def NR (f : Nat → Bool) (x n : Int) (w0 : World) (Ba Bo : Nat) (w : World) : Prop :=
  Below w0.heap.size w0 w ∧ ∃ u : Int, ∃ ok : Bool, w.heap[Ba]? = some (.cells #[.int .i64 u] 3 (0, 0)) ∧ w.heap[Bo]? = some (.cells #[.bool ok] 4 (0, 0)) ∧ ((ok = false ∧ NoneTo f x n.toNat 1440) ∨
    (ok = true ∧ ∃ q : Nat, u = (q : Int) ∧ x ≤ (q : Int) ∧ Hold f q n.toNat ∧ NoneTo f x n.toNat q))

theorem none_all {f : Nat → Bool} {x : Int} {n p : Nat} (hn : 1 ≤ n) (h : NoneTo f x n p) (hno : ∀ i, p ≤ i → i < 1440 → f i = false) : NoneTo f x n 1440 := by
  intro q hx hq ⟨h1, h2⟩
  rcases Nat.lt_or_ge q p with g | g
  · exact h q hx g ⟨h1, h2⟩
  · have fq := h2 q (Nat.le_refl _) (by omega)
    rw [hno q g hq] at fq; cases fq

theorem next_visit (f : Nat → Bool) (x n : Int) (w0 w : World) (Bf Bl Ba Bo : Nat) (hT : Tab w0) (h1 : 1 ≤ n) (h3 : x ≤ 1440) (d2 : Ba ≠ Bl) (d3 : Bo ≠ Ba) (d4 : Bo ≠ Bf) (d5 : Bo ≠ Bl) (d1 : Ba ≠ Bf)
    (la : w0.heap.size ≤ Ba) (lo : w0.heap.size ≤ Bo) (ua : Ba < w.heap.size) (uo : Bo < w.heap.size) (hI : NI f x n w0 Bf Bl Ba Bo 0 w) :
    Calls Tryd.prog 47 #[.agg (mv f), .func (.func 48) #[] #[.pointer (some ⟨Bf, 0, none⟩), .pointer (some ⟨Ba, 0, none⟩), .pointer (some ⟨Bl, 0, none⟩), .pointer (some ⟨Bo, 0, none⟩)]] w fun e w' =>
      e = .returned (.tuple #[]) ∧ NR f x n w0 Ba Bo w' := by
  refine visit_any f 48 _ (NI f x n w0 Bf Bl Ba Bo) (NR f x n w0 Ba Bo) w hI (fun _ _ => by simp [go_sem]) (fun p wr h => hT.later h.bel) ?_ ?_ ?_
  · intro p wr w' h hb
    obtain ⟨u, hu⟩ := h.at'
    exact ⟨h.bel.trans (hb.mono h.bel.size), (hb.block _ (lt_of_block h.fr)).trans h.fr, (hb.block _ (lt_of_block h.le)).trans h.le, ⟨u, (hb.block _ (lt_of_block hu)).trans hu⟩, (hb.block _ (lt_of_block h.fo)).trans h.fo, h.none⟩
  · intro p a b wr hsz h hpa hab hb3 hno hyes hbb
    obtain ⟨u, hu⟩ := h.at'
    refine (nextClosure_any a b x n u false Bf Ba Bl Bo wr (by omega) hb3 h3 d2 d3 d4 d5 h.fr h.le hu h.fo).mono ?_
    rintro e w' ⟨rfl, rfl⟩
    generalize hv : max (a : Int) x = v
    have hbel : Below w0.heap.size w0 (((wr.setCell ⟨Ba, 0, none⟩ (.int .i64 v)).setCell ⟨Bo, 0, none⟩ (.bool (decide (n ≤ (b : Int) - v)))).alloc (.cells #[.int .i64 a, .int .i64 b] 39)) :=
      ((h.bel.setCell (p := ⟨Ba, 0, none⟩) la _).setCell (p := ⟨Bo, 0, none⟩) lo _).alloc (by have := h.bel.size; simpa using this) _
    have hu2 := one_setCell (u := .int .i64 v) hu
    have hu3 : ((wr.setCell ⟨Ba, 0, none⟩ (.int .i64 v)).setCell ⟨Bo, 0, none⟩ (.bool (decide (n ≤ (b : Int) - v)))).heap[Ba]? = some (.cells #[.int .i64 v] 3 (0, 0)) := (heap_setCell_other _ _ _ _ (Ne.symm d3)).trans hu2
    have ho2 : (wr.setCell ⟨Ba, 0, none⟩ (.int .i64 v)).heap[Bo]? = some (.cells #[.bool false] 4 (0, 0)) := (heap_setCell_other _ _ _ _ d3).trans h.fo
    have ho3 := one_setCell (u := .bool (decide (n ≤ (b : Int) - v))) ho2
    have hu4 := blk_old _ (.cells #[.int .i64 a, .int .i64 b] 39) _ (lt_of_block hu3) hu3
    have ho4 := blk_old _ (.cells #[.int .i64 a, .int .i64 b] 39) _ (lt_of_block ho3) ho3
    refine ⟨?_, ?_⟩
    · by_cases hs : n ≤ (b : Int) - v
      · right
        simp only [hs, decide_true] at ho4 hu4 hbel ⊢
        refine ⟨rfl, hbel, v, true, hu4, ho4, .inr ⟨rfl, ?_⟩⟩
        obtain ⟨q, e1, e2, e3, e4⟩ := none_found h.none (by omega) hb3 hno hyes (by rw [hv]; omega)
        exact ⟨q, by rw [← hv]; exact e1, e2, e3, e4⟩
      · left
        simp only [hs, decide_false] at ho4 hu4 hbel ⊢
        refine ⟨rfl, hbel, ?_, ?_, ⟨v, hu4⟩, ho4, none_step h.none (by omega) hb3 hno hbb (by rw [hv]; omega)⟩
        · have f2 : (wr.setCell ⟨Ba, 0, none⟩ (.int .i64 v)).heap[Bf]? = some (.cells #[.int .i64 x] 3 (0, 0)) := (heap_setCell_other _ _ _ _ (Ne.symm d1)).trans h.fr
          have f3 : ((wr.setCell ⟨Ba, 0, none⟩ (.int .i64 v)).setCell ⟨Bo, 0, none⟩ (.bool false)).heap[Bf]? = some (.cells #[.int .i64 x] 3 (0, 0)) := (heap_setCell_other _ _ _ _ (Ne.symm d4)).trans f2
          exact blk_old _ _ _ (lt_of_block f3) f3
        · have f2 : (wr.setCell ⟨Ba, 0, none⟩ (.int .i64 v)).heap[Bl]? = some (.cells #[.int .i64 n] 3 (0, 0)) := (heap_setCell_other _ _ _ _ (Ne.symm d2)).trans h.le
          have f3 : ((wr.setCell ⟨Ba, 0, none⟩ (.int .i64 v)).setCell ⟨Bo, 0, none⟩ (.bool false)).heap[Bl]? = some (.cells #[.int .i64 n] 3 (0, 0)) := (heap_setCell_other _ _ _ _ (Ne.symm d5)).trans f2
          exact blk_old _ _ _ (lt_of_block f3) f3
    · refine ⟨by simp, fun k c h1 h2 => ?_⟩
      refine ((Below.heap_alloc _ _ _ (by simpa using lt_of_block h2)).trans ((heap_setCell_other _ _ _ _ ?_).trans (heap_setCell_other _ _ _ _ ?_))).trans h2
      · dsimp only; omega
      · dsimp only; omega
  · intro p wr h hp hno
    obtain ⟨u, hu⟩ := h.at'
    exact ⟨h.bel, u, false, hu, h.fo, .inl ⟨rfl, none_all (by omega) h.none hno⟩⟩

set_option maxRecDepth 10000 in
set_option maxHeartbeats 2000000 in
theorem next_any (f : Nat → Bool) (x n : Int) (w : World) (hT : Tab w) :
    Calls Tryd.prog 20 #[.agg (mv f), .int .i64 x, .int .i64 n] w fun e w' => (∃ v ok, e = .returned (.tuple #[.int .i64 v, .bool ok]) ∧ NextTells f x n v ok) ∧ Below w.heap.size w w' := by
  have hb0 : Below w.heap.size w (((w.alloc (.cells (mv f) 37)).alloc (.cells #[.int .i64 x] 3)).alloc (.cells #[.int .i64 n] 3)) := (((Below.refl _ _).alloc (Nat.le_refl _) _).alloc (by simp) _).alloc (by simp only [size_alloc]; omega) _
  by_cases h1 : n < 0
  · go_enter Tryd.func20, Tryd.ntmps20
    go_wp2
    go_ret2
    exact ⟨⟨0, false, rfl, .inl ⟨.inl h1, rfl, rfl⟩⟩, hb0⟩
  · have h1' : 0 ≤ n := by omega
    clear h1
    by_cases h2 : 1440 < n
    · go_enter Tryd.func20, Tryd.ntmps20
      go_wp2
      go_ret2
      exact ⟨⟨0, false, rfl, .inl ⟨.inr (.inl h2), rfl, rfl⟩⟩, hb0⟩
    · have h2' : n ≤ 1440 := by omega
      clear h2
      by_cases h3 : 1440 < x
      · go_enter Tryd.func20, Tryd.ntmps20
        go_wp2
        go_ret2
        exact ⟨⟨0, false, rfl, .inl ⟨.inr (.inr h3), rfl, rfl⟩⟩, hb0⟩
      · have h3' : x ≤ 1440 := by omega
        clear h3
        by_cases h4 : n = 0
        · subst h4
          rcases Int.lt_or_le x 0 with h | h
          · go_enter Tryd.func20, Tryd.ntmps20
            go_wp2
            go_ret2
            exact ⟨⟨0, true, rfl, .inr (.inl ⟨rfl, h3', by omega, rfl⟩)⟩, hb0⟩
          · go_enter Tryd.func20, Tryd.ntmps20
            go_wp2
            go_ret2
            exact ⟨⟨x, true, rfl, .inr (.inl ⟨rfl, h3', by omega, rfl⟩)⟩, hb0⟩
        · have h4' : (n == 0) = false := by simp [h4]
          have h5 : 1 ≤ n := by omega
          have hmf : ∀ (fn : Fn) (first cap : Array Value) (w : World), (Instr.makeFunc fn first cap).run Tryd.prog w = .ok (.func fn first cap) w := fun _ _ _ _ => rfl
          have hW1 : (((((w.alloc (.cells (mv f) 37)).alloc (.cells #[.int .i64 x] 3)).alloc (.cells #[.int .i64 n] 3)).alloc (.cells #[.int .i64 0] 3)).alloc (.cells #[.bool false] 4)).heap[w.heap.size]? = some (.cells (mv f) 37 (0, 0)) := by (repeat (first | refine blk_old _ _ _ (by simp only [size_alloc]; omega) ?_ | exact blk_new _ _ _ (by first | rfl | simp only [size_alloc])))
          have hW2 : (((((w.alloc (.cells (mv f) 37)).alloc (.cells #[.int .i64 x] 3)).alloc (.cells #[.int .i64 n] 3)).alloc (.cells #[.int .i64 0] 3)).alloc (.cells #[.bool false] 4)).heap[w.heap.size + 1]? = some (.cells #[.int .i64 x] 3 (0, 0)) := by (repeat (first | refine blk_old _ _ _ (by simp only [size_alloc]; omega) ?_ | exact blk_new _ _ _ (by first | rfl | simp only [size_alloc])))
          have hW3 : (((((w.alloc (.cells (mv f) 37)).alloc (.cells #[.int .i64 x] 3)).alloc (.cells #[.int .i64 n] 3)).alloc (.cells #[.int .i64 0] 3)).alloc (.cells #[.bool false] 4)).heap[w.heap.size + 1 + 1]? = some (.cells #[.int .i64 n] 3 (0, 0)) := by (repeat (first | refine blk_old _ _ _ (by simp only [size_alloc]; omega) ?_ | exact blk_new _ _ _ (by first | rfl | simp only [size_alloc])))
          have hW4 : (((((w.alloc (.cells (mv f) 37)).alloc (.cells #[.int .i64 x] 3)).alloc (.cells #[.int .i64 n] 3)).alloc (.cells #[.int .i64 0] 3)).alloc (.cells #[.bool false] 4)).heap[w.heap.size + 1 + 1 + 1]? = some (.cells #[.int .i64 0] 3 (0, 0)) := by (repeat (first | refine blk_old _ _ _ (by simp only [size_alloc]; omega) ?_ | exact blk_new _ _ _ (by first | rfl | simp only [size_alloc])))
          have hW5 : (((((w.alloc (.cells (mv f) 37)).alloc (.cells #[.int .i64 x] 3)).alloc (.cells #[.int .i64 n] 3)).alloc (.cells #[.int .i64 0] 3)).alloc (.cells #[.bool false] 4)).heap[w.heap.size + 1 + 1 + 1 + 1]? = some (.cells #[.bool false] 4 (0, 0)) := by (repeat (first | refine blk_old _ _ _ (by simp only [size_alloc]; omega) ?_ | exact blk_new _ _ _ (by first | rfl | simp only [size_alloc])))
          have hb5 : Below w.heap.size w (((((w.alloc (.cells (mv f) 37)).alloc (.cells #[.int .i64 x] 3)).alloc (.cells #[.int .i64 n] 3)).alloc (.cells #[.int .i64 0] 3)).alloc (.cells #[.bool false] 4)) := (hb0.alloc (by simp only [size_alloc]; omega) _).alloc (by simp only [size_alloc]; omega) _
          have cv := next_visit f x n w _ _ _ _ _ hT h5 h3' (by omega) (by omega) (by omega) (by omega) (by omega) (by omega) (by omega) (by simp only [size_alloc]; omega) (by simp only [size_alloc]; omega) ⟨hb5, hW2, hW3, ⟨0, hW4⟩, hW5, fun q _ h => absurd h (Nat.not_lt_zero q)⟩
          clear h4 hW2 hW3 hW4 hW5 hb5 hb0
          go_enter Tryd.func20, Tryd.ntmps20
          go_wp2_with (first
            | (refine wpList_load_row rfl 37 _ rfl _ rfl _ _ _ _ hW1 maskType rfl (maskSize _) ?_)
            | (go_at_call 47; refine cv.mono ?_; rintro e w' ⟨rfl, hbel, u, ok, hu, ho, hcase⟩; have c1 := cell_of_one hu; have c2 := cell_of_one ho; have HC : Hid ((ok = false ∧ NoneTo f x n.toNat 1440) ∨ (ok = true ∧ ∃ q : Nat, u = (q : Int) ∧ x ≤ (q : Int) ∧ Hold f q n.toNat ∧ NoneTo f x n.toNat q)) := hcase; clear hcase; cases ok))
          all_goals go_ret2
          · rcases HC.out with ⟨_, hn⟩ | ⟨h, _⟩
            · exact ⟨⟨0, false, rfl, .inr (.inr ⟨h5, h2', h3', .inl ⟨rfl, rfl, hn⟩⟩)⟩, hbel⟩
            · cases h
          · rcases HC.out with ⟨h, _⟩ | ⟨_, hq⟩
            · cases h
            · exact ⟨⟨u, true, rfl, .inr (.inr ⟨h5, h2', h3', .inr ⟨rfl, hq⟩⟩)⟩, hbel⟩
end Go.Proofs.YtemdkpjdbciemaaDoor
