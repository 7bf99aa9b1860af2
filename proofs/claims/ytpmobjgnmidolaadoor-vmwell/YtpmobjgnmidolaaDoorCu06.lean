/- What is wrong with an instruction: vm.instruction, and what it calls. -/
import Derived.Test.YtpmobjgnmidolaaDoorCu05
import Derived.Test.YtpmobjgnmidolaaDoorCu02
import Derived.Below
namespace Go.Proofs.YtpmobjgnmidolaaDoor
open Go.RowKit Msk Vx

theorem hidv {p : Prop} (h : p) : Hid p := h
theorem isNumber_any (n m : Int) (w : World) : Calls Tryd.prog 26 #[.int .i64 n, .int .i64 m] w fun e w' => e = .returned (.bool (decide (0 ≤ n ∧ n < m))) ∧ w' = w := by
  by_cases h1 : 0 ≤ n
  · by_cases h2 : n < m
    · rw [decide_eq_true (⟨h1, h2⟩ : 0 ≤ n ∧ n < m)]
      go_enter Tryd.func26, Tryd.ntmps26
      go_wp2
      go_ret
      exact ⟨rfl, rfl⟩
    · rw [decide_eq_false (fun e : 0 ≤ n ∧ n < m => h2 e.2)]
      go_enter Tryd.func26, Tryd.ntmps26
      go_wp2
      go_ret
      exact ⟨rfl, rfl⟩
  · rw [decide_eq_false (fun e : 0 ≤ n ∧ n < m => h1 e.1)]
    go_enter Tryd.func26, Tryd.ntmps26
    go_wp2
    go_ret
    exact ⟨rfl, rfl⟩
theorem within_any (n lo hi : Int) (w : World) : Calls Tryd.prog 61 #[.int .i64 n, .int .i64 lo, .int .i64 hi] w fun e w' => e = .returned (.bool (decide (lo ≤ n ∧ n ≤ hi))) ∧ w' = w := by
  by_cases h1 : lo ≤ n
  · by_cases h2 : n ≤ hi
    · rw [decide_eq_true (⟨h1, h2⟩ : lo ≤ n ∧ n ≤ hi)]
      go_enter Tryd.func61, Tryd.ntmps61
      go_wp2
      go_ret
      exact ⟨rfl, rfl⟩
    · rw [decide_eq_false (fun e : lo ≤ n ∧ n ≤ hi => h2 e.2)]
      go_enter Tryd.func61, Tryd.ntmps61
      go_wp2
      go_ret
      exact ⟨rfl, rfl⟩
  · rw [decide_eq_false (fun e : lo ≤ n ∧ n ≤ hi => h1 e.1)]
    go_enter Tryd.func61, Tryd.ntmps61
    go_wp2
    go_ret
    exact ⟨rfl, rfl⟩
theorem unless_any (b : Bool) (e : Int) (w : World) : Calls Tryd.prog 85 #[.bool b, .int .i64 e] w fun r w' => r = .returned (.int .i64 (if b = true then 0 else e)) ∧ w' = w := by
  cases b
  · go_enter Tryd.func85, Tryd.ntmps85
    go_wp2
    go_ret
    exact ⟨rfl, rfl⟩
  · go_enter Tryd.func85, Tryd.ntmps85
    go_wp2
    go_ret
    exact ⟨rfl, rfl⟩
/-- A row of spans in memory; where there are none, anywhere. -/
def RowV (w : World) (v : Value) (l : List (Int × Int)) : Prop := (l = [] ∧ ∃ p c, v = .slice p 0 c) ∨ Row w v l
theorem RowV.later {w w' : World} {v : Value} {l : List (Int × Int)} (h : RowV w v l) (hb : Below w.heap.size w w') : RowV w' v l := by
  rcases h with h | h
  · exact .inl h
  · exact .inr (h.later hb)
theorem RowV.form {w : World} {v : Value} {l : List (Int × Int)} (h : RowV w v l) : ∃ p c, v = .slice p l.length c ∧ l.length < 9223372036854775808 ∧ ∀ (j : Nat) (s : Int × Int), l[j]? = some s → ∃ g o : Nat, p = some ⟨g, o, none⟩ ∧ w.cell? ⟨g, o + j * 2, none⟩ = some (.int .i64 s.1) ∧ w.cell? ⟨g, o + j * 2 + 1, none⟩ = some (.int .i64 s.2) := by
  rcases h with ⟨rfl, p, c, rfl⟩ | ⟨c, rfl, rfl⟩ | ⟨g, o, c, rfl, hl, hc⟩
  · exact ⟨p, c, rfl, by decide, fun j s hj => by simp at hj⟩
  · exact ⟨none, c, rfl, by decide, fun j s hj => by simp at hj⟩
  · refine ⟨_, c, rfl, hl, fun j s hj => ⟨g, o, rfl, ?_⟩⟩
    have h1 := (List.getElem?_eq_some_iff.1 hj).1
    have := hc j h1
    have e : l.getD j (0, 0) = s := by simp [List.getD, hj]
    rw [e] at this
    exact this
set_option maxHeartbeats 1000000 in
theorem of_nil (p : Option Addr) (c : Nat) (w : World) :
    Calls Tryd.prog 76 #[.slice p 0 c] w fun e w' => e = .returned (.agg (mv (inl []))) ∧ Below w.heap.size w w' := by
  have hz := mv_lit
  have h1 : ((w.alloc (.cells (mv fun _ => false) 37)).alloc (.cells (mv fun _ => false) 37)).heap[w.heap.size]? = some (.cells (mv fun _ => false) 37 (0, 0)) := by (repeat (first | refine blk_old _ _ _ (by simp only [size_alloc]; omega) ?_ | exact blk_new _ _ _ (by first | rfl | simp only [size_alloc])))
  have h2 : ((w.alloc (.cells (mv fun _ => false) 37)).alloc (.cells (mv fun _ => false) 37)).heap[w.heap.size + 1]? = some (.cells (mv fun _ => false) 37 (0, 0)) := by (repeat (first | refine blk_old _ _ _ (by simp only [size_alloc]; omega) ?_ | exact blk_new _ _ _ (by first | rfl | simp only [size_alloc])))
  have hb0 : Below w.heap.size w ((w.alloc (.cells (mv fun _ => false) 37)).alloc (.cells (mv fun _ => false) 37)) := ((Below.refl _ _).alloc (Nat.le_refl _) _).alloc (by simp) _
  · go_enter Tryd.func76, Tryd.ntmps76
    go_wp2
    refine wp_loop_rounds 1 ?_
    rw [rounds_succ]
    go_wp2_with (first
      | (refine wpList_load_row rfl 37 _ rfl _ rfl _ _ _ _ h2 maskType rfl (maskSize _) ?_)
      | (refine wpList_store_row rfl 37 _ _ rfl _ _ rfl rfl _ _ h1 (maskSize _) (by simp [mv_size]) (mv_all _) ?_))
    refine bodyPost_ret (v := .agg (mv (inl []))) ?_ rfl ⟨rfl, below_setRow hb0 (Nat.le_refl _) _⟩
    exact results_cell_row rfl _ _ w.heap.size _ _ _ _ rfl (setRow_heap _ _ _ _ _ _ h1) maskType rfl (maskSize _)
theorem of_anyV (v : Value) (l : List (Int × Int)) (w : World) (hl : RowV w v l) :
    Calls Tryd.prog 76 #[v] w fun e w' => e = .returned (.agg (mv (inl l))) ∧ Below w.heap.size w w' := by
  rcases hl with ⟨rfl, p, c, rfl⟩ | hl
  · exact of_nil p c w
  · exact of_any v l w hl
set_option maxRecDepth 100000 in
set_option maxHeartbeats 1000000 in
theorem rising_any (l : List (Int × Int)) (v : Value) (w : World) (h : RowV w v l) : Calls Tryd.prog 86 #[v] w fun r w' => r = .returned (.bool (risL l (-1))) ∧ Below w.heap.size w w' := by
  obtain ⟨p, c, rfl, hlen, hc⟩ := h.form
  have HC := hidv hc
  clear hc h
  go_enter Tryd.func86, Tryd.ntmps86
  go_wp2_with fail
  go_loopw [3, 8] (fun x t wr => ∃ (j : Nat) (e : Int), x = .int .i64 e ∧ t = .int .i64 (j : Int) ∧ j ≤ l.length ∧ risL l (-1) = risL (l.drop j) e ∧ Below w.heap.size w wr) (fun _ t _ => l.length - (intOf t).toNat)
  case atStart => exact ⟨0, -1, rfl, rfl, by omega, rfl, Below.refl _ _⟩
  case round =>
    obtain ⟨j, e, rfl, rfl, hj, hX, hb⟩ := hrel
    have hj0 : (0 : Int) ≤ (j : Int) := by omega
    by_cases hlt : j < l.length
    · have hlt' : (j : Int) < (l.length : Int) := by omega
      obtain ⟨s, hjk⟩ : ∃ p, l[j]? = some p := ⟨l[j], List.getElem?_eq_getElem hlt⟩
      rw [risL_step hjk] at hX
      obtain ⟨g, o, hpe, c0, c1⟩ := HC.out j _ hjk
      subst hpe
      obtain ⟨x, y⟩ := s
      dsimp only at c0 c1 hX
      have d0 := (hb.cell (block_lt_of_cell c0)).trans c0
      have d1 := (hb.cell (block_lt_of_cell c1)).trans c1
      have hb2 := hb.alloc hb.size (.cells #[.int .i64 x, .int .i64 y] 110)
      by_cases h1 : x ≤ e
      · rw [if_pos (.inl h1)] at hX
        have HX := hidv hX
        clear hX hjk HC c0 c1
        go_wp2_with fail
        go_ret
        exact ⟨by (rw [HX.out]) <;> rfl, hb2⟩
      · by_cases h2 : y ≤ x
        · rw [if_pos (.inr (.inl h2))] at hX
          have HX := hidv hX
          clear hX hjk HC c0 c1
          go_wp2_with fail
          go_ret
          exact ⟨by (rw [HX.out]) <;> rfl, hb2⟩
        · by_cases h3 : 1440 < y
          · rw [if_pos (.inr (.inr h3))] at hX
            have HX := hidv hX
            clear hX hjk HC c0 c1
            go_wp2_with fail
            go_ret
            exact ⟨by (rw [HX.out]) <;> rfl, hb2⟩
          · rw [if_neg (by omega)] at hX
            have HX := hidv hX
            clear hX hjk c0 c1
            go_wp2_with fail
            go_roundw
            case rel => exact ⟨j + 1, y, rfl, by go_num, by omega, HX.out, hb2⟩
            case measure => simp [intOf]; omega
    · have hlt' : ¬ (j : Int) < (l.length : Int) := by omega
      have HX : Hid (risL l (-1) = true) := by
        show _ = _
        rw [hX, List.drop_of_length_le (by omega)]
        rfl
      clear hX HC
      go_wp2_with fail
      go_ret
      exact ⟨by (rw [HX.out]) <;> rfl, hb⟩
end Go.Proofs.YtpmobjgnmidolaaDoor

/- What is wrong with an instruction. Written by genvmb.py. -/
namespace Go.Proofs.YtpmobjgnmidolaaDoor
open Go.RowKit Msk Vx

theorem insType : Tryd.prog.underlying 66 = some (.struct (Tryd.prog.fieldsOf 66)) := by kernel_rfl
/-- Are a guard's numbers days? -/
def nmD (op a b : Int) : Bool := if op = 6 then decide (1 ≤ a ∧ a ≤ 127) else decide (0 ≤ a ∧ a ≤ b ∧ b < 146097)
set_option maxRecDepth 100000 in
set_option maxHeartbeats 1000000 in
theorem namesDays_any (op a b t : Int) (sv : Value) (w : World) : Calls Tryd.prog 87 #[.agg #[.int .i64 op, .int .i64 a, .int .i64 b, .int .i64 t, sv]] w fun r w' => r = .returned (.bool (nmD op a b)) ∧ Below w.heap.size w w' := by
  have hbA := (Below.refl w.heap.size w).alloc (Nat.le_refl _) (.cells #[.int .i64 op, .int .i64 a, .int .i64 b, .int .i64 t, sv] 66)
  have hxA := heap_alloc_new w (.cells #[.int .i64 op, .int .i64 a, .int .i64 b, .int .i64 t, sv] 66)
  generalize hwA : w.alloc (.cells #[.int .i64 op, .int .i64 a, .int .i64 b, .int .i64 t, sv] 66) = wA at *
  have z0 := (cell_of_row _ _ 0 _ _ _ hxA).trans rfl
  have z1 := (cell_of_row _ _ 1 _ _ _ hxA).trans rfl
  have z2 := (cell_of_row _ _ 2 _ _ _ hxA).trans rfl
  have z3 := (cell_of_row _ _ 3 _ _ _ hxA).trans rfl
  have z4 := (cell_of_row _ _ 4 _ _ _ hxA).trans rfl
  by_cases h6 : op = 6
  · have e : nmD op a b = decide (1 ≤ a ∧ a ≤ 127) := if_pos h6
    rw [e]
    subst h6
    have c1 := within_any a 1 127 wA
    generalize decide (1 ≤ a ∧ a ≤ 127) = q at *
    go_enter Tryd.func87, Tryd.ntmps87
    go_wp2_with fail
    refine c1.mono ?_
    rintro r w' ⟨rfl, rfl⟩
    clear c1
    go_wp2_with fail
    go_ret
    exact ⟨rfl, hbA⟩
  · have e : nmD op a b = decide (0 ≤ a ∧ a ≤ b ∧ b < 146097) := if_neg h6
    have h6' : (op == 6) = false := beq_eq_false_iff_ne.2 h6
    rw [e]
    by_cases h1 : 0 ≤ a
    · by_cases h2 : a ≤ b
      · by_cases h3 : b < 146097
        · rw [decide_eq_true (⟨h1, h2, h3⟩ : 0 ≤ a ∧ a ≤ b ∧ b < 146097)]
          go_enter Tryd.func87, Tryd.ntmps87
          go_wp2_with fail
          go_ret
          exact ⟨rfl, hbA⟩
        · rw [decide_eq_false (fun e : 0 ≤ a ∧ a ≤ b ∧ b < 146097 => h3 e.2.2)]
          go_enter Tryd.func87, Tryd.ntmps87
          go_wp2_with fail
          go_ret
          exact ⟨rfl, hbA⟩
      · rw [decide_eq_false (fun e : 0 ≤ a ∧ a ≤ b ∧ b < 146097 => h2 e.2.1)]
        go_enter Tryd.func87, Tryd.ntmps87
        go_wp2_with fail
        go_ret
        exact ⟨rfl, hbA⟩
    · rw [decide_eq_false (fun e : 0 ≤ a ∧ a ≤ b ∧ b < 146097 => h1 e.1)]
      go_enter Tryd.func87, Tryd.ntmps87
      go_wp2_with fail
      go_ret
      exact ⟨rfl, hbA⟩
set_option maxRecDepth 100000 in
set_option maxHeartbeats 1000000 in
theorem instr_2 (a b t : Int) (sv : Value) (k n r : Nat) (w : World) : Calls Tryd.prog 62 #[.agg #[.int .i64 2, .int .i64 a, .int .i64 b, .int .i64 t, sv], .int .i64 (k : Int), .int .i64 (n : Int), .int .i64 (r : Int)] w fun e w' => e = .returned (.int .i64 0) ∧ Below w.heap.size w w' := by
  have hbA := (Below.refl w.heap.size w).alloc (Nat.le_refl _) (.cells #[.int .i64 2, .int .i64 a, .int .i64 b, .int .i64 t, sv] 66)
  have hxA := heap_alloc_new w (.cells #[.int .i64 2, .int .i64 a, .int .i64 b, .int .i64 t, sv] 66)
  generalize hwA : w.alloc (.cells #[.int .i64 2, .int .i64 a, .int .i64 b, .int .i64 t, sv] 66) = wA at *
  have z0 := (cell_of_row _ _ 0 _ _ _ hxA).trans rfl
  have z1 := (cell_of_row _ _ 1 _ _ _ hxA).trans rfl
  have z2 := (cell_of_row _ _ 2 _ _ _ hxA).trans rfl
  have z3 := (cell_of_row _ _ 3 _ _ _ hxA).trans rfl
  have z4 := (cell_of_row _ _ 4 _ _ _ hxA).trans rfl
  go_enter Tryd.func62, Tryd.ntmps62
  go_wp2_with fail
  go_ret
  exact ⟨rfl, hbA⟩
set_option maxRecDepth 100000 in
set_option maxHeartbeats 1000000 in
theorem instr_3 (a b t : Int) (sv : Value) (k n r : Nat) (w : World) : Calls Tryd.prog 62 #[.agg #[.int .i64 3, .int .i64 a, .int .i64 b, .int .i64 t, sv], .int .i64 (k : Int), .int .i64 (n : Int), .int .i64 (r : Int)] w fun e w' => e = .returned (.int .i64 0) ∧ Below w.heap.size w w' := by
  have hbA := (Below.refl w.heap.size w).alloc (Nat.le_refl _) (.cells #[.int .i64 3, .int .i64 a, .int .i64 b, .int .i64 t, sv] 66)
  have hxA := heap_alloc_new w (.cells #[.int .i64 3, .int .i64 a, .int .i64 b, .int .i64 t, sv] 66)
  generalize hwA : w.alloc (.cells #[.int .i64 3, .int .i64 a, .int .i64 b, .int .i64 t, sv] 66) = wA at *
  have z0 := (cell_of_row _ _ 0 _ _ _ hxA).trans rfl
  have z1 := (cell_of_row _ _ 1 _ _ _ hxA).trans rfl
  have z2 := (cell_of_row _ _ 2 _ _ _ hxA).trans rfl
  have z3 := (cell_of_row _ _ 3 _ _ _ hxA).trans rfl
  have z4 := (cell_of_row _ _ 4 _ _ _ hxA).trans rfl
  go_enter Tryd.func62, Tryd.ntmps62
  go_wp2_with fail
  go_ret
  exact ⟨rfl, hbA⟩
set_option maxRecDepth 100000 in
set_option maxHeartbeats 1000000 in
theorem instr_4 (a b t : Int) (sv : Value) (k n r : Nat) (w : World) : Calls Tryd.prog 62 #[.agg #[.int .i64 4, .int .i64 a, .int .i64 b, .int .i64 t, sv], .int .i64 (k : Int), .int .i64 (n : Int), .int .i64 (r : Int)] w fun e w' => e = .returned (.int .i64 0) ∧ Below w.heap.size w w' := by
  have hbA := (Below.refl w.heap.size w).alloc (Nat.le_refl _) (.cells #[.int .i64 4, .int .i64 a, .int .i64 b, .int .i64 t, sv] 66)
  have hxA := heap_alloc_new w (.cells #[.int .i64 4, .int .i64 a, .int .i64 b, .int .i64 t, sv] 66)
  generalize hwA : w.alloc (.cells #[.int .i64 4, .int .i64 a, .int .i64 b, .int .i64 t, sv] 66) = wA at *
  have z0 := (cell_of_row _ _ 0 _ _ _ hxA).trans rfl
  have z1 := (cell_of_row _ _ 1 _ _ _ hxA).trans rfl
  have z2 := (cell_of_row _ _ 2 _ _ _ hxA).trans rfl
  have z3 := (cell_of_row _ _ 3 _ _ _ hxA).trans rfl
  have z4 := (cell_of_row _ _ 4 _ _ _ hxA).trans rfl
  go_enter Tryd.func62, Tryd.ntmps62
  go_wp2_with fail
  go_ret
  exact ⟨rfl, hbA⟩
set_option maxRecDepth 100000 in
set_option maxHeartbeats 1000000 in
theorem instr_1 (a b t : Int) (sv : Value) (k n r : Nat) (w : World) (sp : List (Int × Int)) (h : RowV w sv sp) : Calls Tryd.prog 62 #[.agg #[.int .i64 1, .int .i64 a, .int .i64 b, .int .i64 t, sv], .int .i64 (k : Int), .int .i64 (n : Int), .int .i64 (r : Int)] w fun e w' => e = .returned (.int .i64 (if risL sp (-1) = true then 0 else 2)) ∧ Below w.heap.size w w' := by
  have hbA := (Below.refl w.heap.size w).alloc (Nat.le_refl _) (.cells #[.int .i64 1, .int .i64 a, .int .i64 b, .int .i64 t, sv] 66)
  have hxA := heap_alloc_new w (.cells #[.int .i64 1, .int .i64 a, .int .i64 b, .int .i64 t, sv] 66)
  generalize hwA : w.alloc (.cells #[.int .i64 1, .int .i64 a, .int .i64 b, .int .i64 t, sv] 66) = wA at *
  have z0 := (cell_of_row _ _ 0 _ _ _ hxA).trans rfl
  have z1 := (cell_of_row _ _ 1 _ _ _ hxA).trans rfl
  have z2 := (cell_of_row _ _ 2 _ _ _ hxA).trans rfl
  have z3 := (cell_of_row _ _ 3 _ _ _ hxA).trans rfl
  have z4 := (cell_of_row _ _ 4 _ _ _ hxA).trans rfl
  have c1 := rising_any sp sv wA (h.later hbA)
  have c2 := fun W => unless_any (risL sp (-1)) 2 W
  generalize (if risL sp (-1) = true then (0 : Int) else 2) = u at *
  generalize risL sp (-1) = q at *
  clear h
  go_enter Tryd.func62, Tryd.ntmps62
  go_wp2_with fail
  refine c1.mono ?_
  rintro e w1 ⟨rfl, hb1⟩
  have hbw := hbA.trans (hb1.mono hbA.size)
  have c3 := c2 w1
  clear c1 c2 hb1 hbA
  go_wp2_with fail
  refine c3.mono ?_
  rintro e w2 ⟨rfl, rfl⟩
  clear c3
  go_wp2_with fail
  go_ret
  exact ⟨rfl, hbw⟩
set_option maxRecDepth 100000 in
set_option maxHeartbeats 1000000 in
theorem instr_5 (a b t : Int) (sv : Value) (k n r : Nat) (w : World) : Calls Tryd.prog 62 #[.agg #[.int .i64 5, .int .i64 a, .int .i64 b, .int .i64 t, sv], .int .i64 (k : Int), .int .i64 (n : Int), .int .i64 (r : Int)] w fun e w' => e = .returned (.int .i64 (if a ≠ 0 ∧ -1439 ≤ a ∧ a ≤ 1439 then 0 else 3)) ∧ Below w.heap.size w w' := by
  have hbA := (Below.refl w.heap.size w).alloc (Nat.le_refl _) (.cells #[.int .i64 5, .int .i64 a, .int .i64 b, .int .i64 t, sv] 66)
  have hxA := heap_alloc_new w (.cells #[.int .i64 5, .int .i64 a, .int .i64 b, .int .i64 t, sv] 66)
  generalize hwA : w.alloc (.cells #[.int .i64 5, .int .i64 a, .int .i64 b, .int .i64 t, sv] 66) = wA at *
  have z0 := (cell_of_row _ _ 0 _ _ _ hxA).trans rfl
  have z1 := (cell_of_row _ _ 1 _ _ _ hxA).trans rfl
  have z2 := (cell_of_row _ _ 2 _ _ _ hxA).trans rfl
  have z3 := (cell_of_row _ _ 3 _ _ _ hxA).trans rfl
  have z4 := (cell_of_row _ _ 4 _ _ _ hxA).trans rfl
  by_cases ha : a = 0
  · subst ha
    have c2 := unless_any false 3 wA
    rw [if_neg (fun e => e.1 rfl)]
    go_enter Tryd.func62, Tryd.ntmps62
    go_wp2_with fail
    refine c2.mono ?_
    rintro e w2 ⟨rfl, rfl⟩
    clear c2
    go_wp2_with fail
    go_ret
    exact ⟨rfl, hbA⟩
  · have hb0 : (a == 0) = false := beq_eq_false_iff_ne.2 ha
    have c1 := within_any a (-1439) 1439 wA
    have c2 := unless_any (decide (-1439 ≤ a ∧ a ≤ 1439)) 3 wA
    have HE : Hid ((if a ≠ 0 ∧ -1439 ≤ a ∧ a ≤ 1439 then (0 : Int) else 3) = if decide (-1439 ≤ a ∧ a ≤ 1439) = true then 0 else 3) := by
      show _ = _
      by_cases h : -1439 ≤ a ∧ a ≤ 1439
      · rw [if_pos ⟨ha, h⟩, if_pos (decide_eq_true h)]
      · rw [if_neg (fun e => h e.2), if_neg (by simpa using h)]
    rw [HE.out]
    clear HE
    generalize (if decide (-1439 ≤ a ∧ a ≤ 1439) = true then (0 : Int) else 3) = u at *
    generalize decide (-1439 ≤ a ∧ a ≤ 1439) = q at *
    have hbn : (a != 0) = true := by simpa using ha
    go_enter Tryd.func62, Tryd.ntmps62
    go_wp2_with fail
    refine c1.mono ?_
    rintro e w1 ⟨rfl, rfl⟩
    clear c1
    go_wp2_with fail
    refine c2.mono ?_
    rintro e w2 ⟨rfl, rfl⟩
    clear c2
    go_wp2_with fail
    go_ret
    exact ⟨rfl, hbA⟩
set_option maxRecDepth 100000 in
set_option maxHeartbeats 1000000 in
theorem instr_6 (a b t : Int) (sv : Value) (k n r : Nat) (w : World) (hk : k ≤ 2000) : Calls Tryd.prog 62 #[.agg #[.int .i64 6, .int .i64 a, .int .i64 b, .int .i64 t, sv], .int .i64 (k : Int), .int .i64 (n : Int), .int .i64 (r : Int)] w fun e w' => e = .returned (.int .i64 (if (k : Int) + 2 ≤ t ∧ t ≤ n then (if nmD 6 a b = true then 0 else 3) else 8)) ∧ Below w.heap.size w w' := by
  have hbA := (Below.refl w.heap.size w).alloc (Nat.le_refl _) (.cells #[.int .i64 6, .int .i64 a, .int .i64 b, .int .i64 t, sv] 66)
  have hxA := heap_alloc_new w (.cells #[.int .i64 6, .int .i64 a, .int .i64 b, .int .i64 t, sv] 66)
  generalize hwA : w.alloc (.cells #[.int .i64 6, .int .i64 a, .int .i64 b, .int .i64 t, sv] 66) = wA at *
  have z0 := (cell_of_row _ _ 0 _ _ _ hxA).trans rfl
  have z1 := (cell_of_row _ _ 1 _ _ _ hxA).trans rfl
  have z2 := (cell_of_row _ _ 2 _ _ _ hxA).trans rfl
  have z3 := (cell_of_row _ _ 3 _ _ _ hxA).trans rfl
  have z4 := (cell_of_row _ _ 4 _ _ _ hxA).trans rfl
  have hk0 : (0 : Int) ≤ (k : Int) := by omega
  have hk1 : (k : Int) ≤ 2000 := by omega
  have c1 := within_any t ((k : Int) + 2) (n : Int) wA
  have c2 := namesDays_any 6 a b t sv wA
  have c3 := fun W => unless_any (nmD 6 a b) 3 W
  by_cases h : (k : Int) + 2 ≤ t ∧ t ≤ n
  · rw [if_pos h]
    rw [decide_eq_true h] at c1
    generalize (if nmD 6 a b = true then (0 : Int) else 3) = u at *
    generalize nmD 6 a b = q at *
    clear h
    go_enter Tryd.func62, Tryd.ntmps62
    go_wp2_with fail
    refine c1.mono ?_
    rintro e w1 ⟨rfl, rfl⟩
    clear c1
    go_wp2_with (refine wpList_load_row rfl 66 _ rfl _ rfl _ _ _ _ hxA insType rfl (by kernel_rfl) ?_)
    refine c2.mono ?_
    rintro e w1 ⟨rfl, hb1⟩
    have hbw := hbA.trans (hb1.mono hbA.size)
    have c4 := c3 w1
    clear c2 c3 hb1 hbA
    go_wp2_with fail
    refine c4.mono ?_
    rintro e w2 ⟨rfl, rfl⟩
    clear c4
    go_wp2_with fail
    go_ret
    exact ⟨rfl, hbw⟩
  · rw [if_neg h]
    rw [decide_eq_false h] at c1
    clear h c2 c3
    go_enter Tryd.func62, Tryd.ntmps62
    go_wp2_with fail
    refine c1.mono ?_
    rintro e w1 ⟨rfl, rfl⟩
    clear c1
    go_wp2_with fail
    go_ret
    exact ⟨rfl, hbA⟩
set_option maxRecDepth 100000 in
set_option maxHeartbeats 1000000 in
theorem instr_7 (a b t : Int) (sv : Value) (k n r : Nat) (w : World) (hk : k ≤ 2000) : Calls Tryd.prog 62 #[.agg #[.int .i64 7, .int .i64 a, .int .i64 b, .int .i64 t, sv], .int .i64 (k : Int), .int .i64 (n : Int), .int .i64 (r : Int)] w fun e w' => e = .returned (.int .i64 (if (k : Int) + 2 ≤ t ∧ t ≤ n then (if nmD 7 a b = true then 0 else 3) else 8)) ∧ Below w.heap.size w w' := by
  have hbA := (Below.refl w.heap.size w).alloc (Nat.le_refl _) (.cells #[.int .i64 7, .int .i64 a, .int .i64 b, .int .i64 t, sv] 66)
  have hxA := heap_alloc_new w (.cells #[.int .i64 7, .int .i64 a, .int .i64 b, .int .i64 t, sv] 66)
  generalize hwA : w.alloc (.cells #[.int .i64 7, .int .i64 a, .int .i64 b, .int .i64 t, sv] 66) = wA at *
  have z0 := (cell_of_row _ _ 0 _ _ _ hxA).trans rfl
  have z1 := (cell_of_row _ _ 1 _ _ _ hxA).trans rfl
  have z2 := (cell_of_row _ _ 2 _ _ _ hxA).trans rfl
  have z3 := (cell_of_row _ _ 3 _ _ _ hxA).trans rfl
  have z4 := (cell_of_row _ _ 4 _ _ _ hxA).trans rfl
  have hk0 : (0 : Int) ≤ (k : Int) := by omega
  have hk1 : (k : Int) ≤ 2000 := by omega
  have c1 := within_any t ((k : Int) + 2) (n : Int) wA
  have c2 := namesDays_any 7 a b t sv wA
  have c3 := fun W => unless_any (nmD 7 a b) 3 W
  by_cases h : (k : Int) + 2 ≤ t ∧ t ≤ n
  · rw [if_pos h]
    rw [decide_eq_true h] at c1
    generalize (if nmD 7 a b = true then (0 : Int) else 3) = u at *
    generalize nmD 7 a b = q at *
    clear h
    go_enter Tryd.func62, Tryd.ntmps62
    go_wp2_with fail
    refine c1.mono ?_
    rintro e w1 ⟨rfl, rfl⟩
    clear c1
    go_wp2_with (refine wpList_load_row rfl 66 _ rfl _ rfl _ _ _ _ hxA insType rfl (by kernel_rfl) ?_)
    refine c2.mono ?_
    rintro e w1 ⟨rfl, hb1⟩
    have hbw := hbA.trans (hb1.mono hbA.size)
    have c4 := c3 w1
    clear c2 c3 hb1 hbA
    go_wp2_with fail
    refine c4.mono ?_
    rintro e w2 ⟨rfl, rfl⟩
    clear c4
    go_wp2_with fail
    go_ret
    exact ⟨rfl, hbw⟩
  · rw [if_neg h]
    rw [decide_eq_false h] at c1
    clear h c2 c3
    go_enter Tryd.func62, Tryd.ntmps62
    go_wp2_with fail
    refine c1.mono ?_
    rintro e w1 ⟨rfl, rfl⟩
    clear c1
    go_wp2_with fail
    go_ret
    exact ⟨rfl, hbA⟩
set_option maxRecDepth 100000 in
set_option maxHeartbeats 1000000 in
theorem instr_8 (a b t : Int) (sv : Value) (k n r : Nat) (w : World) : Calls Tryd.prog 62 #[.agg #[.int .i64 8, .int .i64 a, .int .i64 b, .int .i64 t, sv], .int .i64 (k : Int), .int .i64 (n : Int), .int .i64 (r : Int)] w fun e w' => e = .returned (.int .i64 (if 0 ≤ a ∧ a < r then 0 else 6)) ∧ Below w.heap.size w w' := by
  have hbA := (Below.refl w.heap.size w).alloc (Nat.le_refl _) (.cells #[.int .i64 8, .int .i64 a, .int .i64 b, .int .i64 t, sv] 66)
  have hxA := heap_alloc_new w (.cells #[.int .i64 8, .int .i64 a, .int .i64 b, .int .i64 t, sv] 66)
  generalize hwA : w.alloc (.cells #[.int .i64 8, .int .i64 a, .int .i64 b, .int .i64 t, sv] 66) = wA at *
  have z0 := (cell_of_row _ _ 0 _ _ _ hxA).trans rfl
  have z1 := (cell_of_row _ _ 1 _ _ _ hxA).trans rfl
  have z2 := (cell_of_row _ _ 2 _ _ _ hxA).trans rfl
  have z3 := (cell_of_row _ _ 3 _ _ _ hxA).trans rfl
  have z4 := (cell_of_row _ _ 4 _ _ _ hxA).trans rfl
  have c1 := isNumber_any a (r : Int) wA
  have c2 := unless_any (decide (0 ≤ a ∧ a < (r : Int))) 6 wA
  have HE : Hid ((if 0 ≤ a ∧ a < (r : Int) then (0 : Int) else 6) = if decide (0 ≤ a ∧ a < (r : Int)) = true then 0 else 6) := by
    show _ = _
    by_cases h : 0 ≤ a ∧ a < (r : Int)
    · rw [if_pos h, if_pos (decide_eq_true h)]
    · rw [if_neg h, if_neg (by simpa using h)]
  rw [HE.out]
  clear HE
  generalize (if decide (0 ≤ a ∧ a < (r : Int)) = true then (0 : Int) else 6) = u at *
  generalize decide (0 ≤ a ∧ a < (r : Int)) = q at *
  go_enter Tryd.func62, Tryd.ntmps62
  go_wp2_with fail
  refine c1.mono ?_
  rintro e w1 ⟨rfl, rfl⟩
  clear c1
  go_wp2_with fail
  refine c2.mono ?_
  rintro e w2 ⟨rfl, rfl⟩
  clear c2
  go_wp2_with fail
  go_ret
  exact ⟨rfl, hbA⟩
set_option maxRecDepth 100000 in
set_option maxHeartbeats 1000000 in
theorem instr_0 (op : Int) (a b t : Int) (sv : Value) (k n r : Nat) (w : World) (h1 : (op == 1) = false) (h2 : (op == 2) = false) (h3 : (op == 3) = false) (h4 : (op == 4) = false) (h5 : (op == 5) = false) (h6 : (op == 6) = false) (h7 : (op == 7) = false) (h8 : (op == 8) = false) : Calls Tryd.prog 62 #[.agg #[.int .i64 op, .int .i64 a, .int .i64 b, .int .i64 t, sv], .int .i64 (k : Int), .int .i64 (n : Int), .int .i64 (r : Int)] w fun e w' => e = .returned (.int .i64 1) ∧ Below w.heap.size w w' := by
  have hbA := (Below.refl w.heap.size w).alloc (Nat.le_refl _) (.cells #[.int .i64 op, .int .i64 a, .int .i64 b, .int .i64 t, sv] 66)
  have hxA := heap_alloc_new w (.cells #[.int .i64 op, .int .i64 a, .int .i64 b, .int .i64 t, sv] 66)
  generalize hwA : w.alloc (.cells #[.int .i64 op, .int .i64 a, .int .i64 b, .int .i64 t, sv] 66) = wA at *
  have z0 := (cell_of_row _ _ 0 _ _ _ hxA).trans rfl
  have z1 := (cell_of_row _ _ 1 _ _ _ hxA).trans rfl
  have z2 := (cell_of_row _ _ 2 _ _ _ hxA).trans rfl
  have z3 := (cell_of_row _ _ 3 _ _ _ hxA).trans rfl
  have z4 := (cell_of_row _ _ 4 _ _ _ hxA).trans rfl
  go_enter Tryd.func62, Tryd.ntmps62
  go_wp2_with fail
  go_ret
  exact ⟨rfl, hbA⟩
theorem instr_any (x : In) (sv : Value) (k n r : Nat) (w : World) (h : RowV w sv x.sp) (hk : k ≤ 2000) : Calls Tryd.prog 62 #[.agg #[.int .i64 x.op, .int .i64 x.a, .int .i64 x.b, .int .i64 x.to, sv], .int .i64 (k : Int), .int .i64 (n : Int), .int .i64 (r : Int)] w fun e w' => e = .returned (.int .i64 (insE x k n r)) ∧ Below w.heap.size w w' := by
  obtain ⟨op, a, b, t, sp⟩ := x
  dsimp only at h ⊢
  unfold insE
  dsimp only
  by_cases h2 : op = 2
  · subst h2; exact instr_2 a b t sv k n r w
  by_cases h3 : op = 3
  · subst h3; exact instr_3 a b t sv k n r w
  by_cases h4 : op = 4
  · subst h4; exact instr_4 a b t sv k n r w
  rw [if_neg (by omega)]
  by_cases h1 : op = 1
  · subst h1; exact instr_1 a b t sv k n r w sp h
  rw [if_neg h1]
  by_cases h5 : op = 5
  · subst h5; exact instr_5 a b t sv k n r w
  rw [if_neg h5]
  by_cases h6 : op = 6
  · subst h6
    have c := instr_6 a b t sv k n r w hk
    have e : nmD 6 a b = decide (1 ≤ a ∧ a ≤ 127) := if_pos rfl
    rw [e] at c
    rw [if_pos rfl]
    simpa only [decide_eq_true_eq] using c
  rw [if_neg h6]
  by_cases h7 : op = 7
  · subst h7
    have c := instr_7 a b t sv k n r w hk
    have e : nmD 7 a b = decide (0 ≤ a ∧ a ≤ b ∧ b < 146097) := if_neg (by decide)
    rw [e] at c
    rw [if_pos rfl]
    simpa only [decide_eq_true_eq] using c
  rw [if_neg h7]
  by_cases h8 : op = 8
  · subst h8; exact instr_8 a b t sv k n r w
  rw [if_neg h8]
  exact instr_0 op a b t sv k n r w (beq_eq_false_iff_ne.2 h1) (beq_eq_false_iff_ne.2 h2) (beq_eq_false_iff_ne.2 h3) (beq_eq_false_iff_ne.2 h4) (beq_eq_false_iff_ne.2 h5) (beq_eq_false_iff_ne.2 h6) (beq_eq_false_iff_ne.2 h7) (beq_eq_false_iff_ne.2 h8)
end Go.Proofs.YtpmobjgnmidolaaDoor

/- Regions that draw their order and yield values that are known beforehand: the frame behind them is written out. It speaks of no program. -/
namespace Go.Proofs.YtpmobjgnmidolaaDoor
open Go Go.RowKit

/-- Values put into slots. -/
def putAll (ds : List (Nat × Value)) (a : Act) : Act := ds.foldl (fun a p => a.put (some p.1) p.2) a
theorem putAll_nil (a : Act) : putAll [] a = a := rfl
theorem putAll_cons (p : Nat × Value) (ds : List (Nat × Value)) (a : Act) : putAll (p :: ds) a = putAll ds (a.put (some p.1) p.2) := rfl
theorem putAll_defers : ∀ (ds : List (Nat × Value)) (a : Act), (putAll ds a).defers = a.defers
  | [], _ => rfl
  | p :: ds, a => (putAll_defers ds (a.put (some p.1) p.2)).trans rfl
theorem putAll_size : ∀ (ds : List (Nat × Value)) (a : Act), (putAll ds a).tmps.size = a.tmps.size
  | [], _ => rfl
  | p :: ds, a => (putAll_size ds (a.put (some p.1) p.2)).trans (by simp [Act.put])
theorem putAll_other : ∀ (ds : List (Nat × Value)) (a : Act) (s : Nat), (∀ p ∈ ds, p.1 ≠ s) → (putAll ds a).tmps.getD s undef = a.tmps.getD s undef
  | [], _, _, _ => rfl
  | p :: ds, a, s, h => by
    rw [putAll_cons, putAll_other ds _ s (fun q hq => h q (List.mem_cons_of_mem _ hq))]
    exact getD_set_other _ _ _ _ (h p List.mem_cons_self)
theorem putAll_same : ∀ (ds : List (Nat × Value)) (a : Act) (j s : Nat) (v : Value), (ds.map (fun p => some p.1)).Nodup → s < a.tmps.size → ds[j]? = some (s, v) → (putAll ds a).tmps.getD s undef = v
  | [], _, _, _, _, _, _, h => by simp at h
  | p :: ds, a, 0, s, v, hn, hs, h => by
    simp at h
    subst h
    rw [putAll_cons, putAll_other ds _ s ?_]
    · exact getD_set_same _ _ _ hs
    · intro q hq e
      rw [List.map_cons, List.nodup_cons] at hn
      exact hn.1 (List.mem_map.2 ⟨q, hq, by rw [e]⟩)
  | p :: ds, a, j + 1, s, v, hn, hs, h => by
    rw [putAll_cons]
    rw [List.map_cons, List.nodup_cons] at hn
    exact putAll_same ds _ j s v hn.2 (by simpa [Act.put] using hs) (by simpa using h)
theorem act_is {A a0 : Act} (ds : List (Nat × Value)) (hd : A.defers = a0.defers) (hs : A.tmps.size = a0.tmps.size) (hn : (ds.map (fun p => some p.1)).Nodup)
    (hk : ∀ s, (∀ p ∈ ds, p.1 ≠ s) → A.tmps.getD s undef = a0.tmps.getD s undef) (hh : ∀ (j s : Nat) (v : Value), ds[j]? = some (s, v) → A.tmps.getD s undef = v) : A = putAll ds a0 := by
  have e1 := putAll_defers ds a0
  have e2 := putAll_size ds a0
  have e3 : ∀ s, s < a0.tmps.size → A.tmps.getD s undef = (putAll ds a0).tmps.getD s undef := by
    intro s hs'
    by_cases h : ∃ p ∈ ds, p.1 = s
    · obtain ⟨p, hp, rfl⟩ := h
      obtain ⟨j, hj⟩ := List.getElem?_of_mem hp
      rw [hh j _ _ hj, putAll_same ds a0 j _ _ hn hs' hj]
    · have h' : ∀ p ∈ ds, p.1 ≠ s := fun p hp e => h ⟨p, hp, e⟩
      rw [hk s h', putAll_other ds a0 s h']
  generalize putAll ds a0 = F at *
  obtain ⟨t, d⟩ := A
  obtain ⟨t', d'⟩ := F
  dsimp only at *
  have : t = t' := by
    apply Array.ext
    · omega
    · intro i h1 h2
      have := e3 i (by omega)
      simpa [Array.getD, h1, h2] using this
  rw [this, hd, e1]

section
variable {P : Program} {ops : Array Oper} {Q : Exit → Act → World → Prop} {id : Nat} {a0 : Act} {w : World}

/-- What an operation of the region comes to, in whatever world behind the first. -/
def StepV (P : Program) (ops : Array Oper) (Q : Exit → Act → World → Prop) (ds : List (Nat × Value)) (a0 : Act) (w : World) : Prop :=
  ∀ (i s : Nat) (v : Value) (o : Oper) (L : Nat → Bool) (A : Act) (W : World), ops[i]? = some o → ds[i]? = some (s, v) → (∀ e ∈ o.after, Region.binds .any e = true → L e.on = true) → Below w.heap.size w W →
    (∀ s, notDst ops s = true → A.tmps.getD s undef = a0.tmps.getD s undef) → (∀ (j s : Nat) (u : Value), ds[j]? = some (s, u) → L j = true → A.tmps.getD s undef = u) → wpOp P ops Q i (fun a' W' => a' = A.put (some s) v ∧ Below W.heap.size W W') A W

theorem dst_at {k : Nat} {ds : List (Nat × Value)} (hds : (ops.toList.take k).map (fun o => o.dst) = ds.map (fun p => some p.1)) {i s : Nat} {v : Value} {o : Oper} (ho : ops[i]? = some o) (h : ds[i]? = some (s, v)) : o.dst = some s := by
  have h1 : (ds.map (fun p => some p.1))[i]? = some (some s) := by rw [List.getElem?_map, h]; rfl
  rw [← hds, List.getElem?_map] at h1
  have h2 : (ops.toList.take k)[i]? = some o ∨ (ops.toList.take k)[i]? = none := by
    rw [List.getElem?_take]
    split
    · left; simpa using ho
    · right; rfl
  rcases h2 with h2 | h2
  · rw [h2] at h1; simpa using h1
  · rw [h2] at h1; simp at h1
theorem at_dst {k : Nat} {ds : List (Nat × Value)} (hds : (ops.toList.take k).map (fun o => o.dst) = ds.map (fun p => some p.1)) {i : Nat} {o : Oper} (hi : i < k) (ho : ops[i]? = some o) : ∃ s v, ds[i]? = some (s, v) := by
  have h1 : (ops.toList.take k)[i]? = some o := by rw [List.getElem?_take, if_pos hi]; simpa using ho
  have h2 : ((ops.toList.take k).map (fun o => o.dst))[i]? = some o.dst := by rw [List.getElem?_map, h1]; rfl
  rw [hds, List.getElem?_map] at h2
  cases h3 : ds[i]? with
  | none => rw [h3] at h2; simp at h2
  | some p => exact ⟨p.1, p.2, rfl⟩

theorem wp_region_vals (hm : P.follows .mixedOrders = true) (hback : backB ops = true) (hdst : dstB ops = true) (hin : inB ops a0.tmps.size = true) (ds : List (Nat × Value))
    (hds : (ops.toList.take ops.size).map (fun o => o.dst) = ds.map (fun p => some p.1)) (hnd : decide (((ops.toList.take ops.size).map (fun o => o.dst)).Nodup) = true)
    (hstep : StepV P ops Q ds a0 w) (hend : ∀ W, Below w.heap.size w W → Q .normal (putAll ds a0) W) : (Code.region id ops true).wp P Q a0 w := by
  have hnd' : (ds.map (fun p => some p.1)).Nodup := by rw [← hds]; exact of_decide_eq_true hnd
  refine wp_region_flow hm hback hdst hin (fun _ _ W => Below w.heap.size w W) (fun j x _ => ∀ s v, ds[j]? = some (s, v) → x = v) ?_ ?_ ?_
  · intro L _
    exact (Below.refl _ _).drew
  · intro i o L A W ho hLi hdep hJ hdef hkept hhas
    have hi : i < ops.size := (Array.getElem?_eq_some_iff.1 ho).1
    obtain ⟨s, v, hv⟩ := at_dst hds hi ho
    have hd := dst_at hds ho hv
    refine wpOp_mono ?_ (hstep i s v o L A W ho hv hdep hJ (fun s' h => hkept s' fun j p hp _ => nd h j p hp) (fun j s' u hj hL => ?_))
    · rintro a' W' ⟨rfl, hb⟩
      exact ⟨v, by rw [hd], fun _ s' v' h => by rw [hv] at h; cases h; rfl, fun _ _ _ h => h, hJ.trans (hb.mono hJ.size)⟩
    · have hj' : j < ds.length := (List.getElem?_eq_some_iff.1 hj).1
      have hl : ds.length = ops.size := by have := congrArg List.length hds; simpa using this.symm
      obtain ⟨p, hp⟩ : ∃ p, ops[j]? = some p := ⟨ops[j]'(by omega), Array.getElem?_eq_getElem _⟩
      exact hhas j p hp hL s' (dst_at hds hp hj) s' u hj
  · intro L A W hL hJ hdef hsize hkept hhas
    have : A = putAll ds a0 := act_is ds hdef hsize hnd' (fun s h => hkept s fun j p hp e => ?_) (fun j s v hj => ?_)
    · rw [this]; exact hend W hJ
    · have hi : j < ops.size := (Array.getElem?_eq_some_iff.1 hp).1
      obtain ⟨s', v, hv⟩ := at_dst hds hi hp
      have := (dst_at hds hp hv).symm.trans e
      cases this
      exact h _ (List.mem_of_getElem? hv) rfl
    · have hj' : j < ds.length := (List.getElem?_eq_some_iff.1 hj).1
      have hl : ds.length = ops.size := by have := congrArg List.length hds; simpa using this.symm
      obtain ⟨p, hp⟩ : ∃ p, ops[j]? = some p := ⟨ops[j]'(by omega), Array.getElem?_eq_getElem _⟩
      exact hhas j p hp s (dst_at hds hp hj) s v hj

/-- Each operation but the last is waited for by a later one. -/
def useB (ops : Array Oper) : Bool := (List.range (ops.size - 1)).all fun i => (List.range ops.size).any fun j => decide (i < j) && match ops[j]? with | none => false | some o => o.after.any fun e => Region.binds .any e && decide (e.on = i)
theorem use_all (hu : useB ops = true) {n : Nat} (hn : ops.size = n + 1) {L : Nat → Bool} (hc : ∀ (j : Nat) (p : Oper), ops[j]? = some p → L j = true → ∀ e ∈ p.after, Region.binds .any e = true → L e.on = true) (hL : L n = true) : ∀ k i, n - i ≤ k → i ≤ n → L i = true
  | 0, i, hk, hi => by rw [show i = n by omega]; exact hL
  | k + 1, i, hk, hi => by
    by_cases e : i = n
    · rw [e]; exact hL
    have h1 := List.all_eq_true.1 hu i (by simp; omega)
    obtain ⟨j, hj, h2⟩ := List.any_eq_true.1 h1
    simp at hj
    simp only [Bool.and_eq_true, decide_eq_true_eq] at h2
    obtain ⟨hij, h3⟩ := h2
    cases ho : ops[j]? with
    | none => rw [ho] at h3; cases h3
    | some o =>
      rw [ho] at h3
      obtain ⟨e', he, h4⟩ := Array.any_eq_true'.1 h3
      simp only [Bool.and_eq_true, decide_eq_true_eq] at h4
      have := hc j o ho (use_all hu hn hc hL k j (by omega) (by omega)) e' he h4.1
      rw [h4.2] at this
      exact this

theorem wp_region_last (hm : P.follows .mixedOrders = true) (hback : backB ops = true) (hdst : dstB ops = true) (hin : inB ops a0.tmps.size = true) (n : Nat) (hn : ops.size = n + 1) (huse : useB ops = true) (ds : List (Nat × Value))
    (hds : (ops.toList.take n).map (fun o => o.dst) = ds.map (fun p => some p.1)) (hnd : decide (((ops.toList.take n).map (fun o => o.dst)).Nodup) = true)
    (hstep : StepV P ops Q ds a0 w) (hlast : ∀ (o : Oper) (W : World), ops[n]? = some o → Below w.heap.size w W → wpOp P ops Q n (fun a' W' => (∃ v, a' = (putAll ds a0).put o.dst v) ∧ Q .normal a' W') (putAll ds a0) W) : (Code.region id ops true).wp P Q a0 w := by
  have hnd' : (ds.map (fun p => some p.1)).Nodup := by rw [← hds]; exact of_decide_eq_true hnd
  have hl : ds.length = n := by
    have h := congrArg List.length hds
    simp only [List.length_map, List.length_take, Array.length_toList] at h
    omega
  refine wp_region_flow hm hback hdst hin (fun L A W => (∀ (j : Nat) (p : Oper), ops[j]? = some p → L j = true → ∀ e ∈ p.after, Region.binds .any e = true → L e.on = true) ∧ (L n = false → Below w.heap.size w W ∧ A.tmps.size = a0.tmps.size) ∧ (L n = true → Q .normal A W)) (fun j x _ => ∀ s v, ds[j]? = some (s, v) → x = v) ?_ ?_ ?_
  · intro L h
    refine ⟨fun j p hp hj => ?_, fun _ => ⟨(Below.refl _ _).drew, rfl⟩, fun h' => ?_⟩
    · have := h j (Array.getElem?_eq_some_iff.1 hp).1
      rw [this] at hj; cases hj
    · rw [h n (by omega)] at h'; cases h'
  · intro i o L A W ho hLi hdep hJ hdef hkept hhas
    obtain ⟨hc, hbel, hdone⟩ := hJ
    have hi : i < ops.size := (Array.getElem?_eq_some_iff.1 ho).1
    have hLn : L n = false := by
      cases h : L n with
      | false => rfl
      | true =>
        have := use_all huse hn hc h n i (by omega) (by omega)
        rw [this] at hLi; cases hLi
    obtain ⟨hbw, hsz⟩ := hbel hLn
    have hc' : ∀ (j : Nat) (p : Oper), ops[j]? = some p → (decide (i = j) || L j) = true → ∀ e ∈ p.after, Region.binds .any e = true → (decide (i = e.on) || L e.on) = true := by
      intro j p hp hj e he hb
      by_cases hij : i = j
      · subst hij
        rw [ho] at hp
        cases hp
        rw [hdep e he hb]; simp
      · rw [hc j p hp (by simpa [hij] using hj) e he hb]; simp
    have hread : ∀ (j s : Nat) (u : Value), ds[j]? = some (s, u) → L j = true → A.tmps.getD s undef = u := fun j s' u hj hL => by
      have hj' : j < ds.length := (List.getElem?_eq_some_iff.1 hj).1
      obtain ⟨p, hp⟩ : ∃ p, ops[j]? = some p := ⟨ops[j]'(by omega), Array.getElem?_eq_getElem _⟩
      exact hhas j p hp hL s' (dst_at hds hp hj) s' u hj
    by_cases hin' : i = n
    · subst hin'
      have hall : ∀ j, j < i → L j = true := fun j hj => by
        have := use_all huse hn hc' (L := fun k => decide (i = k) || L k) (by simp) i j (by omega) (by omega)
        simpa [show i ≠ j by omega] using this
      have e : A = putAll ds a0 := by
        refine act_is ds hdef hsz hnd' (fun s h => hkept s fun j p hp hj e => ?_) (fun j s v hj => ?_)
        · have hjn : j < i := by
            have h1 := (Array.getElem?_eq_some_iff.1 hp).1
            have h2 : j ≠ i := fun e' => by rw [e', hLn] at hj; cases hj
            omega
          obtain ⟨s', v, hv⟩ := at_dst hds hjn hp
          have := (dst_at hds hp hv).symm.trans e
          cases this
          exact h _ (List.mem_of_getElem? hv) rfl
        · exact hread j s v hj (hall j (by have := (List.getElem?_eq_some_iff.1 hj).1; omega))
      rw [e]
      refine wpOp_mono ?_ (hlast o W ho hbw)
      rintro a' W' ⟨⟨v, hv⟩, hq⟩
      refine ⟨v, hv, fun _ s' v' h => ?_, fun _ _ _ h => h, hc', fun h => by simp at h, fun _ => hq⟩
      have := (List.getElem?_eq_some_iff.1 h).1
      omega
    · obtain ⟨s, v, hv⟩ := at_dst hds (show i < n by omega) ho
      have hd := dst_at hds ho hv
      refine wpOp_mono ?_ (hstep i s v o L A W ho hv hdep hbw (fun s' h => hkept s' fun j p hp _ => nd h j p hp) hread)
      rintro a' W' ⟨rfl, hb⟩
      refine ⟨v, by rw [hd], fun _ s' v' h => by rw [hv] at h; cases h; rfl, fun _ _ _ h => h, hc', fun _ => ⟨hbw.trans (hb.mono hbw.size), by simpa [Act.put] using hsz⟩, fun h => ?_⟩
      simp [hin', hLn] at h
  · intro L A W hL hJ hdef hsize hkept hhas
    exact hJ.2.2 (hL n (by omega))
end
end Go.Proofs.YtpmobjgnmidolaaDoor
