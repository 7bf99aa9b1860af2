/- What is wrong with an instruction. Written by genvmb.py. -/
import Derived.Test.YtclkmldegjdohaaUb02
import Derived.WalkKit
import Derived.Deep.Quiet
import Derived.RegionTactic
import Derived.Below
namespace Go.Proofs.Ytclkmldegjdohaa
open Go.RowKit Msk Vx

theorem insType : Try.prog.underlying 65 = some (.struct (Try.prog.fieldsOf 65)) := by kernel_rfl
/-- Are a guard's numbers days? -/
def nmD (op a b : Int) : Bool := if op = 6 then decide (1 ≤ a ∧ a ≤ 127) else decide (0 ≤ a ∧ a ≤ b ∧ b < 146097)
set_option maxRecDepth 100000 in
set_option maxHeartbeats 1000000 in
theorem namesDays_any (op a b t : Int) (sv : Value) (w : World) : Calls Try.prog 72 #[.agg #[.int .i64 op, .int .i64 a, .int .i64 b, .int .i64 t, sv]] w fun r w' => r = .returned (.bool (nmD op a b)) ∧ Below w.heap.size w w' := by
  have hbA := (Below.refl w.heap.size w).alloc (Nat.le_refl _) (.cells #[.int .i64 op, .int .i64 a, .int .i64 b, .int .i64 t, sv] 65)
  have hxA := heap_alloc_new w (.cells #[.int .i64 op, .int .i64 a, .int .i64 b, .int .i64 t, sv] 65)
  generalize hwA : w.alloc (.cells #[.int .i64 op, .int .i64 a, .int .i64 b, .int .i64 t, sv] 65) = wA at *
  have z0 := (cell_of_row _ _ 0 _ _ _ hxA).trans rfl
  have z1 := (cell_of_row _ _ 1 _ _ _ hxA).trans rfl
  have z2 := (cell_of_row _ _ 2 _ _ _ hxA).trans rfl
  have z3 := (cell_of_row _ _ 3 _ _ _ hxA).trans rfl
  have z4 := (cell_of_row _ _ 4 _ _ _ hxA).trans rfl
  by_cases h6 : op = 6
  · have e : nmD op a b = decide (1 ≤ a ∧ a ≤ 127) := if_pos h6
    rw [e]
    subst h6
    have c1 := within_any a 1 127 wA
    generalize decide (1 ≤ a ∧ a ≤ 127) = q at *
    go_enter Try.func72, Try.ntmps72
    go_wp2_with fail
    refine c1.mono ?_
    rintro r w' ⟨rfl, rfl⟩
    clear c1
    go_wp2_with fail
    go_ret
    exact ⟨rfl, hbA⟩
  · have e : nmD op a b = decide (0 ≤ a ∧ a ≤ b ∧ b < 146097) := if_neg h6
    have h6' : (op == 6) = false := beq_eq_false_iff_ne.2 h6
    rw [e]
    by_cases h1 : 0 ≤ a
    · by_cases h2 : a ≤ b
      · by_cases h3 : b < 146097
        · rw [decide_eq_true (⟨h1, h2, h3⟩ : 0 ≤ a ∧ a ≤ b ∧ b < 146097)]
          go_enter Try.func72, Try.ntmps72
          go_wp2_with fail
          go_ret
          exact ⟨rfl, hbA⟩
        · rw [decide_eq_false (fun e : 0 ≤ a ∧ a ≤ b ∧ b < 146097 => h3 e.2.2)]
          go_enter Try.func72, Try.ntmps72
          go_wp2_with fail
          go_ret
          exact ⟨rfl, hbA⟩
      · rw [decide_eq_false (fun e : 0 ≤ a ∧ a ≤ b ∧ b < 146097 => h2 e.2.1)]
        go_enter Try.func72, Try.ntmps72
        go_wp2_with fail
        go_ret
        exact ⟨rfl, hbA⟩
    · rw [decide_eq_false (fun e : 0 ≤ a ∧ a ≤ b ∧ b < 146097 => h1 e.1)]
      go_enter Try.func72, Try.ntmps72
      go_wp2_with fail
      go_ret
      exact ⟨rfl, hbA⟩
set_option maxRecDepth 100000 in
set_option maxHeartbeats 1000000 in
theorem instr_2 (a b t : Int) (sv : Value) (k n r : Nat) (w : World) : Calls Try.prog 57 #[.agg #[.int .i64 2, .int .i64 a, .int .i64 b, .int .i64 t, sv], .int .i64 (k : Int), .int .i64 (n : Int), .int .i64 (r : Int)] w fun e w' => e = .returned (.int .i64 0) ∧ Below w.heap.size w w' := by
  have hbA := (Below.refl w.heap.size w).alloc (Nat.le_refl _) (.cells #[.int .i64 2, .int .i64 a, .int .i64 b, .int .i64 t, sv] 65)
  have hxA := heap_alloc_new w (.cells #[.int .i64 2, .int .i64 a, .int .i64 b, .int .i64 t, sv] 65)
  generalize hwA : w.alloc (.cells #[.int .i64 2, .int .i64 a, .int .i64 b, .int .i64 t, sv] 65) = wA at *
  have z0 := (cell_of_row _ _ 0 _ _ _ hxA).trans rfl
  have z1 := (cell_of_row _ _ 1 _ _ _ hxA).trans rfl
  have z2 := (cell_of_row _ _ 2 _ _ _ hxA).trans rfl
  have z3 := (cell_of_row _ _ 3 _ _ _ hxA).trans rfl
  have z4 := (cell_of_row _ _ 4 _ _ _ hxA).trans rfl
  go_enter Try.func57, Try.ntmps57
  go_wp2_with fail
  go_ret
  exact ⟨rfl, hbA⟩
set_option maxRecDepth 100000 in
set_option maxHeartbeats 1000000 in
theorem instr_3 (a b t : Int) (sv : Value) (k n r : Nat) (w : World) : Calls Try.prog 57 #[.agg #[.int .i64 3, .int .i64 a, .int .i64 b, .int .i64 t, sv], .int .i64 (k : Int), .int .i64 (n : Int), .int .i64 (r : Int)] w fun e w' => e = .returned (.int .i64 0) ∧ Below w.heap.size w w' := by
  have hbA := (Below.refl w.heap.size w).alloc (Nat.le_refl _) (.cells #[.int .i64 3, .int .i64 a, .int .i64 b, .int .i64 t, sv] 65)
  have hxA := heap_alloc_new w (.cells #[.int .i64 3, .int .i64 a, .int .i64 b, .int .i64 t, sv] 65)
  generalize hwA : w.alloc (.cells #[.int .i64 3, .int .i64 a, .int .i64 b, .int .i64 t, sv] 65) = wA at *
  have z0 := (cell_of_row _ _ 0 _ _ _ hxA).trans rfl
  have z1 := (cell_of_row _ _ 1 _ _ _ hxA).trans rfl
  have z2 := (cell_of_row _ _ 2 _ _ _ hxA).trans rfl
  have z3 := (cell_of_row _ _ 3 _ _ _ hxA).trans rfl
  have z4 := (cell_of_row _ _ 4 _ _ _ hxA).trans rfl
  go_enter Try.func57, Try.ntmps57
  go_wp2_with fail
  go_ret
  exact ⟨rfl, hbA⟩
set_option maxRecDepth 100000 in
set_option maxHeartbeats 1000000 in
theorem instr_4 (a b t : Int) (sv : Value) (k n r : Nat) (w : World) : Calls Try.prog 57 #[.agg #[.int .i64 4, .int .i64 a, .int .i64 b, .int .i64 t, sv], .int .i64 (k : Int), .int .i64 (n : Int), .int .i64 (r : Int)] w fun e w' => e = .returned (.int .i64 0) ∧ Below w.heap.size w w' := by
  have hbA := (Below.refl w.heap.size w).alloc (Nat.le_refl _) (.cells #[.int .i64 4, .int .i64 a, .int .i64 b, .int .i64 t, sv] 65)
  have hxA := heap_alloc_new w (.cells #[.int .i64 4, .int .i64 a, .int .i64 b, .int .i64 t, sv] 65)
  generalize hwA : w.alloc (.cells #[.int .i64 4, .int .i64 a, .int .i64 b, .int .i64 t, sv] 65) = wA at *
  have z0 := (cell_of_row _ _ 0 _ _ _ hxA).trans rfl
  have z1 := (cell_of_row _ _ 1 _ _ _ hxA).trans rfl
  have z2 := (cell_of_row _ _ 2 _ _ _ hxA).trans rfl
  have z3 := (cell_of_row _ _ 3 _ _ _ hxA).trans rfl
  have z4 := (cell_of_row _ _ 4 _ _ _ hxA).trans rfl
  go_enter Try.func57, Try.ntmps57
  go_wp2_with fail
  go_ret
  exact ⟨rfl, hbA⟩
set_option maxRecDepth 100000 in
set_option maxHeartbeats 1000000 in
theorem instr_1 (a b t : Int) (sv : Value) (k n r : Nat) (w : World) (sp : List (Int × Int)) (h : RowV w sv sp) : Calls Try.prog 57 #[.agg #[.int .i64 1, .int .i64 a, .int .i64 b, .int .i64 t, sv], .int .i64 (k : Int), .int .i64 (n : Int), .int .i64 (r : Int)] w fun e w' => e = .returned (.int .i64 (if risL sp (-1) = true then 0 else 2)) ∧ Below w.heap.size w w' := by
  have hbA := (Below.refl w.heap.size w).alloc (Nat.le_refl _) (.cells #[.int .i64 1, .int .i64 a, .int .i64 b, .int .i64 t, sv] 65)
  have hxA := heap_alloc_new w (.cells #[.int .i64 1, .int .i64 a, .int .i64 b, .int .i64 t, sv] 65)
  generalize hwA : w.alloc (.cells #[.int .i64 1, .int .i64 a, .int .i64 b, .int .i64 t, sv] 65) = wA at *
  have z0 := (cell_of_row _ _ 0 _ _ _ hxA).trans rfl
  have z1 := (cell_of_row _ _ 1 _ _ _ hxA).trans rfl
  have z2 := (cell_of_row _ _ 2 _ _ _ hxA).trans rfl
  have z3 := (cell_of_row _ _ 3 _ _ _ hxA).trans rfl
  have z4 := (cell_of_row _ _ 4 _ _ _ hxA).trans rfl
  have c1 := rising_any sp sv wA (h.later hbA)
  have c2 := fun W => unless_any (risL sp (-1)) 2 W
  generalize (if risL sp (-1) = true then (0 : Int) else 2) = u at *
  generalize risL sp (-1) = q at *
  clear h
  go_enter Try.func57, Try.ntmps57
  go_wp2_with fail
  refine c1.mono ?_
  rintro e w1 ⟨rfl, hb1⟩
  have hbw := hbA.trans (hb1.mono hbA.size)
  have c3 := c2 w1
  clear c1 c2 hb1 hbA
  go_wp2_with fail
  refine c3.mono ?_
  rintro e w2 ⟨rfl, rfl⟩
  clear c3
  go_wp2_with fail
  go_ret
  exact ⟨rfl, hbw⟩
set_option maxRecDepth 100000 in
set_option maxHeartbeats 1000000 in
theorem instr_5 (a b t : Int) (sv : Value) (k n r : Nat) (w : World) : Calls Try.prog 57 #[.agg #[.int .i64 5, .int .i64 a, .int .i64 b, .int .i64 t, sv], .int .i64 (k : Int), .int .i64 (n : Int), .int .i64 (r : Int)] w fun e w' => e = .returned (.int .i64 (if a ≠ 0 ∧ -1439 ≤ a ∧ a ≤ 1439 then 0 else 3)) ∧ Below w.heap.size w w' := by
  have hbA := (Below.refl w.heap.size w).alloc (Nat.le_refl _) (.cells #[.int .i64 5, .int .i64 a, .int .i64 b, .int .i64 t, sv] 65)
  have hxA := heap_alloc_new w (.cells #[.int .i64 5, .int .i64 a, .int .i64 b, .int .i64 t, sv] 65)
  generalize hwA : w.alloc (.cells #[.int .i64 5, .int .i64 a, .int .i64 b, .int .i64 t, sv] 65) = wA at *
  have z0 := (cell_of_row _ _ 0 _ _ _ hxA).trans rfl
  have z1 := (cell_of_row _ _ 1 _ _ _ hxA).trans rfl
  have z2 := (cell_of_row _ _ 2 _ _ _ hxA).trans rfl
  have z3 := (cell_of_row _ _ 3 _ _ _ hxA).trans rfl
  have z4 := (cell_of_row _ _ 4 _ _ _ hxA).trans rfl
  by_cases ha : a = 0
  · subst ha
    have c2 := unless_any false 3 wA
    rw [if_neg (fun e => e.1 rfl)]
    go_enter Try.func57, Try.ntmps57
    go_wp2_with fail
    refine c2.mono ?_
    rintro e w2 ⟨rfl, rfl⟩
    clear c2
    go_wp2_with fail
    go_ret
    exact ⟨rfl, hbA⟩
  · have hb0 : (a == 0) = false := beq_eq_false_iff_ne.2 ha
    have c1 := within_any a (-1439) 1439 wA
    have c2 := unless_any (decide (-1439 ≤ a ∧ a ≤ 1439)) 3 wA
    have HE : Hid ((if a ≠ 0 ∧ -1439 ≤ a ∧ a ≤ 1439 then (0 : Int) else 3) = if decide (-1439 ≤ a ∧ a ≤ 1439) = true then 0 else 3) := by
      show _ = _
      by_cases h : -1439 ≤ a ∧ a ≤ 1439
      · rw [if_pos ⟨ha, h⟩, if_pos (decide_eq_true h)]
      · rw [if_neg (fun e => h e.2), if_neg (by simpa using h)]
    rw [HE.out]
    clear HE
    generalize (if decide (-1439 ≤ a ∧ a ≤ 1439) = true then (0 : Int) else 3) = u at *
    generalize decide (-1439 ≤ a ∧ a ≤ 1439) = q at *
    have hbn : (a != 0) = true := by simpa using ha
    go_enter Try.func57, Try.ntmps57
    go_wp2_with fail
    refine c1.mono ?_
    rintro e w1 ⟨rfl, rfl⟩
    clear c1
    go_wp2_with fail
    refine c2.mono ?_
    rintro e w2 ⟨rfl, rfl⟩
    clear c2
    go_wp2_with fail
    go_ret
    exact ⟨rfl, hbA⟩
set_option maxRecDepth 100000 in
set_option maxHeartbeats 1000000 in
theorem instr_6 (a b t : Int) (sv : Value) (k n r : Nat) (w : World) (hk : k ≤ 2000) : Calls Try.prog 57 #[.agg #[.int .i64 6, .int .i64 a, .int .i64 b, .int .i64 t, sv], .int .i64 (k : Int), .int .i64 (n : Int), .int .i64 (r : Int)] w fun e w' => e = .returned (.int .i64 (if (k : Int) + 2 ≤ t ∧ t ≤ n then (if nmD 6 a b = true then 0 else 3) else 8)) ∧ Below w.heap.size w w' := by
  have hbA := (Below.refl w.heap.size w).alloc (Nat.le_refl _) (.cells #[.int .i64 6, .int .i64 a, .int .i64 b, .int .i64 t, sv] 65)
  have hxA := heap_alloc_new w (.cells #[.int .i64 6, .int .i64 a, .int .i64 b, .int .i64 t, sv] 65)
  generalize hwA : w.alloc (.cells #[.int .i64 6, .int .i64 a, .int .i64 b, .int .i64 t, sv] 65) = wA at *
  have z0 := (cell_of_row _ _ 0 _ _ _ hxA).trans rfl
  have z1 := (cell_of_row _ _ 1 _ _ _ hxA).trans rfl
  have z2 := (cell_of_row _ _ 2 _ _ _ hxA).trans rfl
  have z3 := (cell_of_row _ _ 3 _ _ _ hxA).trans rfl
  have z4 := (cell_of_row _ _ 4 _ _ _ hxA).trans rfl
  have hk0 : (0 : Int) ≤ (k : Int) := by omega
  have hk1 : (k : Int) ≤ 2000 := by omega
  have c1 := within_any t ((k : Int) + 2) (n : Int) wA
  have c2 := namesDays_any 6 a b t sv wA
  have c3 := fun W => unless_any (nmD 6 a b) 3 W
  by_cases h : (k : Int) + 2 ≤ t ∧ t ≤ n
  · rw [if_pos h]
    rw [decide_eq_true h] at c1
    generalize (if nmD 6 a b = true then (0 : Int) else 3) = u at *
    generalize nmD 6 a b = q at *
    clear h
    go_enter Try.func57, Try.ntmps57
    go_wp2_with fail
    refine c1.mono ?_
    rintro e w1 ⟨rfl, rfl⟩
    clear c1
    go_wp2_with (refine wpList_load_row rfl 65 _ rfl _ rfl _ _ _ _ hxA insType rfl (by kernel_rfl) ?_)
    refine c2.mono ?_
    rintro e w1 ⟨rfl, hb1⟩
    have hbw := hbA.trans (hb1.mono hbA.size)
    have c4 := c3 w1
    clear c2 c3 hb1 hbA
    go_wp2_with fail
    refine c4.mono ?_
    rintro e w2 ⟨rfl, rfl⟩
    clear c4
    go_wp2_with fail
    go_ret
    exact ⟨rfl, hbw⟩
  · rw [if_neg h]
    rw [decide_eq_false h] at c1
    clear h c2 c3
    go_enter Try.func57, Try.ntmps57
    go_wp2_with fail
    refine c1.mono ?_
    rintro e w1 ⟨rfl, rfl⟩
    clear c1
    go_wp2_with fail
    go_ret
    exact ⟨rfl, hbA⟩
set_option maxRecDepth 100000 in
set_option maxHeartbeats 1000000 in
theorem instr_7 (a b t : Int) (sv : Value) (k n r : Nat) (w : World) (hk : k ≤ 2000) : Calls Try.prog 57 #[.agg #[.int .i64 7, .int .i64 a, .int .i64 b, .int .i64 t, sv], .int .i64 (k : Int), .int .i64 (n : Int), .int .i64 (r : Int)] w fun e w' => e = .returned (.int .i64 (if (k : Int) + 2 ≤ t ∧ t ≤ n then (if nmD 7 a b = true then 0 else 3) else 8)) ∧ Below w.heap.size w w' := by
  have hbA := (Below.refl w.heap.size w).alloc (Nat.le_refl _) (.cells #[.int .i64 7, .int .i64 a, .int .i64 b, .int .i64 t, sv] 65)
  have hxA := heap_alloc_new w (.cells #[.int .i64 7, .int .i64 a, .int .i64 b, .int .i64 t, sv] 65)
  generalize hwA : w.alloc (.cells #[.int .i64 7, .int .i64 a, .int .i64 b, .int .i64 t, sv] 65) = wA at *
  have z0 := (cell_of_row _ _ 0 _ _ _ hxA).trans rfl
  have z1 := (cell_of_row _ _ 1 _ _ _ hxA).trans rfl
  have z2 := (cell_of_row _ _ 2 _ _ _ hxA).trans rfl
  have z3 := (cell_of_row _ _ 3 _ _ _ hxA).trans rfl
  have z4 := (cell_of_row _ _ 4 _ _ _ hxA).trans rfl
  have hk0 : (0 : Int) ≤ (k : Int) := by omega
  have hk1 : (k : Int) ≤ 2000 := by omega
  have c1 := within_any t ((k : Int) + 2) (n : Int) wA
  have c2 := namesDays_any 7 a b t sv wA
  have c3 := fun W => unless_any (nmD 7 a b) 3 W
  by_cases h : (k : Int) + 2 ≤ t ∧ t ≤ n
  · rw [if_pos h]
    rw [decide_eq_true h] at c1
    generalize (if nmD 7 a b = true then (0 : Int) else 3) = u at *
    generalize nmD 7 a b = q at *
    clear h
    go_enter Try.func57, Try.ntmps57
    go_wp2_with fail
    refine c1.mono ?_
    rintro e w1 ⟨rfl, rfl⟩
    clear c1
    go_wp2_with (refine wpList_load_row rfl 65 _ rfl _ rfl _ _ _ _ hxA insType rfl (by kernel_rfl) ?_)
    refine c2.mono ?_
    rintro e w1 ⟨rfl, hb1⟩
    have hbw := hbA.trans (hb1.mono hbA.size)
    have c4 := c3 w1
    clear c2 c3 hb1 hbA
    go_wp2_with fail
    refine c4.mono ?_
    rintro e w2 ⟨rfl, rfl⟩
    clear c4
    go_wp2_with fail
    go_ret
    exact ⟨rfl, hbw⟩
  · rw [if_neg h]
    rw [decide_eq_false h] at c1
    clear h c2 c3
    go_enter Try.func57, Try.ntmps57
    go_wp2_with fail
    refine c1.mono ?_
    rintro e w1 ⟨rfl, rfl⟩
    clear c1
    go_wp2_with fail
    go_ret
    exact ⟨rfl, hbA⟩
set_option maxRecDepth 100000 in
set_option maxHeartbeats 1000000 in
theorem instr_8 (a b t : Int) (sv : Value) (k n r : Nat) (w : World) : Calls Try.prog 57 #[.agg #[.int .i64 8, .int .i64 a, .int .i64 b, .int .i64 t, sv], .int .i64 (k : Int), .int .i64 (n : Int), .int .i64 (r : Int)] w fun e w' => e = .returned (.int .i64 (if 0 ≤ a ∧ a < r then 0 else 6)) ∧ Below w.heap.size w w' := by
  have hbA := (Below.refl w.heap.size w).alloc (Nat.le_refl _) (.cells #[.int .i64 8, .int .i64 a, .int .i64 b, .int .i64 t, sv] 65)
  have hxA := heap_alloc_new w (.cells #[.int .i64 8, .int .i64 a, .int .i64 b, .int .i64 t, sv] 65)
  generalize hwA : w.alloc (.cells #[.int .i64 8, .int .i64 a, .int .i64 b, .int .i64 t, sv] 65) = wA at *
  have z0 := (cell_of_row _ _ 0 _ _ _ hxA).trans rfl
  have z1 := (cell_of_row _ _ 1 _ _ _ hxA).trans rfl
  have z2 := (cell_of_row _ _ 2 _ _ _ hxA).trans rfl
  have z3 := (cell_of_row _ _ 3 _ _ _ hxA).trans rfl
  have z4 := (cell_of_row _ _ 4 _ _ _ hxA).trans rfl
  have c1 := isNumber_any a (r : Int) wA
  have c2 := unless_any (decide (0 ≤ a ∧ a < (r : Int))) 6 wA
  have HE : Hid ((if 0 ≤ a ∧ a < (r : Int) then (0 : Int) else 6) = if decide (0 ≤ a ∧ a < (r : Int)) = true then 0 else 6) := by
    show _ = _
    by_cases h : 0 ≤ a ∧ a < (r : Int)
    · rw [if_pos h, if_pos (decide_eq_true h)]
    · rw [if_neg h, if_neg (by simpa using h)]
  rw [HE.out]
  clear HE
  generalize (if decide (0 ≤ a ∧ a < (r : Int)) = true then (0 : Int) else 6) = u at *
  generalize decide (0 ≤ a ∧ a < (r : Int)) = q at *
  go_enter Try.func57, Try.ntmps57
  go_wp2_with fail
  refine c1.mono ?_
  rintro e w1 ⟨rfl, rfl⟩
  clear c1
  go_wp2_with fail
  refine c2.mono ?_
  rintro e w2 ⟨rfl, rfl⟩
  clear c2
  go_wp2_with fail
  go_ret
  exact ⟨rfl, hbA⟩
set_option maxRecDepth 100000 in
set_option maxHeartbeats 1000000 in
theorem instr_0 (op : Int) (a b t : Int) (sv : Value) (k n r : Nat) (w : World) (h1 : (op == 1) = false) (h2 : (op == 2) = false) (h3 : (op == 3) = false) (h4 : (op == 4) = false) (h5 : (op == 5) = false) (h6 : (op == 6) = false) (h7 : (op == 7) = false) (h8 : (op == 8) = false) : Calls Try.prog 57 #[.agg #[.int .i64 op, .int .i64 a, .int .i64 b, .int .i64 t, sv], .int .i64 (k : Int), .int .i64 (n : Int), .int .i64 (r : Int)] w fun e w' => e = .returned (.int .i64 1) ∧ Below w.heap.size w w' := by
  have hbA := (Below.refl w.heap.size w).alloc (Nat.le_refl _) (.cells #[.int .i64 op, .int .i64 a, .int .i64 b, .int .i64 t, sv] 65)
  have hxA := heap_alloc_new w (.cells #[.int .i64 op, .int .i64 a, .int .i64 b, .int .i64 t, sv] 65)
  generalize hwA : w.alloc (.cells #[.int .i64 op, .int .i64 a, .int .i64 b, .int .i64 t, sv] 65) = wA at *
  have z0 := (cell_of_row _ _ 0 _ _ _ hxA).trans rfl
  have z1 := (cell_of_row _ _ 1 _ _ _ hxA).trans rfl
  have z2 := (cell_of_row _ _ 2 _ _ _ hxA).trans rfl
  have z3 := (cell_of_row _ _ 3 _ _ _ hxA).trans rfl
  have z4 := (cell_of_row _ _ 4 _ _ _ hxA).trans rfl
  go_enter Try.func57, Try.ntmps57
  go_wp2_with fail
  go_ret
  exact ⟨rfl, hbA⟩
theorem instr_any (x : In) (sv : Value) (k n r : Nat) (w : World) (h : RowV w sv x.sp) (hk : k ≤ 2000) : Calls Try.prog 57 #[.agg #[.int .i64 x.op, .int .i64 x.a, .int .i64 x.b, .int .i64 x.to, sv], .int .i64 (k : Int), .int .i64 (n : Int), .int .i64 (r : Int)] w fun e w' => e = .returned (.int .i64 (insE x k n r)) ∧ Below w.heap.size w w' := by
  obtain ⟨op, a, b, t, sp⟩ := x
  dsimp only at h ⊢
  unfold insE
  dsimp only
  by_cases h2 : op = 2
  · subst h2; exact instr_2 a b t sv k n r w
  by_cases h3 : op = 3
  · subst h3; exact instr_3 a b t sv k n r w
  by_cases h4 : op = 4
  · subst h4; exact instr_4 a b t sv k n r w
  rw [if_neg (by omega)]
  by_cases h1 : op = 1
  · subst h1; exact instr_1 a b t sv k n r w sp h
  rw [if_neg h1]
  by_cases h5 : op = 5
  · subst h5; exact instr_5 a b t sv k n r w
  rw [if_neg h5]
  by_cases h6 : op = 6
  · subst h6
    have c := instr_6 a b t sv k n r w hk
    have e : nmD 6 a b = decide (1 ≤ a ∧ a ≤ 127) := if_pos rfl
    rw [e] at c
    rw [if_pos rfl]
    simpa only [decide_eq_true_eq] using c
  rw [if_neg h6]
  by_cases h7 : op = 7
  · subst h7
    have c := instr_7 a b t sv k n r w hk
    have e : nmD 7 a b = decide (0 ≤ a ∧ a ≤ b ∧ b < 146097) := if_neg (by decide)
    rw [e] at c
    rw [if_pos rfl]
    simpa only [decide_eq_true_eq] using c
  rw [if_neg h7]
  by_cases h8 : op = 8
  · subst h8; exact instr_8 a b t sv k n r w
  rw [if_neg h8]
  exact instr_0 op a b t sv k n r w (beq_eq_false_iff_ne.2 h1) (beq_eq_false_iff_ne.2 h2) (beq_eq_false_iff_ne.2 h3) (beq_eq_false_iff_ne.2 h4) (beq_eq_false_iff_ne.2 h5) (beq_eq_false_iff_ne.2 h6) (beq_eq_false_iff_ne.2 h7) (beq_eq_false_iff_ne.2 h8)
end Go.Proofs.Ytclkmldegjdohaa

/- A region that draws its order and makes memory: what each operation yields is said by a predicate that later operations keep; then whatever order is drawn, all that is said holds at the end. It speaks of no program. -/
namespace Go.Proofs.Ytclkmldegjdohaa
open Go

/-- How many are not listed yet. -/
def uc : List Bool → Nat
  | [] => 0
  | b :: l => (if b then 0 else 1) + uc l
theorem uc_set : ∀ (l : List Bool) (i : Nat), l[i]? = some false → uc (l.set i true) + 1 = uc l
  | [], i, h => by simp at h
  | b :: l, 0, h => by
    simp at h; subst h
    simp [uc]; omega
  | b :: l, i + 1, h => by
    have := uc_set l i (by simpa using h)
    simp only [List.set_cons_succ, uc]
    omega
theorem uc_zero : ∀ (l : List Bool), uc l = 0 → ∀ i : Nat, l[i]? ≠ some false
  | [], _, i => by simp
  | b :: l, h, 0 => by
    cases b
    · simp [uc] at h
    · simp
  | b :: l, h, i + 1 => by
    have : uc l = 0 := by simp only [uc] at h; omega
    simpa using uc_zero l this i
theorem uc_rep : ∀ n, uc (List.replicate n false) = n
  | 0 => rfl
  | n + 1 => by simp only [List.replicate_succ, uc, uc_rep n]; simp; omega

section
variable {P : Program} {ops : Array Oper} {Q : Exit → Act → World → Prop}

theorem ready_false {listed : Array Bool} {i : Nat} (h : i ∈ Region.ready .any ops listed) : listed.toList[i]? = some false := by
  have := (mem_ready.1 h).1
  by_cases hi : i < listed.size
  · simp [Array.getD, hi] at this
    simp [hi, this]
  · simp [Array.getD, hi] at this

/-- A step of the drawn order keeps the invariant: so the region's end is reached under it. -/
theorem wpAny_inv (I : Array Bool → Act → World → Prop) (hstep : ∀ listed a w i, I listed a w → i ∈ Region.ready .any ops listed → wpOp P ops Q i (fun a' w' => I (listed.setIfInBounds i true) a' w') a w)
    (hend : ∀ listed a w, I listed a w → Region.ready .any ops listed = [] → Q .normal a w) :
    ∀ (fuel : Nat) (listed : Array Bool) (a : Act) (w : World), uc listed.toList ≤ fuel → I listed a w → wpAny P .any ops Q fuel listed a w
  | 0, listed, a, w, hu, h => by
    have hr : Region.ready .any ops listed = [] := by
      cases hr : Region.ready .any ops listed with
      | nil => rfl
      | cons i l =>
        have h1 := ready_false (ops := ops) (listed := listed) (i := i) (by rw [hr]; simp)
        exact absurd h1 (uc_zero _ (by omega) i)
    exact ⟨hr, hend _ _ _ h hr⟩
  | fuel + 1, listed, a, w, hu, h => by
    refine ⟨fun hr => hend _ _ _ h hr, fun i hi => ?_⟩
    have h1 := ready_false hi
    have h2 := uc_set _ i h1
    refine wpOp_mono (fun a' w' h' => ?_) (hstep listed a w i h hi)
    refine wpAny_inv I hstep hend fuel _ a' w' ?_ h'
    rw [Array.toList_setIfInBounds]
    omega

/-- Each operation waits only for earlier ones. -/
def backB (ops : Array Oper) : Bool := (List.range ops.size).all fun i => match ops[i]? with | none => true | some o => o.after.all fun e => !Region.binds .any e || decide (e.on < i)
theorem ready_nil (hB : backB ops = true) {listed : Array Bool} (hr : Region.ready .any ops listed = []) : ∀ i, i < ops.size → listed.getD i true = true := by
  intro i
  induction i using Nat.strongRecOn with
  | ind i ih =>
    intro hi
    cases hb : listed.getD i true with
    | true => rfl
    | false =>
      exfalso
      have ho : ops[i]? = some ops[i] := by simp [hi]
      have hm : i ∈ Region.ready .any ops listed := mem_ready.2 ⟨hb, ops[i], ho, fun e he hbd => by
        have h1 := List.all_eq_true.1 hB i (by simpa using hi)
        rw [ho] at h1
        have h2 := Array.all_eq_true'.1 h1 e he
        have h3 : e.on < i := by rw [hbd] at h2; simpa using h2
        have h4 := ih e.on h3 (by omega)
        by_cases hs : e.on < listed.size
        · simp [Array.getD, hs] at h4 ⊢; exact h4
        · exfalso
          have h5 : i < listed.size := by
            by_cases h6 : i < listed.size
            · exact h6
            · simp [Array.getD, h6] at hb
          omega⟩
      rw [hr] at hm
      cases hm

/-- The slots that the operations write are apart, and are there. -/
def dstB (ops : Array Oper) : Bool := (List.range ops.size).all fun i => (List.range ops.size).all fun j => i == j || (match (ops[i]?).bind (·.dst), (ops[j]?).bind (·.dst) with | some s, some t => s != t | _, _ => true)
def inB (ops : Array Oper) (n : Nat) : Bool := (List.range ops.size).all fun i => (match (ops[i]?).bind (·.dst) with | some s => decide (s < n) | none => true)

/-- What is said of the frame while some operations are listed. -/
structure St (ops : Array Oper) (sp : Nat → Value → World → Prop) (a0 : Act) (listed : Array Bool) (a : Act) (w : World) : Prop where
  defs : a.defers = a0.defers
  size : a.tmps.size = a0.tmps.size
  kept : ∀ s, (∀ i o, ops[i]? = some o → listed.getD i true = true → o.dst ≠ some s) → a.tmps.getD s undef = a0.tmps.getD s undef
  has : ∀ i o, ops[i]? = some o → listed.getD i true = true → ∀ s, o.dst = some s → sp i (a.tmps.getD s undef) w

theorem getD_set_same (t : Array Value) (s : Nat) (v : Value) (h : s < t.size) : (t.setIfInBounds s v).getD s undef = v := by simp [Array.getD, h]
theorem getD_set_other (t : Array Value) (s s' : Nat) (v : Value) (h : s ≠ s') : (t.setIfInBounds s v).getD s' undef = t.getD s' undef := by
  by_cases hs : s' < t.size
  · simp [Array.getD, hs, h]
  · simp [Array.getD, hs]
theorem getD_listed (l : Array Bool) (i j : Nat) : (l.setIfInBounds i true).getD j true = (decide (i = j) || l.getD j true) := by
  by_cases hj : j < l.size
  · by_cases hij : i = j
    · subst hij; simp [Array.getD, hj]
    · simp [Array.getD, hj, hij]
  · simp [Array.getD, hj]

/-- No operation writes the slot. -/
def notDst (ops : Array Oper) (s : Nat) : Bool := ops.all fun o => o.dst != some s
theorem nd {s : Nat} (h : notDst ops s = true) (j : Nat) (p : Oper) (hp : ops[j]? = some p) : p.dst ≠ some s := by
  have := Array.all_eq_true'.1 h p (Array.mem_of_getElem? hp)
  simpa using this
theorem arr_ext (t : Array Value) (l : List Value) (hs : t.size = l.length) (h : ∀ i, i < l.length → t.getD i undef = l.getD i undef) : t = l.toArray := by
  apply Array.ext
  · simpa using hs
  · intro i h1 h2
    have := h i (by simpa using h2)
    simp only [List.size_toArray] at h2
    simpa [Array.getD, List.getD, h1, h2] using this

/-- **The law.** -/
theorem wp_region_flow {id : Nat} {a0 : Act} {w : World} (hm : P.follows .mixedOrders = true) (hback : backB ops = true) (hdst : dstB ops = true) (hin : inB ops a0.tmps.size = true)
    (J : (Nat → Bool) → Act → World → Prop) (sp : Nat → Value → World → Prop)
    (hJ : ∀ L : Nat → Bool, (∀ i, i < ops.size → L i = false) → J L a0 { w with drawn := w.drawn + 1 })
    (hstep : ∀ (i : Nat) (o : Oper) (L : Nat → Bool) (a : Act) (W : World), ops[i]? = some o → L i = false → (∀ e ∈ o.after, Region.binds .any e = true → L e.on = true) → J L a W →
      a.defers = a0.defers → (∀ s, (∀ (j : Nat) (p : Oper), ops[j]? = some p → L j = true → p.dst ≠ some s) → a.tmps.getD s undef = a0.tmps.getD s undef) → (∀ (j : Nat) (p : Oper), ops[j]? = some p → L j = true → ∀ s, p.dst = some s → sp j (a.tmps.getD s undef) W) →
      wpOp P ops Q i (fun a' W' => ∃ v, a' = a.put o.dst v ∧ (o.dst ≠ none → sp i v W') ∧ (∀ j u, L j = true → sp j u W → sp j u W') ∧ J (fun k => decide (i = k) || L k) a' W') a W)
    (hend : ∀ (L : Nat → Bool) (a : Act) (W : World), (∀ i, i < ops.size → L i = true) → J L a W → a.defers = a0.defers → a.tmps.size = a0.tmps.size → (∀ s, (∀ (j : Nat) (p : Oper), ops[j]? = some p → p.dst ≠ some s) → a.tmps.getD s undef = a0.tmps.getD s undef) →
      (∀ (j : Nat) (p : Oper), ops[j]? = some p → ∀ s, p.dst = some s → sp j (a.tmps.getD s undef) W) → Q .normal a W) : (Code.region id ops true).wp P Q a0 w := by
  refine wp_region_any hm (wpAny_inv (fun listed a W => listed.size = ops.size ∧ J (fun i => listed.getD i true) a W ∧ St ops sp a0 listed a W) ?_ ?_ _ _ _ _ ?_ ?_)
  · rintro listed a W i ⟨hs, hj, st⟩ hi
    obtain ⟨hf, o, ho, hall⟩ := mem_ready.1 hi
    have hL : ∀ e ∈ o.after, Region.binds .any e = true → listed.getD e.on true = true := fun e he hb => by
      have := hall e he hb
      by_cases hs : e.on < listed.size
      · simp [Array.getD, hs] at this ⊢; exact this
      · simp [Array.getD, hs]
    have hil : i < ops.size := (Array.getElem?_eq_some_iff.1 ho).1
    refine wpOp_mono ?_ (hstep i o (fun i => listed.getD i true) a W ho hf hL hj st.defs (fun s h => st.kept s h) (fun j p hp hl s hsd => st.has j p hp hl s hsd))
    rintro a' W' ⟨v, rfl, hv, hmono, hj'⟩
    have hfun : (fun k => (listed.setIfInBounds i true).getD k true) = fun k => decide (i = k) || listed.getD k true := funext fun k => getD_listed listed i k
    refine ⟨by simpa using hs, by rw [hfun]; exact hj', ?_⟩
    have hdd : ∀ (j : Nat) (p : Oper) s t, ops[j]? = some p → i ≠ j → o.dst = some s → p.dst = some t → s ≠ t := fun j p s t hp hij h1 h2 => by
      have q1 := List.all_eq_true.1 hdst i (by simpa using hil)
      have q2 := List.all_eq_true.1 q1 j (by simpa using (Array.getElem?_eq_some_iff.1 hp).1)
      rw [ho, hp] at q2
      simp only [Option.bind_some, h1, h2] at q2
      simpa [hij] using q2
    have hds : ∀ s, o.dst = some s → s < a.tmps.size := fun s h1 => by
      have q1 := List.all_eq_true.1 hin i (by simpa using hil)
      rw [ho] at q1
      simp only [Option.bind_some, h1] at q1
      rw [st.size]
      simpa using q1
    have hlist : ∀ j, (listed.setIfInBounds i true).getD j true = true → i = j ∨ listed.getD j true = true := fun j h => by
      rw [getD_listed] at h
      simpa using h
    cases hd : o.dst with
    | none =>
      refine ⟨st.defs, st.size, fun s h => ?_, fun j p hp hl s hps => ?_⟩
      · exact st.kept s fun j p hp hl => h j p hp (by rw [getD_listed, hl]; simp)
      · rcases hlist j hl with rfl | hl'
        · rw [ho] at hp
          have := Option.some.inj hp
          subst this
          rw [hd] at hps; cases hps
        · exact hmono j _ hl' (st.has j p hp hl' s hps)
    | some d =>
      have hdl := hds d hd
      refine ⟨st.defs, by simpa [Act.put] using st.size, fun s h => ?_, fun j p hp hl s hps => ?_⟩
      · have hsd : d ≠ s := fun e => by
          subst e
          exact h i o ho (by rw [getD_listed]; simp) hd
        show (a.tmps.setIfInBounds d v).getD s undef = _
        rw [getD_set_other _ _ _ _ hsd]
        exact st.kept s fun j p hp hl => h j p hp (by rw [getD_listed, hl]; simp)
      · show sp j ((a.tmps.setIfInBounds d v).getD s undef) W'
        rcases hlist j hl with rfl | hl'
        · rw [ho] at hp
          have := Option.some.inj hp
          subst this
          rw [hd] at hps
          have := Option.some.inj hps
          subst this
          rw [getD_set_same _ _ _ hdl]
          exact hv (by rw [hd]; simp)
        · by_cases hij : i = j
          · subst hij
            rw [hf] at hl'; cases hl'
          · rw [getD_set_other _ _ _ _ (hdd j p d s hp hij hd hps)]
            exact hmono j _ hl' (st.has j p hp hl' s hps)
  · rintro listed a W ⟨hs, hj, st⟩ hr
    have hall := ready_nil hback hr
    exact hend _ a W hall hj st.defs st.size (fun s h => st.kept s fun j p hp _ => h j p hp) (fun j p hp s hps => st.has j p hp (hall j (Array.getElem?_eq_some_iff.1 hp).1) s hps)
  · simp [uc_rep]
  · have hf : ∀ i, i < ops.size → (Array.replicate ops.size false).getD i true = false := fun i hi => by simp [Array.getD, hi]
    refine ⟨by simp, hJ _ hf, rfl, rfl, fun _ _ => rfl, fun i o ho hl s _ => ?_⟩
    rw [hf i (Array.getElem?_eq_some_iff.1 ho).1] at hl
    cases hl
end
end Go.Proofs.Ytclkmldegjdohaa

/- Small facts about frames and lists of values. -/
namespace Go.Proofs.Ytclkmldegjdohaa
open Go

theorem gd (A : Act) (s : Nat) : A.tmps[s]?.getD undef = A.tmps.getD s undef := by simp
theorem gdb {A : Act} {s : Nat} {b : Bool} (h : A.tmps.getD s undef = .bool b) : A.tmps[s]? = some (.bool b) := by
  rw [← gd] at h
  cases hx : A.tmps[s]? with
  | none => rw [hx] at h; simp [undef] at h
  | some v => rw [hx] at h; simp at h; rw [h]
/-- For all lists of so many. -/
def AllL : Nat → (List Value → Prop) → Prop
  | 0, P => P []
  | n + 1, P => ∀ u, AllL n fun l => P (u :: l)
theorem allL : ∀ (n : Nat) (P : List Value → Prop), AllL n P → ∀ l, l.length = n → P l
  | 0, P, h, l, hl => by
    have e : l = [] := List.length_eq_zero_iff.1 hl
    subst e
    exact h
  | n + 1, P, h, [], hl => by simp at hl
  | n + 1, P, h, u :: l, hl => allL n (fun l => P (u :: l)) (h u) l (by simpa using hl)
end Go.Proofs.Ytclkmldegjdohaa

/- Regions that draw their order and yield values that are known beforehand: the frame behind them is written out. It speaks of no program. -/
namespace Go.Proofs.Ytclkmldegjdohaa
open Go Go.RowKit

/-- Values put into slots. -/
def putAll (ds : List (Nat × Value)) (a : Act) : Act := ds.foldl (fun a p => a.put (some p.1) p.2) a
theorem putAll_nil (a : Act) : putAll [] a = a := rfl
theorem putAll_cons (p : Nat × Value) (ds : List (Nat × Value)) (a : Act) : putAll (p :: ds) a = putAll ds (a.put (some p.1) p.2) := rfl
theorem putAll_defers : ∀ (ds : List (Nat × Value)) (a : Act), (putAll ds a).defers = a.defers
  | [], _ => rfl
  | p :: ds, a => (putAll_defers ds (a.put (some p.1) p.2)).trans rfl
theorem putAll_size : ∀ (ds : List (Nat × Value)) (a : Act), (putAll ds a).tmps.size = a.tmps.size
  | [], _ => rfl
  | p :: ds, a => (putAll_size ds (a.put (some p.1) p.2)).trans (by simp [Act.put])
theorem putAll_other : ∀ (ds : List (Nat × Value)) (a : Act) (s : Nat), (∀ p ∈ ds, p.1 ≠ s) → (putAll ds a).tmps.getD s undef = a.tmps.getD s undef
  | [], _, _, _ => rfl
  | p :: ds, a, s, h => by
    rw [putAll_cons, putAll_other ds _ s (fun q hq => h q (List.mem_cons_of_mem _ hq))]
    exact getD_set_other _ _ _ _ (h p List.mem_cons_self)
theorem putAll_same : ∀ (ds : List (Nat × Value)) (a : Act) (j s : Nat) (v : Value), (ds.map (fun p => some p.1)).Nodup → s < a.tmps.size → ds[j]? = some (s, v) → (putAll ds a).tmps.getD s undef = v
  | [], _, _, _, _, _, _, h => by simp at h
  | p :: ds, a, 0, s, v, hn, hs, h => by
    simp at h
    subst h
    rw [putAll_cons, putAll_other ds _ s ?_]
    · exact getD_set_same _ _ _ hs
    · intro q hq e
      rw [List.map_cons, List.nodup_cons] at hn
      exact hn.1 (List.mem_map.2 ⟨q, hq, by rw [e]⟩)
  | p :: ds, a, j + 1, s, v, hn, hs, h => by
    rw [putAll_cons]
    rw [List.map_cons, List.nodup_cons] at hn
    exact putAll_same ds _ j s v hn.2 (by simpa [Act.put] using hs) (by simpa using h)
theorem act_is {A a0 : Act} (ds : List (Nat × Value)) (hd : A.defers = a0.defers) (hs : A.tmps.size = a0.tmps.size) (hn : (ds.map (fun p => some p.1)).Nodup)
    (hk : ∀ s, (∀ p ∈ ds, p.1 ≠ s) → A.tmps.getD s undef = a0.tmps.getD s undef) (hh : ∀ (j s : Nat) (v : Value), ds[j]? = some (s, v) → A.tmps.getD s undef = v) : A = putAll ds a0 := by
  have e1 := putAll_defers ds a0
  have e2 := putAll_size ds a0
  have e3 : ∀ s, s < a0.tmps.size → A.tmps.getD s undef = (putAll ds a0).tmps.getD s undef := by
    intro s hs'
    by_cases h : ∃ p ∈ ds, p.1 = s
    · obtain ⟨p, hp, rfl⟩ := h
      obtain ⟨j, hj⟩ := List.getElem?_of_mem hp
      rw [hh j _ _ hj, putAll_same ds a0 j _ _ hn hs' hj]
    · have h' : ∀ p ∈ ds, p.1 ≠ s := fun p hp e => h ⟨p, hp, e⟩
      rw [hk s h', putAll_other ds a0 s h']
  generalize putAll ds a0 = F at *
  obtain ⟨t, d⟩ := A
  obtain ⟨t', d'⟩ := F
  dsimp only at *
  have : t = t' := by
    apply Array.ext
    · omega
    · intro i h1 h2
      have := e3 i (by omega)
      simpa [Array.getD, h1, h2] using this
  rw [this, hd, e1]

section
variable {P : Program} {ops : Array Oper} {Q : Exit → Act → World → Prop} {id : Nat} {a0 : Act} {w : World}

/-- What an operation of the region comes to, in whatever world behind the first. -/
def StepV (P : Program) (ops : Array Oper) (Q : Exit → Act → World → Prop) (ds : List (Nat × Value)) (a0 : Act) (w : World) : Prop :=
  ∀ (i s : Nat) (v : Value) (o : Oper) (L : Nat → Bool) (A : Act) (W : World), ops[i]? = some o → ds[i]? = some (s, v) → (∀ e ∈ o.after, Region.binds .any e = true → L e.on = true) → Below w.heap.size w W →
    (∀ s, notDst ops s = true → A.tmps.getD s undef = a0.tmps.getD s undef) → (∀ (j s : Nat) (u : Value), ds[j]? = some (s, u) → L j = true → A.tmps.getD s undef = u) → wpOp P ops Q i (fun a' W' => a' = A.put (some s) v ∧ Below W.heap.size W W') A W

theorem dst_at {k : Nat} {ds : List (Nat × Value)} (hds : (ops.toList.take k).map (fun o => o.dst) = ds.map (fun p => some p.1)) {i s : Nat} {v : Value} {o : Oper} (ho : ops[i]? = some o) (h : ds[i]? = some (s, v)) : o.dst = some s := by
  have h1 : (ds.map (fun p => some p.1))[i]? = some (some s) := by rw [List.getElem?_map, h]; rfl
  rw [← hds, List.getElem?_map] at h1
  have h2 : (ops.toList.take k)[i]? = some o ∨ (ops.toList.take k)[i]? = none := by
    rw [List.getElem?_take]
    split
    · left; simpa using ho
    · right; rfl
  rcases h2 with h2 | h2
  · rw [h2] at h1; simpa using h1
  · rw [h2] at h1; simp at h1
theorem at_dst {k : Nat} {ds : List (Nat × Value)} (hds : (ops.toList.take k).map (fun o => o.dst) = ds.map (fun p => some p.1)) {i : Nat} {o : Oper} (hi : i < k) (ho : ops[i]? = some o) : ∃ s v, ds[i]? = some (s, v) := by
  have h1 : (ops.toList.take k)[i]? = some o := by rw [List.getElem?_take, if_pos hi]; simpa using ho
  have h2 : ((ops.toList.take k).map (fun o => o.dst))[i]? = some o.dst := by rw [List.getElem?_map, h1]; rfl
  rw [hds, List.getElem?_map] at h2
  cases h3 : ds[i]? with
  | none => rw [h3] at h2; simp at h2
  | some p => exact ⟨p.1, p.2, rfl⟩

theorem wp_region_vals (hm : P.follows .mixedOrders = true) (hback : backB ops = true) (hdst : dstB ops = true) (hin : inB ops a0.tmps.size = true) (ds : List (Nat × Value))
    (hds : (ops.toList.take ops.size).map (fun o => o.dst) = ds.map (fun p => some p.1)) (hnd : decide (((ops.toList.take ops.size).map (fun o => o.dst)).Nodup) = true)
    (hstep : StepV P ops Q ds a0 w) (hend : ∀ W, Below w.heap.size w W → Q .normal (putAll ds a0) W) : (Code.region id ops true).wp P Q a0 w := by
  have hnd' : (ds.map (fun p => some p.1)).Nodup := by rw [← hds]; exact of_decide_eq_true hnd
  refine wp_region_flow hm hback hdst hin (fun _ _ W => Below w.heap.size w W) (fun j x _ => ∀ s v, ds[j]? = some (s, v) → x = v) ?_ ?_ ?_
  · intro L _
    exact (Below.refl _ _).drew
  · intro i o L A W ho hLi hdep hJ hdef hkept hhas
    have hi : i < ops.size := (Array.getElem?_eq_some_iff.1 ho).1
    obtain ⟨s, v, hv⟩ := at_dst hds hi ho
    have hd := dst_at hds ho hv
    refine wpOp_mono ?_ (hstep i s v o L A W ho hv hdep hJ (fun s' h => hkept s' fun j p hp _ => nd h j p hp) (fun j s' u hj hL => ?_))
    · rintro a' W' ⟨rfl, hb⟩
      exact ⟨v, by rw [hd], fun _ s' v' h => by rw [hv] at h; cases h; rfl, fun _ _ _ h => h, hJ.trans (hb.mono hJ.size)⟩
    · have hj' : j < ds.length := (List.getElem?_eq_some_iff.1 hj).1
      have hl : ds.length = ops.size := by have := congrArg List.length hds; simpa using this.symm
      obtain ⟨p, hp⟩ : ∃ p, ops[j]? = some p := ⟨ops[j]'(by omega), Array.getElem?_eq_getElem _⟩
      exact hhas j p hp hL s' (dst_at hds hp hj) s' u hj
  · intro L A W hL hJ hdef hsize hkept hhas
    have : A = putAll ds a0 := act_is ds hdef hsize hnd' (fun s h => hkept s fun j p hp e => ?_) (fun j s v hj => ?_)
    · rw [this]; exact hend W hJ
    · have hi : j < ops.size := (Array.getElem?_eq_some_iff.1 hp).1
      obtain ⟨s', v, hv⟩ := at_dst hds hi hp
      have := (dst_at hds hp hv).symm.trans e
      cases this
      exact h _ (List.mem_of_getElem? hv) rfl
    · have hj' : j < ds.length := (List.getElem?_eq_some_iff.1 hj).1
      have hl : ds.length = ops.size := by have := congrArg List.length hds; simpa using this.symm
      obtain ⟨p, hp⟩ : ∃ p, ops[j]? = some p := ⟨ops[j]'(by omega), Array.getElem?_eq_getElem _⟩
      exact hhas j p hp s (dst_at hds hp hj) s v hj

/-- Each operation but the last is waited for by a later one. -/
def useB (ops : Array Oper) : Bool := (List.range (ops.size - 1)).all fun i => (List.range ops.size).any fun j => decide (i < j) && match ops[j]? with | none => false | some o => o.after.any fun e => Region.binds .any e && decide (e.on = i)
theorem use_all (hu : useB ops = true) {n : Nat} (hn : ops.size = n + 1) {L : Nat → Bool} (hc : ∀ (j : Nat) (p : Oper), ops[j]? = some p → L j = true → ∀ e ∈ p.after, Region.binds .any e = true → L e.on = true) (hL : L n = true) : ∀ k i, n - i ≤ k → i ≤ n → L i = true
  | 0, i, hk, hi => by rw [show i = n by omega]; exact hL
  | k + 1, i, hk, hi => by
    by_cases e : i = n
    · rw [e]; exact hL
    have h1 := List.all_eq_true.1 hu i (by simp; omega)
    obtain ⟨j, hj, h2⟩ := List.any_eq_true.1 h1
    simp at hj
    simp only [Bool.and_eq_true, decide_eq_true_eq] at h2
    obtain ⟨hij, h3⟩ := h2
    cases ho : ops[j]? with
    | none => rw [ho] at h3; cases h3
    | some o =>
      rw [ho] at h3
      obtain ⟨e', he, h4⟩ := Array.any_eq_true'.1 h3
      simp only [Bool.and_eq_true, decide_eq_true_eq] at h4
      have := hc j o ho (use_all hu hn hc hL k j (by omega) (by omega)) e' he h4.1
      rw [h4.2] at this
      exact this

theorem wp_region_last (hm : P.follows .mixedOrders = true) (hback : backB ops = true) (hdst : dstB ops = true) (hin : inB ops a0.tmps.size = true) (n : Nat) (hn : ops.size = n + 1) (huse : useB ops = true) (ds : List (Nat × Value))
    (hds : (ops.toList.take n).map (fun o => o.dst) = ds.map (fun p => some p.1)) (hnd : decide (((ops.toList.take n).map (fun o => o.dst)).Nodup) = true)
    (hstep : StepV P ops Q ds a0 w) (hlast : ∀ (o : Oper) (W : World), ops[n]? = some o → Below w.heap.size w W → wpOp P ops Q n (fun a' W' => (∃ v, a' = (putAll ds a0).put o.dst v) ∧ Q .normal a' W') (putAll ds a0) W) : (Code.region id ops true).wp P Q a0 w := by
  have hnd' : (ds.map (fun p => some p.1)).Nodup := by rw [← hds]; exact of_decide_eq_true hnd
  have hl : ds.length = n := by
    have h := congrArg List.length hds
    simp only [List.length_map, List.length_take, Array.length_toList] at h
    omega
  refine wp_region_flow hm hback hdst hin (fun L A W => (∀ (j : Nat) (p : Oper), ops[j]? = some p → L j = true → ∀ e ∈ p.after, Region.binds .any e = true → L e.on = true) ∧ (L n = false → Below w.heap.size w W ∧ A.tmps.size = a0.tmps.size) ∧ (L n = true → Q .normal A W)) (fun j x _ => ∀ s v, ds[j]? = some (s, v) → x = v) ?_ ?_ ?_
  · intro L h
    refine ⟨fun j p hp hj => ?_, fun _ => ⟨(Below.refl _ _).drew, rfl⟩, fun h' => ?_⟩
    · have := h j (Array.getElem?_eq_some_iff.1 hp).1
      rw [this] at hj; cases hj
    · rw [h n (by omega)] at h'; cases h'
  · intro i o L A W ho hLi hdep hJ hdef hkept hhas
    obtain ⟨hc, hbel, hdone⟩ := hJ
    have hi : i < ops.size := (Array.getElem?_eq_some_iff.1 ho).1
    have hLn : L n = false := by
      cases h : L n with
      | false => rfl
      | true =>
        have := use_all huse hn hc h n i (by omega) (by omega)
        rw [this] at hLi; cases hLi
    obtain ⟨hbw, hsz⟩ := hbel hLn
    have hc' : ∀ (j : Nat) (p : Oper), ops[j]? = some p → (decide (i = j) || L j) = true → ∀ e ∈ p.after, Region.binds .any e = true → (decide (i = e.on) || L e.on) = true := by
      intro j p hp hj e he hb
      by_cases hij : i = j
      · subst hij
        rw [ho] at hp
        cases hp
        rw [hdep e he hb]; simp
      · rw [hc j p hp (by simpa [hij] using hj) e he hb]; simp
    have hread : ∀ (j s : Nat) (u : Value), ds[j]? = some (s, u) → L j = true → A.tmps.getD s undef = u := fun j s' u hj hL => by
      have hj' : j < ds.length := (List.getElem?_eq_some_iff.1 hj).1
      obtain ⟨p, hp⟩ : ∃ p, ops[j]? = some p := ⟨ops[j]'(by omega), Array.getElem?_eq_getElem _⟩
      exact hhas j p hp hL s' (dst_at hds hp hj) s' u hj
    by_cases hin' : i = n
    · subst hin'
      have hall : ∀ j, j < i → L j = true := fun j hj => by
        have := use_all huse hn hc' (L := fun k => decide (i = k) || L k) (by simp) i j (by omega) (by omega)
        simpa [show i ≠ j by omega] using this
      have e : A = putAll ds a0 := by
        refine act_is ds hdef hsz hnd' (fun s h => hkept s fun j p hp hj e => ?_) (fun j s v hj => ?_)
        · have hjn : j < i := by
            have h1 := (Array.getElem?_eq_some_iff.1 hp).1
            have h2 : j ≠ i := fun e' => by rw [e', hLn] at hj; cases hj
            omega
          obtain ⟨s', v, hv⟩ := at_dst hds hjn hp
          have := (dst_at hds hp hv).symm.trans e
          cases this
          exact h _ (List.mem_of_getElem? hv) rfl
        · exact hread j s v hj (hall j (by have := (List.getElem?_eq_some_iff.1 hj).1; omega))
      rw [e]
      refine wpOp_mono ?_ (hlast o W ho hbw)
      rintro a' W' ⟨⟨v, hv⟩, hq⟩
      refine ⟨v, hv, fun _ s' v' h => ?_, fun _ _ _ h => h, hc', fun h => by simp at h, fun _ => hq⟩
      have := (List.getElem?_eq_some_iff.1 h).1
      omega
    · obtain ⟨s, v, hv⟩ := at_dst hds (show i < n by omega) ho
      have hd := dst_at hds ho hv
      refine wpOp_mono ?_ (hstep i s v o L A W ho hv hdep hbw (fun s' h => hkept s' fun j p hp _ => nd h j p hp) hread)
      rintro a' W' ⟨rfl, hb⟩
      refine ⟨v, by rw [hd], fun _ s' v' h => by rw [hv] at h; cases h; rfl, fun _ _ _ h => h, hc', fun _ => ⟨hbw.trans (hb.mono hbw.size), by simpa [Act.put] using hsz⟩, fun h => ?_⟩
      simp [hin', hLn] at h
  · intro L A W hL hJ hdef hsize hkept hhas
    exact hJ.2.2 (hL n (by omega))
end
end Go.Proofs.Ytclkmldegjdohaa
