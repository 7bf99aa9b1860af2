/- The document's Ins: what is wrong with an instruction. Written by genvra.py. -/
import Derived.Test.YtaeengpppehlfaaCt04
import Derived.Test.YtaeengpppehlfaaCt15
import Derived.Deep.Cut
namespace Go.Proofs.Ytaeengpppehlfaa
open Go.RowKit Msk Vx

theorem unw9 {ops : Array Oper} {A : Act} {o : Oper} {gi gs : Nat} {want : Bool} (hg : o.guard = some (gi, want)) (hd : (ops[gi]?).bind (·.dst) = some gs) (hG : A.tmps[gs]?.getD undef = undef) : ¬ Region.wanted o (yielded ops A.tmps) = true := by
  unfold Region.wanted
  rw [hg]
  unfold yielded
  dsimp only
  rw [hd]
  dsimp only [Option.bind_some]
  cases h : A.tmps[gs]? with
  | none => simp
  | some v =>
    rw [h] at hG
    have : v = undef := hG
    subst this
    simp [undef]
set_option maxRecDepth 100000 in
set_option maxHeartbeats 2000000 in
theorem rinstr_2 (a b t : Int) (sv : Value) (k n r : Nat) (w : World) : Calls Try.prog 36 #[.agg #[.int .i64 2, .int .i64 a, .int .i64 b, .int .i64 t, sv], .int .i64 (k : Int), .int .i64 (n : Int), .int .i64 (r : Int)] w fun e w' => e = .returned (.int .i64 0) ∧ Below w.heap.size w w' := by
  have hbA := (Below.refl w.heap.size w).alloc (Nat.le_refl _) (.cells #[.int .i64 2, .int .i64 a, .int .i64 b, .int .i64 t, sv] 65)
  have hxA := heap_alloc_new w (.cells #[.int .i64 2, .int .i64 a, .int .i64 b, .int .i64 t, sv] 65)
  generalize hwA : w.alloc (.cells #[.int .i64 2, .int .i64 a, .int .i64 b, .int .i64 t, sv] 65) = wA at *
  have z0 := (cell_of_row _ _ 0 _ _ _ hxA).trans rfl
  have z1 := (cell_of_row _ _ 1 _ _ _ hxA).trans rfl
  have z2 := (cell_of_row _ _ 2 _ _ _ hxA).trans rfl
  have z3 := (cell_of_row _ _ 3 _ _ _ hxA).trans rfl
  have z4 := (cell_of_row _ _ 4 _ _ _ hxA).trans rfl
  go_enter Try.func36, Try.ntmps36
  go_wp2_with fail
  go_ret
  exact ⟨rfl, hbA⟩
set_option maxRecDepth 100000 in
set_option maxHeartbeats 2000000 in
theorem rinstr_3 (a b t : Int) (sv : Value) (k n r : Nat) (w : World) : Calls Try.prog 36 #[.agg #[.int .i64 3, .int .i64 a, .int .i64 b, .int .i64 t, sv], .int .i64 (k : Int), .int .i64 (n : Int), .int .i64 (r : Int)] w fun e w' => e = .returned (.int .i64 0) ∧ Below w.heap.size w w' := by
  have hbA := (Below.refl w.heap.size w).alloc (Nat.le_refl _) (.cells #[.int .i64 3, .int .i64 a, .int .i64 b, .int .i64 t, sv] 65)
  have hxA := heap_alloc_new w (.cells #[.int .i64 3, .int .i64 a, .int .i64 b, .int .i64 t, sv] 65)
  generalize hwA : w.alloc (.cells #[.int .i64 3, .int .i64 a, .int .i64 b, .int .i64 t, sv] 65) = wA at *
  have z0 := (cell_of_row _ _ 0 _ _ _ hxA).trans rfl
  have z1 := (cell_of_row _ _ 1 _ _ _ hxA).trans rfl
  have z2 := (cell_of_row _ _ 2 _ _ _ hxA).trans rfl
  have z3 := (cell_of_row _ _ 3 _ _ _ hxA).trans rfl
  have z4 := (cell_of_row _ _ 4 _ _ _ hxA).trans rfl
  go_enter Try.func36, Try.ntmps36
  go_wp2_with fail
  go_ret
  exact ⟨rfl, hbA⟩
set_option maxRecDepth 100000 in
set_option maxHeartbeats 2000000 in
theorem rinstr_4 (a b t : Int) (sv : Value) (k n r : Nat) (w : World) : Calls Try.prog 36 #[.agg #[.int .i64 4, .int .i64 a, .int .i64 b, .int .i64 t, sv], .int .i64 (k : Int), .int .i64 (n : Int), .int .i64 (r : Int)] w fun e w' => e = .returned (.int .i64 0) ∧ Below w.heap.size w w' := by
  have hbA := (Below.refl w.heap.size w).alloc (Nat.le_refl _) (.cells #[.int .i64 4, .int .i64 a, .int .i64 b, .int .i64 t, sv] 65)
  have hxA := heap_alloc_new w (.cells #[.int .i64 4, .int .i64 a, .int .i64 b, .int .i64 t, sv] 65)
  generalize hwA : w.alloc (.cells #[.int .i64 4, .int .i64 a, .int .i64 b, .int .i64 t, sv] 65) = wA at *
  have z0 := (cell_of_row _ _ 0 _ _ _ hxA).trans rfl
  have z1 := (cell_of_row _ _ 1 _ _ _ hxA).trans rfl
  have z2 := (cell_of_row _ _ 2 _ _ _ hxA).trans rfl
  have z3 := (cell_of_row _ _ 3 _ _ _ hxA).trans rfl
  have z4 := (cell_of_row _ _ 4 _ _ _ hxA).trans rfl
  go_enter Try.func36, Try.ntmps36
  go_wp2_with fail
  go_ret
  exact ⟨rfl, hbA⟩
set_option maxRecDepth 100000 in
set_option maxHeartbeats 2000000 in
theorem rinstr_1 (a b t : Int) (sv : Value) (k n r : Nat) (w : World) (sp : List (Int × Int)) (h : RowV w sv sp) : Calls Try.prog 36 #[.agg #[.int .i64 1, .int .i64 a, .int .i64 b, .int .i64 t, sv], .int .i64 (k : Int), .int .i64 (n : Int), .int .i64 (r : Int)] w fun e w' => e = .returned (.int .i64 (if risL sp (-1) = true then 0 else 2)) ∧ Below w.heap.size w w' := by
  obtain ⟨p, c, rfl, hlen, hc⟩ := h.form
  have HC := hidv hc
  clear hc h
  have hbA := (Below.refl w.heap.size w).alloc (Nat.le_refl _) (.cells #[.int .i64 1, .int .i64 a, .int .i64 b, .int .i64 t, .slice p sp.length c] 65)
  have hxA := heap_alloc_new w (.cells #[.int .i64 1, .int .i64 a, .int .i64 b, .int .i64 t, .slice p sp.length c] 65)
  generalize hwA : w.alloc (.cells #[.int .i64 1, .int .i64 a, .int .i64 b, .int .i64 t, .slice p sp.length c] 65) = wA at *
  have z0 := (cell_of_row _ _ 0 _ _ _ hxA).trans rfl
  have z1 := (cell_of_row _ _ 1 _ _ _ hxA).trans rfl
  have z2 := (cell_of_row _ _ 2 _ _ _ hxA).trans rfl
  have z3 := (cell_of_row _ _ 3 _ _ _ hxA).trans rfl
  have z4 := (cell_of_row _ _ 4 _ _ _ hxA).trans rfl
  generalize hX : risL sp (-1) = X
  have HS : Hid (risL (sp.drop 0) (-1) = X) := hX
  clear hX
  go_enter Try.func36, Try.ntmps36
  go_wp2_with fail
  clear hwA
  go_loopw [9, 19] (fun x t wr => ∃ (j : Nat) (e : Int), x = .int .i64 e ∧ t = .int .i64 (j : Int) ∧ j ≤ sp.length ∧ risL (sp.drop j) e = X ∧ Below w.heap.size w wr) (fun _ t _ => sp.length - (intOf t).toNat)
  case atStart => exact ⟨0, -1, rfl, rfl, by omega, HS.out, hbA⟩
  case round =>
    obtain ⟨j, e, rfl, rfl, hj, hXr, hb⟩ := hrel
    clear HS hbA hxA z0 z1 z2 z3 z4
    have hj0 : (0 : Int) ≤ (j : Int) := by omega
    by_cases hlt : j < sp.length
    · have hlt' : (j : Int) < (sp.length : Int) := by omega
      obtain ⟨s, hjk⟩ : ∃ q, sp[j]? = some q := ⟨sp[j], List.getElem?_eq_getElem hlt⟩
      rw [risL_step hjk] at hXr
      obtain ⟨g, o, hpe, c0, c1⟩ := HC.out j _ hjk
      subst hpe
      obtain ⟨x, y⟩ := s
      dsimp only at c0 c1 hXr
      have d0 := (hb.cell (block_lt_of_cell c0)).trans c0
      have d1 := (hb.cell (block_lt_of_cell c1)).trans c1
      have hb2 := hb.alloc hb.size (.cells #[.int .i64 x, .int .i64 y] 97)
      by_cases h1 : x ≤ e
      · rw [if_pos (.inl h1)] at hXr
        subst hXr
        clear hjk HC c0 c1
        go_wp2_with fail
        go_ret
        exact ⟨rfl, hb2⟩
      · by_cases h2 : y ≤ x
        · rw [if_pos (.inr (.inl h2))] at hXr
          subst hXr
          clear hjk HC c0 c1
          go_wp2_with fail
          go_ret
          exact ⟨rfl, hb2⟩
        · by_cases h3 : 1440 < y
          · rw [if_pos (.inr (.inr h3))] at hXr
            subst hXr
            clear hjk HC c0 c1
            go_wp2_with fail
            go_ret
            exact ⟨rfl, hb2⟩
          · rw [if_neg (by omega)] at hXr
            have HX := hidv hXr
            clear hXr hjk c0 c1
            go_wp2_with fail
            go_roundw
            case rel => exact ⟨j + 1, y, rfl, by go_num, by omega, HX.out, hb2⟩
            case measure => simp [intOf]; omega
    · have hlt' : ¬ (j : Int) < (sp.length : Int) := by omega
      rw [List.drop_of_length_le (by omega)] at hXr
      have hX2 : X = true := hXr.symm
      subst hX2
      clear hXr HC
      go_wp2_with fail
      go_ret
      exact ⟨rfl, hb⟩
set_option maxRecDepth 100000 in
set_option maxHeartbeats 2000000 in
theorem rinstr_5 (a b t : Int) (sv : Value) (k n r : Nat) (w : World) : Calls Try.prog 36 #[.agg #[.int .i64 5, .int .i64 a, .int .i64 b, .int .i64 t, sv], .int .i64 (k : Int), .int .i64 (n : Int), .int .i64 (r : Int)] w fun e w' => e = .returned (.int .i64 (if a ≠ 0 ∧ -1439 ≤ a ∧ a ≤ 1439 then 0 else 3)) ∧ Below w.heap.size w w' := by
  have hbA := (Below.refl w.heap.size w).alloc (Nat.le_refl _) (.cells #[.int .i64 5, .int .i64 a, .int .i64 b, .int .i64 t, sv] 65)
  have hxA := heap_alloc_new w (.cells #[.int .i64 5, .int .i64 a, .int .i64 b, .int .i64 t, sv] 65)
  generalize hwA : w.alloc (.cells #[.int .i64 5, .int .i64 a, .int .i64 b, .int .i64 t, sv] 65) = wA at *
  have z0 := (cell_of_row _ _ 0 _ _ _ hxA).trans rfl
  have z1 := (cell_of_row _ _ 1 _ _ _ hxA).trans rfl
  have z2 := (cell_of_row _ _ 2 _ _ _ hxA).trans rfl
  have z3 := (cell_of_row _ _ 3 _ _ _ hxA).trans rfl
  have z4 := (cell_of_row _ _ 4 _ _ _ hxA).trans rfl
  by_cases h0 : a = 0
  · rw [if_neg (fun e => e.1 h0)]
    subst h0
    go_enter Try.func36, Try.ntmps36
    go_wp2_with fail
    go_ret
    exact ⟨rfl, hbA⟩
  · have hb0 : (a == 0) = false := beq_eq_false_iff_ne.2 h0
    by_cases h1 : -1439 ≤ a
    · by_cases h2 : a ≤ 1439
      · rw [if_pos ⟨h0, h1, h2⟩]
        have h1' : ¬ a < -1439 := by omega
        have h2' : ¬ 1439 < a := by omega
        go_enter Try.func36, Try.ntmps36
        go_wp2_with fail
        go_ret
        exact ⟨rfl, hbA⟩
      · rw [if_neg (fun e => h2 e.2.2)]
        have h1' : ¬ a < -1439 := by omega
        have h2' : 1439 < a := by omega
        go_enter Try.func36, Try.ntmps36
        go_wp2_with fail
        go_ret
        exact ⟨rfl, hbA⟩
    · rw [if_neg (fun e => h1 e.2.1)]
      have h1' : a < -1439 := by omega
      go_enter Try.func36, Try.ntmps36
      go_wp2_with fail
      go_ret
      exact ⟨rfl, hbA⟩
set_option maxRecDepth 100000 in
set_option maxHeartbeats 2000000 in
theorem rinstr_8 (a b t : Int) (sv : Value) (k n r : Nat) (w : World) : Calls Try.prog 36 #[.agg #[.int .i64 8, .int .i64 a, .int .i64 b, .int .i64 t, sv], .int .i64 (k : Int), .int .i64 (n : Int), .int .i64 (r : Int)] w fun e w' => e = .returned (.int .i64 (if 0 ≤ a ∧ a < r then 0 else 6)) ∧ Below w.heap.size w w' := by
  have hbA := (Below.refl w.heap.size w).alloc (Nat.le_refl _) (.cells #[.int .i64 8, .int .i64 a, .int .i64 b, .int .i64 t, sv] 65)
  have hxA := heap_alloc_new w (.cells #[.int .i64 8, .int .i64 a, .int .i64 b, .int .i64 t, sv] 65)
  generalize hwA : w.alloc (.cells #[.int .i64 8, .int .i64 a, .int .i64 b, .int .i64 t, sv] 65) = wA at *
  have z0 := (cell_of_row _ _ 0 _ _ _ hxA).trans rfl
  have z1 := (cell_of_row _ _ 1 _ _ _ hxA).trans rfl
  have z2 := (cell_of_row _ _ 2 _ _ _ hxA).trans rfl
  have z3 := (cell_of_row _ _ 3 _ _ _ hxA).trans rfl
  have z4 := (cell_of_row _ _ 4 _ _ _ hxA).trans rfl
  by_cases h1 : 0 ≤ a
  · have h1' : ¬ a < 0 := by omega
    by_cases h2 : a < r
    · rw [if_pos ⟨h1, h2⟩]
      have h2' : ¬ (r : Int) ≤ a := by omega
      go_enter Try.func36, Try.ntmps36
      go_wp2_with fail
      go_ret
      exact ⟨rfl, hbA⟩
    · rw [if_neg (fun e => h2 e.2)]
      have h2' : (r : Int) ≤ a := by omega
      go_enter Try.func36, Try.ntmps36
      go_wp2_with fail
      go_ret
      exact ⟨rfl, hbA⟩
  · rw [if_neg (fun e => h1 e.1)]
    have h1' : a < 0 := by omega
    go_enter Try.func36, Try.ntmps36
    go_wp2_with fail
    go_ret
    exact ⟨rfl, hbA⟩
set_option maxRecDepth 100000 in
set_option maxHeartbeats 2000000 in
theorem rinstr_0 (op : Int) (a b t : Int) (sv : Value) (k n r : Nat) (w : World) (h1 : (op == 1) = false) (h2 : (op == 2) = false) (h3 : (op == 3) = false) (h4 : (op == 4) = false) (h5 : (op == 5) = false) (h6 : (op == 6) = false) (h7 : (op == 7) = false) (h8 : (op == 8) = false) : Calls Try.prog 36 #[.agg #[.int .i64 op, .int .i64 a, .int .i64 b, .int .i64 t, sv], .int .i64 (k : Int), .int .i64 (n : Int), .int .i64 (r : Int)] w fun e w' => e = .returned (.int .i64 1) ∧ Below w.heap.size w w' := by
  have hbA := (Below.refl w.heap.size w).alloc (Nat.le_refl _) (.cells #[.int .i64 op, .int .i64 a, .int .i64 b, .int .i64 t, sv] 65)
  have hxA := heap_alloc_new w (.cells #[.int .i64 op, .int .i64 a, .int .i64 b, .int .i64 t, sv] 65)
  generalize hwA : w.alloc (.cells #[.int .i64 op, .int .i64 a, .int .i64 b, .int .i64 t, sv] 65) = wA at *
  have z0 := (cell_of_row _ _ 0 _ _ _ hxA).trans rfl
  have z1 := (cell_of_row _ _ 1 _ _ _ hxA).trans rfl
  have z2 := (cell_of_row _ _ 2 _ _ _ hxA).trans rfl
  have z3 := (cell_of_row _ _ 3 _ _ _ hxA).trans rfl
  have z4 := (cell_of_row _ _ 4 _ _ _ hxA).trans rfl
  go_enter Try.func36, Try.ntmps36
  go_wp2_with fail
  go_ret
  exact ⟨rfl, hbA⟩
set_option maxRecDepth 100000 in
set_option maxHeartbeats 2000000 in
theorem rinstr_6 (a b t : Int) (sv : Value) (k n r : Nat) (w : World) (hk : k ≤ 2000) : Calls Try.prog 36 #[.agg #[.int .i64 6, .int .i64 a, .int .i64 b, .int .i64 t, sv], .int .i64 (k : Int), .int .i64 (n : Int), .int .i64 (r : Int)] w fun e w' => e = .returned (.int .i64 (if (k : Int) + 2 ≤ t ∧ t ≤ n then (if 1 ≤ a ∧ a ≤ 127 then 0 else 3) else 8)) ∧ Below w.heap.size w w' := by
  have hbA := (Below.refl w.heap.size w).alloc (Nat.le_refl _) (.cells #[.int .i64 6, .int .i64 a, .int .i64 b, .int .i64 t, sv] 65)
  have hxA := heap_alloc_new w (.cells #[.int .i64 6, .int .i64 a, .int .i64 b, .int .i64 t, sv] 65)
  generalize hwA : w.alloc (.cells #[.int .i64 6, .int .i64 a, .int .i64 b, .int .i64 t, sv] 65) = wA at *
  have z0 := (cell_of_row _ _ 0 _ _ _ hxA).trans rfl
  have z1 := (cell_of_row _ _ 1 _ _ _ hxA).trans rfl
  have z2 := (cell_of_row _ _ 2 _ _ _ hxA).trans rfl
  have z3 := (cell_of_row _ _ 3 _ _ _ hxA).trans rfl
  have z4 := (cell_of_row _ _ 4 _ _ _ hxA).trans rfl
  have hk0 : (0 : Int) ≤ (k : Int) := by omega
  have hk1 : (k : Int) ≤ 2000 := by omega
  by_cases h1 : (k : Int) + 2 ≤ t
  · have h1' : ¬ t < (k : Int) + 2 := by omega
    by_cases h2 : t ≤ n
    · have h2' : ¬ (n : Int) < t := by omega
      rw [if_pos ⟨h1, h2⟩]
      by_cases h3 : 1 ≤ a
      · have h3' : ¬ a < 1 := by omega
        by_cases h4 : a ≤ 127
        · rw [if_pos ⟨h3, h4⟩]
          have h4' : ¬ 127 < a := by omega
          go_enter Try.func36, Try.ntmps36
          go_upto_region 24 with fail
          obtain ⟨gx, hgx⟩ : ∃ q, w.heap.size = q := ⟨_, rfl⟩
          rw [hgx] at z0 z1 z2 z3 hbA
          simp only [hgx]
          refine wp_plain_JL (fun _ W => W = wA) (fun L _ => rfl) (fun _ _ _ _ h => h) (by kernel_rfl) (by kernel_rfl) (by kernel_rfl) [(some 88, .pointer (some ⟨gx, 0, none⟩)), (some 89, .int .i64 6), (some 90, .bool false), (some 91, .bool false), (some 92, undef), (some 93, undef), (some 94, undef), (some 95, undef), (some 96, undef), (some 97, undef), (some 98, undef), (some 99, undef), (some 100, undef), (some 101, undef), (some 102, undef), (some 103, undef), (some 104, undef), (some 105, undef), (some 106, undef), (some 107, .bool false)] [(88, .pointer (some ⟨gx, 0, none⟩)), (89, .int .i64 6), (90, .bool false), (91, .bool false), (92, undef), (93, undef), (94, undef), (95, undef), (96, undef), (97, undef), (98, undef), (99, undef), (100, undef), (101, undef), (102, undef), (103, undef), (104, undef), (105, undef), (106, undef), (107, .bool false)] (by kernel_rfl) (by kernel_rfl) (by kernel_rfl) ?_ ?_
          · intro i' d v o' L A W2 ho hv hLi hdep hc hJ hkept hhas
            match i', ho, hv, hLi with
            | 0, ho, hv, hLi =>
              cases Option.some.inj ho
              cases Option.some.inj hv
              subst hJ
              have h4 : A.tmps[4]?.getD undef = .pointer (some ⟨gx, 0, none⟩) := (gd A 4).trans (hkept 4 (by kernel_rfl))
              have zz := z0
              refine wpOp_step rfl (fun K hK => ?_)
              go_simp
              exact hK _ _ ⟨rfl, rfl⟩
            | 1, ho, hv, hLi =>
              cases Option.some.inj ho
              cases Option.some.inj hv
              subst hJ
              have h88 : A.tmps[88]?.getD undef = .pointer (some ⟨gx, 0, none⟩) := (gd A 88).trans (hhas 0 88 _ rfl (hdep ⟨0, .data⟩ (by simp) rfl))
              have zz := z0
              refine wpOp_step rfl (fun K hK => ?_)
              go_simp
              exact hK _ _ ⟨rfl, rfl⟩
            | 2, ho, hv, hLi =>
              cases Option.some.inj ho
              cases Option.some.inj hv
              subst hJ
              have h89 : A.tmps[89]?.getD undef = .int .i64 6 := (gd A 89).trans (hhas 1 89 _ rfl (hdep ⟨1, .data⟩ (by simp) rfl))
              refine wpOp_step rfl (fun K hK => ?_)
              go_simp
              exact hK _ _ ⟨rfl, rfl⟩
            | 3, ho, hv, hLi =>
              cases Option.some.inj ho
              cases Option.some.inj hv
              subst hJ
              have h90 : A.tmps[90]?.getD undef = .bool false := (gd A 90).trans (hhas 2 90 _ rfl (hdep ⟨2, .data⟩ (by simp) rfl))
              refine wpOp_step rfl (fun K hK => ?_)
              go_simp
              exact hK _ _ ⟨rfl, rfl⟩
            | 4, ho, hv, hLi =>
              cases Option.some.inj ho
              cases Option.some.inj hv
              subst hJ
              have hG : A.tmps[91]? = some (.bool false) := gdb (hhas 3 91 _ rfl (hdep ⟨3, .guard⟩ (by simp) rfl))
              refine wpOp_step rfl (fun K hK => ?_)
              go_simp
              exact hK _ _ ⟨rfl, rfl⟩
            | 5, ho, hv, hLi =>
              cases Option.some.inj ho
              cases Option.some.inj hv
              subst hJ
              have hG : A.tmps[91]? = some (.bool false) := gdb (hhas 3 91 _ rfl (hdep ⟨3, .guard⟩ (by simp) rfl))
              refine wpOp_step rfl (fun K hK => ?_)
              go_simp
              exact hK _ _ ⟨rfl, rfl⟩
            | 6, ho, hv, hLi =>
              cases Option.some.inj ho
              cases Option.some.inj hv
              subst hJ
              have hG : A.tmps[91]? = some (.bool false) := gdb (hhas 3 91 _ rfl (hdep ⟨3, .guard⟩ (by simp) rfl))
              refine wpOp_step rfl (fun K hK => ?_)
              go_simp
              exact hK _ _ ⟨rfl, rfl⟩
            | 7, ho, hv, hLi =>
              cases Option.some.inj ho
              cases Option.some.inj hv
              subst hJ
              have hG : A.tmps[91]? = some (.bool false) := gdb (hhas 3 91 _ rfl (hdep ⟨3, .guard⟩ (by simp) rfl))
              refine wpOp_step rfl (fun K hK => ?_)
              go_simp
              exact hK _ _ ⟨rfl, rfl⟩
            | 8, ho, hv, hLi =>
              cases Option.some.inj ho
              cases Option.some.inj hv
              subst hJ
              have hG : A.tmps[95]?.getD undef = undef := (gd A 95).trans (hhas 7 95 _ rfl (hdep ⟨7, .guard⟩ (by simp) rfl))
              refine wpOp_step rfl (fun K hK => ?_)
              rw [if_neg (unw9 (by rfl) (by rfl) hG)]
              exact hK _ _ ⟨rfl, rfl⟩
            | 9, ho, hv, hLi =>
              cases Option.some.inj ho
              cases Option.some.inj hv
              subst hJ
              have hG : A.tmps[95]?.getD undef = undef := (gd A 95).trans (hhas 7 95 _ rfl (hdep ⟨7, .guard⟩ (by simp) rfl))
              refine wpOp_step rfl (fun K hK => ?_)
              rw [if_neg (unw9 (by rfl) (by rfl) hG)]
              exact hK _ _ ⟨rfl, rfl⟩
            | 10, ho, hv, hLi =>
              cases Option.some.inj ho
              cases Option.some.inj hv
              subst hJ
              have hG : A.tmps[95]?.getD undef = undef := (gd A 95).trans (hhas 7 95 _ rfl (hdep ⟨7, .guard⟩ (by simp) rfl))
              refine wpOp_step rfl (fun K hK => ?_)
              rw [if_neg (unw9 (by rfl) (by rfl) hG)]
              exact hK _ _ ⟨rfl, rfl⟩
            | 11, ho, hv, hLi =>
              cases Option.some.inj ho
              cases Option.some.inj hv
              subst hJ
              have hG : A.tmps[95]?.getD undef = undef := (gd A 95).trans (hhas 7 95 _ rfl (hdep ⟨7, .guard⟩ (by simp) rfl))
              refine wpOp_step rfl (fun K hK => ?_)
              rw [if_neg (unw9 (by rfl) (by rfl) hG)]
              exact hK _ _ ⟨rfl, rfl⟩
            | 12, ho, hv, hLi =>
              cases Option.some.inj ho
              cases Option.some.inj hv
              subst hJ
              have hG : A.tmps[95]?.getD undef = undef := (gd A 95).trans (hhas 7 95 _ rfl (hdep ⟨7, .guard⟩ (by simp) rfl))
              refine wpOp_step rfl (fun K hK => ?_)
              rw [if_neg (unw9 (by rfl) (by rfl) hG)]
              exact hK _ _ ⟨rfl, rfl⟩
            | 13, ho, hv, hLi =>
              cases Option.some.inj ho
              cases Option.some.inj hv
              subst hJ
              have hG : A.tmps[91]? = some (.bool false) := gdb (hhas 3 91 _ rfl (hdep ⟨3, .guard⟩ (by simp) rfl))
              refine wpOp_step rfl (fun K hK => ?_)
              go_simp
              exact hK _ _ ⟨rfl, rfl⟩
            | 14, ho, hv, hLi =>
              cases Option.some.inj ho
              cases Option.some.inj hv
              subst hJ
              have hG : A.tmps[91]? = some (.bool false) := gdb (hhas 3 91 _ rfl (hdep ⟨3, .guard⟩ (by simp) rfl))
              refine wpOp_step rfl (fun K hK => ?_)
              go_simp
              exact hK _ _ ⟨rfl, rfl⟩
            | 15, ho, hv, hLi =>
              cases Option.some.inj ho
              cases Option.some.inj hv
              subst hJ
              have hG : A.tmps[102]?.getD undef = undef := (gd A 102).trans (hhas 14 102 _ rfl (hdep ⟨14, .guard⟩ (by simp) rfl))
              refine wpOp_step rfl (fun K hK => ?_)
              rw [if_neg (unw9 (by rfl) (by rfl) hG)]
              exact hK _ _ ⟨rfl, rfl⟩
            | 16, ho, hv, hLi =>
              cases Option.some.inj ho
              cases Option.some.inj hv
              subst hJ
              have hG : A.tmps[102]?.getD undef = undef := (gd A 102).trans (hhas 14 102 _ rfl (hdep ⟨14, .guard⟩ (by simp) rfl))
              refine wpOp_step rfl (fun K hK => ?_)
              rw [if_neg (unw9 (by rfl) (by rfl) hG)]
              exact hK _ _ ⟨rfl, rfl⟩
            | 17, ho, hv, hLi =>
              cases Option.some.inj ho
              cases Option.some.inj hv
              subst hJ
              have hG : A.tmps[102]?.getD undef = undef := (gd A 102).trans (hhas 14 102 _ rfl (hdep ⟨14, .guard⟩ (by simp) rfl))
              refine wpOp_step rfl (fun K hK => ?_)
              rw [if_neg (unw9 (by rfl) (by rfl) hG)]
              exact hK _ _ ⟨rfl, rfl⟩
            | 18, ho, hv, hLi =>
              cases Option.some.inj ho
              cases Option.some.inj hv
              subst hJ
              have hG : A.tmps[91]? = some (.bool false) := gdb (hhas 3 91 _ rfl (hdep ⟨3, .guard⟩ (by simp) rfl))
              refine wpOp_step rfl (fun K hK => ?_)
              go_simp
              exact hK _ _ ⟨rfl, rfl⟩
            | 19, ho, hv, hLi =>
              cases Option.some.inj ho
              cases Option.some.inj hv
              subst hJ
              have h91 : A.tmps[91]?.getD undef = .bool false := (gd A 91).trans (hhas 3 91 _ rfl (hdep ⟨3, .data⟩ (by simp) rfl))
              refine wpOp_step rfl (fun K hK => ?_)
              go_simp
              exact hK _ _ ⟨rfl, rfl⟩
            | kk + 20, ho, hv, hLi => simp at hv
          · intro L W5 hL hJ
            subst hJ
            simp only [putAll_cons, putAll_nil, Act.put, List.setIfInBounds_toArray, List.set_cons_succ, List.set_cons_zero]
            clear hL
            go_wp2_with fail
            go_ret
            exact ⟨rfl, hbA⟩
        · rw [if_neg (fun e => h4 e.2)]
          have h4' : 127 < a := by omega
          go_enter Try.func36, Try.ntmps36
          go_wp2_with fail
          go_ret
          exact ⟨rfl, hbA⟩
      · rw [if_neg (fun e => h3 e.1)]
        have h3' : a < 1 := by omega
        go_enter Try.func36, Try.ntmps36
        go_wp2_with fail
        go_ret
        exact ⟨rfl, hbA⟩
    · rw [if_neg (fun e => h2 e.2)]
      have h2' : (n : Int) < t := by omega
      go_enter Try.func36, Try.ntmps36
      go_wp2_with fail
      go_ret
      exact ⟨rfl, hbA⟩
  · rw [if_neg (fun e => h1 e.1)]
    have h1' : t < (k : Int) + 2 := by omega
    go_enter Try.func36, Try.ntmps36
    go_wp2_with fail
    go_ret
    exact ⟨rfl, hbA⟩
set_option maxRecDepth 100000 in
set_option maxHeartbeats 2000000 in
theorem rinstr_7 (a b t : Int) (sv : Value) (k n r : Nat) (w : World) (hk : k ≤ 2000) : Calls Try.prog 36 #[.agg #[.int .i64 7, .int .i64 a, .int .i64 b, .int .i64 t, sv], .int .i64 (k : Int), .int .i64 (n : Int), .int .i64 (r : Int)] w fun e w' => e = .returned (.int .i64 (if (k : Int) + 2 ≤ t ∧ t ≤ n then (if 0 ≤ a ∧ a ≤ b ∧ b < 146097 then 0 else 3) else 8)) ∧ Below w.heap.size w w' := by
  have hbA := (Below.refl w.heap.size w).alloc (Nat.le_refl _) (.cells #[.int .i64 7, .int .i64 a, .int .i64 b, .int .i64 t, sv] 65)
  have hxA := heap_alloc_new w (.cells #[.int .i64 7, .int .i64 a, .int .i64 b, .int .i64 t, sv] 65)
  generalize hwA : w.alloc (.cells #[.int .i64 7, .int .i64 a, .int .i64 b, .int .i64 t, sv] 65) = wA at *
  have z0 := (cell_of_row _ _ 0 _ _ _ hxA).trans rfl
  have z1 := (cell_of_row _ _ 1 _ _ _ hxA).trans rfl
  have z2 := (cell_of_row _ _ 2 _ _ _ hxA).trans rfl
  have z3 := (cell_of_row _ _ 3 _ _ _ hxA).trans rfl
  have z4 := (cell_of_row _ _ 4 _ _ _ hxA).trans rfl
  have hk0 : (0 : Int) ≤ (k : Int) := by omega
  have hk1 : (k : Int) ≤ 2000 := by omega
  by_cases h1 : (k : Int) + 2 ≤ t
  · have h1' : ¬ t < (k : Int) + 2 := by omega
    by_cases h2 : t ≤ n
    · have h2' : ¬ (n : Int) < t := by omega
      rw [if_pos ⟨h1, h2⟩]
      by_cases h3 : 0 ≤ a
      · have h3' : ¬ a < 0 := by omega
        by_cases h4 : a ≤ b
        · have h4' : ¬ b < a := by omega
          by_cases h5 : b < 146097
          · have h5' : ¬ 146097 ≤ b := by omega
            rw [if_pos ⟨h3, h4, h5⟩]
            go_enter Try.func36, Try.ntmps36
            go_upto_region 22 with fail
            obtain ⟨gx, hgx⟩ : ∃ q, w.heap.size = q := ⟨_, rfl⟩
            rw [hgx] at z0 z1 z2 z3 hbA
            simp only [hgx]
            refine wp_plain_JL (fun _ W => W = wA) (fun L _ => rfl) (fun _ _ _ _ h => h) (by kernel_rfl) (by kernel_rfl) (by kernel_rfl) [(some 75, .pointer (some ⟨gx, 0, none⟩)), (some 76, .int .i64 7), (some 77, .bool false), (some 78, .bool false), (some 79, undef), (some 80, undef), (some 81, undef), (some 82, undef), (some 83, undef), (some 84, undef), (some 85, undef), (some 86, undef), (some 87, .bool false)] [(75, .pointer (some ⟨gx, 0, none⟩)), (76, .int .i64 7), (77, .bool false), (78, .bool false), (79, undef), (80, undef), (81, undef), (82, undef), (83, undef), (84, undef), (85, undef), (86, undef), (87, .bool false)] (by kernel_rfl) (by kernel_rfl) (by kernel_rfl) ?_ ?_
            · intro i' d v o' L A W2 ho hv hLi hdep hc hJ hkept hhas
              match i', ho, hv, hLi with
              | 0, ho, hv, hLi =>
                cases Option.some.inj ho
                cases Option.some.inj hv
                subst hJ
                have h4 : A.tmps[4]?.getD undef = .pointer (some ⟨gx, 0, none⟩) := (gd A 4).trans (hkept 4 (by kernel_rfl))
                have zz := z0
                refine wpOp_step rfl (fun K hK => ?_)
                go_simp
                exact hK _ _ ⟨rfl, rfl⟩
              | 1, ho, hv, hLi =>
                cases Option.some.inj ho
                cases Option.some.inj hv
                subst hJ
                have h75 : A.tmps[75]?.getD undef = .pointer (some ⟨gx, 0, none⟩) := (gd A 75).trans (hhas 0 75 _ rfl (hdep ⟨0, .data⟩ (by simp) rfl))
                have zz := z0
                refine wpOp_step rfl (fun K hK => ?_)
                go_simp
                exact hK _ _ ⟨rfl, rfl⟩
              | 2, ho, hv, hLi =>
                cases Option.some.inj ho
                cases Option.some.inj hv
                subst hJ
                have h76 : A.tmps[76]?.getD undef = .int .i64 7 := (gd A 76).trans (hhas 1 76 _ rfl (hdep ⟨1, .data⟩ (by simp) rfl))
                refine wpOp_step rfl (fun K hK => ?_)
                go_simp
                exact hK _ _ ⟨rfl, rfl⟩
              | 3, ho, hv, hLi =>
                cases Option.some.inj ho
                cases Option.some.inj hv
                subst hJ
                have h77 : A.tmps[77]?.getD undef = .bool false := (gd A 77).trans (hhas 2 77 _ rfl (hdep ⟨2, .data⟩ (by simp) rfl))
                refine wpOp_step rfl (fun K hK => ?_)
                go_simp
                exact hK _ _ ⟨rfl, rfl⟩
              | 4, ho, hv, hLi =>
                cases Option.some.inj ho
                cases Option.some.inj hv
                subst hJ
                have hG : A.tmps[78]? = some (.bool false) := gdb (hhas 3 78 _ rfl (hdep ⟨3, .guard⟩ (by simp) rfl))
                refine wpOp_step rfl (fun K hK => ?_)
                go_simp
                exact hK _ _ ⟨rfl, rfl⟩
              | 5, ho, hv, hLi =>
                cases Option.some.inj ho
                cases Option.some.inj hv
                subst hJ
                have hG : A.tmps[78]? = some (.bool false) := gdb (hhas 3 78 _ rfl (hdep ⟨3, .guard⟩ (by simp) rfl))
                refine wpOp_step rfl (fun K hK => ?_)
                go_simp
                exact hK _ _ ⟨rfl, rfl⟩
              | 6, ho, hv, hLi =>
                cases Option.some.inj ho
                cases Option.some.inj hv
                subst hJ
                have hG : A.tmps[78]? = some (.bool false) := gdb (hhas 3 78 _ rfl (hdep ⟨3, .guard⟩ (by simp) rfl))
                refine wpOp_step rfl (fun K hK => ?_)
                go_simp
                exact hK _ _ ⟨rfl, rfl⟩
              | 7, ho, hv, hLi =>
                cases Option.some.inj ho
                cases Option.some.inj hv
                subst hJ
                have hG : A.tmps[78]? = some (.bool false) := gdb (hhas 3 78 _ rfl (hdep ⟨3, .guard⟩ (by simp) rfl))
                refine wpOp_step rfl (fun K hK => ?_)
                go_simp
                exact hK _ _ ⟨rfl, rfl⟩
              | 8, ho, hv, hLi =>
                cases Option.some.inj ho
                cases Option.some.inj hv
                subst hJ
                have hG : A.tmps[82]?.getD undef = undef := (gd A 82).trans (hhas 7 82 _ rfl (hdep ⟨7, .guard⟩ (by simp) rfl))
                refine wpOp_step rfl (fun K hK => ?_)
                rw [if_neg (unw9 (by rfl) (by rfl) hG)]
                exact hK _ _ ⟨rfl, rfl⟩
              | 9, ho, hv, hLi =>
                cases Option.some.inj ho
                cases Option.some.inj hv
                subst hJ
                have hG : A.tmps[82]?.getD undef = undef := (gd A 82).trans (hhas 7 82 _ rfl (hdep ⟨7, .guard⟩ (by simp) rfl))
                refine wpOp_step rfl (fun K hK => ?_)
                rw [if_neg (unw9 (by rfl) (by rfl) hG)]
                exact hK _ _ ⟨rfl, rfl⟩
              | 10, ho, hv, hLi =>
                cases Option.some.inj ho
                cases Option.some.inj hv
                subst hJ
                have hG : A.tmps[82]?.getD undef = undef := (gd A 82).trans (hhas 7 82 _ rfl (hdep ⟨7, .guard⟩ (by simp) rfl))
                refine wpOp_step rfl (fun K hK => ?_)
                rw [if_neg (unw9 (by rfl) (by rfl) hG)]
                exact hK _ _ ⟨rfl, rfl⟩
              | 11, ho, hv, hLi =>
                cases Option.some.inj ho
                cases Option.some.inj hv
                subst hJ
                have hG : A.tmps[78]? = some (.bool false) := gdb (hhas 3 78 _ rfl (hdep ⟨3, .guard⟩ (by simp) rfl))
                refine wpOp_step rfl (fun K hK => ?_)
                go_simp
                exact hK _ _ ⟨rfl, rfl⟩
              | 12, ho, hv, hLi =>
                cases Option.some.inj ho
                cases Option.some.inj hv
                subst hJ
                have h78 : A.tmps[78]?.getD undef = .bool false := (gd A 78).trans (hhas 3 78 _ rfl (hdep ⟨3, .data⟩ (by simp) rfl))
                refine wpOp_step rfl (fun K hK => ?_)
                go_simp
                exact hK _ _ ⟨rfl, rfl⟩
              | kk + 13, ho, hv, hLi => simp at hv
            · intro L W5 hL hJ
              subst hJ
              simp only [putAll_cons, putAll_nil, Act.put, List.setIfInBounds_toArray, List.set_cons_succ, List.set_cons_zero]
              clear hL
              go_wp2_with fail
              go_ret
              exact ⟨rfl, hbA⟩
          · have h5' : 146097 ≤ b := by omega
            rw [if_neg (fun e => h5 e.2.2)]
            go_enter Try.func36, Try.ntmps36
            go_upto_region 22 with fail
            obtain ⟨gx, hgx⟩ : ∃ q, w.heap.size = q := ⟨_, rfl⟩
            rw [hgx] at z0 z1 z2 z3 hbA
            simp only [hgx]
            refine wp_plain_JL (fun _ W => W = wA) (fun L _ => rfl) (fun _ _ _ _ h => h) (by kernel_rfl) (by kernel_rfl) (by kernel_rfl) [(some 75, .pointer (some ⟨gx, 0, none⟩)), (some 76, .int .i64 7), (some 77, .bool false), (some 78, .bool false), (some 79, undef), (some 80, undef), (some 81, undef), (some 82, undef), (some 83, undef), (some 84, undef), (some 85, undef), (some 86, undef), (some 87, .bool false)] [(75, .pointer (some ⟨gx, 0, none⟩)), (76, .int .i64 7), (77, .bool false), (78, .bool false), (79, undef), (80, undef), (81, undef), (82, undef), (83, undef), (84, undef), (85, undef), (86, undef), (87, .bool false)] (by kernel_rfl) (by kernel_rfl) (by kernel_rfl) ?_ ?_
            · intro i' d v o' L A W2 ho hv hLi hdep hc hJ hkept hhas
              match i', ho, hv, hLi with
              | 0, ho, hv, hLi =>
                cases Option.some.inj ho
                cases Option.some.inj hv
                subst hJ
                have h4 : A.tmps[4]?.getD undef = .pointer (some ⟨gx, 0, none⟩) := (gd A 4).trans (hkept 4 (by kernel_rfl))
                have zz := z0
                refine wpOp_step rfl (fun K hK => ?_)
                go_simp
                exact hK _ _ ⟨rfl, rfl⟩
              | 1, ho, hv, hLi =>
                cases Option.some.inj ho
                cases Option.some.inj hv
                subst hJ
                have h75 : A.tmps[75]?.getD undef = .pointer (some ⟨gx, 0, none⟩) := (gd A 75).trans (hhas 0 75 _ rfl (hdep ⟨0, .data⟩ (by simp) rfl))
                have zz := z0
                refine wpOp_step rfl (fun K hK => ?_)
                go_simp
                exact hK _ _ ⟨rfl, rfl⟩
              | 2, ho, hv, hLi =>
                cases Option.some.inj ho
                cases Option.some.inj hv
                subst hJ
                have h76 : A.tmps[76]?.getD undef = .int .i64 7 := (gd A 76).trans (hhas 1 76 _ rfl (hdep ⟨1, .data⟩ (by simp) rfl))
                refine wpOp_step rfl (fun K hK => ?_)
                go_simp
                exact hK _ _ ⟨rfl, rfl⟩
              | 3, ho, hv, hLi =>
                cases Option.some.inj ho
                cases Option.some.inj hv
                subst hJ
                have h77 : A.tmps[77]?.getD undef = .bool false := (gd A 77).trans (hhas 2 77 _ rfl (hdep ⟨2, .data⟩ (by simp) rfl))
                refine wpOp_step rfl (fun K hK => ?_)
                go_simp
                exact hK _ _ ⟨rfl, rfl⟩
              | 4, ho, hv, hLi =>
                cases Option.some.inj ho
                cases Option.some.inj hv
                subst hJ
                have hG : A.tmps[78]? = some (.bool false) := gdb (hhas 3 78 _ rfl (hdep ⟨3, .guard⟩ (by simp) rfl))
                refine wpOp_step rfl (fun K hK => ?_)
                go_simp
                exact hK _ _ ⟨rfl, rfl⟩
              | 5, ho, hv, hLi =>
                cases Option.some.inj ho
                cases Option.some.inj hv
                subst hJ
                have hG : A.tmps[78]? = some (.bool false) := gdb (hhas 3 78 _ rfl (hdep ⟨3, .guard⟩ (by simp) rfl))
                refine wpOp_step rfl (fun K hK => ?_)
                go_simp
                exact hK _ _ ⟨rfl, rfl⟩
              | 6, ho, hv, hLi =>
                cases Option.some.inj ho
                cases Option.some.inj hv
                subst hJ
                have hG : A.tmps[78]? = some (.bool false) := gdb (hhas 3 78 _ rfl (hdep ⟨3, .guard⟩ (by simp) rfl))
                refine wpOp_step rfl (fun K hK => ?_)
                go_simp
                exact hK _ _ ⟨rfl, rfl⟩
              | 7, ho, hv, hLi =>
                cases Option.some.inj ho
                cases Option.some.inj hv
                subst hJ
                have hG : A.tmps[78]? = some (.bool false) := gdb (hhas 3 78 _ rfl (hdep ⟨3, .guard⟩ (by simp) rfl))
                refine wpOp_step rfl (fun K hK => ?_)
                go_simp
                exact hK _ _ ⟨rfl, rfl⟩
              | 8, ho, hv, hLi =>
                cases Option.some.inj ho
                cases Option.some.inj hv
                subst hJ
                have hG : A.tmps[82]?.getD undef = undef := (gd A 82).trans (hhas 7 82 _ rfl (hdep ⟨7, .guard⟩ (by simp) rfl))
                refine wpOp_step rfl (fun K hK => ?_)
                rw [if_neg (unw9 (by rfl) (by rfl) hG)]
                exact hK _ _ ⟨rfl, rfl⟩
              | 9, ho, hv, hLi =>
                cases Option.some.inj ho
                cases Option.some.inj hv
                subst hJ
                have hG : A.tmps[82]?.getD undef = undef := (gd A 82).trans (hhas 7 82 _ rfl (hdep ⟨7, .guard⟩ (by simp) rfl))
                refine wpOp_step rfl (fun K hK => ?_)
                rw [if_neg (unw9 (by rfl) (by rfl) hG)]
                exact hK _ _ ⟨rfl, rfl⟩
              | 10, ho, hv, hLi =>
                cases Option.some.inj ho
                cases Option.some.inj hv
                subst hJ
                have hG : A.tmps[82]?.getD undef = undef := (gd A 82).trans (hhas 7 82 _ rfl (hdep ⟨7, .guard⟩ (by simp) rfl))
                refine wpOp_step rfl (fun K hK => ?_)
                rw [if_neg (unw9 (by rfl) (by rfl) hG)]
                exact hK _ _ ⟨rfl, rfl⟩
              | 11, ho, hv, hLi =>
                cases Option.some.inj ho
                cases Option.some.inj hv
                subst hJ
                have hG : A.tmps[78]? = some (.bool false) := gdb (hhas 3 78 _ rfl (hdep ⟨3, .guard⟩ (by simp) rfl))
                refine wpOp_step rfl (fun K hK => ?_)
                go_simp
                exact hK _ _ ⟨rfl, rfl⟩
              | 12, ho, hv, hLi =>
                cases Option.some.inj ho
                cases Option.some.inj hv
                subst hJ
                have h78 : A.tmps[78]?.getD undef = .bool false := (gd A 78).trans (hhas 3 78 _ rfl (hdep ⟨3, .data⟩ (by simp) rfl))
                refine wpOp_step rfl (fun K hK => ?_)
                go_simp
                exact hK _ _ ⟨rfl, rfl⟩
              | kk + 13, ho, hv, hLi => simp at hv
            · intro L W5 hL hJ
              subst hJ
              simp only [putAll_cons, putAll_nil, Act.put, List.setIfInBounds_toArray, List.set_cons_succ, List.set_cons_zero]
              clear hL
              go_wp2_with fail
              go_ret
              exact ⟨rfl, hbA⟩
        · have h4' : b < a := by omega
          rw [if_neg (fun e => h4 e.2.1)]
          go_enter Try.func36, Try.ntmps36
          go_upto_region 22 with fail
          obtain ⟨gx, hgx⟩ : ∃ q, w.heap.size = q := ⟨_, rfl⟩
          rw [hgx] at z0 z1 z2 z3 hbA
          simp only [hgx]
          refine wp_plain_JL (fun _ W => W = wA) (fun L _ => rfl) (fun _ _ _ _ h => h) (by kernel_rfl) (by kernel_rfl) (by kernel_rfl) [(some 75, .pointer (some ⟨gx, 0, none⟩)), (some 76, .int .i64 7), (some 77, .bool false), (some 78, .bool false), (some 79, undef), (some 80, undef), (some 81, undef), (some 82, undef), (some 83, undef), (some 84, undef), (some 85, undef), (some 86, undef), (some 87, .bool false)] [(75, .pointer (some ⟨gx, 0, none⟩)), (76, .int .i64 7), (77, .bool false), (78, .bool false), (79, undef), (80, undef), (81, undef), (82, undef), (83, undef), (84, undef), (85, undef), (86, undef), (87, .bool false)] (by kernel_rfl) (by kernel_rfl) (by kernel_rfl) ?_ ?_
          · intro i' d v o' L A W2 ho hv hLi hdep hc hJ hkept hhas
            match i', ho, hv, hLi with
            | 0, ho, hv, hLi =>
              cases Option.some.inj ho
              cases Option.some.inj hv
              subst hJ
              have h4 : A.tmps[4]?.getD undef = .pointer (some ⟨gx, 0, none⟩) := (gd A 4).trans (hkept 4 (by kernel_rfl))
              have zz := z0
              refine wpOp_step rfl (fun K hK => ?_)
              go_simp
              exact hK _ _ ⟨rfl, rfl⟩
            | 1, ho, hv, hLi =>
              cases Option.some.inj ho
              cases Option.some.inj hv
              subst hJ
              have h75 : A.tmps[75]?.getD undef = .pointer (some ⟨gx, 0, none⟩) := (gd A 75).trans (hhas 0 75 _ rfl (hdep ⟨0, .data⟩ (by simp) rfl))
              have zz := z0
              refine wpOp_step rfl (fun K hK => ?_)
              go_simp
              exact hK _ _ ⟨rfl, rfl⟩
            | 2, ho, hv, hLi =>
              cases Option.some.inj ho
              cases Option.some.inj hv
              subst hJ
              have h76 : A.tmps[76]?.getD undef = .int .i64 7 := (gd A 76).trans (hhas 1 76 _ rfl (hdep ⟨1, .data⟩ (by simp) rfl))
              refine wpOp_step rfl (fun K hK => ?_)
              go_simp
              exact hK _ _ ⟨rfl, rfl⟩
            | 3, ho, hv, hLi =>
              cases Option.some.inj ho
              cases Option.some.inj hv
              subst hJ
              have h77 : A.tmps[77]?.getD undef = .bool false := (gd A 77).trans (hhas 2 77 _ rfl (hdep ⟨2, .data⟩ (by simp) rfl))
              refine wpOp_step rfl (fun K hK => ?_)
              go_simp
              exact hK _ _ ⟨rfl, rfl⟩
            | 4, ho, hv, hLi =>
              cases Option.some.inj ho
              cases Option.some.inj hv
              subst hJ
              have hG : A.tmps[78]? = some (.bool false) := gdb (hhas 3 78 _ rfl (hdep ⟨3, .guard⟩ (by simp) rfl))
              refine wpOp_step rfl (fun K hK => ?_)
              go_simp
              exact hK _ _ ⟨rfl, rfl⟩
            | 5, ho, hv, hLi =>
              cases Option.some.inj ho
              cases Option.some.inj hv
              subst hJ
              have hG : A.tmps[78]? = some (.bool false) := gdb (hhas 3 78 _ rfl (hdep ⟨3, .guard⟩ (by simp) rfl))
              refine wpOp_step rfl (fun K hK => ?_)
              go_simp
              exact hK _ _ ⟨rfl, rfl⟩
            | 6, ho, hv, hLi =>
              cases Option.some.inj ho
              cases Option.some.inj hv
              subst hJ
              have hG : A.tmps[78]? = some (.bool false) := gdb (hhas 3 78 _ rfl (hdep ⟨3, .guard⟩ (by simp) rfl))
              refine wpOp_step rfl (fun K hK => ?_)
              go_simp
              exact hK _ _ ⟨rfl, rfl⟩
            | 7, ho, hv, hLi =>
              cases Option.some.inj ho
              cases Option.some.inj hv
              subst hJ
              have hG : A.tmps[78]? = some (.bool false) := gdb (hhas 3 78 _ rfl (hdep ⟨3, .guard⟩ (by simp) rfl))
              refine wpOp_step rfl (fun K hK => ?_)
              go_simp
              exact hK _ _ ⟨rfl, rfl⟩
            | 8, ho, hv, hLi =>
              cases Option.some.inj ho
              cases Option.some.inj hv
              subst hJ
              have hG : A.tmps[82]?.getD undef = undef := (gd A 82).trans (hhas 7 82 _ rfl (hdep ⟨7, .guard⟩ (by simp) rfl))
              refine wpOp_step rfl (fun K hK => ?_)
              rw [if_neg (unw9 (by rfl) (by rfl) hG)]
              exact hK _ _ ⟨rfl, rfl⟩
            | 9, ho, hv, hLi =>
              cases Option.some.inj ho
              cases Option.some.inj hv
              subst hJ
              have hG : A.tmps[82]?.getD undef = undef := (gd A 82).trans (hhas 7 82 _ rfl (hdep ⟨7, .guard⟩ (by simp) rfl))
              refine wpOp_step rfl (fun K hK => ?_)
              rw [if_neg (unw9 (by rfl) (by rfl) hG)]
              exact hK _ _ ⟨rfl, rfl⟩
            | 10, ho, hv, hLi =>
              cases Option.some.inj ho
              cases Option.some.inj hv
              subst hJ
              have hG : A.tmps[82]?.getD undef = undef := (gd A 82).trans (hhas 7 82 _ rfl (hdep ⟨7, .guard⟩ (by simp) rfl))
              refine wpOp_step rfl (fun K hK => ?_)
              rw [if_neg (unw9 (by rfl) (by rfl) hG)]
              exact hK _ _ ⟨rfl, rfl⟩
            | 11, ho, hv, hLi =>
              cases Option.some.inj ho
              cases Option.some.inj hv
              subst hJ
              have hG : A.tmps[78]? = some (.bool false) := gdb (hhas 3 78 _ rfl (hdep ⟨3, .guard⟩ (by simp) rfl))
              refine wpOp_step rfl (fun K hK => ?_)
              go_simp
              exact hK _ _ ⟨rfl, rfl⟩
            | 12, ho, hv, hLi =>
              cases Option.some.inj ho
              cases Option.some.inj hv
              subst hJ
              have h78 : A.tmps[78]?.getD undef = .bool false := (gd A 78).trans (hhas 3 78 _ rfl (hdep ⟨3, .data⟩ (by simp) rfl))
              refine wpOp_step rfl (fun K hK => ?_)
              go_simp
              exact hK _ _ ⟨rfl, rfl⟩
            | kk + 13, ho, hv, hLi => simp at hv
          · intro L W5 hL hJ
            subst hJ
            simp only [putAll_cons, putAll_nil, Act.put, List.setIfInBounds_toArray, List.set_cons_succ, List.set_cons_zero]
            clear hL
            go_wp2_with fail
            go_ret
            exact ⟨rfl, hbA⟩
      · have h3' : a < 0 := by omega
        rw [if_neg (fun e => h3 e.1)]
        go_enter Try.func36, Try.ntmps36
        go_upto_region 22 with fail
        obtain ⟨gx, hgx⟩ : ∃ q, w.heap.size = q := ⟨_, rfl⟩
        rw [hgx] at z0 z1 z2 z3 hbA
        simp only [hgx]
        refine wp_plain_JL (fun _ W => W = wA) (fun L _ => rfl) (fun _ _ _ _ h => h) (by kernel_rfl) (by kernel_rfl) (by kernel_rfl) [(some 75, .pointer (some ⟨gx, 0, none⟩)), (some 76, .int .i64 7), (some 77, .bool false), (some 78, .bool false), (some 79, undef), (some 80, undef), (some 81, undef), (some 82, undef), (some 83, undef), (some 84, undef), (some 85, undef), (some 86, undef), (some 87, .bool false)] [(75, .pointer (some ⟨gx, 0, none⟩)), (76, .int .i64 7), (77, .bool false), (78, .bool false), (79, undef), (80, undef), (81, undef), (82, undef), (83, undef), (84, undef), (85, undef), (86, undef), (87, .bool false)] (by kernel_rfl) (by kernel_rfl) (by kernel_rfl) ?_ ?_
        · intro i' d v o' L A W2 ho hv hLi hdep hc hJ hkept hhas
          match i', ho, hv, hLi with
          | 0, ho, hv, hLi =>
            cases Option.some.inj ho
            cases Option.some.inj hv
            subst hJ
            have h4 : A.tmps[4]?.getD undef = .pointer (some ⟨gx, 0, none⟩) := (gd A 4).trans (hkept 4 (by kernel_rfl))
            have zz := z0
            refine wpOp_step rfl (fun K hK => ?_)
            go_simp
            exact hK _ _ ⟨rfl, rfl⟩
          | 1, ho, hv, hLi =>
            cases Option.some.inj ho
            cases Option.some.inj hv
            subst hJ
            have h75 : A.tmps[75]?.getD undef = .pointer (some ⟨gx, 0, none⟩) := (gd A 75).trans (hhas 0 75 _ rfl (hdep ⟨0, .data⟩ (by simp) rfl))
            have zz := z0
            refine wpOp_step rfl (fun K hK => ?_)
            go_simp
            exact hK _ _ ⟨rfl, rfl⟩
          | 2, ho, hv, hLi =>
            cases Option.some.inj ho
            cases Option.some.inj hv
            subst hJ
            have h76 : A.tmps[76]?.getD undef = .int .i64 7 := (gd A 76).trans (hhas 1 76 _ rfl (hdep ⟨1, .data⟩ (by simp) rfl))
            refine wpOp_step rfl (fun K hK => ?_)
            go_simp
            exact hK _ _ ⟨rfl, rfl⟩
          | 3, ho, hv, hLi =>
            cases Option.some.inj ho
            cases Option.some.inj hv
            subst hJ
            have h77 : A.tmps[77]?.getD undef = .bool false := (gd A 77).trans (hhas 2 77 _ rfl (hdep ⟨2, .data⟩ (by simp) rfl))
            refine wpOp_step rfl (fun K hK => ?_)
            go_simp
            exact hK _ _ ⟨rfl, rfl⟩
          | 4, ho, hv, hLi =>
            cases Option.some.inj ho
            cases Option.some.inj hv
            subst hJ
            have hG : A.tmps[78]? = some (.bool false) := gdb (hhas 3 78 _ rfl (hdep ⟨3, .guard⟩ (by simp) rfl))
            refine wpOp_step rfl (fun K hK => ?_)
            go_simp
            exact hK _ _ ⟨rfl, rfl⟩
          | 5, ho, hv, hLi =>
            cases Option.some.inj ho
            cases Option.some.inj hv
            subst hJ
            have hG : A.tmps[78]? = some (.bool false) := gdb (hhas 3 78 _ rfl (hdep ⟨3, .guard⟩ (by simp) rfl))
            refine wpOp_step rfl (fun K hK => ?_)
            go_simp
            exact hK _ _ ⟨rfl, rfl⟩
          | 6, ho, hv, hLi =>
            cases Option.some.inj ho
            cases Option.some.inj hv
            subst hJ
            have hG : A.tmps[78]? = some (.bool false) := gdb (hhas 3 78 _ rfl (hdep ⟨3, .guard⟩ (by simp) rfl))
            refine wpOp_step rfl (fun K hK => ?_)
            go_simp
            exact hK _ _ ⟨rfl, rfl⟩
          | 7, ho, hv, hLi =>
            cases Option.some.inj ho
            cases Option.some.inj hv
            subst hJ
            have hG : A.tmps[78]? = some (.bool false) := gdb (hhas 3 78 _ rfl (hdep ⟨3, .guard⟩ (by simp) rfl))
            refine wpOp_step rfl (fun K hK => ?_)
            go_simp
            exact hK _ _ ⟨rfl, rfl⟩
          | 8, ho, hv, hLi =>
            cases Option.some.inj ho
            cases Option.some.inj hv
            subst hJ
            have hG : A.tmps[82]?.getD undef = undef := (gd A 82).trans (hhas 7 82 _ rfl (hdep ⟨7, .guard⟩ (by simp) rfl))
            refine wpOp_step rfl (fun K hK => ?_)
            rw [if_neg (unw9 (by rfl) (by rfl) hG)]
            exact hK _ _ ⟨rfl, rfl⟩
          | 9, ho, hv, hLi =>
            cases Option.some.inj ho
            cases Option.some.inj hv
            subst hJ
            have hG : A.tmps[82]?.getD undef = undef := (gd A 82).trans (hhas 7 82 _ rfl (hdep ⟨7, .guard⟩ (by simp) rfl))
            refine wpOp_step rfl (fun K hK => ?_)
            rw [if_neg (unw9 (by rfl) (by rfl) hG)]
            exact hK _ _ ⟨rfl, rfl⟩
          | 10, ho, hv, hLi =>
            cases Option.some.inj ho
            cases Option.some.inj hv
            subst hJ
            have hG : A.tmps[82]?.getD undef = undef := (gd A 82).trans (hhas 7 82 _ rfl (hdep ⟨7, .guard⟩ (by simp) rfl))
            refine wpOp_step rfl (fun K hK => ?_)
            rw [if_neg (unw9 (by rfl) (by rfl) hG)]
            exact hK _ _ ⟨rfl, rfl⟩
          | 11, ho, hv, hLi =>
            cases Option.some.inj ho
            cases Option.some.inj hv
            subst hJ
            have hG : A.tmps[78]? = some (.bool false) := gdb (hhas 3 78 _ rfl (hdep ⟨3, .guard⟩ (by simp) rfl))
            refine wpOp_step rfl (fun K hK => ?_)
            go_simp
            exact hK _ _ ⟨rfl, rfl⟩
          | 12, ho, hv, hLi =>
            cases Option.some.inj ho
            cases Option.some.inj hv
            subst hJ
            have h78 : A.tmps[78]?.getD undef = .bool false := (gd A 78).trans (hhas 3 78 _ rfl (hdep ⟨3, .data⟩ (by simp) rfl))
            refine wpOp_step rfl (fun K hK => ?_)
            go_simp
            exact hK _ _ ⟨rfl, rfl⟩
          | kk + 13, ho, hv, hLi => simp at hv
        · intro L W5 hL hJ
          subst hJ
          simp only [putAll_cons, putAll_nil, Act.put, List.setIfInBounds_toArray, List.set_cons_succ, List.set_cons_zero]
          clear hL
          go_wp2_with fail
          go_ret
          exact ⟨rfl, hbA⟩
    · rw [if_neg (fun e => h2 e.2)]
      have h2' : (n : Int) < t := by omega
      go_enter Try.func36, Try.ntmps36
      go_wp2_with fail
      go_ret
      exact ⟨rfl, hbA⟩
  · rw [if_neg (fun e => h1 e.1)]
    have h1' : t < (k : Int) + 2 := by omega
    go_enter Try.func36, Try.ntmps36
    go_wp2_with fail
    go_ret
    exact ⟨rfl, hbA⟩
theorem rinstr_any (x : In) (sv : Value) (k n r : Nat) (w : World) (h : RowV w sv x.sp) (hk : k ≤ 2000) : Calls Try.prog 36 #[.agg #[.int .i64 x.op, .int .i64 x.a, .int .i64 x.b, .int .i64 x.to, sv], .int .i64 (k : Int), .int .i64 (n : Int), .int .i64 (r : Int)] w fun e w' => e = .returned (.int .i64 (insE x k n r)) ∧ Below w.heap.size w w' := by
  obtain ⟨op, a, b, t, sp⟩ := x
  dsimp only at h ⊢
  unfold insE
  dsimp only
  by_cases h2 : op = 2
  · subst h2; exact rinstr_2 a b t sv k n r w
  by_cases h3 : op = 3
  · subst h3; exact rinstr_3 a b t sv k n r w
  by_cases h4 : op = 4
  · subst h4; exact rinstr_4 a b t sv k n r w
  rw [if_neg (by omega)]
  by_cases h1 : op = 1
  · subst h1; exact rinstr_1 a b t sv k n r w sp h
  rw [if_neg h1]
  by_cases h5 : op = 5
  · subst h5; exact rinstr_5 a b t sv k n r w
  rw [if_neg h5]
  by_cases h6 : op = 6
  · subst h6; exact rinstr_6 a b t sv k n r w hk
  rw [if_neg h6]
  by_cases h7 : op = 7
  · subst h7; exact rinstr_7 a b t sv k n r w hk
  rw [if_neg h7]
  by_cases h8 : op = 8
  · subst h8; exact rinstr_8 a b t sv k n r w
  rw [if_neg h8]
  exact rinstr_0 op a b t sv k n r w (beq_eq_false_iff_ne.2 h1) (beq_eq_false_iff_ne.2 h2) (beq_eq_false_iff_ne.2 h3) (beq_eq_false_iff_ne.2 h4) (beq_eq_false_iff_ne.2 h5) (beq_eq_false_iff_ne.2 h6) (beq_eq_false_iff_ne.2 h7) (beq_eq_false_iff_ne.2 h8)
end Go.Proofs.Ytaeengpppehlfaa
