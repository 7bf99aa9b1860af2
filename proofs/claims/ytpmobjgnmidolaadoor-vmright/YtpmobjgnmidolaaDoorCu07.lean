/- Code in memory; what is wrong with a rule's code by itself. Written by genvmc.py. -/
import Derived.Test.YtpmobjgnmidolaaDoorCu06
import Derived.Laws.EntriesVeiled
import Derived.Deep.OwnRows
namespace Go.Proofs.YtpmobjgnmidolaaDoor
open Go.RowKit Msk Vx

/-- Instructions in memory. -/
def InsRow (w : World) (v : Value) (xs : List (In × Value)) : Prop := ∃ p c, v = .slice p xs.length c ∧ xs.length < 9223372036854775808 ∧ ∀ (j : Nat) (x : In × Value), xs[j]? = some x → RowV w x.2 x.1.sp ∧ ∃ g o : Nat, p = some ⟨g, o, none⟩ ∧
  w.cell? ⟨g, o + j * 5, none⟩ = some (.int .i64 x.1.op) ∧ w.cell? ⟨g, o + j * 5 + 1, none⟩ = some (.int .i64 x.1.a) ∧ w.cell? ⟨g, o + j * 5 + 2, none⟩ = some (.int .i64 x.1.b) ∧ w.cell? ⟨g, o + j * 5 + 3, none⟩ = some (.int .i64 x.1.to) ∧ w.cell? ⟨g, o + j * 5 + 4, none⟩ = some x.2
theorem InsRow.below {w w' : World} {v : Value} {xs : List (In × Value)} (h : InsRow w v xs) (hb : Below w.heap.size w w') : InsRow w' v xs := by
  obtain ⟨p, c, h1, h2, h3⟩ := h
  refine ⟨p, c, h1, h2, fun j x hj => ?_⟩
  obtain ⟨r, g, o, e, c0, c1, c2, c3, c4⟩ := h3 j x hj
  exact ⟨r.later hb, g, o, e, (hb.cell (block_lt_of_cell c0)).trans c0, (hb.cell (block_lt_of_cell c1)).trans c1, (hb.cell (block_lt_of_cell c2)).trans c2, (hb.cell (block_lt_of_cell c3)).trans c3, (hb.cell (block_lt_of_cell c4)).trans c4⟩
/-- A rule's instructions. -/
def InsOf (w : World) (v : Value) (l : List In) : Prop := ∃ xs : List (In × Value), InsRow w v xs ∧ xs.map (fun x => x.1) = l
theorem InsOf.below {w w' : World} {v : Value} {l : List In} (h : InsOf w v l) (hb : Below w.heap.size w w') : InsOf w' v l := by
  obtain ⟨xs, h1, h2⟩ := h
  exact ⟨xs, h1.below hb, h2⟩
theorem InsOf.form {w : World} {v : Value} {l : List In} (h : InsOf w v l) : ∃ p c, v = .slice p l.length c ∧ l.length < 9223372036854775808 ∧ ∀ (j : Nat) (x : In), l[j]? = some x → ∃ sv : Value, RowV w sv x.sp ∧ ∃ g o : Nat, p = some ⟨g, o, none⟩ ∧
    w.cell? ⟨g, o + j * 5, none⟩ = some (.int .i64 x.op) ∧ w.cell? ⟨g, o + j * 5 + 1, none⟩ = some (.int .i64 x.a) ∧ w.cell? ⟨g, o + j * 5 + 2, none⟩ = some (.int .i64 x.b) ∧ w.cell? ⟨g, o + j * 5 + 3, none⟩ = some (.int .i64 x.to) ∧ w.cell? ⟨g, o + j * 5 + 4, none⟩ = some sv := by
  obtain ⟨xs, ⟨p, c, h1, h2, h3⟩, rfl⟩ := h
  rw [List.length_map]
  refine ⟨p, c, h1, h2, fun j x hj => ?_⟩
  rw [List.getElem?_map] at hj
  obtain ⟨y, hy, rfl⟩ := Option.map_eq_some_iff.1 hj
  obtain ⟨r, g, o, e, hc⟩ := h3 j y hy
  exact ⟨y.2, r, g, o, e, hc⟩
/-- Code in memory. -/
def InC (w : World) (v : Value) (us : List (Cd × Value)) : Prop := ∃ p c, v = .slice p us.length c ∧ us.length < 9223372036854775808 ∧ ∀ (j : Nat) (u : Cd × Value), us[j]? = some u → InsOf w u.2 u.1.ins ∧ ∃ g o : Nat, p = some ⟨g, o, none⟩ ∧
  w.cell? ⟨g, o + j * 3, none⟩ = some u.2 ∧ w.cell? ⟨g, o + j * 3 + 1, none⟩ = some (.int .i64 u.1.high) ∧ w.cell? ⟨g, o + j * 3 + 2, none⟩ = some (.int .i64 u.1.steps)
theorem InC.below {w w' : World} {v : Value} {us : List (Cd × Value)} (h : InC w v us) (hb : Below w.heap.size w w') : InC w' v us := by
  obtain ⟨p, c, h1, h2, h3⟩ := h
  refine ⟨p, c, h1, h2, fun j u hj => ?_⟩
  obtain ⟨r, g, o, e, c0, c1, c2⟩ := h3 j u hj
  exact ⟨r.below hb, g, o, e, (hb.cell (block_lt_of_cell c0)).trans c0, (hb.cell (block_lt_of_cell c1)).trans c1, (hb.cell (block_lt_of_cell c2)).trans c2⟩
/-- The code of rules that came in. -/
def InV (w : World) (v : Value) (cs : List Cd) : Prop := ∃ us : List (Cd × Value), InC w v us ∧ us.map (fun u => u.1) = cs
theorem InV.below {w w' : World} {v : Value} {cs : List Cd} (h : InV w v cs) (hb : Below w.heap.size w w') : InV w' v cs := by
  obtain ⟨xs, h1, h2⟩ := h
  exact ⟨xs, h1.below hb, h2⟩
theorem InV.form {w : World} {v : Value} {cs : List Cd} (h : InV w v cs) : ∃ p c, v = .slice p cs.length c ∧ cs.length < 9223372036854775808 ∧ ∀ (j : Nat) (u : Cd), cs[j]? = some u → ∃ sv : Value, InsOf w sv u.ins ∧ ∃ g o : Nat, p = some ⟨g, o, none⟩ ∧
    w.cell? ⟨g, o + j * 3, none⟩ = some sv ∧ w.cell? ⟨g, o + j * 3 + 1, none⟩ = some (.int .i64 u.high) ∧ w.cell? ⟨g, o + j * 3 + 2, none⟩ = some (.int .i64 u.steps) := by
  obtain ⟨xs, ⟨p, c, h1, h2, h3⟩, rfl⟩ := h
  rw [List.length_map]
  refine ⟨p, c, h1, h2, fun j x hj => ?_⟩
  rw [List.getElem?_map] at hj
  obtain ⟨y, hy, rfl⟩ := Option.map_eq_some_iff.1 hj
  obtain ⟨r, g, o, e, hc⟩ := h3 j y hy
  exact ⟨y.2, r, g, o, e, hc⟩
theorem codeType : Tryd.prog.underlying 42 = some (.struct (Tryd.prog.fieldsOf 42)) := by kernel_rfl
set_option maxRecDepth 100000 in
set_option maxHeartbeats 2000000 in
theorem valone_any (c : Cd) (sv : Value) (r : Nat) (w : World) (h : InsOf w sv c.ins) : Calls Tryd.prog 31 #[.agg #[sv, .int .i64 c.high, .int .i64 c.steps], .int .i64 (r : Int)] w fun e w' => e = .returned (.int .i64 (aloneE c r)) ∧ Below w.heap.size w w' := by
  obtain ⟨p, cp, rfl, hlen, hc⟩ := h.form
  have HC := hidv hc
  clear hc h
  generalize hX : aloneE c r = X
  unfold aloneE at hX
  obtain ⟨l, hi, st⟩ := c
  dsimp only at hX hlen HC ⊢
  have hbA := (Below.refl w.heap.size w).alloc (Nat.le_refl _) (.cells #[.slice p l.length cp, .int .i64 hi, .int .i64 st] 42)
  have hxA := heap_alloc_new w (.cells #[.slice p l.length cp, .int .i64 hi, .int .i64 st] 42)
  generalize hwA : w.alloc (.cells #[.slice p l.length cp, .int .i64 hi, .int .i64 st] 42) = wA at *
  have z0 := (cell_of_row _ _ 0 _ _ _ hxA).trans rfl
  have z1 := (cell_of_row _ _ 1 _ _ _ hxA).trans rfl
  have z2 := (cell_of_row _ _ 2 _ _ _ hxA).trans rfl
  have hl0 : (0 : Int) ≤ (l.length : Int) := by omega
  have c1 := within_any (l.length : Int) 1 2000 wA
  by_cases h1 : 1 ≤ l.length ∧ l.length ≤ 2000
  · rw [if_neg (fun e => e h1)] at hX
    rw [decide_eq_true (show (1 : Int) ≤ (l.length : Int) ∧ (l.length : Int) ≤ 2000 by omega)] at c1
    have c2 := within_any hi 1 100 wA
    by_cases h2 : 1 ≤ hi ∧ hi ≤ 100
    · rw [decide_eq_true h2] at c2
      have c3 := within_any st 1 20000 wA
      by_cases h3 : 1 ≤ st ∧ st ≤ 20000
      · rw [decide_eq_true h3] at c3
        rw [if_neg (fun e => e ⟨h2, h3⟩)] at hX
        have HS : Hid (insL (l.drop 0) 0 l.length r = X) := hX
        clear hX h2 h3
        go_enter Tryd.func31, Tryd.ntmps31
        go_wp2_with fail
        refine c1.mono ?_
        rintro e w1 ⟨rfl, rfl⟩
        clear c1
        go_wp2_with fail
        refine c2.mono ?_
        rintro e w2 ⟨rfl, rfl⟩
        clear c2
        go_wp2_with fail
        refine c3.mono ?_
        rintro e w3 ⟨rfl, rfl⟩
        clear c3
        go_wp2_with fail
        go_loopw [26] (fun t wr => ∃ j : Nat, t = .int .i64 (j : Int) ∧ j ≤ l.length ∧ insL (l.drop j) j l.length r = X ∧ wr.heap[w.heap.size]? = some (.cells #[.slice p l.length cp, .int .i64 hi, .int .i64 st] 42 (0, 0)) ∧ Below w.heap.size w wr) (fun t _ => l.length - (intOf t).toNat)
        case atStart => exact ⟨0, rfl, by omega, HS.out, hxA, hbA⟩
        case round =>
          obtain ⟨j, rfl, hj, hXr, hxr, hbr⟩ := hrel
          clear HS hxA hbA z0 z1 z2 hwA
          have hj0 : (0 : Int) ≤ (j : Int) := by omega
          by_cases hlt : j < l.length
          · have hlt' : (j : Int) < (l.length : Int) := by omega
            obtain ⟨x, hjk⟩ : ∃ x, l[j]? = some x := ⟨l[j], List.getElem?_eq_getElem hlt⟩
            rw [insL_step hjk] at hXr
            obtain ⟨sk, hrow, g, o, hpe, e0, e1, e2, e3, e4⟩ := HC.out j _ hjk
            subst hpe
            have d0 := (hbr.cell (block_lt_of_cell e0)).trans e0
            have d1 := (hbr.cell (block_lt_of_cell e1)).trans e1
            have d2 := (hbr.cell (block_lt_of_cell e2)).trans e2
            have d3 := (hbr.cell (block_lt_of_cell e3)).trans e3
            have d4 := (hbr.cell (block_lt_of_cell e4)).trans e4
            obtain ⟨op, a, b, t, sp⟩ := x
            dsimp only at d0 d1 d2 d3 d4 hrow
            obtain ⟨ps, ck, rfl, _, _⟩ := hrow.form
            have bI := (Below.refl wr.heap.size wr).alloc (Nat.le_refl _) (.cells #[.int .i64 op, .int .i64 a, .int .i64 b, .int .i64 t, .slice ps sp.length ck] 66)
            have hxI := heap_alloc_new wr (.cells #[.int .i64 op, .int .i64 a, .int .i64 b, .int .i64 t, .slice ps sp.length ck] 66)
            have hbI := hbr.trans (bI.mono hbr.size)
            have hxr2 := (bI.block _ (lt_of_block hxr)).trans hxr
            have hi0 := instr_any ⟨op, a, b, t, sp⟩ (.slice ps sp.length ck) j l.length r (wr.alloc (.cells #[.int .i64 op, .int .i64 a, .int .i64 b, .int .i64 t, .slice ps sp.length ck] 66)) (hrow.later hbI) (by omega)
            dsimp only at hi0
            have z0 := (cell_of_row _ _ 0 _ _ _ hxr2).trans rfl
            clear e0 e1 e2 e3 e4 hjk hrow bI hxr
            by_cases hE : insE ⟨op, a, b, t, sp⟩ j l.length r = 0
            · rw [if_neg (fun e => e hE)] at hXr
              rw [hE] at hi0
              have HX := hidv hXr
              clear hXr hE
              go_wp2_with (refine wpList_load_row rfl 66 _ rfl _ rfl _ _ _ _ hxI insType rfl (by kernel_rfl) ?_)
              refine hi0.mono ?_
              rintro e w1 ⟨rfl, hb1⟩
              have hbw := hbI.trans (hb1.mono hbI.size)
              have hxr3 := (hb1.block _ (lt_of_block hxr2)).trans hxr2
              clear hi0 hb1 hbI hxr2 hxI hbr d0 d1 d2 d3 d4 z0
              go_wp2_with fail
              go_roundw
              case rel => exact ⟨j + 1, by go_num, by omega, HX.out, hxr3, hbw⟩
              case measure => simp [intOf]; omega
            · rw [if_pos hE] at hXr
              rw [hXr] at hi0 hE
              have hEb : (X == 0) = false := beq_eq_false_iff_ne.2 hE
              have hEn : (X != 0) = true := by simpa using hE
              clear hXr hE
              go_wp2_with (refine wpList_load_row rfl 66 _ rfl _ rfl _ _ _ _ hxI insType rfl (by kernel_rfl) ?_)
              refine hi0.mono ?_
              rintro e w1 ⟨rfl, hb1⟩
              have hbw := hbI.trans (hb1.mono hbI.size)
              clear hi0 hb1 hbI hxr2 hxI hbr d0 d1 d2 d3 d4 z0
              go_wp2_with fail
              go_ret
              exact ⟨rfl, hbw⟩
          · have hlt' : ¬ (j : Int) < (l.length : Int) := by omega
            have HX : Hid (X = 0) := by
              show _ = _
              rw [← hXr, List.drop_of_length_le (by omega)]
              rfl
            clear hXr HC
            go_wp2_with fail
            go_ret
            exact ⟨by (rw [HX.out]) <;> rfl, hbr⟩
      · rw [decide_eq_false h3] at c3
        rw [if_pos (fun e => h3 e.2)] at hX
        subst hX
        clear h2 h3 HC
        go_enter Tryd.func31, Tryd.ntmps31
        go_wp2_with fail
        refine c1.mono ?_
        rintro e w1 ⟨rfl, rfl⟩
        clear c1
        go_wp2_with fail
        refine c2.mono ?_
        rintro e w2 ⟨rfl, rfl⟩
        clear c2
        go_wp2_with fail
        refine c3.mono ?_
        rintro e w3 ⟨rfl, rfl⟩
        clear c3
        go_wp2_with fail
        go_ret
        exact ⟨rfl, hbA⟩
    · rw [decide_eq_false h2] at c2
      rw [if_pos (fun e => h2 e.1)] at hX
      subst hX
      clear h2 HC
      go_enter Tryd.func31, Tryd.ntmps31
      go_wp2_with fail
      refine c1.mono ?_
      rintro e w1 ⟨rfl, rfl⟩
      clear c1
      go_wp2_with fail
      refine c2.mono ?_
      rintro e w2 ⟨rfl, rfl⟩
      clear c2
      go_wp2_with fail
      go_ret
      exact ⟨rfl, hbA⟩
  · rw [if_pos h1] at hX
    subst hX
    rw [decide_eq_false (show ¬ ((1 : Int) ≤ (l.length : Int) ∧ (l.length : Int) ≤ 2000) by omega)] at c1
    clear h1 HC
    go_enter Tryd.func31, Tryd.ntmps31
    go_wp2_with fail
    refine c1.mono ?_
    rintro e w1 ⟨rfl, rfl⟩
    clear c1
    go_wp2_with fail
    go_ret
    exact ⟨rfl, hbA⟩
theorem faultTypeV : Tryd.prog.underlying 26 = some (.struct (Tryd.prog.fieldsOf 26)) := by kernel_rfl
theorem flt_retV {fn : Func} (s : Nat) (h : fn.results = #[ResultVar.cell s 26]) {R : Ending → World → Prop} {a : Act} {w : World} (g : Nat) (er at_ : Int) (hd : a.defers = []) (h2 : a.tmps.getD s undef = .pointer (some ⟨g, 0, none⟩))
    (hg : w.heap[g]? = some (.cells #[.int .i64 er, .int .i64 at_] 26 (0, 0))) (hR : R (.returned (.agg #[.int .i64 er, .int .i64 at_])) w) : bodyPost Tryd.prog fn R .ret a w := by
  refine bodyPost_ret (v := .agg #[.int .i64 er, .int .i64 at_]) ?_ hd hR
  have h2' : a.tmps[s]?.getD undef = .pointer (some ⟨g, 0, none⟩) := by simpa using h2
  have hv := run_loadVar_row (P := Tryd.prog) w g 26 26 _ _ _ hg faultTypeV rfl (by kernel_rfl)
  simp [results, h, h2', asAddr, hv]
theorem firstF_step (E : Nat → Int) (n j : Nat) (h : j < n) : firstF E (n - j) j = if E j ≠ 0 then (E j, j) else firstF E (n - (j + 1)) (j + 1) := by
  rw [show n - j = (n - (j + 1)) + 1 by omega]
  rfl
set_option maxRecDepth 100000 in
set_option maxHeartbeats 2000000 in
theorem firstFault_any (E : Nat → Int) (n K : Nat) (C : Array Value) (p : Option Addr) (c : Nat) (w : World) (hn : n < 9223372036854775808) (eK : ∀ args w, (callFunc K args).run Tryd.prog w = .ok (.enter K args) w)
    (hc : ∀ (i : Nat) (wr : World), i < n → Below w.heap.size w wr → Calls Tryd.prog K (#[.int .i64 (i : Int)] ++ C) wr fun e w' => e = .returned (.int .i64 (E i)) ∧ Below wr.heap.size wr w') :
    Calls Tryd.prog 29 #[.slice p n c, .func (.func K) #[] C] w fun e w' => e = .returned (.agg #[.int .i64 (firstF E n 0).1, .int .i64 ((firstF E n 0).2 : Int)]) ∧ Below w.heap.size w w' := by
  have HC := hidv hc
  clear hc
  generalize hX : firstF E n 0 = X
  have HS : Hid (firstF E (n - 0) 0 = X) := hX
  clear hX
  have hb0 := (Below.refl w.heap.size w).alloc (Nat.le_refl _) (.cells #[.int .i64 0, .int .i64 0] 26)
  have hr0 := heap_alloc_new w (.cells #[.int .i64 0, .int .i64 0] 26)
  generalize hwA : w.alloc (.cells #[.int .i64 0, .int .i64 0] 26) = wA at *
  go_enter Tryd.func29, Tryd.ntmps29
  go_wp2_with fail
  clear hwA
  go_loopw [9] (fun t wr => ∃ j : Nat, t = .int .i64 (j : Int) ∧ j ≤ n ∧ firstF E (n - j) j = X ∧ wr.heap[w.heap.size]? = some (.cells #[.int .i64 0, .int .i64 0] 26 (0, 0)) ∧ Below w.heap.size w wr) (fun t _ => n - (intOf t).toNat)
  case atStart => exact ⟨0, rfl, by omega, HS.out, hr0, hb0⟩
  case round =>
    obtain ⟨j, rfl, hj, hXr, hrr, hbr⟩ := hrel
    clear HS hr0 hb0
    have hj0 : (0 : Int) ≤ (j : Int) := by omega
    by_cases hlt : j < n
    · have hlt' : (j : Int) < (n : Int) := by omega
      have hc := HC.out j wr hlt hbr
      rw [firstF_step E n j hlt] at hXr
      by_cases hE : E j = 0
      · rw [if_neg (fun e => e hE)] at hXr
        rw [hE] at hc
        have HX := hidv hXr
        clear hXr hE
        go_wp2_with fail
        refine hc.mono ?_
        rintro e w1 ⟨rfl, hb1⟩
        have hbw := hbr.trans (hb1.mono hbr.size)
        have hrr3 := (hb1.block _ (lt_of_block hrr)).trans hrr
        clear hc hb1 hbr hrr
        go_wp2_with fail
        go_roundw
        case rel => exact ⟨j + 1, by go_num, by omega, HX.out, hrr3, hbw⟩
        case measure => simp [intOf]; omega
      · rw [if_pos hE] at hXr
        have HX := hidv hXr
        generalize E j = q at *
        have hEb : (q == 0) = false := beq_eq_false_iff_ne.2 hE
        have hEn : (q != 0) = true := by simpa using hE
        clear hXr hE
        go_wp2_with fail
        refine hc.mono ?_
        rintro e w1 ⟨rfl, hb1⟩
        have hbw := hbr.trans (hb1.mono hbr.size)
        have hrr3 := (hb1.block _ (lt_of_block hrr)).trans hrr
        clear hc hb1 hbr hrr
        have hrr := hrr3
        go_wp2_with (refine wpList_store_row rfl 26 _ _ rfl _ _ rfl rfl _ _ hrr (by kernel_rfl) (by simp) (by simp [Value.oneCell']) ?_)
        exact flt_retV 4 (by kernel_rfl) w.heap.size q (j : Int) rfl rfl (setRow_heap _ _ _ _ _ _ hrr) ⟨by rw [← HX.out], below_setRow hbw (Nat.le_refl _) _⟩
    · have hlt' : ¬ (j : Int) < (n : Int) := by omega
      have HX : Hid (X = (0, 0)) := by
        show _ = _
        rw [← hXr, show n - j = 0 by omega]
        rfl
      clear hXr HC
      go_wp2_with (refine wpList_store_row rfl 26 _ _ rfl _ _ rfl rfl _ _ hrr (by kernel_rfl) (by simp) (by simp [Value.oneCell']) ?_)
      exact flt_retV 4 (by kernel_rfl) w.heap.size 0 0 rfl rfl (setRow_heap _ _ _ _ _ _ hrr) ⟨by (rw [HX.out]) <;> rfl, below_setRow hbr (Nat.le_refl _) _⟩
set_option maxRecDepth 100000 in
set_option maxHeartbeats 2000000 in
theorem wrong1_any (cs : List Cd) (lv : Value) (gl ri : Nat) (w : World) (h : InV w lv cs) (hl : w.cell? ⟨gl, 0, none⟩ = some lv) (hri : ri < cs.length) :
    Calls Tryd.prog 30 #[.int .i64 (ri : Int), .pointer (some ⟨gl, 0, none⟩)] w fun e w' => e = .returned (.int .i64 (aloneE (cs.getD ri cd0) cs.length)) ∧ Below w.heap.size w w' := by
  obtain ⟨p, cp, rfl, hlen, hc⟩ := h.form
  obtain ⟨u, hiu⟩ : ∃ u, cs[ri]? = some u := ⟨cs[ri], List.getElem?_eq_getElem hri⟩
  obtain ⟨sv, hin, g, o, rfl, e0, e1, e2⟩ := hc ri u hiu
  rw [cd_at hiu]
  have HA : Hid (∀ W, Below w.heap.size w W → Calls Tryd.prog 31 #[.agg #[sv, .int .i64 u.high, .int .i64 u.steps], .int .i64 (cs.length : Int)] W fun e w' => e = .returned (.int .i64 (aloneE u cs.length)) ∧ Below W.heap.size W w') := fun W hW => valone_any u sv cs.length W (hin.below hW)
  generalize aloneE u cs.length = q at *
  obtain ⟨ul, hi, st⟩ := u
  dsimp only at e1 e2 HA
  have hi0 : (0 : Int) ≤ (ri : Int) := by omega
  have hi1 : (ri : Int) < (cs.length : Int) := by omega
  clear h hc hin hiu
  go_enter Tryd.func30, Tryd.ntmps30
  go_wp2_with fail
  refine wp_region_vals (by kernel_rfl) (by kernel_rfl) (by kernel_rfl) (by kernel_rfl) [(4, .slice (some ⟨g, o, none⟩) cs.length cp), (5, .int .i64 (ri : Int)), (6, .pointer (some ⟨g, o + ri * 3, none⟩)), (7, .agg #[sv, .int .i64 hi, .int .i64 st]), (8, .slice (some ⟨g, o, none⟩) cs.length cp), (9, .int .i64 (cs.length : Int)), (10, .int .i64 q), (3, .int .i64 q)] (by kernel_rfl) (by kernel_rfl) ?_ ?_
  · intro i s v o L A W ho hv hdep hJ hkept hhas
    match i, ho, hv with
    | 0, ho, hv =>
      cases Option.some.inj ho
      cases Option.some.inj hv
      have h1 : A.tmps[1]?.getD undef = .pointer (some ⟨gl, 0, none⟩) := (gd A 1).trans (hkept 1 (by kernel_rfl))
      have z := (hJ.cell (block_lt_of_cell hl)).trans hl
      refine wpOp_step rfl (fun K hK => ?_)
      go_simp
      exact hK _ _ ⟨rfl, Below.refl _ _⟩
    | 1, ho, hv =>
      cases Option.some.inj ho
      cases Option.some.inj hv
      have h0 : A.tmps[0]?.getD undef = .int .i64 (ri : Int) := (gd A 0).trans (hkept 0 (by kernel_rfl))
      refine wpOp_step rfl (fun K hK => ?_)
      go_simp
      exact hK _ _ ⟨rfl, Below.refl _ _⟩
    | 2, ho, hv =>
      cases Option.some.inj ho
      cases Option.some.inj hv
      have h4 : A.tmps[4]?.getD undef = .slice (some ⟨g, o, none⟩) cs.length cp := (gd A 4).trans (hhas 0 4 _ rfl (hdep ⟨0, .data⟩ (by simp) rfl))
      have h5 : A.tmps[5]?.getD undef = .int .i64 (ri : Int) := (gd A 5).trans (hhas 1 5 _ rfl (hdep ⟨1, .data⟩ (by simp) rfl))
      refine wpOp_step rfl (fun K hK => ?_)
      go_simp
      exact hK _ _ ⟨rfl, Below.refl _ _⟩
    | 3, ho, hv =>
      cases Option.some.inj ho
      cases Option.some.inj hv
      have h6 : A.tmps[6]?.getD undef = .pointer (some ⟨g, o + ri * 3, none⟩) := (gd A 6).trans (hhas 2 6 _ rfl (hdep ⟨2, .data⟩ (by simp) rfl))
      have f0 := (hJ.cell (block_lt_of_cell e0)).trans e0
      have f1 := (hJ.cell (block_lt_of_cell e1)).trans e1
      have f2 := (hJ.cell (block_lt_of_cell e2)).trans e2
      refine wpOp_step rfl (fun K hK => ?_)
      go_simp
      exact hK _ _ ⟨rfl, Below.refl _ _⟩
    | 4, ho, hv =>
      cases Option.some.inj ho
      cases Option.some.inj hv
      have h1 : A.tmps[1]?.getD undef = .pointer (some ⟨gl, 0, none⟩) := (gd A 1).trans (hkept 1 (by kernel_rfl))
      have z := (hJ.cell (block_lt_of_cell hl)).trans hl
      refine wpOp_step rfl (fun K hK => ?_)
      go_simp
      exact hK _ _ ⟨rfl, Below.refl _ _⟩
    | 5, ho, hv =>
      cases Option.some.inj ho
      cases Option.some.inj hv
      have h8 : A.tmps[8]?.getD undef = .slice (some ⟨g, o, none⟩) cs.length cp := (gd A 8).trans (hhas 4 8 _ rfl (hdep ⟨4, .data⟩ (by simp) rfl))
      refine wpOp_step rfl (fun K hK => ?_)
      go_simp
      exact hK _ _ ⟨rfl, Below.refl _ _⟩
    | 6, ho, hv =>
      cases Option.some.inj ho
      cases Option.some.inj hv
      have h7 : A.tmps[7]?.getD undef = .agg #[sv, .int .i64 hi, .int .i64 st] := (gd A 7).trans (hhas 3 7 _ rfl (hdep ⟨3, .data⟩ (by simp) rfl))
      have h9 : A.tmps[9]?.getD undef = .int .i64 (cs.length : Int) := (gd A 9).trans (hhas 5 9 _ rfl (hdep ⟨5, .data⟩ (by simp) rfl))
      refine wpOp_step rfl (fun K hK => ?_)
      go_simp
      refine (HA.out W hJ).mono ?_
      rintro e' W' ⟨rfl, hb'⟩
      exact hK _ _ ⟨rfl, hb'⟩
    | 7, ho, hv =>
      cases Option.some.inj ho
      cases Option.some.inj hv
      have h10 : A.tmps[10]?.getD undef = .int .i64 q := (gd A 10).trans (hhas 6 10 _ rfl (hdep ⟨6, .data⟩ (by simp) rfl))
      refine wpOp_step rfl (fun K hK => ?_)
      go_simp
      exact hK _ _ ⟨rfl, Below.refl _ _⟩
    | k + 8, ho, hv => simp at ho
  · intro W hJ
    simp only [putAll_cons, putAll_nil]
    go_simp
    go_wp2_with fail
    go_ret
    exact ⟨rfl, hJ⟩
end Go.Proofs.YtpmobjgnmidolaaDoor

/- vm.has, vm.exchange; rows of bits in memory. -/
namespace Go.Proofs.YtpmobjgnmidolaaDoor
open Go.RowKit Msk Vx

theorem bit_has (f : Nat → Bool) (n : Nat) (hn : n < 64) : (bits BinOp.and IntKind.u64 ((wd f 0 : Int) / 2 ^ n) 1 == 1) = f n := by
  have e1 : ((wd f 0 : Int) / 2 ^ n) = ((wd f 0 / 2 ^ n : Nat) : Int) := by push_cast; rfl
  have hlt : wd f 0 / 2 ^ n < 18446744073709551616 := Nat.lt_of_le_of_lt (Nat.div_le_self _ _) (wd_lt f 0)
  have e2 : bits BinOp.and IntKind.u64 ((wd f 0 / 2 ^ n : Nat) : Int) 1 = ((wd f 0 / 2 ^ n &&& 1 : Nat) : Int) := by
    have := bits_and_u64_nat (wd f 0 / 2 ^ n) 1 hlt (by decide)
    exact this
  rw [e1, e2, Nat.and_one_is_mod]
  have hb := wd_bit f 0 n
  rw [decide_eq_true hn, Bool.true_and, Nat.mul_zero, Nat.zero_add] at hb
  have h3 : (wd f 0).testBit n = decide ((wd f 0 / 2 ^ n) % 2 = 1) := by
    rw [Nat.testBit_eq_decide_div_mod_eq]
  rw [← hb, h3]
  have : wd f 0 / 2 ^ n % 2 = 0 ∨ wd f 0 / 2 ^ n % 2 = 1 := by omega
  rcases this with h | h
  · rw [h]; rfl
  · rw [h]; rfl
set_option maxHeartbeats 400000 in
theorem has_any (f : Nat → Bool) (n : Nat) (hn : n < 64) (w : World) : Calls Tryd.prog 34 #[.int .u64 (wd f 0 : Int), .int .i64 (n : Int)] w fun e w' => e = .returned (.bool (f n)) ∧ w' = w := by
  have h0 : (0 : Int) ≤ (n : Int) := by omega
  have h1 : (n : Int) < 64 := by omega
  have HB := hidv (bit_has f n hn)
  go_enter Tryd.func34, Tryd.ntmps34
  go_wp2_with fail
  go_ret
  exact ⟨congrArg (fun b => Ending.returned (.bool b)) HB.out, rfl⟩
/-- How many it takes, and puts. -/
theorem exchange_any (x : In) (w : World) : Calls Tryd.prog 89 #[.int .i64 x.op] w fun e w' => e = .returned (.tuple #[.int .i64 (tk x), .int .i64 (tk x + eff x)]) ∧ w' = w := by
  obtain ⟨op, a, b, t, sp⟩ := x
  unfold tk eff
  dsimp only
  by_cases h1 : op = 1
  · subst h1
    go_enter Tryd.func89, Tryd.ntmps89
    go_wp2_with fail
    exact bodyPost_ret (v := .tuple #[.int .i64 0, .int .i64 1]) (by simp [results, Tryd.results89, go_sem]) rfl ⟨rfl, rfl⟩
  by_cases h8 : op = 8
  · subst h8
    go_enter Tryd.func89, Tryd.ntmps89
    go_wp2_with fail
    exact bodyPost_ret (v := .tuple #[.int .i64 0, .int .i64 1]) (by simp [results, Tryd.results89, go_sem]) rfl ⟨rfl, rfl⟩
  by_cases h5 : op = 5
  · subst h5
    go_enter Tryd.func89, Tryd.ntmps89
    go_wp2_with fail
    exact bodyPost_ret (v := .tuple #[.int .i64 1, .int .i64 1]) (by simp [results, Tryd.results89, go_sem]) rfl ⟨rfl, rfl⟩
  by_cases h2 : op = 2
  · subst h2
    go_enter Tryd.func89, Tryd.ntmps89
    go_wp2_with fail
    exact bodyPost_ret (v := .tuple #[.int .i64 2, .int .i64 1]) (by simp [results, Tryd.results89, go_sem]) rfl ⟨rfl, rfl⟩
  by_cases h3 : op = 3
  · subst h3
    go_enter Tryd.func89, Tryd.ntmps89
    go_wp2_with fail
    exact bodyPost_ret (v := .tuple #[.int .i64 2, .int .i64 1]) (by simp [results, Tryd.results89, go_sem]) rfl ⟨rfl, rfl⟩
  by_cases h4 : op = 4
  · subst h4
    go_enter Tryd.func89, Tryd.ntmps89
    go_wp2_with fail
    exact bodyPost_ret (v := .tuple #[.int .i64 2, .int .i64 1]) (by simp [results, Tryd.results89, go_sem]) rfl ⟨rfl, rfl⟩
  rw [if_neg h5, if_neg (by omega), if_neg (by omega), if_neg (by omega)]
  have b1 : (op == 1) = false := beq_eq_false_iff_ne.2 h1
  have b2 : (op == 2) = false := beq_eq_false_iff_ne.2 h2
  have b3 : (op == 3) = false := beq_eq_false_iff_ne.2 h3
  have b4 : (op == 4) = false := beq_eq_false_iff_ne.2 h4
  have b5 : (op == 5) = false := beq_eq_false_iff_ne.2 h5
  have b8 : (op == 8) = false := beq_eq_false_iff_ne.2 h8
  go_enter Tryd.func89, Tryd.ntmps89
  go_wp2_with fail
  exact bodyPost_ret (v := .tuple #[.int .i64 0, .int .i64 0]) (by simp [results, Tryd.results89, go_sem]) rfl ⟨rfl, rfl⟩
/-- Rows of bits as cells. -/
def ucells (n : Nat) (R : Nat → Nat → Bool) : Array Value := ((List.range n).map fun i => Value.int .u64 (wd (R i) 0 : Int)).toArray
theorem ucells_at {n : Nat} {R : Nat → Nat → Bool} {i : Nat} (h : i < n) : (ucells n R)[i]? = some (.int .u64 (wd (R i) 0 : Int)) := by
  simp [ucells, h]
theorem ucells_ext {n : Nat} {R R' : Nat → Nat → Bool} (h : ∀ i k, i < n → k < 64 → R i k = R' i k) : ucells n R = ucells n R' := by
  unfold ucells
  congr 1
  apply List.map_congr_left
  intro i hi
  rw [wd_ext fun j hj => ?_]
  rw [Nat.mul_zero, Nat.zero_add]
  exact h i j (List.mem_range.1 hi) hj
def updR (R : Nat → Nat → Bool) (i : Nat) (f : Nat → Bool) : Nat → Nat → Bool := fun r k => if r = i then f k else R r k
theorem ucells_set {n : Nat} {R : Nat → Nat → Bool} {i : Nat} {f : Nat → Bool} : (ucells n R).setIfInBounds i (.int .u64 (wd f 0 : Int)) = ucells n (updR R i f) := by
  apply Array.ext
  · simp [ucells]
  · intro k h1 h2
    have hk : k < n := by simpa [ucells] using h2
    rw [Array.getElem_setIfInBounds (by simpa [ucells] using hk)]
    by_cases e : i = k
    · subst e
      have hu : updR R i f i = f := by funext q; simp [updR]
      simp [ucells, hu]
    · rw [if_neg e]
      have hu : updR R i f k = R k := by funext q; simp [updR, show k ≠ i from fun h => e h.symm]
      simp [ucells, hu]
theorem ucells_none (n : Nat) : madeCells #[Value.int .u64 0] n = ucells n (fun _ _ => false) := by
  apply Array.ext
  · simp [ucells, madeCells]
  · intro k h1 h2
    simp [ucells, madeCells, Nat.mod_one, wd_zero]
/-- Bits in memory, made since. -/
structure UcM (w : World) (n : Nat) (R : Nat → Nat → Bool) (W : World) : Prop where
  bel : Below w.heap.size w W
  row : W.heap[w.heap.size]? = some (.cells (ucells n R) 35 (0, 0))
theorem UcM.below {w W W' : World} {n : Nat} {R : Nat → Nat → Bool} (h : UcM w n R W) (hb : Below W.heap.size W W') : UcM w n R W' :=
  ⟨h.bel.trans (hb.mono h.bel.size), (hb.block _ (lt_of_block h.row)).trans h.row⟩
theorem UcM.same {w W : World} {n : Nat} {R R' : Nat → Nat → Bool} (h : UcM w n R W) (he : ∀ i k, i < n → k < 64 → R i k = R' i k) : UcM w n R' W :=
  ⟨h.bel, by rw [h.row, ucells_ext he]⟩
theorem UcM.cell {w W : World} {n : Nat} {R : Nat → Nat → Bool} (h : UcM w n R W) {i : Nat} (hi : i < n) : W.cell? ⟨w.heap.size, i, none⟩ = some (.int .u64 (wd (R i) 0 : Int)) := (cell_of_row _ _ i _ _ _ h.row).trans (ucells_at hi)
theorem UcM.frz {w W : World} {n : Nat} {R : Nat → Nat → Bool} (h : UcM w n R W) (i : Nat) : W.frozen? ⟨w.heap.size, i, none⟩ = false := frozen_of_row _ _ i _ _ h.row
theorem UcM.set {w W : World} {n : Nat} {R : Nat → Nat → Bool} (h : UcM w n R W) (i : Nat) (f : Nat → Bool) : UcM w n (updR R i f) (W.setCell ⟨w.heap.size, i, none⟩ (.int .u64 (wd f 0 : Int))) := by
  refine ⟨h.bel.setCell (Nat.le_refl _) _, ?_⟩
  rw [← ucells_set]
  exact heap_setCell_same W w.heap.size i _ _ _ h.row
end Go.Proofs.YtpmobjgnmidolaaDoor

/- vm.reached: who calls whom, bit by bit. Written by genvme.py. -/
namespace Go.Proofs.YtpmobjgnmidolaaDoor
open Go.RowKit Msk Vx

theorem wd_put (f : Nat → Bool) (a : Nat) (ha : a < 64) : bits BinOp.or IntKind.u64 (wd f 0 : Int) (IntKind.u64.wrap (2 ^ a)) = (wd (fun k => f k || decide (k = a)) 0 : Int) := by
  have hp : (2 : Nat) ^ a < 18446744073709551616 := by
    have := Nat.pow_lt_pow_right (a := 2) (by omega) ha
    simpa using this
  have e1 : IntKind.u64.wrap ((2 : Int) ^ a) = ((2 ^ a : Nat) : Int) := by
    rw [IntKind.wrap_u64]
    have : ((2 : Int) ^ a) = ((2 ^ a : Nat) : Int) := by push_cast; rfl
    rw [this]
    generalize (2 ^ a : Nat) = y at *
    omega
  rw [e1, bits_or_u64_nat _ _ (wd_lt f 0) hp]
  congr 1
  refine wd_eq _ 0 _ (Nat.or_lt_two_pow (n := 64) (wd_lt f 0) hp) fun j hj => ?_
  rw [Nat.testBit_or, wd_bit, decide_eq_true hj, Bool.true_and, Nat.mul_zero, Nat.zero_add, Nat.testBit_two_pow]
  congr 1
  by_cases e : a = j
  · simp [e]
  · simp [e, show ¬ j = a from fun h => e h.symm]
theorem wd_both (f g : Nat → Bool) : bits BinOp.or IntKind.u64 (wd f 0 : Int) (wd g 0 : Int) = (wd (fun k => f k || g k) 0 : Int) := by
  rw [bits_or_u64_nat _ _ (wd_lt f 0) (wd_lt g 0), wd_or]
/-- Who calls whom, so far. -/
def cE (cs : List Cd) (i j : Nat) : Nat → Nat → Bool := fun r k => if r < i then callE cs r k else if r = i then (((cs.getD i cd0).ins.take j).any fun x => decide (x.op = 8) && decide (x.a = (k : Int))) else false
theorem cE_nil (cs : List Cd) : cE cs 0 0 = fun _ _ => false := by
  funext r k
  unfold cE
  rw [if_neg (by omega)]
  split <;> simp
theorem cE_call {cs : List Cd} {i j an : Nat} {x : In} (hx : (cs.getD i cd0).ins[j]? = some x) (ho : x.op = 8) (ha : x.a = (an : Int)) (r k : Nat) : updR (cE cs i j) i (fun k => cE cs i j i k || decide (k = an)) r k = cE cs i (j + 1) r k := by
  unfold updR
  by_cases e : r = i
  · subst e
    rw [if_pos rfl]
    show (cE cs r j r k || decide (k = an)) = cE cs r (j + 1) r k
    unfold cE
    rw [if_neg (by omega), if_pos rfl, if_neg (by omega), if_pos rfl, List.take_add_one, hx, Option.toList_some, List.any_append]
    simp only [List.any_cons, List.any_nil, Bool.or_false, ho, ha, decide_true, Bool.true_and]
    congr 1
    by_cases h : k = an
    · simp [h]
    · have h2 : ¬ (an : Int) = (k : Int) := by omega
      simp [h, h2]
  · rw [if_neg e]
    unfold cE
    by_cases h : r < i
    · rw [if_pos h, if_pos h]
    · rw [if_neg h, if_neg h, if_neg e, if_neg e]
theorem cE_skip {cs : List Cd} {i j : Nat} {x : In} (hx : (cs.getD i cd0).ins[j]? = some x) (ho : x.op ≠ 8) : cE cs i j = cE cs i (j + 1) := by
  funext r k
  unfold cE
  rw [List.take_add_one, hx, Option.toList_some, List.any_append]
  simp [ho]
theorem cE_row {cs : List Cd} {i j : Nat} (hj : (cs.getD i cd0).ins.length ≤ j) : cE cs i j = cE cs (i + 1) 0 := by
  funext r k
  unfold cE
  rw [List.take_of_length_le hj]
  by_cases h : r < i
  · rw [if_pos h, if_pos (by omega)]
  · rw [if_neg h]
    by_cases e : r = i
    · rw [if_pos e, if_pos (by omega)]
      subst e
      rfl
    · rw [if_neg e, if_neg (by omega)]
      split <;> simp
/-- All ways at once, so far. -/
def wE (E : Nat → Nat → Bool) (m i : Nat) : Nat → Nat → Bool := fun r k => if r < i then wars E (m + 1) r k else wars E m r k
theorem wars_self (E : Nat → Nat → Bool) (m k : Nat) : wars E (m + 1) m k = wars E m m k := by
  simp only [wars]
  cases wars E m m k <;> simp
theorem wE_at (E : Nat → Nat → Bool) (m i k : Nat) : wE E m i m k = wars E m m k := by
  unfold wE
  split
  · exact wars_self E m k
  · rfl
theorem wE_cur (E : Nat → Nat → Bool) (m i k : Nat) : wE E m i i k = wars E m i k := if_neg (by omega)
theorem wE_yes {E : Nat → Nat → Bool} {m i : Nat} (h : wE E m i i m = true) (r k : Nat) : updR (wE E m i) i (fun k => wE E m i i k || wE E m i m k) r k = wE E m (i + 1) r k := by
  unfold updR
  rw [wE_cur] at h
  by_cases e : r = i
  · subst e
    rw [if_pos rfl]
    show (wE E m r r k || wE E m r m k) = _
    rw [wE_cur, wE_at]
    unfold wE
    rw [if_pos (by omega)]
    simp only [wars, h, Bool.true_and]
  · rw [if_neg e]
    unfold wE
    by_cases h : r < i
    · rw [if_pos h, if_pos (by omega)]
    · rw [if_neg h, if_neg (by omega)]
theorem wE_no {E : Nat → Nat → Bool} {m i : Nat} (h : wE E m i i m = false) (r k : Nat) : wE E m i r k = wE E m (i + 1) r k := by
  rw [wE_cur] at h
  unfold wE
  by_cases e : r = i
  · subst e
    rw [if_neg (by omega), if_pos (by omega)]
    simp only [wars, h, Bool.false_and, Bool.or_false]
  · by_cases h : r < i
    · rw [if_pos h, if_pos (by omega)]
    · rw [if_neg h, if_neg (by omega)]
def EA (cs : List Cd) (w : World) (t : Value) (wr : World) : Prop := ∃ i : Nat, t = .int .i64 (i : Int) ∧ i ≤ cs.length ∧ UcM w cs.length (cE cs i 0) wr
def EB (cs : List Cd) (i n : Nat) (w : World) (t : Value) (wr : World) : Prop := ∃ j : Nat, t = .int .i64 (j : Int) ∧ j ≤ n ∧ UcM w cs.length (cE cs i j) wr
def EC (cs : List Cd) (w : World) (t : Value) (wr : World) : Prop := ∃ m : Nat, t = .int .i64 (m : Int) ∧ m ≤ cs.length ∧ UcM w cs.length (wE (callE cs) m 0) wr
def ED (cs : List Cd) (m : Nat) (w : World) (t : Value) (wr : World) : Prop := ∃ i : Nat, t = .int .i64 (i : Int) ∧ i ≤ cs.length ∧ UcM w cs.length (wE (callE cs) m i) wr
def OutUV (cs : List Cd) (w : World) (e : Ending) (w' : World) : Prop := e = .returned (.slice (some ⟨w.heap.size, 0, none⟩) cs.length cs.length) ∧ UcM w cs.length (wars (callE cs) cs.length) w'
theorem u64Info : (Tryd.prog.info? 35).map (fun i => (i.zero, i.size, i.bytes)) = some (some (.int .u64 0), 1, 8) := by kernel_rfl
theorem u64sType : Tryd.prog.underlying 81 = some (.slice 35) := by kernel_rfl
set_option maxRecDepth 100000 in
set_option maxHeartbeats 4000000 in
theorem vreached_any (cs : List Cd) (lv : Value) (w : World) (h : InV w lv cs) (h40 : cs.length ≤ 40) (hok : ∀ (i : Nat) (c : Cd), cs[i]? = some c → aloneE c cs.length = 0) : Calls Tryd.prog 32 #[lv] w (OutUV cs w) := by
  obtain ⟨p, cp, rfl, hlen, hc⟩ := h.form
  have HC := hidv hc
  have HK := hidv hok
  have hmk := run_make_row' (P := Tryd.prog) 81 35 (.int .u64 0) 8 u64sType u64Info rfl .i64 .i64 cs.length (by omega) (by omega)
  rw [ucells_none] at hmk
  have bA := (Below.refl w.heap.size w).alloc (Nat.le_refl _) (.cells (ucells cs.length (fun _ _ => false)) 35)
  have hst : UcM w cs.length (cE cs 0 0) (w.alloc (.cells (ucells cs.length (fun _ _ => false)) 35)) := ⟨bA, by rw [cE_nil]; exact heap_alloc_new w _⟩
  have hI40 : (cs.length : Int) ≤ 40 := by omega
  have hI0 : (0 : Int) ≤ (cs.length : Int) := by omega
  generalize hwA : w.alloc (.cells (ucells cs.length (fun _ _ => false)) 35) = wA at *
  clear h hc hok bA
  go_enter Tryd.func32, Tryd.ntmps32
  go_wp2_with fail
  clear hmk hwA
  go_loopw [15] (fun t wr => EA cs w t wr) (fun t _ => cs.length - (intOf t).toNat)
  case atStart => exact ⟨0, rfl, by omega, hst⟩
  case round =>
    obtain ⟨ri, rfl, hi, hsA⟩ := hrel
    clear hst
    have hi0 : (0 : Int) ≤ (ri : Int) := by omega
    by_cases hlt : ri < cs.length
    · have hlt' : (ri : Int) < (cs.length : Int) := by omega
      obtain ⟨u, hiu⟩ : ∃ u, cs[ri]? = some u := ⟨cs[ri], List.getElem?_eq_getElem hlt⟩
      obtain ⟨sv, hin, g, o, hpe, c0, c1, c2⟩ := HC.out ri _ hiu
      have hcd := cd_at hiu
      have hal := alone_ins (HK.out ri _ hiu)
      obtain ⟨ul, hi, st⟩ := u
      dsimp only at hin c0 c1 c2 hal
      obtain ⟨pu, cu, rfl, hlu, hcu⟩ := hin.form
      subst hpe
      have d0 := (hsA.bel.cell (block_lt_of_cell c0)).trans c0
      have d1 := (hsA.bel.cell (block_lt_of_cell c1)).trans c1
      have d2 := (hsA.bel.cell (block_lt_of_cell c2)).trans c2
      have bI := (Below.refl wr.heap.size wr).alloc (Nat.le_refl _) (.cells #[.slice pu ul.length cu, .int .i64 hi, .int .i64 st] 42)
      have hsB := hsA.below bI
      have hxC := heap_alloc_new wr (.cells #[.slice pu ul.length cu, .int .i64 hi, .int .i64 st] 42)
      have zc := (cell_of_row _ _ 0 _ _ _ hxC).trans rfl
      generalize hwC : wr.alloc (.cells #[.slice pu ul.length cu, .int .i64 hi, .int .i64 st] 42) = wC at *
      have hul0 : (0 : Int) ≤ (ul.length : Int) := by omega
      have hul1 : ul.length ≤ 2000 := hal.1.2
      have HAL := hidv hal.2.2
      have HCD := hidv hcd
      have HCU := hidv hcu
      have HSB := hidv hsB
      clear hal hcd hcu hsA hin hiu c0 c1 c2 bI hsB hxC
      go_wp2_with fail
      clear d0 d1 d2 zc hwC
      have hsB := HSB.out
      clear HSB
      go_loopw [23] (fun t wr => EB cs ri ul.length w t wr) (fun t _ => ul.length - (intOf t).toNat)
      case atStart => exact ⟨0, rfl, by omega, hsB⟩
      case round =>
        obtain ⟨j, rfl, hj, hst⟩ := hrel
        clear hsB
        have hj0 : (0 : Int) ≤ (j : Int) := by omega
        by_cases hltj : j < ul.length
        · have hltj' : (j : Int) < (ul.length : Int) := by omega
          obtain ⟨x, hjx⟩ : ∃ x, ul[j]? = some x := ⟨ul[j], List.getElem?_eq_getElem hltj⟩
          obtain ⟨sk, hrow, g2, o2, hpe, e0, e1, e2, e3, e4⟩ := HCU.out j _ hjx
          subst hpe
          have hie := HAL.out j _ hjx
          have hjx' : (cs.getD ri cd0).ins[j]? = some x := by rw [HCD.out]; exact hjx
          have d0 := (hst.bel.cell (block_lt_of_cell e0)).trans e0
          have d1 := (hst.bel.cell (block_lt_of_cell e1)).trans e1
          have d2 := (hst.bel.cell (block_lt_of_cell e2)).trans e2
          have d3 := (hst.bel.cell (block_lt_of_cell e3)).trans e3
          have d4 := (hst.bel.cell (block_lt_of_cell e4)).trans e4
          have hcall : x.op = 8 → 0 ≤ x.a ∧ x.a < cs.length := fun ho => ins_call hie ho
          obtain ⟨op, a, b, t, sp⟩ := x
          dsimp only at d0 d1 d2 d3 d4 hrow hcall
          obtain ⟨ps, ck, rfl, _, _⟩ := hrow.form
          have bI := (Below.refl wr.heap.size wr).alloc (Nat.le_refl _) (.cells #[.int .i64 op, .int .i64 a, .int .i64 b, .int .i64 t, .slice ps sp.length ck] 66)
          have hxI := heap_alloc_new wr (.cells #[.int .i64 op, .int .i64 a, .int .i64 b, .int .i64 t, .slice ps sp.length ck] 66)
          have z0 := (cell_of_row _ _ 0 _ _ _ hxI).trans rfl
          have z1 := (cell_of_row _ _ 1 _ _ _ hxI).trans rfl
          have hst1 := hst.below bI
          by_cases ho : op = 8
          · subst ho
            obtain ⟨a0, a1⟩ := hcall rfl
            obtain ⟨an, rfl⟩ : ∃ an : Nat, a = (an : Int) := ⟨a.toNat, by omega⟩
            have han : an < 64 := by omega
            have ha0 : (0 : Int) ≤ (an : Int) := by omega
            have ha1 : (an : Int) < 64 := by omega
            have HNX : Hid (∀ W, UcM w cs.length (updR (cE cs ri j) ri (fun k => cE cs ri j ri k || decide (k = an))) W → EB cs ri ul.length w (.int .i64 ((j + 1 : Nat) : Int)) W) := fun W hW => ⟨j + 1, rfl, by omega, hW.same fun r k _ _ => cE_call hjx' rfl rfl r k⟩
            have hst := hst1
            generalize cE cs ri j = St at *
            have HOR := hidv (wd_put (St ri) an han)
            have rc := hst.cell hlt
            generalize hwI : wr.alloc (.cells #[.int .i64 8, .int .i64 (an : Int), .int .i64 b, .int .i64 t, .slice ps sp.length ck] 66) = wI at *
            clear hst1 bI hxI hie hjx hjx' hrow hcall e0 e1 e2 e3 e4 HCU HAL HCD HC HK
            go_wp2_with fail
            obtain ⟨gx, hgx⟩ : ∃ b, wr.heap.size = b := ⟨_, rfl⟩
            rw [hgx] at z1
            simp only [hgx]
            clear hwI hgx z0 d0 d1 d2 d3 d4
            have zx := z1
            clear z1
            refine wp_region_last (by kernel_rfl) (by kernel_rfl) (by kernel_rfl) (by kernel_rfl) 9 (by kernel_rfl) (by kernel_rfl) [(30, .slice (some ⟨w.heap.size, 0, none⟩) cs.length cs.length), (31, .int .i64 (ri : Int)), (32, .pointer (some ⟨w.heap.size, ri, none⟩)), (33, .int .u64 (wd (St ri) 0 : Int)), (34, .pointer (some ⟨gx, 1, none⟩)), (35, .int .i64 (an : Int)), (36, .int .u64 (IntKind.u64.wrap (2 ^ an))), (37, .int .u64 (wd (fun k => St ri k || decide (k = an)) 0 : Int)), (38, .pointer (some ⟨w.heap.size, ri, none⟩))] (by kernel_rfl) (by kernel_rfl) ?_ ?_
            · intro i s v o L A W ho hv hdep hJ hkept hhas
              match i, ho, hv with
              | 0, ho, hv =>
                cases Option.some.inj ho
                cases Option.some.inj hv
                have h3 : A.tmps[3]?.getD undef = .slice (some ⟨w.heap.size, 0, none⟩) cs.length cs.length := (gd A 3).trans (hkept 3 (by kernel_rfl))
                refine wpOp_step rfl (fun K hK => ?_)
                go_simp
                exact hK _ _ ⟨rfl, Below.refl _ _⟩
              | 1, ho, hv =>
                cases Option.some.inj ho
                cases Option.some.inj hv
                have h4 : A.tmps[4]?.getD undef = .int .i64 (ri : Int) := (gd A 4).trans (hkept 4 (by kernel_rfl))
                refine wpOp_step rfl (fun K hK => ?_)
                go_simp
                exact hK _ _ ⟨rfl, Below.refl _ _⟩
              | 2, ho, hv =>
                cases Option.some.inj ho
                cases Option.some.inj hv
                have h30 : A.tmps[30]?.getD undef = .slice (some ⟨w.heap.size, 0, none⟩) cs.length cs.length := (gd A 30).trans (hhas 0 30 _ rfl (hdep ⟨0, .data⟩ (by simp) rfl))
                have h31 : A.tmps[31]?.getD undef = .int .i64 (ri : Int) := (gd A 31).trans (hhas 1 31 _ rfl (hdep ⟨1, .data⟩ (by simp) rfl))
                refine wpOp_step rfl (fun K hK => ?_)
                go_simp
                exact hK _ _ ⟨rfl, Below.refl _ _⟩
              | 3, ho, hv =>
                cases Option.some.inj ho
                cases Option.some.inj hv
                have h32 : A.tmps[32]?.getD undef = .pointer (some ⟨w.heap.size, ri, none⟩) := (gd A 32).trans (hhas 2 32 _ rfl (hdep ⟨2, .data⟩ (by simp) rfl))
                have z := (hJ.cell (block_lt_of_cell rc)).trans rc
                refine wpOp_step rfl (fun K hK => ?_)
                go_simp
                exact hK _ _ ⟨rfl, Below.refl _ _⟩
              | 4, ho, hv =>
                cases Option.some.inj ho
                cases Option.some.inj hv
                have h7 : A.tmps[7]?.getD undef = .pointer (some ⟨gx, 0, none⟩) := (gd A 7).trans (hkept 7 (by kernel_rfl))
                have z := (hJ.cell (block_lt_of_cell zx)).trans zx
                refine wpOp_step rfl (fun K hK => ?_)
                go_simp
                exact hK _ _ ⟨rfl, Below.refl _ _⟩
              | 5, ho, hv =>
                cases Option.some.inj ho
                cases Option.some.inj hv
                have h34 : A.tmps[34]?.getD undef = .pointer (some ⟨gx, 1, none⟩) := (gd A 34).trans (hhas 4 34 _ rfl (hdep ⟨4, .data⟩ (by simp) rfl))
                have z := (hJ.cell (block_lt_of_cell zx)).trans zx
                refine wpOp_step rfl (fun K hK => ?_)
                go_simp
                exact hK _ _ ⟨rfl, Below.refl _ _⟩
              | 6, ho, hv =>
                cases Option.some.inj ho
                cases Option.some.inj hv
                have h35 : A.tmps[35]?.getD undef = .int .i64 (an : Int) := (gd A 35).trans (hhas 5 35 _ rfl (hdep ⟨5, .data⟩ (by simp) rfl))
                refine wpOp_step rfl (fun K hK => ?_)
                go_simp
                exact hK _ _ ⟨rfl, Below.refl _ _⟩
              | 7, ho, hv =>
                cases Option.some.inj ho
                cases Option.some.inj hv
                have h33 : A.tmps[33]?.getD undef = .int .u64 (wd (St ri) 0 : Int) := (gd A 33).trans (hhas 3 33 _ rfl (hdep ⟨3, .data⟩ (by simp) rfl))
                have h36 : A.tmps[36]?.getD undef = .int .u64 (IntKind.u64.wrap (2 ^ an)) := (gd A 36).trans (hhas 6 36 _ rfl (hdep ⟨6, .data⟩ (by simp) rfl))
                have hor := HOR.out
                refine wpOp_step rfl (fun K hK => ?_)
                go_simp
                exact hK _ _ ⟨rfl, Below.refl _ _⟩
              | 8, ho, hv =>
                cases Option.some.inj ho
                cases Option.some.inj hv
                have h30 : A.tmps[30]?.getD undef = .slice (some ⟨w.heap.size, 0, none⟩) cs.length cs.length := (gd A 30).trans (hhas 0 30 _ rfl (hdep ⟨0, .data⟩ (by simp) rfl))
                have h31 : A.tmps[31]?.getD undef = .int .i64 (ri : Int) := (gd A 31).trans (hhas 1 31 _ rfl (hdep ⟨1, .data⟩ (by simp) rfl))
                refine wpOp_step rfl (fun K hK => ?_)
                go_simp
                exact hK _ _ ⟨rfl, Below.refl _ _⟩
              | k + 9, ho, hv => simp at hv
            · intro o W ho hJ
              cases Option.some.inj ho
              simp only [putAll_cons, putAll_nil, Act.put, List.setIfInBounds_toArray, List.set_cons_succ, List.set_cons_zero]
              refine wpOp_step rfl (fun K hK => ?_)
              have hW := (hst.below hJ).set ri (fun k => St ri k || decide (k = an))
              have z := (hJ.cell (block_lt_of_cell rc)).trans rc
              have y := (hst.below hJ).frz ri
              have HN := hidv (HNX.out _ hW)
              clear hst HNX hW
              go_simp
              refine hK _ _ ⟨⟨undef, rfl⟩, ?_⟩
              clear hK hJ z y
              go_wp2_with fail
              go_roundw
              case rel => first
                | exact HN.out
                | ((repeat apply Exists.intro); exact ⟨HN.out, rfl⟩)
              case measure => simp [intOf]; omega

          · have hob : (op == 8) = false := beq_eq_false_iff_ne.2 ho
            have HN : Hid (EB cs ri ul.length w (.int .i64 ((j + 1 : Nat) : Int)) (wr.alloc (.cells #[.int .i64 op, .int .i64 a, .int .i64 b, .int .i64 t, .slice ps sp.length ck] 66))) := ⟨j + 1, rfl, by omega, by rw [← cE_skip hjx' ho]; exact hst1⟩
            generalize hwI : wr.alloc (.cells #[.int .i64 op, .int .i64 a, .int .i64 b, .int .i64 t, .slice ps sp.length ck] 66) = wI at *
            clear hst1 bI hxI hie hjx hjx' hrow hcall e0 e1 e2 e3 e4 HCU HAL HCD HC HK hst ho
            go_wp2_with fail
            go_roundw
            case rel => first
              | exact HN.out
              | ((repeat apply Exists.intro); exact ⟨HN.out, rfl⟩)
            case measure => simp [intOf]; omega
        · have hltj' : ¬ (j : Int) < (ul.length : Int) := by omega
          have HN : Hid (EA cs w (.int .i64 ((ri + 1 : Nat) : Int)) wr) := ⟨ri + 1, rfl, by omega, by rw [← cE_row (j := j) (by rw [HCD.out]; show ul.length ≤ j; omega)]; exact hst⟩
          clear hst HCU HAL HCD HC HK
          go_wp2_with fail
          go_roundw
          case rel => first
            | exact HN.out
            | ((repeat apply Exists.intro); exact ⟨HN.out, rfl⟩)
          case measure => simp [intOf]; omega
    · have hlt' : ¬ (ri : Int) < (cs.length : Int) := by omega
      have hsC : UcM w cs.length (wE (callE cs) 0 0) wr := hsA.same fun r k hr _ => by
        unfold cE wE
        rw [if_pos (by omega), if_neg (by omega)]
        rfl
      have HSC := hidv hsC
      clear hsA HC HK hsC
      go_wp2_with fail
      have hst := HSC.out
      clear HSC
      go_loopw [43] (fun t wr => EC cs w t wr) (fun t _ => cs.length - (intOf t).toNat)
      case atStart => exact ⟨0, rfl, by omega, hst⟩
      case round =>
        obtain ⟨m, rfl, hm, hsM⟩ := hrel
        clear hst
        have hm0 : (0 : Int) ≤ (m : Int) := by omega
        by_cases hltm : m < cs.length
        · have hltm' : (m : Int) < (cs.length : Int) := by omega
          have HSM := hidv hsM
          clear hsM
          go_wp2_with fail
          have hsM := HSM.out
          clear HSM
          go_loopw [48] (fun t wr => ED cs m w t wr) (fun t _ => cs.length - (intOf t).toNat)
          case atStart => exact ⟨0, rfl, by omega, hsM⟩
          case round =>
            obtain ⟨ri, rfl, hi, hst⟩ := hrel
            clear hsM
            have hr0 : (0 : Int) ≤ (ri : Int) := by omega
            by_cases hltr : ri < cs.length
            · have hltr' : (ri : Int) < (cs.length : Int) := by omega
              have rc := hst.cell hltr
              have rm := hst.cell hltm
              have cH := has_any (wE (callE cs) m ri ri) m (by omega) wr
              cases hb : wE (callE cs) m ri ri m with
              | true =>
                rw [hb] at cH
                have HNX : Hid (∀ W, UcM w cs.length (updR (wE (callE cs) m ri) ri (fun k => wE (callE cs) m ri ri k || wE (callE cs) m ri m k)) W → ED cs m w (.int .i64 ((ri + 1 : Nat) : Int)) W) := fun W hW => ⟨ri + 1, rfl, by omega, hW.same fun r k _ _ => wE_yes hb r k⟩
                clear hb
                generalize wE (callE cs) m ri = St at *
                have HOR := hidv (wd_both (St ri) (St m))
                go_wp2_with fail
                refine cH.mono ?_
                rintro e w1 ⟨rfl, rfl⟩
                clear cH
                go_wp2_with fail
                refine wp_region_last (by kernel_rfl) (by kernel_rfl) (by kernel_rfl) (by kernel_rfl) 10 (by kernel_rfl) (by kernel_rfl) [(57, .slice (some ⟨w.heap.size, 0, none⟩) cs.length cs.length), (58, .int .i64 (ri : Int)), (59, .pointer (some ⟨w.heap.size, ri, none⟩)), (60, .int .u64 (wd (St ri) 0 : Int)), (61, .slice (some ⟨w.heap.size, 0, none⟩) cs.length cs.length), (62, .int .i64 (m : Int)), (63, .pointer (some ⟨w.heap.size, m, none⟩)), (64, .int .u64 (wd (St m) 0 : Int)), (65, .int .u64 (wd (fun k => St ri k || St m k) 0 : Int)), (66, .pointer (some ⟨w.heap.size, ri, none⟩))] (by kernel_rfl) (by kernel_rfl) ?_ ?_
                · intro i s v o L A W ho hv hdep hJ hkept hhas
                  match i, ho, hv with
                  | 0, ho, hv =>
                    cases Option.some.inj ho
                    cases Option.some.inj hv
                    have h3 : A.tmps[3]?.getD undef = .slice (some ⟨w.heap.size, 0, none⟩) cs.length cs.length := (gd A 3).trans (hkept 3 (by kernel_rfl))
                    refine wpOp_step rfl (fun K hK => ?_)
                    go_simp
                    exact hK _ _ ⟨rfl, Below.refl _ _⟩
                  | 1, ho, hv =>
                    cases Option.some.inj ho
                    cases Option.some.inj hv
                    have h9 : A.tmps[9]?.getD undef = .int .i64 (ri : Int) := (gd A 9).trans (hkept 9 (by kernel_rfl))
                    refine wpOp_step rfl (fun K hK => ?_)
                    go_simp
                    exact hK _ _ ⟨rfl, Below.refl _ _⟩
                  | 2, ho, hv =>
                    cases Option.some.inj ho
                    cases Option.some.inj hv
                    have h57 : A.tmps[57]?.getD undef = .slice (some ⟨w.heap.size, 0, none⟩) cs.length cs.length := (gd A 57).trans (hhas 0 57 _ rfl (hdep ⟨0, .data⟩ (by simp) rfl))
                    have h58 : A.tmps[58]?.getD undef = .int .i64 (ri : Int) := (gd A 58).trans (hhas 1 58 _ rfl (hdep ⟨1, .data⟩ (by simp) rfl))
                    refine wpOp_step rfl (fun K hK => ?_)
                    go_simp
                    exact hK _ _ ⟨rfl, Below.refl _ _⟩
                  | 3, ho, hv =>
                    cases Option.some.inj ho
                    cases Option.some.inj hv
                    have h59 : A.tmps[59]?.getD undef = .pointer (some ⟨w.heap.size, ri, none⟩) := (gd A 59).trans (hhas 2 59 _ rfl (hdep ⟨2, .data⟩ (by simp) rfl))
                    have z := (hJ.cell (block_lt_of_cell rc)).trans rc
                    refine wpOp_step rfl (fun K hK => ?_)
                    go_simp
                    exact hK _ _ ⟨rfl, Below.refl _ _⟩
                  | 4, ho, hv =>
                    cases Option.some.inj ho
                    cases Option.some.inj hv
                    have h3 : A.tmps[3]?.getD undef = .slice (some ⟨w.heap.size, 0, none⟩) cs.length cs.length := (gd A 3).trans (hkept 3 (by kernel_rfl))
                    refine wpOp_step rfl (fun K hK => ?_)
                    go_simp
                    exact hK _ _ ⟨rfl, Below.refl _ _⟩
                  | 5, ho, hv =>
                    cases Option.some.inj ho
                    cases Option.some.inj hv
                    have h8 : A.tmps[8]?.getD undef = .int .i64 (m : Int) := (gd A 8).trans (hkept 8 (by kernel_rfl))
                    refine wpOp_step rfl (fun K hK => ?_)
                    go_simp
                    exact hK _ _ ⟨rfl, Below.refl _ _⟩
                  | 6, ho, hv =>
                    cases Option.some.inj ho
                    cases Option.some.inj hv
                    have h61 : A.tmps[61]?.getD undef = .slice (some ⟨w.heap.size, 0, none⟩) cs.length cs.length := (gd A 61).trans (hhas 4 61 _ rfl (hdep ⟨4, .data⟩ (by simp) rfl))
                    have h62 : A.tmps[62]?.getD undef = .int .i64 (m : Int) := (gd A 62).trans (hhas 5 62 _ rfl (hdep ⟨5, .data⟩ (by simp) rfl))
                    refine wpOp_step rfl (fun K hK => ?_)
                    go_simp
                    exact hK _ _ ⟨rfl, Below.refl _ _⟩
                  | 7, ho, hv =>
                    cases Option.some.inj ho
                    cases Option.some.inj hv
                    have h63 : A.tmps[63]?.getD undef = .pointer (some ⟨w.heap.size, m, none⟩) := (gd A 63).trans (hhas 6 63 _ rfl (hdep ⟨6, .data⟩ (by simp) rfl))
                    have z := (hJ.cell (block_lt_of_cell rm)).trans rm
                    refine wpOp_step rfl (fun K hK => ?_)
                    go_simp
                    exact hK _ _ ⟨rfl, Below.refl _ _⟩
                  | 8, ho, hv =>
                    cases Option.some.inj ho
                    cases Option.some.inj hv
                    have h60 : A.tmps[60]?.getD undef = .int .u64 (wd (St ri) 0 : Int) := (gd A 60).trans (hhas 3 60 _ rfl (hdep ⟨3, .data⟩ (by simp) rfl))
                    have h64 : A.tmps[64]?.getD undef = .int .u64 (wd (St m) 0 : Int) := (gd A 64).trans (hhas 7 64 _ rfl (hdep ⟨7, .data⟩ (by simp) rfl))
                    have hor := HOR.out
                    refine wpOp_step rfl (fun K hK => ?_)
                    go_simp
                    exact hK _ _ ⟨rfl, Below.refl _ _⟩
                  | 9, ho, hv =>
                    cases Option.some.inj ho
                    cases Option.some.inj hv
                    have h57 : A.tmps[57]?.getD undef = .slice (some ⟨w.heap.size, 0, none⟩) cs.length cs.length := (gd A 57).trans (hhas 0 57 _ rfl (hdep ⟨0, .data⟩ (by simp) rfl))
                    have h58 : A.tmps[58]?.getD undef = .int .i64 (ri : Int) := (gd A 58).trans (hhas 1 58 _ rfl (hdep ⟨1, .data⟩ (by simp) rfl))
                    refine wpOp_step rfl (fun K hK => ?_)
                    go_simp
                    exact hK _ _ ⟨rfl, Below.refl _ _⟩
                  | k + 10, ho, hv => simp at hv
                · intro o W ho hJ
                  cases Option.some.inj ho
                  simp only [putAll_cons, putAll_nil, Act.put, List.setIfInBounds_toArray, List.set_cons_succ, List.set_cons_zero]
                  refine wpOp_step rfl (fun K hK => ?_)
                  have hW := (hst.below hJ).set ri (fun k => St ri k || St m k)
                  have z := (hJ.cell (block_lt_of_cell rc)).trans rc
                  have y := (hst.below hJ).frz ri
                  have HN := hidv (HNX.out _ hW)
                  clear hst HNX hW
                  go_simp
                  refine hK _ _ ⟨⟨undef, rfl⟩, ?_⟩
                  clear hK hJ z y
                  go_wp2_with fail
                  go_roundw
                  case rel => first
                    | exact HN.out
                    | ((repeat apply Exists.intro); exact ⟨HN.out, rfl⟩)
                  case measure => simp [intOf]; omega

              | false =>
                rw [hb] at cH
                have HN : Hid (ED cs m w (.int .i64 ((ri + 1 : Nat) : Int)) wr) := ⟨ri + 1, rfl, by omega, hst.same fun r k _ _ => wE_no hb r k⟩
                clear hb hst
                generalize wE (callE cs) m ri = St at *
                go_wp2_with fail
                refine cH.mono ?_
                rintro e w1 ⟨rfl, rfl⟩
                clear cH
                go_wp2_with fail
                go_roundw
                case rel => first
                  | exact HN.out
                  | ((repeat apply Exists.intro); exact ⟨HN.out, rfl⟩)
                case measure => simp [intOf]; omega
            · have hltr' : ¬ (ri : Int) < (cs.length : Int) := by omega
              have HN : Hid (EC cs w (.int .i64 ((m + 1 : Nat) : Int)) wr) := ⟨m + 1, rfl, by omega, hst.same fun r k hr _ => by
                unfold wE
                rw [if_pos (by omega), if_neg (by omega)]⟩
              clear hst
              go_wp2_with fail
              go_roundw
              case rel => first
                | exact HN.out
                | ((repeat apply Exists.intro); exact ⟨HN.out, rfl⟩)
              case measure => simp [intOf]; omega
        · have hltm' : ¬ (m : Int) < (cs.length : Int) := by omega
          have HN : Hid (UcM w cs.length (wars (callE cs) cs.length) wr) := by
            show UcM _ _ _ _
            have e : m = cs.length := by omega
            subst e
            exact hsM.same fun r k _ _ => by unfold wE; rw [if_neg (by omega)]
          clear hsM
          go_wp2_with fail
          go_ret
          exact ⟨rfl, HN.out⟩
end Go.Proofs.YtpmobjgnmidolaaDoor
