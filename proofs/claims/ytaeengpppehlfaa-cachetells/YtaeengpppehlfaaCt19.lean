/- The document's Wrong: what is wrong with code. Written by genvrd.py. -/
import Derived.Test.YtaeengpppehlfaaCt17
import Derived.Test.YtaeengpppehlfaaCt18
import Derived.Test.YtaeengpppehlfaaCt06
import Derived.Test.YtaeengpppehlfaaCt10
import Derived.Test.YtaeengpppehlfaaCt11
namespace Go.Proofs.Ytaeengpppehlfaa
open Go.RowKit Msk Vx

set_option maxRecDepth 100000 in
set_option maxHeartbeats 8000000 in
theorem rbad_any (e i : Int) (gi : Nat) (w : World) (hi : w.cell? ⟨gi, 0, none⟩ = some (.int .i64 i)) : Calls Try.prog 35 #[.int .i64 e, .pointer (some ⟨gi, 0, none⟩)] w fun r w' => r = .returned (.agg #[.int .i64 e, .int .i64 i]) ∧ Below w.heap.size w w' := by
  have bA := (Below.refl w.heap.size w).alloc (Nat.le_refl _) (.cells #[.int .i64 0, .int .i64 0] 28)
  have nA := heap_alloc_new w (.cells #[.int .i64 0, .int .i64 0] 28)
  have hi2 := (bA.cell (block_lt_of_cell hi)).trans hi
  generalize hwA : w.alloc (.cells #[.int .i64 0, .int .i64 0] 28) = wA at *
  clear hi
  go_enter Try.func35, Try.ntmps35
  go_wp2_with (refine wpList_store_row rfl 28 _ _ rfl _ _ rfl rfl _ _ nA (by kernel_rfl) (by simp) (by simp [Value.oneCell']) ?_)
  exact flt_retV 3 (by kernel_rfl) w.heap.size e i rfl rfl (setRow_heap _ _ _ _ _ _ nA) ⟨rfl, below_setRow bA (Nat.le_refl _) _⟩
/-- The first loop: rule by rule. -/
def W1 (cs : List Cd) (X : Int × Nat) (w : World) (t : Value) (wr : World) : Prop := ∃ j : Nat, t = .int .i64 (j : Int) ∧ j ≤ cs.length ∧ (∀ (i : Nat) (c : Cd), i < j → cs[i]? = some c → aloneE c cs.length = 0) ∧ firstF (fun i => aloneE (cs.getD i cd0) cs.length) (cs.length - j) j = X ∧ wr.heap[w.heap.size]? = some (.cells #[.int .i64 0, .int .i64 0] 28 (0, 0)) ∧ Below w.heap.size w wr
def W2 (cs : List Cd) (ul : List In) (Y : Int) (ri gc gi : Nat) (CV : Array Value) (w : World) (t : Value) (wr : World) : Prop := ∃ j : Nat, t = .int .i64 (j : Int) ∧ j ≤ ul.length ∧ insL (ul.drop j) j ul.length cs.length = Y ∧ wr.heap[w.heap.size]? = some (.cells #[.int .i64 0, .int .i64 0] 28 (0, 0)) ∧ wr.heap[gc]? = some (.cells CV 36 (0, 0)) ∧ wr.heap[gi]? = some (.cells #[.int .i64 (ri : Int)] 3 (0, 0)) ∧ Below w.heap.size w wr
def W3 (cs : List Cd) (X : Int × Nat) (w : World) (w1 : World) (rs : Nat → Nat) (t : Value) (wr : World) : Prop := ∃ j : Nat, t = .int .i64 (j : Int) ∧ j ≤ cs.length ∧ firstF (lateE cs) (cs.length - j) j = X ∧ wr.heap[w.heap.size]? = some (.cells #[.int .i64 0, .int .i64 0] 28 (0, 0)) ∧ Below w.heap.size w wr ∧ RcM w1 cs.length cs.length rs (wars (callE cs) cs.length) wr
set_option maxRecDepth 100000 in
set_option maxHeartbeats 8000000 in
theorem rwrong_any (cs : List Cd) (lv : Value) (w : World) (h : InV w lv cs) :
    Calls Try.prog 12 #[lv] w fun e w' => e = .returned (.agg #[.int .i64 (wrongV cs).1, .int .i64 ((wrongV cs).2 : Int)]) ∧ Below w.heap.size w w' := by
  obtain ⟨p, cp, elv, hlen, hcc⟩ := h.form
  have HIN := hidv h
  have HC := hidv hcc
  generalize hX : wrongV cs = X
  unfold wrongV at hX
  have hb0 := (Below.refl w.heap.size w).alloc (Nat.le_refl _) (.cells #[.int .i64 0, .int .i64 0] 28)
  have hr0 := heap_alloc_new w (.cells #[.int .i64 0, .int .i64 0] 28)
  generalize hwA : w.alloc (.cells #[.int .i64 0, .int .i64 0] 28) = wA at *
  have hn0 : (0 : Int) ≤ (cs.length : Int) := by omega
  have hmf : ∀ (fn : Fn) (first cap : Array Value) (w : World), (Instr.makeFunc fn first cap).run Try.prog w = .ok (.func fn first cap) w := fun _ _ _ _ => rfl
  by_cases hm : 40 < cs.length
  · have hm' : (40 : Int) < (cs.length : Int) := by omega
    rw [if_pos hm] at hX
    subst hX elv
    clear h hcc HIN HC
    go_enter Try.func12, Try.ntmps12
    go_wp2_with (refine wpList_store_row rfl 28 _ _ rfl _ _ rfl rfl _ _ hr0 (by kernel_rfl) (by simp) (by simp [Value.oneCell']) ?_)
    exact flt_retV 2 (by kernel_rfl) w.heap.size 5 0 rfl rfl (setRow_heap _ _ _ _ _ _ hr0) ⟨rfl, below_setRow hb0 (Nat.le_refl _) _⟩
  · have hm' : ¬ (40 : Int) < (cs.length : Int) := by omega
    have hI40 : (cs.length : Int) ≤ 40 := by omega
    rw [if_neg hm] at hX
    obtain ⟨Y, hY⟩ : ∃ q, firstF (fun i => aloneE (cs.getD i cd0) cs.length) cs.length 0 = q := ⟨_, rfl⟩
    rw [hY] at hX
    have HX := hidv hX
    have HY : Hid (firstF (fun i => aloneE (cs.getD i cd0) cs.length) (cs.length - 0) 0 = Y) := hY
    clear h hcc hX hY
    subst elv
    go_enter Try.func12, Try.ntmps12
    go_wp2_with fail
    clear hwA
    go_loopw [21] (fun t wr => W1 cs Y w t wr) (fun t _ => cs.length - (intOf t).toNat)
    case atStart => exact ⟨0, rfl, by omega, fun i c hi => by omega, HY.out, hr0, hb0⟩
    case round =>
      obtain ⟨ri, rfl, hi, hal0, hYr, hrr, hbr⟩ := hrel
      clear HY hr0 hb0
      have hi0 : (0 : Int) ≤ (ri : Int) := by omega
      have hlr := lt_of_block hrr
      by_cases hlt : ri < cs.length
      · have hlt' : (ri : Int) < (cs.length : Int) := by omega
        obtain ⟨u, hiu⟩ : ∃ u, cs[ri]? = some u := ⟨cs[ri], List.getElem?_eq_getElem hlt⟩
        obtain ⟨sv, hin, g, o, hpe, c0, c1, c2⟩ := HC.out ri _ hiu
        subst hpe
        rw [firstF_step _ _ _ hlt, cd_at hiu] at hYr
        have HAL0 : Hid (aloneE u cs.length = 0 → ∀ (i : Nat) (c : Cd), i < ri + 1 → cs[i]? = some c → aloneE c cs.length = 0) := fun he i c hi' hc' => by
          by_cases e : i = ri
          · subst e; rw [hiu] at hc'; cases hc'; exact he
          · exact hal0 i c (by omega) hc'
        obtain ⟨ul, hi, st⟩ := u
        dsimp only at hin c1 c2
        obtain ⟨pu, cu, rfl, hlu, hcu⟩ := hin.form
        have d0 := (hbr.cell (block_lt_of_cell c0)).trans c0
        have d1 := (hbr.cell (block_lt_of_cell c1)).trans c1
        have d2 := (hbr.cell (block_lt_of_cell c2)).trans c2
        have bP : Below wr.heap.size wr ((wr.alloc (.cells #[.int .i64 0] 3)).alloc (.cells #[.slice none 0 0, .int .i64 0, .int .i64 0] 36)) := ((Below.refl _ _).alloc (Nat.le_refl _) _).alloc (by simp) _
        have nI0 : ((wr.alloc (.cells #[.int .i64 0] 3)).alloc (.cells #[.slice none 0 0, .int .i64 0, .int .i64 0] 36)).heap[wr.heap.size]? = some (.cells #[.int .i64 0] 3 (0, 0)) := by (repeat (first | refine blk_old _ _ _ (by simp only [size_alloc]; omega) ?_ | exact blk_new _ _ _ (by first | rfl | simp only [size_alloc])))
        have nC0 : ((wr.alloc (.cells #[.int .i64 0] 3)).alloc (.cells #[.slice none 0 0, .int .i64 0, .int .i64 0] 36)).heap[wr.heap.size + 1]? = some (.cells #[.slice none 0 0, .int .i64 0, .int .i64 0] 36 (0, 0)) := by (repeat (first | refine blk_old _ _ _ (by simp only [size_alloc]; omega) ?_ | exact blk_new _ _ _ (by first | rfl | simp only [size_alloc])))
        generalize hwP : (wr.alloc (.cells #[.int .i64 0] 3)).alloc (.cells #[.slice none 0 0, .int .i64 0, .int .i64 0] 36) = wP at *
        have zI := (cell_of_row _ _ 0 _ _ _ nI0).trans rfl
        have yI := frozen_of_row _ _ 0 _ _ nI0
        have nI1 : (wP.setCell ⟨wr.heap.size, 0, none⟩ (.int .i64 (ri : Int))).heap[wr.heap.size]? = some (.cells #[.int .i64 (ri : Int)] 3 (0, 0)) := heap_setCell_same wP wr.heap.size 0 _ _ _ nI0
        have nC1 := (heap_setCell_other wP ⟨wr.heap.size, 0, none⟩ (wr.heap.size + 1) (.int .i64 (ri : Int)) (by show wr.heap.size + 1 ≠ wr.heap.size; omega)).trans nC0
        have bQ : Below wr.heap.size wr (wP.setCell ⟨wr.heap.size, 0, none⟩ (.int .i64 (ri : Int))) := bP.setCell (p := ⟨wr.heap.size, 0, none⟩) (Nat.le_refl _) _
        generalize hwQ : wP.setCell ⟨wr.heap.size, 0, none⟩ (.int .i64 (ri : Int)) = wQ at *
        have nC := setRow_heap _ _ _ #[.slice pu ul.length cu, .int .i64 hi, .int .i64 st] _ _ nC1
        have nI := (setRow_other wQ (wr.heap.size + 1) wr.heap.size #[.slice pu ul.length cu, .int .i64 hi, .int .i64 st] (by omega)).trans nI1
        have bR := below_setRow bQ (by omega : wr.heap.size ≤ wr.heap.size + 1) #[.slice pu ul.length cu, .int .i64 hi, .int .i64 st]
        generalize hwR : wQ.setRow (wr.heap.size + 1) #[.slice pu ul.length cu, .int .i64 hi, .int .i64 st] = wR at *
        have rR := (bR.block _ hlr).trans hrr
        have hbR := hbr.trans (bR.mono hbr.size)
        have zR0 := (cell_of_row _ _ 0 _ _ _ nC).trans rfl
        have zR1 := (cell_of_row _ _ 1 _ _ _ nC).trans rfl
        have zR2 := (cell_of_row _ _ 2 _ _ _ nC).trans rfl
        have ziR := (cell_of_row _ _ 0 _ _ _ nI).trans rfl
        have hul : (0 : Int) ≤ (ul.length : Int) := by omega
        have cbad := fun e => rbad_any e (ri : Int) wr.heap.size wR ziR
        clear bP bQ bR nI0 nC0 c0 c1 c2 hin hiu hal0 hrr
        have HCU := hidv hcu
        clear hcu
        obtain ⟨Z, hZa⟩ : ∃ q, aloneE ⟨ul, hi, st⟩ cs.length = q := ⟨_, rfl⟩
        rw [hZa] at hYr
        have hZb := hZa
        unfold aloneE at hZb
        dsimp only at hZb
        by_cases h1 : 1 ≤ ul.length ∧ ul.length ≤ 2000
        · rw [if_neg (fun e => e h1)] at hZb
          have hl1 : (ul.length : Int) ≤ 2000 := by omega
          have hl2 : ¬ (2000 : Int) < (ul.length : Int) := by omega
          have hl3 : ((ul.length : Int) == 0) = false := beq_eq_false_iff_ne.2 (by omega)
          by_cases h2 : 1 ≤ hi ∧ hi ≤ 100
          · have h2a : ¬ hi < 1 := by omega
            have h2b : ¬ 100 < hi := by omega
            by_cases h3 : 1 ≤ st ∧ st ≤ 20000
            · have h3a : ¬ st < 1 := by omega
              have h3b : ¬ 20000 < st := by omega
              rw [if_neg (fun e => e ⟨h2, h3⟩)] at hZb
              have HZE := hidv hZa
              have HZ : Hid (insL (ul.drop 0) 0 ul.length cs.length = Z) := hZb
              have HYR := hidv hYr
              have HRR := hidv rR
              have HNC := hidv nC
              have HNI := hidv nI
              have HBR := hidv hbR
              clear hZa hZb hYr cbad
              go_wp2_with (refine wpList_store_row rfl 36 _ _ rfl _ _ rfl rfl _ _ nC1 (by kernel_rfl) (by simp) (by simp [Value.oneCell']) ?_)
              have rR := HRR.out
              have nC := HNC.out
              have nI := HNI.out
              have hbR := HBR.out
              clear HRR HNC HNI HBR zR0 zR1 zR2 ziR nC1 nI1 hwP hwQ hwR d0 d1 d2 zI yI
              obtain ⟨gi, hgi⟩ : ∃ q, wr.heap.size = q := ⟨_, rfl⟩
              rw [hgi] at nC nI
              simp only [hgi]
              clear hgi
              go_loopw [62] (fun t wr => W2 cs ul Z ri (gi + 1) gi #[.slice pu ul.length cu, .int .i64 hi, .int .i64 st] w t wr) (fun t _ => ul.length - (intOf t).toNat)
              case atStart => exact ⟨0, rfl, by omega, HZ.out, rR, nC, nI, hbR⟩
              case round =>
                obtain ⟨j, rfl, hj, hZr, hr9, hc9, hi9, hb9⟩ := hrel
                clear HZ rR nC nI hbR
                have hj0 : (0 : Int) ≤ (j : Int) := by omega
                have zc := (cell_of_row _ _ 0 _ _ _ hc9).trans rfl
                by_cases hltj : j < ul.length
                · have hltj' : (j : Int) < (ul.length : Int) := by omega
                  obtain ⟨x, hjx⟩ : ∃ x, ul[j]? = some x := ⟨ul[j], List.getElem?_eq_getElem hltj⟩
                  rw [insL_step hjx] at hZr
                  obtain ⟨sk, hrow, g2, o2, hpe2, e0, e1, e2, e3, e4⟩ := HCU.out j _ hjx
                  subst hpe2
                  have d0 := (hb9.cell (block_lt_of_cell e0)).trans e0
                  have d1 := (hb9.cell (block_lt_of_cell e1)).trans e1
                  have d2 := (hb9.cell (block_lt_of_cell e2)).trans e2
                  have d3 := (hb9.cell (block_lt_of_cell e3)).trans e3
                  have d4 := (hb9.cell (block_lt_of_cell e4)).trans e4
                  obtain ⟨op, a, b, t, sp⟩ := x
                  dsimp only at d0 d1 d2 d3 d4 hrow
                  obtain ⟨ps, ck, rfl, _, _⟩ := hrow.form
                  have bI := (Below.refl wr.heap.size wr).alloc (Nat.le_refl _) (.cells #[.int .i64 op, .int .i64 a, .int .i64 b, .int .i64 t, .slice ps sp.length ck] 65)
                  have hxI := heap_alloc_new wr (.cells #[.int .i64 op, .int .i64 a, .int .i64 b, .int .i64 t, .slice ps sp.length ck] 65)
                  have hbI := hb9.trans (bI.mono hb9.size)
                  have hr9a := (bI.block _ (lt_of_block hr9)).trans hr9
                  have hc9a := (bI.block _ (lt_of_block hc9)).trans hc9
                  have hi9a := (bI.block _ (lt_of_block hi9)).trans hi9
                  have hci := rinstr_any ⟨op, a, b, t, sp⟩ (.slice ps sp.length ck) j ul.length cs.length (wr.alloc (.cells #[.int .i64 op, .int .i64 a, .int .i64 b, .int .i64 t, .slice ps sp.length ck] 65)) (hrow.later hbI) (by omega)
                  dsimp only at hci
                  have zc2 := (cell_of_row _ _ 0 _ _ _ hc9a).trans rfl
                  clear e0 e1 e2 e3 e4 hjx hrow bI hr9 hc9 hi9
                  by_cases hE : insE ⟨op, a, b, t, sp⟩ j ul.length cs.length = 0
                  · rw [if_neg (fun e => e hE)] at hZr
                    rw [hE] at hci
                    have HZ2 := hidv hZr
                    clear hZr hE
                    go_wp2_with (refine wpList_load_row rfl 65 _ rfl _ rfl _ _ _ _ hxI insType rfl (by kernel_rfl) ?_)
                    refine hci.mono ?_
                    rintro e w4 ⟨rfl, b4⟩
                    have hb4 := hbI.trans (b4.mono hbI.size)
                    have hr4 := (b4.block _ (lt_of_block hr9a)).trans hr9a
                    have hc4 := (b4.block _ (lt_of_block hc9a)).trans hc9a
                    have hi4 := (b4.block _ (lt_of_block hi9a)).trans hi9a
                    clear hci b4 hbI hr9a hc9a hi9a hxI d0 d1 d2 d3 d4 zc zc2 hb9
                    go_wp2_with fail
                    go_roundw
                    case rel => exact ⟨j + 1, by go_num, by omega, HZ2.out, hr4, hc4, hi4, hb4⟩
                    case measure => simp [intOf]; omega
                  · rw [if_pos hE] at hZr
                    rw [hZr] at hci hE
                    have hYZ := HYR.out
                    rw [if_pos hE] at hYZ
                    have hXe : X = (Z, ri) := by
                      rw [← HX.out, ← hYZ]
                      exact if_pos hE
                    subst hXe
                    have hEb : (Z == 0) = false := beq_eq_false_iff_ne.2 hE
                    have hEn : (Z != 0) = true := by simpa using hE
                    clear hZr hE HYR hYZ HZE
                    clear HX HIN HC HAL0 HCU
                    go_wp2_with (refine wpList_load_row rfl 65 _ rfl _ rfl _ _ _ _ hxI insType rfl (by kernel_rfl) ?_)
                    refine hci.mono ?_
                    rintro e w4 ⟨rfl, b4⟩
                    have hb4 := hbI.trans (b4.mono hbI.size)
                    have hr4 := (b4.block _ (lt_of_block hr9a)).trans hr9a
                    have hi4 := (b4.block _ (lt_of_block hi9a)).trans hi9a
                    have zi4 := (cell_of_row _ _ 0 _ _ _ hi4).trans rfl
                    have cb := rbad_any Z (ri : Int) gi w4 zi4
                    clear hci b4 hbI hr9a hc9a hi9a hxI d0 d1 d2 d3 d4 zc zc2 hb9 hi4
                    go_wp2_with fail
                    refine cb.mono ?_
                    rintro e w5 ⟨rfl, b5⟩
                    have r5 := (b5.block _ (lt_of_block hr4)).trans hr4
                    have hb5 := hb4.trans (b5.mono hb4.size)
                    clear cb b5 hr4 hb4 zi4
                    go_wp2_with (refine wpList_store_row rfl 28 _ _ rfl _ _ rfl rfl _ _ r5 (by kernel_rfl) (by simp) (by simp [Value.oneCell']) ?_)
                    exact flt_retV 2 (by kernel_rfl) w.heap.size Z (ri : Int) rfl rfl (setRow_heap _ _ _ _ _ _ r5) ⟨rfl, below_setRow hb5 (Nat.le_refl _) _⟩
                · have hltj' : ¬ (j : Int) < (ul.length : Int) := by omega
                  rw [List.drop_of_length_le (by omega)] at hZr
                  have hZ0 : Z = 0 := hZr.symm
                  have hYZ := HYR.out
                  rw [if_neg (fun e => e hZ0)] at hYZ
                  have HN : Hid (W1 cs Y w (.int .i64 ((ri + 1 : Nat) : Int)) wr) := ⟨ri + 1, rfl, by omega, HAL0.out (HZE.out.trans hZ0), hYZ, hr9, hb9⟩
                  clear hZr hZ0 hYZ HYR HZE hr9 hc9 hi9 hb9 zc
                  clear HX HIN HC HAL0 HCU
                  go_wp2_with fail
                  go_roundw
                  case rel => first
                    | exact HN.out
                    | ((repeat apply Exists.intro); exact ⟨HN.out, rfl⟩)
                  case measure => simp [intOf]; omega
            · rw [if_pos (fun e => h3 e.2)] at hZb
              subst hZb
              by_cases h3a : st < 1
              · have hXe : X = (4, ri) := by rw [← HX.out, ← hYr]; rfl
                subst hXe
                have cb := cbad 4
                clear HX HIN HC HAL0 HCU
                clear cbad hYr hZa
                go_wp2_with (refine wpList_store_row rfl 36 _ _ rfl _ _ rfl rfl _ _ nC1 (by kernel_rfl) (by simp) (by simp [Value.oneCell']) ?_)
                refine cb.mono ?_
                rintro e' w4 ⟨rfl, b4⟩
                have r4 := (b4.block _ (lt_of_block rR)).trans rR
                have hb4 := hbR.trans (b4.mono hbR.size)
                clear cb b4 rR hbR zR0 zR1 zR2 ziR nC nI nC1 nI1 hwP hwQ hwR d0 d1 d2
                go_wp2_with (refine wpList_store_row rfl 28 _ _ rfl _ _ rfl rfl _ _ r4 (by kernel_rfl) (by simp) (by simp [Value.oneCell']) ?_)
                exact flt_retV 2 (by kernel_rfl) w.heap.size 4 (ri : Int) rfl rfl (setRow_heap _ _ _ _ _ _ r4) ⟨rfl, below_setRow hb4 (Nat.le_refl _) _⟩
              · have h3b : 20000 < st := by omega
                have hXe : X = (4, ri) := by rw [← HX.out, ← hYr]; rfl
                subst hXe
                have cb := cbad 4
                clear HX HIN HC HAL0 HCU
                clear cbad hYr hZa
                go_wp2_with (refine wpList_store_row rfl 36 _ _ rfl _ _ rfl rfl _ _ nC1 (by kernel_rfl) (by simp) (by simp [Value.oneCell']) ?_)
                refine cb.mono ?_
                rintro e' w4 ⟨rfl, b4⟩
                have r4 := (b4.block _ (lt_of_block rR)).trans rR
                have hb4 := hbR.trans (b4.mono hbR.size)
                clear cb b4 rR hbR zR0 zR1 zR2 ziR nC nI nC1 nI1 hwP hwQ hwR d0 d1 d2
                go_wp2_with (refine wpList_store_row rfl 28 _ _ rfl _ _ rfl rfl _ _ r4 (by kernel_rfl) (by simp) (by simp [Value.oneCell']) ?_)
                exact flt_retV 2 (by kernel_rfl) w.heap.size 4 (ri : Int) rfl rfl (setRow_heap _ _ _ _ _ _ r4) ⟨rfl, below_setRow hb4 (Nat.le_refl _) _⟩
          · rw [if_pos (fun e => h2 e.1)] at hZb
            subst hZb
            by_cases h2a : hi < 1
            · have hXe : X = (4, ri) := by rw [← HX.out, ← hYr]; rfl
              subst hXe
              have cb := cbad 4
              clear HX HIN HC HAL0 HCU
              clear cbad hYr hZa
              go_wp2_with (refine wpList_store_row rfl 36 _ _ rfl _ _ rfl rfl _ _ nC1 (by kernel_rfl) (by simp) (by simp [Value.oneCell']) ?_)
              refine cb.mono ?_
              rintro e' w4 ⟨rfl, b4⟩
              have r4 := (b4.block _ (lt_of_block rR)).trans rR
              have hb4 := hbR.trans (b4.mono hbR.size)
              clear cb b4 rR hbR zR0 zR1 zR2 ziR nC nI nC1 nI1 hwP hwQ hwR d0 d1 d2
              go_wp2_with (refine wpList_store_row rfl 28 _ _ rfl _ _ rfl rfl _ _ r4 (by kernel_rfl) (by simp) (by simp [Value.oneCell']) ?_)
              exact flt_retV 2 (by kernel_rfl) w.heap.size 4 (ri : Int) rfl rfl (setRow_heap _ _ _ _ _ _ r4) ⟨rfl, below_setRow hb4 (Nat.le_refl _) _⟩
            · have h2b : 100 < hi := by omega
              have hXe : X = (4, ri) := by rw [← HX.out, ← hYr]; rfl
              subst hXe
              have cb := cbad 4
              clear HX HIN HC HAL0 HCU
              clear cbad hYr hZa
              go_wp2_with (refine wpList_store_row rfl 36 _ _ rfl _ _ rfl rfl _ _ nC1 (by kernel_rfl) (by simp) (by simp [Value.oneCell']) ?_)
              refine cb.mono ?_
              rintro e' w4 ⟨rfl, b4⟩
              have r4 := (b4.block _ (lt_of_block rR)).trans rR
              have hb4 := hbR.trans (b4.mono hbR.size)
              clear cb b4 rR hbR zR0 zR1 zR2 ziR nC nI nC1 nI1 hwP hwQ hwR d0 d1 d2
              go_wp2_with (refine wpList_store_row rfl 28 _ _ rfl _ _ rfl rfl _ _ r4 (by kernel_rfl) (by simp) (by simp [Value.oneCell']) ?_)
              exact flt_retV 2 (by kernel_rfl) w.heap.size 4 (ri : Int) rfl rfl (setRow_heap _ _ _ _ _ _ r4) ⟨rfl, below_setRow hb4 (Nat.le_refl _) _⟩
        · rw [if_pos h1] at hZb
          subst hZb
          by_cases hl0 : ul.length = 0
          · have hl3 : ((ul.length : Int) == 0) = true := by rw [hl0]; rfl
            clear hl0 h1
            have hXe : X = (5, ri) := by rw [← HX.out, ← hYr]; rfl
            subst hXe
            have cb := cbad 5
            clear HX HIN HC HAL0 HCU
            clear cbad hYr hZa
            go_wp2_with (refine wpList_store_row rfl 36 _ _ rfl _ _ rfl rfl _ _ nC1 (by kernel_rfl) (by simp) (by simp [Value.oneCell']) ?_)
            refine cb.mono ?_
            rintro e' w4 ⟨rfl, b4⟩
            have r4 := (b4.block _ (lt_of_block rR)).trans rR
            have hb4 := hbR.trans (b4.mono hbR.size)
            clear cb b4 rR hbR zR0 zR1 zR2 ziR nC nI nC1 nI1 hwP hwQ hwR d0 d1 d2
            go_wp2_with (refine wpList_store_row rfl 28 _ _ rfl _ _ rfl rfl _ _ r4 (by kernel_rfl) (by simp) (by simp [Value.oneCell']) ?_)
            exact flt_retV 2 (by kernel_rfl) w.heap.size 5 (ri : Int) rfl rfl (setRow_heap _ _ _ _ _ _ r4) ⟨rfl, below_setRow hb4 (Nat.le_refl _) _⟩
          · have hl3 : ((ul.length : Int) == 0) = false := beq_eq_false_iff_ne.2 (by omega)
            have hl2 : (2000 : Int) < (ul.length : Int) := by omega
            have hXe : X = (5, ri) := by rw [← HX.out, ← hYr]; rfl
            subst hXe
            have cb := cbad 5
            clear HX HIN HC HAL0 HCU
            clear cbad hYr hZa
            go_wp2_with (refine wpList_store_row rfl 36 _ _ rfl _ _ rfl rfl _ _ nC1 (by kernel_rfl) (by simp) (by simp [Value.oneCell']) ?_)
            refine cb.mono ?_
            rintro e' w4 ⟨rfl, b4⟩
            have r4 := (b4.block _ (lt_of_block rR)).trans rR
            have hb4 := hbR.trans (b4.mono hbR.size)
            clear cb b4 rR hbR zR0 zR1 zR2 ziR nC nI nC1 nI1 hwP hwQ hwR d0 d1 d2
            go_wp2_with (refine wpList_store_row rfl 28 _ _ rfl _ _ rfl rfl _ _ r4 (by kernel_rfl) (by simp) (by simp [Value.oneCell']) ?_)
            exact flt_retV 2 (by kernel_rfl) w.heap.size 5 (ri : Int) rfl rfl (setRow_heap _ _ _ _ _ _ r4) ⟨rfl, below_setRow hb4 (Nat.le_refl _) _⟩
      · have hlt' : ¬ (ri : Int) < (cs.length : Int) := by omega
        have er : ri = cs.length := by omega
        subst er
        have hY0 : Y = (0, 0) := by
          rw [← hYr, Nat.sub_self]
          rfl
        subst hY0
        have HOK : Hid (∀ (i : Nat) (c : Cd), cs[i]? = some c → aloneE c cs.length = 0) := fun i c hc => hal0 i c (List.getElem?_eq_some_iff.1 hc).1 hc
        have HX2 : Hid (firstF (lateE cs) (cs.length - 0) 0 = X) := HX.out
        obtain ⟨wk, rfl⟩ : ∃ q, q = wr := ⟨_, rfl⟩
        have cK := rcalls_any cs (.slice p cs.length cp) wk (HIN.out.below hbr) (by omega) HOK.out
        clear hYr hal0 HX
        go_wp2_with fail
        refine cK.mono ?_
        rintro e w2 ⟨rs, rfl, hK⟩
        have r2 := (hK.bel.block _ hlr).trans hrr
        have b2 := hbr.trans (hK.bel.mono hbr.size)
        clear cK
        have HKK := hidv hK
        clear hK hrr hbr
        go_wp2_with fail
        have hK := HKK.out
        clear HKK
        go_loopw [86] (fun t wr => W3 cs X w wk rs t wr) (fun t _ => cs.length - (intOf t).toNat)
        case atStart => exact ⟨0, rfl, by omega, HX2.out, r2, b2, hK⟩
        case round =>
          obtain ⟨ri, rfl, hi, hXr, hr9, hb9, hk9⟩ := hrel
          clear HX2 r2 b2 hK
          have hi0 : (0 : Int) ≤ (ri : Int) := by omega
          by_cases hlt : ri < cs.length
          · have hlt' : (ri : Int) < (cs.length : Int) := by omega
            obtain ⟨u, hiu⟩ : ∃ u, cs[ri]? = some u := ⟨cs[ri], List.getElem?_eq_getElem hlt⟩
            obtain ⟨sv, hin, g, o, hpe, c0, c1, c2⟩ := HC.out ri _ hiu
            subst hpe
            rw [firstF_step _ _ _ hlt] at hXr
            have hal := alone_ins (HOK.out ri u hiu)
            have hcd := cd_at hiu
            obtain ⟨ul, hi, st⟩ := u
            dsimp only at hin c1 c2 hal
            obtain ⟨pu, cu, rfl, hlu, _⟩ := hin.form
            have d0 := (hb9.cell (block_lt_of_cell c0)).trans c0
            have d1 := (hb9.cell (block_lt_of_cell c1)).trans c1
            have d2 := (hb9.cell (block_lt_of_cell c2)).trans c2
            have bC := (Below.refl wr.heap.size wr).alloc (Nat.le_refl _) (.cells #[.slice pu ul.length cu, .int .i64 hi, .int .i64 st] 36)
            have nC := heap_alloc_new wr (.cells #[.slice pu ul.length cu, .int .i64 hi, .int .i64 st] 36)
            have hrC := (bC.block _ (lt_of_block hr9)).trans hr9
            have hbC := hb9.trans (bC.mono hb9.size)
            have hkC := hk9.below bC
            have oi := hkC.out hlt
            have mi := hkC.cell hlt hlt
            generalize hwC : wr.alloc (.cells #[.slice pu ul.length cu, .int .i64 hi, .int .i64 st] 36) = wC at *
            have cU := ruses_any cs ul hi st (.slice (some ⟨g, o, none⟩) cs.length cp) (.slice pu ul.length cu) wC (HIN.out.below hbC) (hin.below hbC) HOK.out hal.1.2 hal.2.2
            have hLE : lateE cs ri = if wars (callE cs) cs.length ri ri = true then 9 else if fitB cs ⟨ul, hi, st⟩ = true then 0 else 8 := by
              unfold lateE
              rw [hcd]
            obtain ⟨Zl, hZl⟩ : ∃ q, lateE cs ri = q := ⟨_, rfl⟩
            rw [hZl] at hXr hLE
            clear hal hcd hin hiu c0 c1 c2 bC hr9 hb9 hk9 hZl
            cases hw : wars (callE cs) cs.length ri ri with
            | true =>
              rw [hw] at mi
              rw [if_pos hw] at hLE
              subst hLE
              have hXe : X = (9, ri) := hXr.symm
              subst hXe
              clear hXr cU hkC hw HOK HIN HC
              go_wp2_with (refine wpList_store_row rfl 28 _ _ rfl _ _ rfl rfl _ _ hrC (by kernel_rfl) (by simp) (by simp [Value.oneCell']) ?_)
              exact flt_retV 2 (by kernel_rfl) w.heap.size 9 (ri : Int) rfl rfl (setRow_heap _ _ _ _ _ _ hrC) ⟨rfl, below_setRow hbC (Nat.le_refl _) _⟩
            | false =>
              rw [hw] at mi
              rw [if_neg (by rw [hw]; decide)] at hLE
              have HXR := hidv hXr
              have HLE := hidv hLE
              clear hXr hw hLE
              go_wp2_with (refine wpList_load_row rfl 36 _ rfl _ rfl _ _ _ _ nC codeType rfl (by kernel_rfl) ?_)
              refine cU.mono ?_
              rintro e w5 ⟨hh, ss, ok, rfl, hU, b5⟩
              have nC5 := (b5.block _ (lt_of_block nC)).trans nC
              have hr5 := (b5.block _ (lt_of_block hrC)).trans hrC
              have hb5 := hbC.trans (b5.mono hbC.size)
              have hk5 := hkC.below b5
              have z1 := (cell_of_row _ _ 1 _ _ _ nC5).trans rfl
              have z2 := (cell_of_row _ _ 2 _ _ _ nC5).trans rfl
              have hX2 : fitB cs ⟨ul, hi, st⟩ = (ok && (decide (hh = hi) && decide (ss = st))) := by
                obtain ⟨u1, u2⟩ := hU
                cases ok with
                | false =>
                  cases hf : fitB cs ⟨ul, hi, st⟩ with
                  | false => rfl
                  | true => exact absurd (u1.2 (fitB_iff.1 hf).well) (by simp)
                | true =>
                  obtain ⟨rfl, rfl⟩ := u2 rfl
                  by_cases h1 : mxH cs ul ul.length = hi
                  · by_cases h2 : stS cs ul ul.length = st
                    · rw [decide_eq_true h1, decide_eq_true h2]
                      exact fitB_iff.2 ⟨u1.1 rfl, h1, h2⟩
                    · rw [decide_eq_false h2]
                      simp only [Bool.and_false]
                      cases hf : fitB cs ⟨ul, hi, st⟩ with
                      | false => rfl
                      | true => exact absurd (fitB_iff.1 hf).steps h2
                  · rw [decide_eq_false h1]
                    simp only [Bool.false_and, Bool.and_false]
                    cases hf : fitB cs ⟨ul, hi, st⟩ with
                    | false => rfl
                    | true => exact absurd (fitB_iff.1 hf).high h1
              have hXr := HXR.out
              have hLE := HLE.out
              rw [hX2] at hLE
              clear HLE
              clear cU b5 nC nC5 hrC hbC hkC hU HXR hX2 oi mi d0 d1 d2 hwC
              cases ok with
              | false =>
                have hZ8 : Zl = 8 := hLE
                subst hZ8
                have hXe : X = (8, ri) := hXr.symm
                subst hXe
                clear hXr hLE hk5 HOK HIN HC
                go_wp2_with (refine wpList_store_row rfl 28 _ _ rfl _ _ rfl rfl _ _ hr5 (by kernel_rfl) (by simp) (by simp [Value.oneCell']) ?_)
                exact flt_retV 2 (by kernel_rfl) w.heap.size 8 (ri : Int) rfl rfl (setRow_heap _ _ _ _ _ _ hr5) ⟨rfl, below_setRow hb5 (Nat.le_refl _) _⟩
              | true =>
                by_cases h1 : hh = hi
                · by_cases h2 : ss = st
                  · rw [decide_eq_true h1, decide_eq_true h2] at hLE
                    have hZ8 : Zl = 0 := hLE
                    subst hZ8
                    have hXn : firstF (lateE cs) (cs.length - (ri + 1)) (ri + 1) = X := hXr
                    subst h1 h2
                    have HN : Hid (W3 cs X w wk rs (.int .i64 ((ri + 1 : Nat) : Int)) w5) := ⟨ri + 1, rfl, by omega, hXn, hr5, hb5, hk5⟩
                    clear hXr hLE hXn hk5 hr5 hb5 HOK HIN HC
                    go_wp2_with fail
                    go_roundw
                    case rel => first
                      | exact HN.out
                      | ((repeat apply Exists.intro); exact ⟨HN.out, rfl⟩)
                    case measure => simp [intOf]; omega
                  · rw [decide_eq_true h1, decide_eq_false h2] at hLE
                    have hZ8 : Zl = 8 := hLE
                    subst hZ8
                    have hXe : X = (8, ri) := hXr.symm
                    subst hXe h1
                    have hb2 : (ss == st) = false := beq_eq_false_iff_ne.2 h2
                    have hb3 : (ss != st) = true := by simpa using h2
                    clear hXr hLE hk5 HOK HIN HC h2
                    go_wp2_with (refine wpList_store_row rfl 28 _ _ rfl _ _ rfl rfl _ _ hr5 (by kernel_rfl) (by simp) (by simp [Value.oneCell']) ?_)
                    exact flt_retV 2 (by kernel_rfl) w.heap.size 8 (ri : Int) rfl rfl (setRow_heap _ _ _ _ _ _ hr5) ⟨rfl, below_setRow hb5 (Nat.le_refl _) _⟩
                · rw [decide_eq_false h1] at hLE
                  have hZ8 : Zl = 8 := by rw [hLE]; simp
                  subst hZ8
                  have hXe : X = (8, ri) := hXr.symm
                  subst hXe
                  have hb2 : (hh == hi) = false := beq_eq_false_iff_ne.2 h1
                  have hb3 : (hh != hi) = true := by simpa using h1
                  clear hXr hLE hk5 HOK HIN HC h1
                  go_wp2_with (refine wpList_store_row rfl 28 _ _ rfl _ _ rfl rfl _ _ hr5 (by kernel_rfl) (by simp) (by simp [Value.oneCell']) ?_)
                  exact flt_retV 2 (by kernel_rfl) w.heap.size 8 (ri : Int) rfl rfl (setRow_heap _ _ _ _ _ _ hr5) ⟨rfl, below_setRow hb5 (Nat.le_refl _) _⟩
          · have hlt' : ¬ (ri : Int) < (cs.length : Int) := by omega
            have hXe : X = (0, 0) := by
              rw [← hXr, show cs.length - ri = 0 by omega]
              rfl
            subst hXe
            clear hXr hk9 HOK HIN HC
            go_wp2_with (refine wpList_store_row rfl 28 _ _ rfl _ _ rfl rfl _ _ hr9 (by kernel_rfl) (by simp) (by simp [Value.oneCell']) ?_)
            exact flt_retV 2 (by kernel_rfl) w.heap.size 0 0 rfl rfl (setRow_heap _ _ _ _ _ _ hr9) ⟨rfl, below_setRow hb9 (Nat.le_refl _) _⟩
end Go.Proofs.Ytaeengpppehlfaa

/- The document's Run, where something is wrong. Written by genvrf.py. -/
namespace Go.Proofs.Ytaeengpppehlfaa
open Go.RowKit Msk Vx

theorem wrong_zero {cs : List Cd} (he : (wrongV cs).1 = 0) : wrongV cs = (0, 0) := by
  unfold wrongV at he ⊢
  by_cases h1 : 40 < cs.length
  · rw [if_pos h1] at he; simp at he
  · rw [if_neg h1] at he ⊢
    by_cases h2 : (firstF (fun i => aloneE (cs.getD i cd0) cs.length) cs.length 0).1 ≠ 0
    · rw [if_pos h2] at he; exact absurd he h2
    · rw [if_neg h2] at he ⊢
      exact (firstF_ok _ _ he).1
set_option maxRecDepth 100000 in
set_option maxHeartbeats 4000000 in
theorem rrun_rule1 (cs : List Cd) (lv : Value) (rule day : Int) (w : World) (h : InV w lv cs) (he : (wrongV cs).1 = 0) (hr : rule < 0) :
    Calls Try.prog 10 #[lv, .int .i64 rule, .int .i64 day] w (OutR (fun _ => false) 0 6 0 w) := by
  obtain ⟨p, cp, elv, hlen, hcc⟩ := h.form
  have hz := mv_lit
  have bA : Below w.heap.size w ((w.alloc (.cells (mv fun _ => false) 25)).alloc (.cells #[.int .i64 0, .int .i64 0] 28)) := ((Below.refl _ _).alloc (Nat.le_refl _) _).alloc (by simp) _
  have nM0 : ((w.alloc (.cells (mv fun _ => false) 25)).alloc (.cells #[.int .i64 0, .int .i64 0] 28)).heap[w.heap.size]? = some (.cells (mv fun _ => false) 25 (0, 0)) := by (repeat (first | refine blk_old _ _ _ (by simp only [size_alloc]; omega) ?_ | exact blk_new _ _ _ (by first | rfl | simp only [size_alloc])))
  have nF0 : ((w.alloc (.cells (mv fun _ => false) 25)).alloc (.cells #[.int .i64 0, .int .i64 0] 28)).heap[w.heap.size + 1]? = some (.cells #[.int .i64 0, .int .i64 0] 28 (0, 0)) := by (repeat (first | refine blk_old _ _ _ (by simp only [size_alloc]; omega) ?_ | exact blk_new _ _ _ (by first | rfl | simp only [size_alloc])))
  generalize hwA : (w.alloc (.cells (mv fun _ => false) 25)).alloc (.cells #[.int .i64 0, .int .i64 0] 28) = wA at *
  have cW := rwrong_any cs lv wA (h.below bA)
  have hn0 : (0 : Int) ≤ (cs.length : Int) := by omega
  rw [wrong_zero he] at cW
  clear he hcc h
  subst elv
  go_enter Try.func10, Try.ntmps10
  go_wp2_with fail
  refine cW.mono ?_
  rintro e w1 ⟨rfl, hb1⟩
  dsimp only
  have b1 := bA.trans (hb1.mono bA.size)
  have nM1 := (hb1.block _ (lt_of_block nM0)).trans nM0
  have nF1 := (hb1.block _ (lt_of_block nF0)).trans nF0
  have bF0 := (Below.refl w1.heap.size w1).alloc (Nat.le_refl _) (.cells #[.int .i64 0, .int .i64 0] 28)
  have nG0 := heap_alloc_new w1 (.cells #[.int .i64 0, .int .i64 0] 28)
  generalize hw1 : w1.alloc (.cells #[.int .i64 0, .int .i64 0] 28) = w1a at *
  have bF := below_setRow bF0 (Nat.le_refl _) #[.int .i64 0, .int .i64 0]
  have nG := setRow_heap _ _ _ #[.int .i64 0, .int .i64 0] _ _ nG0
  have nM2 := (bF.block _ (lt_of_block nM1)).trans nM1
  have nF2 := (bF.block _ (lt_of_block nF1)).trans nF1
  have b2 := b1.trans (bF.mono b1.size)
  generalize hw2 : w1a.setRow w1.heap.size #[.int .i64 0, .int .i64 0] = w2 at *
  have zG := (cell_of_row _ _ 0 _ _ _ nG).trans rfl
  have nM3 := setRow_heap _ _ _ (mv fun _ => false) _ _ nM2
  have nF3 := (setRow_other w2 w.heap.size (w.heap.size + 1) (mv fun _ => false) (by omega)).trans nF2
  have b3 := below_setRow b2 (Nat.le_refl _) (mv fun _ => false)
  generalize hw3 : w2.setRow w.heap.size (mv fun _ => false) = w3 at *
  have nM4 := (setRow_other w3 (w.heap.size + 1) w.heap.size #[.int .i64 6, .int .i64 0] (by omega)).trans nM3
  have nF4 := setRow_heap _ _ _ #[.int .i64 6, .int .i64 0] _ _ nF3
  have HB := hidv (below_setRow b3 (by omega : w.heap.size ≤ w.heap.size + 1) #[.int .i64 6, .int .i64 0])
  clear cW hb1 nM1 nF1 bF nM0 nF0 hwA bA b1 bF0 b2 b3
  go_wp2_with (first
    | (refine wpList_store_row rfl 28 _ _ rfl _ _ rfl rfl _ _ nG0 (by kernel_rfl) (by simp) (by simp [Value.oneCell']) ?_)
    | (refine wpList_store_row rfl 25 _ _ rfl _ _ rfl rfl _ _ nM2 (maskSize _) (by simp [mv_size]) (mv_all _) ?_)
    | (refine wpList_store_row rfl 28 _ _ rfl _ _ rfl rfl _ _ nF3 (by kernel_rfl) (by simp) (by simp [Value.oneCell']) ?_))
  exact rrun_post w.heap.size (w.heap.size + 1) (fun _ => false) 0 6 0 rfl rfl rfl rfl nM4 nF4 ⟨rfl, HB.out⟩
set_option maxRecDepth 100000 in
set_option maxHeartbeats 4000000 in
theorem rrun_rule2 (cs : List Cd) (lv : Value) (rule day : Int) (w : World) (h : InV w lv cs) (he : (wrongV cs).1 = 0) (hr0 : ¬ rule < 0) (hr : (cs.length : Int) ≤ rule) :
    Calls Try.prog 10 #[lv, .int .i64 rule, .int .i64 day] w (OutR (fun _ => false) 0 6 0 w) := by
  obtain ⟨p, cp, elv, hlen, hcc⟩ := h.form
  have hz := mv_lit
  have bA : Below w.heap.size w ((w.alloc (.cells (mv fun _ => false) 25)).alloc (.cells #[.int .i64 0, .int .i64 0] 28)) := ((Below.refl _ _).alloc (Nat.le_refl _) _).alloc (by simp) _
  have nM0 : ((w.alloc (.cells (mv fun _ => false) 25)).alloc (.cells #[.int .i64 0, .int .i64 0] 28)).heap[w.heap.size]? = some (.cells (mv fun _ => false) 25 (0, 0)) := by (repeat (first | refine blk_old _ _ _ (by simp only [size_alloc]; omega) ?_ | exact blk_new _ _ _ (by first | rfl | simp only [size_alloc])))
  have nF0 : ((w.alloc (.cells (mv fun _ => false) 25)).alloc (.cells #[.int .i64 0, .int .i64 0] 28)).heap[w.heap.size + 1]? = some (.cells #[.int .i64 0, .int .i64 0] 28 (0, 0)) := by (repeat (first | refine blk_old _ _ _ (by simp only [size_alloc]; omega) ?_ | exact blk_new _ _ _ (by first | rfl | simp only [size_alloc])))
  generalize hwA : (w.alloc (.cells (mv fun _ => false) 25)).alloc (.cells #[.int .i64 0, .int .i64 0] 28) = wA at *
  have cW := rwrong_any cs lv wA (h.below bA)
  have hn0 : (0 : Int) ≤ (cs.length : Int) := by omega
  rw [wrong_zero he] at cW
  clear he hcc h
  subst elv
  go_enter Try.func10, Try.ntmps10
  go_wp2_with fail
  refine cW.mono ?_
  rintro e w1 ⟨rfl, hb1⟩
  dsimp only
  have b1 := bA.trans (hb1.mono bA.size)
  have nM1 := (hb1.block _ (lt_of_block nM0)).trans nM0
  have nF1 := (hb1.block _ (lt_of_block nF0)).trans nF0
  have bF0 := (Below.refl w1.heap.size w1).alloc (Nat.le_refl _) (.cells #[.int .i64 0, .int .i64 0] 28)
  have nG0 := heap_alloc_new w1 (.cells #[.int .i64 0, .int .i64 0] 28)
  generalize hw1 : w1.alloc (.cells #[.int .i64 0, .int .i64 0] 28) = w1a at *
  have bF := below_setRow bF0 (Nat.le_refl _) #[.int .i64 0, .int .i64 0]
  have nG := setRow_heap _ _ _ #[.int .i64 0, .int .i64 0] _ _ nG0
  have nM2 := (bF.block _ (lt_of_block nM1)).trans nM1
  have nF2 := (bF.block _ (lt_of_block nF1)).trans nF1
  have b2 := b1.trans (bF.mono b1.size)
  generalize hw2 : w1a.setRow w1.heap.size #[.int .i64 0, .int .i64 0] = w2 at *
  have zG := (cell_of_row _ _ 0 _ _ _ nG).trans rfl
  have nM3 := setRow_heap _ _ _ (mv fun _ => false) _ _ nM2
  have nF3 := (setRow_other w2 w.heap.size (w.heap.size + 1) (mv fun _ => false) (by omega)).trans nF2
  have b3 := below_setRow b2 (Nat.le_refl _) (mv fun _ => false)
  generalize hw3 : w2.setRow w.heap.size (mv fun _ => false) = w3 at *
  have nM4 := (setRow_other w3 (w.heap.size + 1) w.heap.size #[.int .i64 6, .int .i64 0] (by omega)).trans nM3
  have nF4 := setRow_heap _ _ _ #[.int .i64 6, .int .i64 0] _ _ nF3
  have HB := hidv (below_setRow b3 (by omega : w.heap.size ≤ w.heap.size + 1) #[.int .i64 6, .int .i64 0])
  clear cW hb1 nM1 nF1 bF nM0 nF0 hwA bA b1 bF0 b2 b3
  go_wp2_with (first
    | (refine wpList_store_row rfl 28 _ _ rfl _ _ rfl rfl _ _ nG0 (by kernel_rfl) (by simp) (by simp [Value.oneCell']) ?_)
    | (refine wpList_store_row rfl 25 _ _ rfl _ _ rfl rfl _ _ nM2 (maskSize _) (by simp [mv_size]) (mv_all _) ?_)
    | (refine wpList_store_row rfl 28 _ _ rfl _ _ rfl rfl _ _ nF3 (by kernel_rfl) (by simp) (by simp [Value.oneCell']) ?_))
  exact rrun_post w.heap.size (w.heap.size + 1) (fun _ => false) 0 6 0 rfl rfl rfl rfl nM4 nF4 ⟨rfl, HB.out⟩
set_option maxRecDepth 100000 in
set_option maxHeartbeats 4000000 in
theorem rrun_day1 (cs : List Cd) (lv : Value) (rule day : Int) (w : World) (h : InV w lv cs) (he : (wrongV cs).1 = 0) (hr0 : ¬ rule < 0) (hr : ¬ (cs.length : Int) ≤ rule) (hd : day < 0) :
    Calls Try.prog 10 #[lv, .int .i64 rule, .int .i64 day] w (OutR (fun _ => false) 0 3 0 w) := by
  obtain ⟨p, cp, elv, hlen, hcc⟩ := h.form
  have hz := mv_lit
  have bA : Below w.heap.size w ((w.alloc (.cells (mv fun _ => false) 25)).alloc (.cells #[.int .i64 0, .int .i64 0] 28)) := ((Below.refl _ _).alloc (Nat.le_refl _) _).alloc (by simp) _
  have nM0 : ((w.alloc (.cells (mv fun _ => false) 25)).alloc (.cells #[.int .i64 0, .int .i64 0] 28)).heap[w.heap.size]? = some (.cells (mv fun _ => false) 25 (0, 0)) := by (repeat (first | refine blk_old _ _ _ (by simp only [size_alloc]; omega) ?_ | exact blk_new _ _ _ (by first | rfl | simp only [size_alloc])))
  have nF0 : ((w.alloc (.cells (mv fun _ => false) 25)).alloc (.cells #[.int .i64 0, .int .i64 0] 28)).heap[w.heap.size + 1]? = some (.cells #[.int .i64 0, .int .i64 0] 28 (0, 0)) := by (repeat (first | refine blk_old _ _ _ (by simp only [size_alloc]; omega) ?_ | exact blk_new _ _ _ (by first | rfl | simp only [size_alloc])))
  generalize hwA : (w.alloc (.cells (mv fun _ => false) 25)).alloc (.cells #[.int .i64 0, .int .i64 0] 28) = wA at *
  have cW := rwrong_any cs lv wA (h.below bA)
  have hn0 : (0 : Int) ≤ (cs.length : Int) := by omega
  rw [wrong_zero he] at cW
  clear he hcc h
  subst elv
  go_enter Try.func10, Try.ntmps10
  go_wp2_with fail
  refine cW.mono ?_
  rintro e w1 ⟨rfl, hb1⟩
  dsimp only
  have b1 := bA.trans (hb1.mono bA.size)
  have nM1 := (hb1.block _ (lt_of_block nM0)).trans nM0
  have nF1 := (hb1.block _ (lt_of_block nF0)).trans nF0
  have bF0 := (Below.refl w1.heap.size w1).alloc (Nat.le_refl _) (.cells #[.int .i64 0, .int .i64 0] 28)
  have nG0 := heap_alloc_new w1 (.cells #[.int .i64 0, .int .i64 0] 28)
  generalize hw1 : w1.alloc (.cells #[.int .i64 0, .int .i64 0] 28) = w1a at *
  have bF := below_setRow bF0 (Nat.le_refl _) #[.int .i64 0, .int .i64 0]
  have nG := setRow_heap _ _ _ #[.int .i64 0, .int .i64 0] _ _ nG0
  have nM2 := (bF.block _ (lt_of_block nM1)).trans nM1
  have nF2 := (bF.block _ (lt_of_block nF1)).trans nF1
  have b2 := b1.trans (bF.mono b1.size)
  generalize hw2 : w1a.setRow w1.heap.size #[.int .i64 0, .int .i64 0] = w2 at *
  have zG := (cell_of_row _ _ 0 _ _ _ nG).trans rfl
  have nM3 := setRow_heap _ _ _ (mv fun _ => false) _ _ nM2
  have nF3 := (setRow_other w2 w.heap.size (w.heap.size + 1) (mv fun _ => false) (by omega)).trans nF2
  have b3 := below_setRow b2 (Nat.le_refl _) (mv fun _ => false)
  generalize hw3 : w2.setRow w.heap.size (mv fun _ => false) = w3 at *
  have nM4 := (setRow_other w3 (w.heap.size + 1) w.heap.size #[.int .i64 3, .int .i64 0] (by omega)).trans nM3
  have nF4 := setRow_heap _ _ _ #[.int .i64 3, .int .i64 0] _ _ nF3
  have HB := hidv (below_setRow b3 (by omega : w.heap.size ≤ w.heap.size + 1) #[.int .i64 3, .int .i64 0])
  clear cW hb1 nM1 nF1 bF nM0 nF0 hwA bA b1 bF0 b2 b3
  go_wp2_with (first
    | (refine wpList_store_row rfl 28 _ _ rfl _ _ rfl rfl _ _ nG0 (by kernel_rfl) (by simp) (by simp [Value.oneCell']) ?_)
    | (refine wpList_store_row rfl 25 _ _ rfl _ _ rfl rfl _ _ nM2 (maskSize _) (by simp [mv_size]) (mv_all _) ?_)
    | (refine wpList_store_row rfl 28 _ _ rfl _ _ rfl rfl _ _ nF3 (by kernel_rfl) (by simp) (by simp [Value.oneCell']) ?_))
  exact rrun_post w.heap.size (w.heap.size + 1) (fun _ => false) 0 3 0 rfl rfl rfl rfl nM4 nF4 ⟨rfl, HB.out⟩
set_option maxRecDepth 100000 in
set_option maxHeartbeats 4000000 in
theorem rrun_day2 (cs : List Cd) (lv : Value) (rule day : Int) (w : World) (h : InV w lv cs) (he : (wrongV cs).1 = 0) (hr0 : ¬ rule < 0) (hr : ¬ (cs.length : Int) ≤ rule) (hd0 : ¬ day < 0) (hd : 146097 ≤ day) :
    Calls Try.prog 10 #[lv, .int .i64 rule, .int .i64 day] w (OutR (fun _ => false) 0 3 0 w) := by
  obtain ⟨p, cp, elv, hlen, hcc⟩ := h.form
  have hz := mv_lit
  have bA : Below w.heap.size w ((w.alloc (.cells (mv fun _ => false) 25)).alloc (.cells #[.int .i64 0, .int .i64 0] 28)) := ((Below.refl _ _).alloc (Nat.le_refl _) _).alloc (by simp) _
  have nM0 : ((w.alloc (.cells (mv fun _ => false) 25)).alloc (.cells #[.int .i64 0, .int .i64 0] 28)).heap[w.heap.size]? = some (.cells (mv fun _ => false) 25 (0, 0)) := by (repeat (first | refine blk_old _ _ _ (by simp only [size_alloc]; omega) ?_ | exact blk_new _ _ _ (by first | rfl | simp only [size_alloc])))
  have nF0 : ((w.alloc (.cells (mv fun _ => false) 25)).alloc (.cells #[.int .i64 0, .int .i64 0] 28)).heap[w.heap.size + 1]? = some (.cells #[.int .i64 0, .int .i64 0] 28 (0, 0)) := by (repeat (first | refine blk_old _ _ _ (by simp only [size_alloc]; omega) ?_ | exact blk_new _ _ _ (by first | rfl | simp only [size_alloc])))
  generalize hwA : (w.alloc (.cells (mv fun _ => false) 25)).alloc (.cells #[.int .i64 0, .int .i64 0] 28) = wA at *
  have cW := rwrong_any cs lv wA (h.below bA)
  have hn0 : (0 : Int) ≤ (cs.length : Int) := by omega
  rw [wrong_zero he] at cW
  clear he hcc h
  subst elv
  go_enter Try.func10, Try.ntmps10
  go_wp2_with fail
  refine cW.mono ?_
  rintro e w1 ⟨rfl, hb1⟩
  dsimp only
  have b1 := bA.trans (hb1.mono bA.size)
  have nM1 := (hb1.block _ (lt_of_block nM0)).trans nM0
  have nF1 := (hb1.block _ (lt_of_block nF0)).trans nF0
  have bF0 := (Below.refl w1.heap.size w1).alloc (Nat.le_refl _) (.cells #[.int .i64 0, .int .i64 0] 28)
  have nG0 := heap_alloc_new w1 (.cells #[.int .i64 0, .int .i64 0] 28)
  generalize hw1 : w1.alloc (.cells #[.int .i64 0, .int .i64 0] 28) = w1a at *
  have bF := below_setRow bF0 (Nat.le_refl _) #[.int .i64 0, .int .i64 0]
  have nG := setRow_heap _ _ _ #[.int .i64 0, .int .i64 0] _ _ nG0
  have nM2 := (bF.block _ (lt_of_block nM1)).trans nM1
  have nF2 := (bF.block _ (lt_of_block nF1)).trans nF1
  have b2 := b1.trans (bF.mono b1.size)
  generalize hw2 : w1a.setRow w1.heap.size #[.int .i64 0, .int .i64 0] = w2 at *
  have zG := (cell_of_row _ _ 0 _ _ _ nG).trans rfl
  have nM3 := setRow_heap _ _ _ (mv fun _ => false) _ _ nM2
  have nF3 := (setRow_other w2 w.heap.size (w.heap.size + 1) (mv fun _ => false) (by omega)).trans nF2
  have b3 := below_setRow b2 (Nat.le_refl _) (mv fun _ => false)
  generalize hw3 : w2.setRow w.heap.size (mv fun _ => false) = w3 at *
  have nM4 := (setRow_other w3 (w.heap.size + 1) w.heap.size #[.int .i64 3, .int .i64 0] (by omega)).trans nM3
  have nF4 := setRow_heap _ _ _ #[.int .i64 3, .int .i64 0] _ _ nF3
  have HB := hidv (below_setRow b3 (by omega : w.heap.size ≤ w.heap.size + 1) #[.int .i64 3, .int .i64 0])
  clear cW hb1 nM1 nF1 bF nM0 nF0 hwA bA b1 bF0 b2 b3
  go_wp2_with (first
    | (refine wpList_store_row rfl 28 _ _ rfl _ _ rfl rfl _ _ nG0 (by kernel_rfl) (by simp) (by simp [Value.oneCell']) ?_)
    | (refine wpList_store_row rfl 25 _ _ rfl _ _ rfl rfl _ _ nM2 (maskSize _) (by simp [mv_size]) (mv_all _) ?_)
    | (refine wpList_store_row rfl 28 _ _ rfl _ _ rfl rfl _ _ nF3 (by kernel_rfl) (by simp) (by simp [Value.oneCell']) ?_))
  exact rrun_post w.heap.size (w.heap.size + 1) (fun _ => false) 0 3 0 rfl rfl rfl rfl nM4 nF4 ⟨rfl, HB.out⟩
set_option maxRecDepth 100000 in
set_option maxHeartbeats 4000000 in
theorem rrun_wrong (cs : List Cd) (lv : Value) (rule day : Int) (w : World) (h : InV w lv cs) (he : (wrongV cs).1 ≠ 0) :
    Calls Try.prog 10 #[lv, .int .i64 rule, .int .i64 day] w (OutR (fun _ => false) 0 (wrongV cs).1 ((wrongV cs).2 : Int) w) := by
  obtain ⟨p, cp, elv, hlen, hcc⟩ := h.form
  have hz := mv_lit
  have bA : Below w.heap.size w ((w.alloc (.cells (mv fun _ => false) 25)).alloc (.cells #[.int .i64 0, .int .i64 0] 28)) := ((Below.refl _ _).alloc (Nat.le_refl _) _).alloc (by simp) _
  have nM0 : ((w.alloc (.cells (mv fun _ => false) 25)).alloc (.cells #[.int .i64 0, .int .i64 0] 28)).heap[w.heap.size]? = some (.cells (mv fun _ => false) 25 (0, 0)) := by (repeat (first | refine blk_old _ _ _ (by simp only [size_alloc]; omega) ?_ | exact blk_new _ _ _ (by first | rfl | simp only [size_alloc])))
  have nF0 : ((w.alloc (.cells (mv fun _ => false) 25)).alloc (.cells #[.int .i64 0, .int .i64 0] 28)).heap[w.heap.size + 1]? = some (.cells #[.int .i64 0, .int .i64 0] 28 (0, 0)) := by (repeat (first | refine blk_old _ _ _ (by simp only [size_alloc]; omega) ?_ | exact blk_new _ _ _ (by first | rfl | simp only [size_alloc])))
  generalize hwA : (w.alloc (.cells (mv fun _ => false) 25)).alloc (.cells #[.int .i64 0, .int .i64 0] 28) = wA at *
  have cW := rwrong_any cs lv wA (h.below bA)
  have hn0 : (0 : Int) ≤ (cs.length : Int) := by omega
  obtain ⟨X, hX⟩ : ∃ x, wrongV cs = x := ⟨_, rfl⟩
  rw [hX] at he cW ⊢
  obtain ⟨er, at0⟩ := X
  dsimp only at he cW ⊢
  obtain ⟨at_, hat⟩ : ∃ q : Int, (at0 : Int) = q := ⟨_, rfl⟩
  rw [hat] at cW ⊢
  have hb0 : (er == 0) = false := beq_eq_false_iff_ne.2 he
  have hbn : (er != 0) = true := by simpa using he
  clear he h hcc hX hat
  subst elv
  go_enter Try.func10, Try.ntmps10
  go_wp2_with fail
  refine cW.mono ?_
  rintro e w1 ⟨rfl, hb1⟩
  have b1 := bA.trans (hb1.mono bA.size)
  have nM1 := (hb1.block _ (lt_of_block nM0)).trans nM0
  have nF1 := (hb1.block _ (lt_of_block nF0)).trans nF0
  have bF := (Below.refl w1.heap.size w1).alloc (Nat.le_refl _) (.cells #[.int .i64 er, .int .i64 at_] 28)
  have nG := heap_alloc_new w1 (.cells #[.int .i64 er, .int .i64 at_] 28)
  have nM2 := (bF.block _ (lt_of_block nM1)).trans nM1
  have nF2 := (bF.block _ (lt_of_block nF1)).trans nF1
  have b2 := b1.trans (bF.mono b1.size)
  have hl1 := lt_of_block nM1
  have hl2 := lt_of_block nF1
  generalize hw2 : w1.alloc (.cells #[.int .i64 er, .int .i64 at_] 28) = w2 at *
  have zG := (cell_of_row _ _ 0 _ _ _ nG).trans rfl
  clear cW hb1 nM1 nF1 bF nM0 nF0 hwA bA b1
  go_wp2_with fail
  clear hw2
  have hJ0 : ∀ L : Nat → Bool, (∀ i, i < 5 → L i = false) → FtJ w w.heap.size w1.heap.size er at_ L w2.drew := fun L hL => ⟨b2.trans ((Below.refl w2.heap.size w2).drew.mono b2.size), Nat.le_refl _, ⟨by omega, by omega⟩, nM2, nG, fun _ => nF2, fun e => (by rw [hL 4 (by decide)] at e; cases e)⟩
  clear nM2 nG nF2 b2 zG
  obtain ⟨rf, hrf⟩ : ∃ b, w1.heap.size = b := ⟨_, rfl⟩
  obtain ⟨rr, hrr⟩ : ∃ b, w.heap.size = b := ⟨_, rfl⟩
  rw [hrf, hrr] at hJ0
  simp only [hrf, hrr]
  refine wp_region_JL (FtJ w rr rf er at_) (fun L hL => hJ0 L hL) (by kernel_rfl) (by kernel_rfl) (by kernel_rfl) (by kernel_rfl) [(some 22, .agg (mv fun _ => false)), (some 23, .agg #[.int .i64 er, .int .i64 at_]), (none, undef), (some 7, .int .i64 0), (none, undef)] [(22, .agg (mv fun _ => false)), (23, .agg #[.int .i64 er, .int .i64 at_]), (7, .int .i64 0)] (by kernel_rfl) (by kernel_rfl) (by kernel_rfl) ?_ ?_
  · intro i' d v o' L A W2 ho hv hLi hdep hc hJ hkept hhas
    match i', ho, hv, hLi with
    | 0, ho, hv, hLi =>
      cases Option.some.inj ho
      cases Option.some.inj hv
      refine wpOp_step rfl (fun K hK => ?_)
      go_simp
      exact hK _ _ ⟨rfl, hJ.same 0 (by decide)⟩
    | 1, ho, hv, hLi =>
      cases Option.some.inj ho
      cases Option.some.inj hv
      have h9 : A.eval (.tmp 9) = .pointer (some ⟨rf, 0, none⟩) := hkept 9 (by kernel_rfl)
      refine wpOp_step rfl (fun K hK => ?_)
      show Oper.wp _ _ _ _ _ _
      refine wp_load_row 28 _ rfl _ h9 _ _ _ _ hJ.src faultTypeV rfl (by kernel_rfl) ?_
      exact hK _ _ ⟨rfl, hJ.same 1 (by decide)⟩
    | 2, ho, hv, hLi =>
      cases Option.some.inj ho
      cases Option.some.inj hv
      have h6 : A.eval (.tmp 6) = .pointer (some ⟨rr, 0, none⟩) := hkept 6 (by kernel_rfl)
      have h22 : A.eval (.tmp 22) = .agg (mv fun _ => false) := hhas 0 22 _ rfl (hdep ⟨0, .data⟩ (by simp) rfl)
      refine wpOp_step rfl (fun K hK => ?_)
      show Oper.wp _ _ _ _ _ _
      refine wp_store_row 25 _ _ rfl _ _ h6 h22 _ _ hJ.msk (maskSize _) (by simp [mv_size]) (mv_all _) ?_
      exact hK _ _ ⟨rfl, hJ.put⟩
    | 3, ho, hv, hLi =>
      cases Option.some.inj ho
      cases Option.some.inj hv
      refine wpOp_step rfl (fun K hK => ?_)
      go_simp
      exact hK _ _ ⟨rfl, hJ.same 3 (by decide)⟩
    | 4, ho, hv, hLi =>
      cases Option.some.inj ho
      cases Option.some.inj hv
      have h8 : A.eval (.tmp 8) = .pointer (some ⟨rr + 1, 0, none⟩) := hkept 8 (by kernel_rfl)
      have h23 : A.eval (.tmp 23) = .agg #[.int .i64 er, .int .i64 at_] := hhas 1 23 _ rfl (hdep ⟨1, .data⟩ (by simp) rfl)
      refine wpOp_step rfl (fun K hK => ?_)
      show Oper.wp _ _ _ _ _ _
      refine wp_store_row 28 _ _ rfl _ _ h8 h23 _ _ (hJ.ahead hLi) (by kernel_rfl) (by simp) (by simp [Value.oneCell']) ?_
      exact hK _ _ ⟨rfl, hJ.fault⟩
    | kk + 5, ho, hv, hLi => simp at hv
  · intro L W5 hL hJ
    have h1 := hJ.msk
    have h2 := hJ.fin (hL 4 (by decide))
    have HB := hidv hJ.bel
    simp only [putAll_cons, putAll_nil, Act.put, List.setIfInBounds_toArray, List.set_cons_succ, List.set_cons_zero]
    clear hL hJ
    go_wp2_with fail
    exact rrun_post rr (rr + 1) (fun _ => false) 0 er at_ rfl rfl rfl rfl h1 h2 ⟨rfl, HB.out⟩
end Go.Proofs.Ytaeengpppehlfaa

/- The last mask of a stack is another one. -/
namespace Go.Proofs.Ytaeengpppehlfaa
open Go.RowKit Msk Vx

def setL : Array Value → Nat → List Value → Array Value
  | a, _, [] => a
  | a, o, v :: vs => setL (a.setIfInBounds o v) (o + 1) vs
theorem setL_size : ∀ (vs : List Value) (a : Array Value) (o : Nat), (setL a o vs).size = a.size
  | [], _, _ => rfl
  | v :: vs, a, o => by rw [setL, setL_size vs]; simp
theorem setL_out : ∀ (vs : List Value) (a : Array Value) (o j : Nat), (j < o ∨ o + vs.length ≤ j) → (setL a o vs)[j]? = a[j]?
  | [], _, _, _, _ => rfl
  | v :: vs, a, o, j, h => by
    rw [List.length_cons] at h
    rw [setL, setL_out vs _ _ _ (by omega), Array.getElem?_setIfInBounds, if_neg (by omega)]
theorem setL_in : ∀ (vs : List Value) (a : Array Value) (o j : Nat), o + vs.length ≤ a.size → j < vs.length → (setL a o vs)[o + j]? = vs[j]?
  | [], _, _, _, _, h => by simp at h
  | v :: vs, a, o, 0, h, _ => by
    rw [List.length_cons] at h
    rw [setL, setL_out vs _ _ _ (by omega), Array.getElem?_setIfInBounds, if_pos (by omega), if_pos (by omega)]
    rfl
  | v :: vs, a, o, j + 1, h, h2 => by
    rw [List.length_cons] at h h2
    rw [setL, show o + (j + 1) = (o + 1) + j by omega, setL_in vs _ _ _ (by simp; omega) (by omega)]
    rfl
theorem heap_setCells_L (b : Nat) {t : TypeId} : ∀ (vs : List Value) (o : Nat) (W : World) (cs : Array Value), W.heap[b]? = some (.cells cs t (0, 0)) → (W.setCells b o vs).heap[b]? = some (.cells (setL cs o vs) t (0, 0))
  | [], _, _, _, h => h
  | v :: vs, o, W, cs, h => by
    rw [World.setCells]
    exact heap_setCells_L b vs (o + 1) _ _ (heap_setCell_same W b o cs t v h)
theorem heap_setCells_else (b : Nat) : ∀ (vs : List Value) (o : Nat) (w : World) (q : Nat), q ≠ b → (w.setCells b o vs).heap[q]? = w.heap[q]?
  | [], _, _, _, _ => rfl
  | v :: vs, o, w, q, h => by
    rw [World.setCells, heap_setCells_else b vs (o + 1) _ q h]
    exact heap_setCell_other w ⟨b, o, none⟩ q v h
theorem size_setCells9 (b : Nat) : ∀ (vs : List Value) (o : Nat) (w : World), (w.setCells b o vs).heap.size = w.heap.size
  | [], _, _ => rfl
  | v :: vs, o, w => by
    rw [World.setCells, size_setCells9 b vs (o + 1)]
    simp
theorem os_setCells9 (b : Nat) : ∀ (vs : List Value) (o : Nat) (w : World), (w.setCells b o vs).os = w.os ∧ (w.setCells b o vs).tape = w.tape ∧ (w.setCells b o vs).output = w.output
  | [], _, _ => ⟨rfl, rfl, rfl⟩
  | v :: vs, o, w => by
    rw [World.setCells]
    exact os_setCells9 b vs (o + 1) (w.setCell ⟨b, o, none⟩ v)
theorem grown_setCells (w : World) (b o : Nat) (vs : List Value) : w.grownBy (w.setCells b o vs) (some b) :=
  ⟨(os_setCells9 b vs o w).1, (os_setCells9 b vs o w).2.1, (os_setCells9 b vs o w).2.2, by rw [size_setCells9]; exact Nat.le_refl _, fun q _ hq => heap_setCells_else b vs o w q fun e => hq (congrArg some e)⟩
theorem own_setlast {w : World} {base g c : Nat} {S0 : List M} {f f' : M} (h : w.ownsRow base 25 23 (.slice (some ⟨g, 0, none⟩) (S0.length + 1) c) (S0.length + 1) (flatS (S0 ++ [f]))) :
    (w.setCells g (S0.length * 23) (mv f').toList).ownsRow base 25 23 (.slice (some ⟨g, 0, none⟩) (S0.length + 1) c) (S0 ++ [f']).length (flatS (S0 ++ [f'])) := by
  obtain ⟨h1, h2⟩ := h
  rcases h2 with ⟨e, _⟩ | ⟨g', cap, cur, e, hb, hg, hn, hc, hs, hx⟩
  · simp at e
  · injection e with e _ e2
    injection e with e
    injection e with e
    subst e e2
    have hfl := flatS_len S0
    have hml := mvl_len f'
    refine ⟨by rw [flatS_len], .inr ⟨g, c, _, by rw [List.length_append, List.length_singleton], hb, heap_setCells_L g _ _ w cur hg, by rw [List.length_append, List.length_singleton]; exact hn, hc, by rw [setL_size]; exact hs, ?_⟩⟩
    rw [List.length_append, List.length_singleton, flatS_snoc]
    rw [flatS_snoc] at hx
    apply List.ext_getElem?
    intro j
    by_cases hj : j < (S0.length + 1) * 23
    · rw [List.getElem?_take_of_lt hj, Array.getElem?_toList]
      by_cases hj2 : j < S0.length * 23
      · rw [setL_out _ _ _ _ (.inl hj2), List.getElem?_append_left (by omega)]
        have h4 : (cur.toList.take ((S0.length + 1) * 23))[j]? = (flatS S0 ++ (mv f).toList)[j]? := by rw [hx]
        rw [List.getElem?_take_of_lt hj, List.getElem?_append_left (by omega), Array.getElem?_toList] at h4
        exact h4
      · obtain ⟨q, rfl⟩ : ∃ q, j = S0.length * 23 + q := ⟨j - S0.length * 23, by omega⟩
        have hcs : (S0.length + 1) * 23 ≤ cur.size := by rw [hs]; exact Nat.mul_le_mul_right _ hn
        rw [setL_in _ _ _ _ (by omega) (by omega), List.getElem?_append_right (by omega), hfl, Nat.add_sub_cancel_left]
    · rw [List.getElem?_eq_none (by rw [List.length_take]; omega), List.getElem?_eq_none (by rw [List.length_append]; omega)]
/-- A mask of the stack is there. -/
theorem there_range {w : World} {base n g c o : Nat} {xs : List Value} {f : M} (h : w.ownsRow base 25 23 (.slice (some ⟨g, 0, none⟩) n c) n xs) (hr : w.rangeAt g o (mv f).toList) : w.there g o 23 := by
  rcases h.2 with ⟨e, _⟩ | ⟨g', cap, cur, e, _, hg, _⟩
  · simp at e
  · injection e with e _ _
    injection e with e
    injection e with e
    subst e
    intro j hj
    have hl := mvl_len f
    refine ⟨?_, frozen_of_row _ _ _ _ _ hg⟩
    rw [hr j _ (List.getElem?_eq_getElem (by omega))]
    rfl
end Go.Proofs.Ytaeengpppehlfaa
