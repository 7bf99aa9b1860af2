/- The document's Run, where nothing is wrong. Written by genvrg.py. -/
import Derived.Test.YtaeengpppehlfaaCt19
import Derived.Test.YtaeengpppehlfaaCt10
import Derived.Test.YtaeengpppehlfaaCt15
import Derived.Deep.Cut
namespace Go.Proofs.Ytaeengpppehlfaa
open Go.RowKit Msk Vx

set_option maxRecDepth 100000 in
set_option maxHeartbeats 4000000 in
theorem rrun_right (cs : List Cd) (lv : Value) (rn : Nat) (day : Int) (w : World) (h : InV w lv cs) (he : (wrongV cs).1 = 0) (hrn : rn < cs.length) (hd0 : 0 ≤ day) (hd1 : day < 146097) (m : M) (N : Nat) (hev : evD (wkB9 day) day cs rn = (m, N)) :
    Calls Try.prog 10 #[lv, .int .i64 (rn : Int), .int .i64 day] w (OutR m (N : Int) 0 0 w) := by
  obtain ⟨p, cp, elv, hlen, hcc⟩ := h.form
  have hz := mv_lit
  have bA : Below w.heap.size w ((w.alloc (.cells (mv fun _ => false) 25)).alloc (.cells #[.int .i64 0, .int .i64 0] 28)) := ((Below.refl _ _).alloc (Nat.le_refl _) _).alloc (by simp) _
  have nM0 : ((w.alloc (.cells (mv fun _ => false) 25)).alloc (.cells #[.int .i64 0, .int .i64 0] 28)).heap[w.heap.size]? = some (.cells (mv fun _ => false) 25 (0, 0)) := by (repeat (first | refine blk_old _ _ _ (by simp only [size_alloc]; omega) ?_ | exact blk_new _ _ _ (by first | rfl | simp only [size_alloc])))
  have nF0 : ((w.alloc (.cells (mv fun _ => false) 25)).alloc (.cells #[.int .i64 0, .int .i64 0] 28)).heap[w.heap.size + 1]? = some (.cells #[.int .i64 0, .int .i64 0] 28 (0, 0)) := by (repeat (first | refine blk_old _ _ _ (by simp only [size_alloc]; omega) ?_ | exact blk_new _ _ _ (by first | rfl | simp only [size_alloc])))
  generalize hwA : (w.alloc (.cells (mv fun _ => false) 25)).alloc (.cells #[.int .i64 0, .int .i64 0] 28) = wA at *
  have cW := rwrong_any cs lv wA (h.below bA)
  have hn0 : (0 : Int) ≤ (cs.length : Int) := by omega
  have hR := wrong_right he
  have hST := FInv.start (wk := wkB9 day) (day := day) hR hrn
  rw [hev] at hST
  have hN : N ≤ 20000 := by
    have hu : cs[rn]? = some cs[rn] := List.getElem?_eq_getElem hrn
    have h1 := hR.run (wk := wkB9 day) (day := day) (cs.length + 1) rn _ hu (by have := rk_le (callE cs) cs.length rn; omega)
    have h2 := (alone_ins (hR.alone rn _ hu)).2.1
    have h3 : (evV (wkB9 day) day cs (cs.length + 1) rn).2 = N := congrArg Prod.snd hev
    omega
  rw [wrong_zero he] at cW
  have HC := hidv hcc
  have HR := hidv hR
  have HST := hidv hST
  have hr0 : ¬ (rn : Int) < 0 := by omega
  have hr1 : ¬ (cs.length : Int) ≤ (rn : Int) := by omega
  have hd2 : ¬ day < 0 := by omega
  have hd3 : ¬ 146097 ≤ day := by omega
  obtain ⟨i0, hi, hz0, hz1, hz2⟩ := info_parts maskInfo9
  have HZ := hidv hz0
  obtain ⟨j0, hj, hy0, hy1, hy2⟩ := info_parts frameInfo9
  have HY := hidv hy0
  clear he hcc h hR hST hev hz0 hy0
  subst elv
  go_enter Try.func10, Try.ntmps10
  go_wp2_with fail
  refine cW.mono ?_
  rintro e w1 ⟨rfl, hb1⟩
  dsimp only
  have b1 := bA.trans (hb1.mono bA.size)
  have nM1 := (hb1.block _ (lt_of_block nM0)).trans nM0
  have nF1 := (hb1.block _ (lt_of_block nF0)).trans nF0
  have bF0 := (Below.refl w1.heap.size w1).alloc (Nat.le_refl _) (.cells #[.int .i64 0, .int .i64 0] 28)
  have nG0 := heap_alloc_new w1 (.cells #[.int .i64 0, .int .i64 0] 28)
  generalize hw1 : w1.alloc (.cells #[.int .i64 0, .int .i64 0] 28) = w1a at *
  have bF := below_setRow bF0 (Nat.le_refl _) #[.int .i64 0, .int .i64 0]
  have nG := setRow_heap _ _ _ #[.int .i64 0, .int .i64 0] _ _ nG0
  have nM2 := (bF.block _ (lt_of_block nM1)).trans nM1
  have nF2 := (bF.block _ (lt_of_block nF1)).trans nF1
  have b2 := b1.trans (bF.mono b1.size)
  generalize hw2 : w1a.setRow w1.heap.size #[.int .i64 0, .int .i64 0] = w2 at *
  have zG := (cell_of_row _ _ 0 _ _ _ nG).trans rfl
  have hl1 := lt_of_block nM2
  have hl2 := lt_of_block nF2
  have HB2 := hidv b2
  have HNM := hidv nM2
  have HNF := hidv nF2
  clear cW hb1 nM1 nF1 bF nM0 nF0 hwA bA b1 bF0 b2 nM2 nF2
  go_wp2_with (refine wpList_store_row rfl 28 _ _ rfl _ _ rfl rfl _ _ nG0 (by as_aux_lemma => kernel_rfl) (by simp) (by simp [Value.oneCell']) ?_)
  clear zG nG nG0 hw1 hw2
  have hR0 : RfR (wkB9 day) day cs m N w2 (.slice none 0 0) (.int .i64 0) (.slice (some ⟨w2.heap.size, 0, none⟩) 1 1) (w2.alloc (.cells #[.int .i64 (rn : Int), .int .i64 0] 60)) := ⟨[⟨rn, 0, []⟩], [], 0, rfl, (Below.refl _ _).alloc (Nat.le_refl _) _, World.ownsRow_nil _ _ _ _, ⟨rfl, .inr ⟨w2.heap.size, 1, _, rfl, Nat.le_refl _, heap_alloc_new _ _, Nat.le_refl _, by unfold maxLen; omega, rfl, rfl⟩⟩, fun e => (by cases e), fun f G e => (by cases e; exact ⟨rfl, HST.out⟩)⟩
  go_loopw [10, 11, 12] (fun t10 t11 t12 wr => RfR (wkB9 day) day cs m N w2 t10 t11 t12 wr) (fun _ t11 t12 _ => 2 * (N - (intOf t11).toNat) + slLen t12)
  case atStart => exact hR0
  case round =>
    obtain ⟨F, S, n, rfl, hI⟩ := hrel
    clear hR0 HST
    cases F with
    | nil =>
      obtain ⟨rfl, rfl⟩ := hI.nil rfl
      obtain ⟨pF, cF, rfl⟩ := ownF_slice hI.fr
      obtain ⟨gs, cps, rfl, hcp, hcm, hgb, _, hrg⟩ := own_take (S := []) (f := m) hI.own
      have nM3 := (hI.bel.block _ hl1).trans HNM.out
      have nF3 := (hI.bel.block _ hl2).trans HNF.out
      have b3 := HB2.out.trans (hI.bel.mono HB2.out.size)
      have nM4 := setRow_heap _ _ _ (mv m) _ _ nM3
      have nF4 := (setRow_other wr w.heap.size (w.heap.size + 1) (mv m) (by omega)).trans nF3
      have b4 := below_setRow b3 (Nat.le_refl _) (mv m)
      generalize hw4 : wr.setRow w.heap.size (mv m) = w4 at *
      have nM5 := (setRow_other w4 (w.heap.size + 1) w.heap.size #[.int .i64 0, .int .i64 0] (by omega)).trans nM4
      have nF5 := setRow_heap _ _ _ #[.int .i64 0, .int .i64 0] _ _ nF4
      have HB := hidv (below_setRow b4 (by omega : w.heap.size ≤ w.heap.size + 1) #[.int .i64 0, .int .i64 0])
      simp only [List.length_nil, Nat.zero_mul, Nat.zero_add] at hrg hcp
      simp only [List.length_nil, Nat.zero_add]
      clear hI HC HR hcm hgb b3 b4 HB2 HNM HNF
      go_wp2_with (first
        | (refine wpList_loadM rfl _ rfl gs 0 rfl m hrg ?_)
        | (refine wpList_store_row rfl 25 _ _ rfl _ _ rfl rfl _ _ nM3 (maskSize _) (by simp [mv_size]) (mv_all _) ?_)
        | (refine wpList_store_row rfl 28 _ _ rfl _ _ rfl rfl _ _ nF4 (by as_aux_lemma => kernel_rfl) (by simp) (by simp [Value.oneCell']) ?_))
      exact rrun_post w.heap.size (w.heap.size + 1) m _ 0 0 rfl rfl rfl rfl nM5 nF5 ⟨rfl, HB.out⟩
    | cons f G =>
      obtain ⟨r, k, T⟩ := f
      obtain ⟨hS, hF⟩ := hI.cons _ _ rfl
      obtain ⟨ps, cz, rfl⟩ := own_slice hI.own
      have hle := hF.le
      obtain ⟨u, hu, hui, hwl, hie, hul⟩ := HR.out.at hF.top.r
      dsimp only at hu hui
      obtain ⟨sv1, hs1, g1, o1, rfl, k0, _, _⟩ := HC.out r u hu
      obtain ⟨pu, cu, rfl, hlu, hcu⟩ := hs1.form
      have d0 := (HB2.out.cell (block_lt_of_cell k0)).trans k0
      have d1 := (hI.bel.cell (block_lt_of_cell d0)).trans d0
      obtain ⟨gF, cF, cur, rfl, hq1, hq2, hq3, hq4, hq5, hq6, hq7, hq8⟩ := ownF_top hI.fr
      dsimp only at hq7 hq8
      have z0 := (cell_of_row _ _ (G.length * 2) _ _ _ hq4).trans hq7
      have z1 := (cell_of_row _ _ (G.length * 2 + 1) _ _ _ hq4).trans hq8
      have y1 := frozen_of_row _ _ (G.length * 2 + 1) _ _ hq4
      have hgl := hF.len
      have hkl := hF.top.k
      rw [hui] at hkl
      dsimp only at hkl
      have hrl := hF.top.r
      dsimp only at hrl
      have hu40 := HR.out.len
      have hm1 : cF ≤ 9223372036854775807 := by unfold maxLen at hq2; omega
      obtain ⟨q, hq⟩ : ∃ q, G.length = q := ⟨_, rfl⟩
      rw [hq] at z0 z1 y1 hgl hq1 ⊢
      have e1 : ((q + 1 : Nat) : Int) = (q : Int) + 1 := by push_cast; rfl
      have hqi : (q : Int) ≤ 20000 := by omega
      have hq0 : (0 : Int) ≤ (q : Int) := by omega
      have hri : (r : Int) < (cs.length : Int) := by omega
      have hr00 : (0 : Int) ≤ (r : Int) := by omega
      have hqc : (q : Int) < (q : Int) + 1 := by omega
      by_cases hk : k = u.ins.length
      · have hkb : ((k : Int) == (u.ins.length : Int)) = true := by subst hk; exact beq_self_eq_true _
        have hki : (k : Int) = (u.ins.length : Int) := by omega
        obtain ⟨F', hF1, hF2⟩ := hI.end HR.out (by dsimp only; rw [hui]; exact hk) hq6
        rw [hq] at hF1 hF2
        have HN := hidv hF2
        clear hI hF hS HR HC HB2 HNM HNF hs1 hcu hq4 hq5 hq6 hq7 hq8 hF2 k0 hu hui hie d0
        go_wp2_with fail
        go_quiet (fail)
        go_wp2_with fail
        go_roundw
        case rel => exact ⟨F', S, n, rfl, HN.out.below (below_drewN (Below.refl _ _) nq)⟩
        case measure => simp [intOf, slLen]
      · have hkb : ((k : Int) == (u.ins.length : Int)) = false := beq_eq_false_iff_ne.2 (by omega)
        have hki : ¬ (k : Int) = (u.ins.length : Int) := by omega
        have hk1 : (k : Int) < (u.ins.length : Int) := by omega
        obtain ⟨x, hx⟩ : ∃ x, u.ins[k]? = some x := ⟨u.ins[k]'(by omega), List.getElem?_eq_getElem (by omega)⟩
        have hE := hie k x hx
        obtain ⟨sk, hrow, g2, o2, hpe, c0, c1, c2, c3, c4⟩ := hcu k x hx
        subst hpe
        obtain ⟨pk, ck, rfl, _, _⟩ := hrow.form
        have HI := hidv hI
        have HQ4 := hidv hq4
        have HF := hidv hF
        have HSS := hidv hS
        have HXX : Hid ((insR cs r)[k]? = some x) := by show _ = _; rw [hui]; exact hx
        have HR2 := hidv (hrow.later HB2.out)
        have htk := hwl.tk k x hx
        have htl := hF.top.S
        dsimp only at htl
        rw [hui] at htl
        have HRG : Hid (wr.rangeAt g2 (o2 + k * 5) [.int .i64 x.op, .int .i64 x.a, .int .i64 x.b, .int .i64 x.to, .slice pk x.sp.length ck]) := by
          have up : ∀ {a : Addr} {v : Value}, w.cell? a = some v → wr.cell? a = some v := fun {a v} hc => by
            have h1 := (HB2.out.cell (block_lt_of_cell hc)).trans hc
            exact (hI.bel.cell (block_lt_of_cell h1)).trans h1
          intro j v hj
          match j, hj with
          | 0, hj => cases hj; exact up c0
          | 1, hj => cases hj; exact up c1
          | 2, hj => cases hj; exact up c2
          | 3, hj => cases hj; exact up c3
          | 4, hj => cases hj; exact up c4
          | j + 5, hj => simp at hj
        have HRW : Hid (RowV wr (.slice pk x.sp.length ck) x.sp) := (hrow.later HB2.out).later hI.bel
        clear hI hF hS HNM HNF hs1 hcu hq4 hq5 hq6 hq7 hq8 k0 hui d0 hrow c0 c1 c2 c3 c4 HB2
        go_wp2_with fail
        go_quiet (fail)
        go_wp2_with fail
        obtain ⟨gb, hgbe⟩ : ∃ b, wr.heap.size = b := ⟨_, rfl⟩
        have hgb : (wr.drewN nq).drew.heap.size ≤ gb := by rw [← hgbe]; exact Nat.le_refl _
        refine wp_region_JL (BxJ (wr.drewN nq).drew gb #[.int .i64 x.op, .int .i64 x.a, .int .i64 x.b, .int .i64 x.to, .slice pk x.sp.length ck]) (fun L hL => ⟨Below.refl _ _, fun _ => hgbe, fun e => (by rw [hL 14 (by decide)] at e; cases e), fun e => (by rw [hL 15 (by decide)] at e; cases e)⟩) (by as_aux_lemma => kernel_rfl) (by as_aux_lemma => kernel_rfl) (by as_aux_lemma => kernel_rfl) (by as_aux_lemma => kernel_rfl) [(some 72, .slice (some ⟨g1, o1, none⟩) cs.length cp), (some 73, .pointer (some ⟨gF, q * 2, none⟩)), (some 74, .pointer (some ⟨gF, q * 2, none⟩)), (some 75, .pointer (some ⟨gF, q * 2, none⟩)), (some 76, .int .i64 (r : Int)), (some 77, .pointer (some ⟨g1, o1 + r * 3, none⟩)), (some 78, .pointer (some ⟨g1, o1 + r * 3, none⟩)), (some 79, .slice (some ⟨g2, o2, none⟩) u.ins.length cu), (some 80, .pointer (some ⟨gF, q * 2, none⟩)), (some 81, .pointer (some ⟨gF, q * 2, none⟩)), (some 82, .pointer (some ⟨gF, q * 2 + 1, none⟩)), (some 83, .int .i64 (k : Int)), (some 84, .pointer (some ⟨g2, o2 + k * 5, none⟩)), (some 85, .agg #[.int .i64 x.op, .int .i64 x.a, .int .i64 x.b, .int .i64 x.to, .slice pk x.sp.length ck]), (some 14, .pointer (some ⟨gb, 0, none⟩)), (none, undef)] [(72, .slice (some ⟨g1, o1, none⟩) cs.length cp), (73, .pointer (some ⟨gF, q * 2, none⟩)), (74, .pointer (some ⟨gF, q * 2, none⟩)), (75, .pointer (some ⟨gF, q * 2, none⟩)), (76, .int .i64 (r : Int)), (77, .pointer (some ⟨g1, o1 + r * 3, none⟩)), (78, .pointer (some ⟨g1, o1 + r * 3, none⟩)), (79, .slice (some ⟨g2, o2, none⟩) u.ins.length cu), (80, .pointer (some ⟨gF, q * 2, none⟩)), (81, .pointer (some ⟨gF, q * 2, none⟩)), (82, .pointer (some ⟨gF, q * 2 + 1, none⟩)), (83, .int .i64 (k : Int)), (84, .pointer (some ⟨g2, o2 + k * 5, none⟩)), (85, .agg #[.int .i64 x.op, .int .i64 x.a, .int .i64 x.b, .int .i64 x.to, .slice pk x.sp.length ck]), (14, .pointer (some ⟨gb, 0, none⟩))] (by as_aux_lemma => kernel_rfl) (by as_aux_lemma => kernel_rfl) (by as_aux_lemma => kernel_rfl) ?_ ?_
        · intro i' d v o' L A W2 ho hv hLi hdep hc hJ hkept hhas
          match i', ho, hv, hLi with
          | 0, ho, hv, hLi =>
            cases Option.some.inj ho
            cases Option.some.inj hv
            have h0 : A.tmps[0]?.getD undef = .slice (some ⟨g1, o1, none⟩) cs.length cp := (gd A 0).trans (hkept 0 (by as_aux_lemma => kernel_rfl))
            refine wpOp_step rfl (fun K hK => ?_)
            go_simp
            exact hK _ _ ⟨rfl, hJ.same 0 (by decide)⟩
          | 1, ho, hv, hLi =>
            cases Option.some.inj ho
            cases Option.some.inj hv
            have h13 : A.tmps[13]?.getD undef = .pointer (some ⟨gF, q * 2, none⟩) := (gd A 13).trans (hkept 13 (by as_aux_lemma => kernel_rfl))
            refine wpOp_step rfl (fun K hK => ?_)
            go_simp
            exact hK _ _ ⟨rfl, hJ.same 1 (by decide)⟩
          | 2, ho, hv, hLi =>
            cases Option.some.inj ho
            cases Option.some.inj hv
            have h73 : A.tmps[73]?.getD undef = .pointer (some ⟨gF, q * 2, none⟩) := (gd A 73).trans (hhas 1 73 _ rfl (hdep ⟨1, .data⟩ (by simp) rfl))
            refine wpOp_step rfl (fun K hK => ?_)
            go_simp
            exact hK _ _ ⟨rfl, hJ.same 2 (by decide)⟩
          | 3, ho, hv, hLi =>
            cases Option.some.inj ho
            cases Option.some.inj hv
            have h74 : A.tmps[74]?.getD undef = .pointer (some ⟨gF, q * 2, none⟩) := (gd A 74).trans (hhas 2 74 _ rfl (hdep ⟨2, .data⟩ (by simp) rfl))
            refine wpOp_step rfl (fun K hK => ?_)
            go_simp
            exact hK _ _ ⟨rfl, hJ.same 3 (by decide)⟩
          | 4, ho, hv, hLi =>
            cases Option.some.inj ho
            cases Option.some.inj hv
            have h75 : A.tmps[75]?.getD undef = .pointer (some ⟨gF, q * 2, none⟩) := (gd A 75).trans (hhas 3 75 _ rfl (hdep ⟨3, .data⟩ (by simp) rfl))
            have zz := (hJ.bel.cell (block_lt_of_cell z0)).trans z0
            refine wpOp_step rfl (fun K hK => ?_)
            go_simp
            exact hK _ _ ⟨rfl, hJ.same 4 (by decide)⟩
          | 5, ho, hv, hLi =>
            cases Option.some.inj ho
            cases Option.some.inj hv
            have h72 : A.tmps[72]?.getD undef = .slice (some ⟨g1, o1, none⟩) cs.length cp := (gd A 72).trans (hhas 0 72 _ rfl (hdep ⟨0, .data⟩ (by simp) rfl))
            have h76 : A.tmps[76]?.getD undef = .int .i64 (r : Int) := (gd A 76).trans (hhas 4 76 _ rfl (hdep ⟨4, .data⟩ (by simp) rfl))
            refine wpOp_step rfl (fun K hK => ?_)
            go_simp
            exact hK _ _ ⟨rfl, hJ.same 5 (by decide)⟩
          | 6, ho, hv, hLi =>
            cases Option.some.inj ho
            cases Option.some.inj hv
            have h77 : A.tmps[77]?.getD undef = .pointer (some ⟨g1, o1 + r * 3, none⟩) := (gd A 77).trans (hhas 5 77 _ rfl (hdep ⟨5, .data⟩ (by simp) rfl))
            refine wpOp_step rfl (fun K hK => ?_)
            go_simp
            exact hK _ _ ⟨rfl, hJ.same 6 (by decide)⟩
          | 7, ho, hv, hLi =>
            cases Option.some.inj ho
            cases Option.some.inj hv
            have h78 : A.tmps[78]?.getD undef = .pointer (some ⟨g1, o1 + r * 3, none⟩) := (gd A 78).trans (hhas 6 78 _ rfl (hdep ⟨6, .data⟩ (by simp) rfl))
            have zz := (hJ.bel.cell (block_lt_of_cell d1)).trans d1
            refine wpOp_step rfl (fun K hK => ?_)
            go_simp
            exact hK _ _ ⟨rfl, hJ.same 7 (by decide)⟩
          | 8, ho, hv, hLi =>
            cases Option.some.inj ho
            cases Option.some.inj hv
            have h13 : A.tmps[13]?.getD undef = .pointer (some ⟨gF, q * 2, none⟩) := (gd A 13).trans (hkept 13 (by as_aux_lemma => kernel_rfl))
            refine wpOp_step rfl (fun K hK => ?_)
            go_simp
            exact hK _ _ ⟨rfl, hJ.same 8 (by decide)⟩
          | 9, ho, hv, hLi =>
            cases Option.some.inj ho
            cases Option.some.inj hv
            have h80 : A.tmps[80]?.getD undef = .pointer (some ⟨gF, q * 2, none⟩) := (gd A 80).trans (hhas 8 80 _ rfl (hdep ⟨8, .data⟩ (by simp) rfl))
            refine wpOp_step rfl (fun K hK => ?_)
            go_simp
            exact hK _ _ ⟨rfl, hJ.same 9 (by decide)⟩
          | 10, ho, hv, hLi =>
            cases Option.some.inj ho
            cases Option.some.inj hv
            have h81 : A.tmps[81]?.getD undef = .pointer (some ⟨gF, q * 2, none⟩) := (gd A 81).trans (hhas 9 81 _ rfl (hdep ⟨9, .data⟩ (by simp) rfl))
            refine wpOp_step rfl (fun K hK => ?_)
            go_simp
            exact hK _ _ ⟨rfl, hJ.same 10 (by decide)⟩
          | 11, ho, hv, hLi =>
            cases Option.some.inj ho
            cases Option.some.inj hv
            have h82 : A.tmps[82]?.getD undef = .pointer (some ⟨gF, q * 2 + 1, none⟩) := (gd A 82).trans (hhas 10 82 _ rfl (hdep ⟨10, .data⟩ (by simp) rfl))
            have zz := (hJ.bel.cell (block_lt_of_cell z1)).trans z1
            refine wpOp_step rfl (fun K hK => ?_)
            go_simp
            exact hK _ _ ⟨rfl, hJ.same 11 (by decide)⟩
          | 12, ho, hv, hLi =>
            cases Option.some.inj ho
            cases Option.some.inj hv
            have h79 : A.tmps[79]?.getD undef = .slice (some ⟨g2, o2, none⟩) u.ins.length cu := (gd A 79).trans (hhas 7 79 _ rfl (hdep ⟨7, .data⟩ (by simp) rfl))
            have h83 : A.tmps[83]?.getD undef = .int .i64 (k : Int) := (gd A 83).trans (hhas 11 83 _ rfl (hdep ⟨11, .data⟩ (by simp) rfl))
            refine wpOp_step rfl (fun K hK => ?_)
            go_simp
            exact hK _ _ ⟨rfl, hJ.same 12 (by decide)⟩
          | 13, ho, hv, hLi =>
            cases Option.some.inj ho
            cases Option.some.inj hv
            have h84 : A.eval (.tmp 84) = .pointer (some ⟨g2, o2 + k * 5, none⟩) := hhas 12 84 _ rfl (hdep ⟨12, .data⟩ (by simp) rfl)
            refine wpOp_step rfl (fun K hK => ?_)
            show Oper.wp _ _ _ _ _ _
            refine wp_load_mid 65 _ rfl g2 (o2 + k * 5) h84 [.int .i64 x.op, .int .i64 x.a, .int .i64 x.b, .int .i64 x.to, .slice pk x.sp.length ck] _ (fun j v hj => ?_) insType rfl (by as_aux_lemma => kernel_rfl) ?_
            · have hc := HRG.out j v hj
              exact (hJ.bel.cell (block_lt_of_cell hc)).trans hc
            exact hK _ _ ⟨rfl, hJ.same 13 (by decide)⟩
          | 14, ho, hv, hLi =>
            cases Option.some.inj ho
            cases Option.some.inj hv
            have n15 : L 15 = false := by
              cases h : L 15 with
              | false => rfl
              | true =>
                have q := hc 15 _ rfl h ⟨14, .data⟩ (by simp) rfl
                rw [hLi] at q; cases q
            have hsz := hJ.ahead hLi
            refine wpOp_step rfl (fun K hK => ?_)
            go_simp
            exact hK _ _ ⟨rfl, hJ.made hLi n15⟩
          | 15, ho, hv, hLi =>
            cases Option.some.inj ho
            cases Option.some.inj hv
            have h14 : A.eval (.tmp 14) = .pointer (some ⟨gb, 0, none⟩) := hhas 14 14 _ rfl (hdep ⟨14, .data⟩ (by simp) rfl)
            have h85 : A.eval (.tmp 85) = .agg #[.int .i64 x.op, .int .i64 x.a, .int .i64 x.b, .int .i64 x.to, .slice pk x.sp.length ck] := hhas 13 85 _ rfl (hdep ⟨13, .data⟩ (by simp) rfl)
            refine wpOp_step rfl (fun K hK => ?_)
            show Oper.wp _ _ _ _ _ _
            have q14 := hdep ⟨14, .data⟩ (by simp) rfl
            refine wp_store_row 65 _ _ rfl _ _ h14 h85 _ _ (hJ.mid q14 hLi) (by as_aux_lemma => kernel_rfl) (by simp) (by simp [Value.oneCell']) ?_
            exact hK _ _ ⟨rfl, hJ.stored q14 hLi hgb⟩
          | kk + 16, ho, hv, hLi => simp at hv
        · intro L W5 hL hJ
          have hb5 : Below wr.heap.size wr W5 := (below_drewN (Below.refl _ _) nq).trans ((Below.refl _ _).drew.trans hJ.bel)
          simp only [putAll_cons, putAll_nil, Act.put, List.setIfInBounds_toArray, List.set_cons_succ, List.set_cons_zero]
          have hI5 := HI.out.below hb5
          have nB := hJ.fin (hL 15 (by decide))
          have hM5 : RfM w2 (⟨r, k, T⟩ :: G) S (.slice ps S.length cz) (.slice (some ⟨gF, 0, none⟩) (G.length + 1) cF) gb #[.int .i64 x.op, .int .i64 x.a, .int .i64 x.b, .int .i64 x.to, .slice pk x.sp.length ck] W5 := ⟨hI5.bel, hI5.own, hI5.fr, nB⟩
          have hM6 := hM5.go rfl hq (k + 1) T
          have zk := (hb5.cell (block_lt_of_cell z1)).trans z1
          have yk := frozen_of_row _ _ (q * 2 + 1) _ _ ((hb5.block _ (lt_of_block HQ4.out)).trans HQ4.out)
          push_cast at hM6
          generalize hw6 : W5.setCell ⟨gF, q * 2 + 1, none⟩ (.int .i64 ((k : Int) + 1)) = w6 at *
          have x0 := (cell_of_row _ _ 0 _ _ _ hM6.box).trans rfl
          have x1 := (cell_of_row _ _ 1 _ _ _ hM6.box).trans rfl
          have x2 := (cell_of_row _ _ 2 _ _ _ hM6.box).trans rfl
          have x3 := (cell_of_row _ _ 3 _ _ _ hM6.box).trans rfl
          have x4 := (cell_of_row _ _ 4 _ _ _ hM6.box).trans rfl
          have HRX := hidv (HR2.out.later hM6.bel)
          rw [hq] at hM6
          have HM6 := hidv hM6
          have hSl := FInv.stk_le HR.out HF.out
          rw [← HSS.out] at hSl
          clear hL hJ hI5 hM5 hM6 nB hb5 HI HQ4 HRG HRW HR2 d1 z0 z1 y1 hwl hie hlu
          have hkI : (k : Int) ≤ 2000 := by omega
          have hk00 : (0 : Int) ≤ (k : Int) := by omega
          have hk9 : x.op = 1 ∨ x.op = 2 ∨ x.op = 3 ∨ x.op = 4 ∨ x.op = 5 ∨ x.op = 8 ∨ x.op = 6 ∨ x.op = 7 := ins_kinds hE
          obtain ⟨op, a, b, t, sp⟩ := x
          dsimp only at *
          rcases hk9 with rfl | rfl | rfl | rfl | rfl | rfl | rfl | rfl
          · have hF2 := (HF.out.step HR.out HXX.out (by simp)).1
            rw [show stepV (wkB9 day) day (evD (wkB9 day) day cs) ⟨1, a, b, t, sp⟩ ⟨k, T, n⟩ = ⟨k + 1, T ++ [spM sp], n + 1⟩ by simp [stepV]] at hF2
            have hle2 := hF2.le
            have c1 := rof_anyV (.slice pk sp.length ck) sp w6 HRX.out
            have HF2 := hidv hF2
            clear HF hF2 HXX HRX HR
            go_wp2_with fail
            refine c1.mono ?_
            rintro e w7 ⟨rfl, b7⟩
            have hM7 := HM6.out.below b7
            have bQ := (Below.refl w7.heap.size w7).alloc (Nat.le_refl _) (.cells (mv (spM sp)) 25)
            have nQ := heap_alloc_new w7 (.cells (mv (spM sp)) 25)
            have hM8 := hM7.below bQ
            have hb8 := hM8.bel.size
            have HM8 := hidv hM8
            have hSl2 : S.length ≤ 50000000 := by omega
            clear c1 b7 HM6 hM7 bQ hM8 zk yk hw6 x0 x1 x2 x3 x4
            go_wp2_with (first
              | (refine wpList_buildM rfl _ rfl (spM sp) rfl ?_)
              | (refine wpList_appendM rfl _ _ rfl w2.heap.size S (spM sp) _ rfl HM8.out.own w7.heap.size rfl nQ hSl2 hb8 ?_
                 intro v9 w9 hv9 hg9
                 have HM9 := hidv ((HM8.out.grown hg9 hv9).re (T ++ [spM sp]))
                 clear HM8 hv9 hg9 nQ))
            go_roundw
            case rel => exact ⟨⟨r, k + 1, T ++ [spM sp]⟩ :: G, S ++ [spM sp], n + 1, by push_cast; rfl, HM9.out.out (by rw [HSS.out]; simp [stk]) HF2.out⟩
            case measure => simp [intOf, slLen]; omega
          · obtain ⟨T0, f1, f2, rfl⟩ := last2 (S := T) (by have h2 : (2 : Int) ≤ hAt u.ins k := htk; omega)
            have hF2 := (HF.out.step HR.out HXX.out (by simp)).1
            rw [show stepV (wkB9 day) day (evD (wkB9 day) day cs) ⟨2, a, b, t, sp⟩ ⟨k, T0 ++ [f1, f2], n⟩ = ⟨k + 1, T0 ++ [unM f1 f2], n + 1⟩ by simp [stepV, pop2_eq]] at hF2
            have hle2 := hF2.le
            have HF2 := hidv hF2
            obtain ⟨S0, hS0⟩ : ∃ S0, stk G ++ T0 = S0 := ⟨_, rfl⟩
            have hSS : S = S0 ++ [f1, f2] := by rw [HSS.out, ← hS0]; simp [stk]
            obtain ⟨gS, eps, nS, hc1, hc2, own8, rg1, rg2⟩ := own_two HM6.out.own hSS
            subst eps
            obtain ⟨n0, hn0⟩ : ∃ n0, S0.length = n0 := ⟨_, rfl⟩
            rw [hn0] at nS hc1 own8 rg1 rg2
            have hb6 := HM6.out.bel.size
            have e2c : ((n0 + 2 : Nat) : Int) = (n0 : Int) + 2 := by push_cast; rfl
            rw [nS]
            rw [nS] at hSl
            have HSQ := hidv hSS
            have HS0 := hidv hS0
            have hn00 : (0 : Int) ≤ (n0 : Int) := by omega
            have hn01 : (n0 : Int) ≤ 50000000 := by omega
            have hcz1 : (n0 : Int) + 2 ≤ (cz : Int) := by omega
            have hcz2 : n0 ≤ cz := by omega
            have hcz3 : cz ≤ 9223372036854775807 := by unfold maxLen at hc2; omega
            have hk2 : (n0 : Int) + 2 - 2 = (n0 : Int) := by omega
            have hk1 : (n0 : Int) + 2 - 1 = (n0 : Int) + 1 := by omega
            have hv2 : IntKind.i64.wrap (n0 : Int) = (n0 : Int) := by rw [IntKind.wrap_i64]; omega
            have hv1 : IntKind.i64.wrap ((n0 : Int) + 1) = (n0 : Int) + 1 := by rw [IntKind.wrap_i64]; omega
            have hi0 : (n0 : Int) < (n0 : Int) + 2 := by omega
            have hi1 : (n0 : Int) + 1 < (n0 : Int) + 2 := by omega
            clear HF hF2 HXX HRX HR hSS hS0 hc2
            go_wp2_with fail
            clear hw6 x0 x1 x2 x3 x4 zk yk
            refine wp_region_lastT (TwoJ w6 (some gS)) (tsp [.slice (some ⟨gS, 0, none⟩) (n0 + 2) cz, .int .i64 ((n0 : Int) + 2), .int .i64 (n0 : Int), .slice (some ⟨gS, 0, none⟩) n0 cz, .slice (some ⟨gS, 0, none⟩) (n0 + 2) cz, .int .i64 ((n0 : Int) + 2), .int .i64 (n0 : Int), .pointer (some ⟨gS, n0 * 23, none⟩), .agg (mv f1), .slice (some ⟨gS, 0, none⟩) (n0 + 2) cz, .int .i64 ((n0 : Int) + 2), .int .i64 ((n0 : Int) + 1), .pointer (some ⟨gS, (n0 + 1) * 23, none⟩), .agg (mv f2), .agg (mv (unM f1 f2))] w2.heap.size n0 (flatS S0) (unM f1 f2)) (fun L _ => TwoJ.start rfl) (by as_aux_lemma => kernel_rfl) (by as_aux_lemma => kernel_rfl) (by as_aux_lemma => kernel_rfl) (by as_aux_lemma => kernel_rfl) 17 (by as_aux_lemma => kernel_rfl) (by as_aux_lemma => kernel_rfl) [140, 141, 142, 143, 144, 145, 146, 147, 148, 149, 150, 151, 152, 153, 154, 155, 156] (by as_aux_lemma => kernel_rfl) (by as_aux_lemma => kernel_rfl) ?_ ?_
            · intro i' s o' L A W2 ho hs hLi hdep hc hJ hkept hhas
              match i', ho, hs, hLi with
              | 0, ho, hs, hLi =>
                cases Option.some.inj ho
                cases Option.some.inj hs
                have h10 : A.tmps[10]?.getD undef = .slice (some ⟨gS, 0, none⟩) (n0 + 2) cz := (gd A 10).trans (hkept 10 (by as_aux_lemma => kernel_rfl))
                refine wpOp_step rfl (fun K hK => ?_)
                go_simp
                exact hK _ _ ⟨_, rfl, tsp_mk (by decide) (by decide), hJ.same 0 (by decide), fun j u _ _ _ h => tsp_keep (fun e => (Bool.or_eq_false_iff.1 e).2) (Below.refl _ _) j u h⟩
              | 1, ho, hs, hLi =>
                cases Option.some.inj ho
                cases Option.some.inj hs
                have h15 : A.tmps[15]?.getD undef = .int .i64 ((n0 : Int) + 2) := (gd A 15).trans (hkept 15 (by as_aux_lemma => kernel_rfl))
                refine wpOp_step rfl (fun K hK => ?_)
                go_simp
                exact hK _ _ ⟨_, rfl, tsp_mk (by decide) (by decide), hJ.same 1 (by decide), fun j u _ _ _ h => tsp_keep (fun e => (Bool.or_eq_false_iff.1 e).2) (Below.refl _ _) j u h⟩
              | 2, ho, hs, hLi =>
                cases Option.some.inj ho
                cases Option.some.inj hs
                have h141 : A.tmps[141]?.getD undef = .int .i64 ((n0 : Int) + 2) := (gd A 141).trans (tsp_at (hhas 1 141 rfl (hdep ⟨1, .data⟩ (by simp) rfl)) (by decide) (by decide))
                refine wpOp_step rfl (fun K hK => ?_)
                go_simp
                refine hK _ _ ⟨.int .i64 (n0 : Int), ?_, tsp_mk (i := 2) (by decide) (by decide), hJ.same 2 (by decide), fun j u _ _ _ h => tsp_keep (fun e => (Bool.or_eq_false_iff.1 e).2) (Below.refl _ _) j u h⟩
                first | rfl | (rw [hv2]; rfl) | (rw [hv1]; rfl) | (simp [hk2, hk1])
              | 3, ho, hs, hLi =>
                cases Option.some.inj ho
                cases Option.some.inj hs
                have h140 : A.tmps[140]?.getD undef = .slice (some ⟨gS, 0, none⟩) (n0 + 2) cz := (gd A 140).trans (tsp_at (hhas 0 140 rfl (hdep ⟨0, .data⟩ (by simp) rfl)) (by decide) (by decide))
                have h142 : A.tmps[142]?.getD undef = .int .i64 (n0 : Int) := (gd A 142).trans (tsp_at (hhas 2 142 rfl (hdep ⟨2, .data⟩ (by simp) rfl)) (by decide) (by decide))
                refine wpOp_step rfl (fun K hK => ?_)
                go_simp
                exact hK _ _ ⟨_, rfl, tsp_mk (by decide) (by decide), hJ.same 3 (by decide), fun j u _ _ _ h => tsp_keep (fun e => (Bool.or_eq_false_iff.1 e).2) (Below.refl _ _) j u h⟩
              | 4, ho, hs, hLi =>
                cases Option.some.inj ho
                cases Option.some.inj hs
                have h10 : A.tmps[10]?.getD undef = .slice (some ⟨gS, 0, none⟩) (n0 + 2) cz := (gd A 10).trans (hkept 10 (by as_aux_lemma => kernel_rfl))
                refine wpOp_step rfl (fun K hK => ?_)
                go_simp
                exact hK _ _ ⟨_, rfl, tsp_mk (by decide) (by decide), hJ.same 4 (by decide), fun j u _ _ _ h => tsp_keep (fun e => (Bool.or_eq_false_iff.1 e).2) (Below.refl _ _) j u h⟩
              | 5, ho, hs, hLi =>
                cases Option.some.inj ho
                cases Option.some.inj hs
                have h15 : A.tmps[15]?.getD undef = .int .i64 ((n0 : Int) + 2) := (gd A 15).trans (hkept 15 (by as_aux_lemma => kernel_rfl))
                refine wpOp_step rfl (fun K hK => ?_)
                go_simp
                exact hK _ _ ⟨_, rfl, tsp_mk (by decide) (by decide), hJ.same 5 (by decide), fun j u _ _ _ h => tsp_keep (fun e => (Bool.or_eq_false_iff.1 e).2) (Below.refl _ _) j u h⟩
              | 6, ho, hs, hLi =>
                cases Option.some.inj ho
                cases Option.some.inj hs
                have h145 : A.tmps[145]?.getD undef = .int .i64 ((n0 : Int) + 2) := (gd A 145).trans (tsp_at (hhas 5 145 rfl (hdep ⟨5, .data⟩ (by simp) rfl)) (by decide) (by decide))
                refine wpOp_step rfl (fun K hK => ?_)
                go_simp
                refine hK _ _ ⟨.int .i64 (n0 : Int), ?_, tsp_mk (i := 6) (by decide) (by decide), hJ.same 6 (by decide), fun j u _ _ _ h => tsp_keep (fun e => (Bool.or_eq_false_iff.1 e).2) (Below.refl _ _) j u h⟩
                first | rfl | (rw [hv2]; rfl) | (rw [hv1]; rfl) | (simp [hk2, hk1])
              | 7, ho, hs, hLi =>
                cases Option.some.inj ho
                cases Option.some.inj hs
                have h144 : A.tmps[144]?.getD undef = .slice (some ⟨gS, 0, none⟩) (n0 + 2) cz := (gd A 144).trans (tsp_at (hhas 4 144 rfl (hdep ⟨4, .data⟩ (by simp) rfl)) (by decide) (by decide))
                have h146 : A.tmps[146]?.getD undef = .int .i64 (n0 : Int) := (gd A 146).trans (tsp_at (hhas 6 146 rfl (hdep ⟨6, .data⟩ (by simp) rfl)) (by decide) (by decide))
                refine wpOp_step rfl (fun K hK => ?_)
                go_simp
                exact hK _ _ ⟨_, rfl, tsp_mk (by decide) (by decide), hJ.same 7 (by decide), fun j u _ _ _ h => tsp_keep (fun e => (Bool.or_eq_false_iff.1 e).2) (Below.refl _ _) j u h⟩
              | 8, ho, hs, hLi =>
                cases Option.some.inj ho
                cases Option.some.inj hs
                have no16 : L 16 = false := by
                  cases h : L 16 with
                  | false => rfl
                  | true =>
                    have q15 := hc 16 _ rfl h ⟨15, .data⟩ (by simp) rfl
                    have q14 := hc 15 _ rfl q15 ⟨14, .data⟩ (by simp) rfl
                    have q := hc 14 _ rfl q14 ⟨8, .data⟩ (by simp) rfl
                    rw [hLi] at q; cases q
                have x7 : A.eval (.tmp 147) = .pointer (some ⟨gS, n0 * 23, none⟩) := tsp_at (hhas 7 147 rfl (hdep ⟨7, .data⟩ (by simp) rfl)) (by decide) (by decide)
                have rg := rangeAt_below rg1 (hJ.bel no16)
                refine wpOp_step rfl (fun K hK => ?_)
                show Oper.wp _ _ _ _ _ _
                refine wp_loadM _ rfl gS _ x7 f1 rg ?_
                exact hK _ _ ⟨_, rfl, tsp_mk (by decide) (by decide), hJ.same 8 (by decide), fun j u _ _ _ h => tsp_keep (fun e => (Bool.or_eq_false_iff.1 e).2) (Below.refl _ _) j u h⟩
              | 9, ho, hs, hLi =>
                cases Option.some.inj ho
                cases Option.some.inj hs
                have h10 : A.tmps[10]?.getD undef = .slice (some ⟨gS, 0, none⟩) (n0 + 2) cz := (gd A 10).trans (hkept 10 (by as_aux_lemma => kernel_rfl))
                refine wpOp_step rfl (fun K hK => ?_)
                go_simp
                exact hK _ _ ⟨_, rfl, tsp_mk (by decide) (by decide), hJ.same 9 (by decide), fun j u _ _ _ h => tsp_keep (fun e => (Bool.or_eq_false_iff.1 e).2) (Below.refl _ _) j u h⟩
              | 10, ho, hs, hLi =>
                cases Option.some.inj ho
                cases Option.some.inj hs
                have h15 : A.tmps[15]?.getD undef = .int .i64 ((n0 : Int) + 2) := (gd A 15).trans (hkept 15 (by as_aux_lemma => kernel_rfl))
                refine wpOp_step rfl (fun K hK => ?_)
                go_simp
                exact hK _ _ ⟨_, rfl, tsp_mk (by decide) (by decide), hJ.same 10 (by decide), fun j u _ _ _ h => tsp_keep (fun e => (Bool.or_eq_false_iff.1 e).2) (Below.refl _ _) j u h⟩
              | 11, ho, hs, hLi =>
                cases Option.some.inj ho
                cases Option.some.inj hs
                have h150 : A.tmps[150]?.getD undef = .int .i64 ((n0 : Int) + 2) := (gd A 150).trans (tsp_at (hhas 10 150 rfl (hdep ⟨10, .data⟩ (by simp) rfl)) (by decide) (by decide))
                refine wpOp_step rfl (fun K hK => ?_)
                go_simp
                refine hK _ _ ⟨.int .i64 ((n0 : Int) + 1), ?_, tsp_mk (i := 11) (by decide) (by decide), hJ.same 11 (by decide), fun j u _ _ _ h => tsp_keep (fun e => (Bool.or_eq_false_iff.1 e).2) (Below.refl _ _) j u h⟩
                first | rfl | (rw [hv2]; rfl) | (rw [hv1]; rfl) | (simp [hk2, hk1])
              | 12, ho, hs, hLi =>
                cases Option.some.inj ho
                cases Option.some.inj hs
                have h149 : A.tmps[149]?.getD undef = .slice (some ⟨gS, 0, none⟩) (n0 + 2) cz := (gd A 149).trans (tsp_at (hhas 9 149 rfl (hdep ⟨9, .data⟩ (by simp) rfl)) (by decide) (by decide))
                have h151 : A.tmps[151]?.getD undef = .int .i64 ((n0 : Int) + 1) := (gd A 151).trans (tsp_at (hhas 11 151 rfl (hdep ⟨11, .data⟩ (by simp) rfl)) (by decide) (by decide))
                refine wpOp_step rfl (fun K hK => ?_)
                go_simp
                exact hK _ _ ⟨_, rfl, tsp_mk (by decide) (by decide), hJ.same 12 (by decide), fun j u _ _ _ h => tsp_keep (fun e => (Bool.or_eq_false_iff.1 e).2) (Below.refl _ _) j u h⟩
              | 13, ho, hs, hLi =>
                cases Option.some.inj ho
                cases Option.some.inj hs
                have no16 : L 16 = false := by
                  cases h : L 16 with
                  | false => rfl
                  | true =>
                    have q15 := hc 16 _ rfl h ⟨15, .data⟩ (by simp) rfl
                    have q14 := hc 15 _ rfl q15 ⟨14, .data⟩ (by simp) rfl
                    have q := hc 14 _ rfl q14 ⟨13, .data⟩ (by simp) rfl
                    rw [hLi] at q; cases q
                have x12 : A.eval (.tmp 152) = .pointer (some ⟨gS, (n0 + 1) * 23, none⟩) := tsp_at (hhas 12 152 rfl (hdep ⟨12, .data⟩ (by simp) rfl)) (by decide) (by decide)
                have rg := rangeAt_below rg2 (hJ.bel no16)
                refine wpOp_step rfl (fun K hK => ?_)
                show Oper.wp _ _ _ _ _ _
                refine wp_loadM _ rfl gS _ x12 f2 rg ?_
                exact hK _ _ ⟨_, rfl, tsp_mk (by decide) (by decide), hJ.same 13 (by decide), fun j u _ _ _ h => tsp_keep (fun e => (Bool.or_eq_false_iff.1 e).2) (Below.refl _ _) j u h⟩
              | 14, ho, hs, hLi =>
                cases Option.some.inj ho
                cases Option.some.inj hs
                have h148 : A.tmps[148]?.getD undef = .agg (mv f1) := (gd A 148).trans (tsp_at (hhas 8 148 rfl (hdep ⟨8, .data⟩ (by simp) rfl)) (by decide) (by decide))
                have h153 : A.tmps[153]?.getD undef = .agg (mv f2) := (gd A 153).trans (tsp_at (hhas 13 153 rfl (hdep ⟨13, .data⟩ (by simp) rfl)) (by decide) (by decide))
                refine wpOp_step rfl (fun K hK => ?_)
                go_simp
                refine (union_ref f1 f2 W2).mono ?_
                rintro r' W' ⟨rfl, hb'⟩
                exact hK _ _ ⟨_, rfl, tsp_mk (by decide) (by decide), hJ.on 14 (by decide) hb', fun j u _ _ _ h => tsp_keep (fun e => (Bool.or_eq_false_iff.1 e).2) hb' j u h⟩
              | 15, ho, hs, hLi =>
                cases Option.some.inj ho
                cases Option.some.inj hs
                have x14 : A.eval (.tmp 154) = .agg (mv (unM f1 f2)) := tsp_at (hhas 14 154 rfl (hdep ⟨14, .data⟩ (by simp) rfl)) (by decide) (by decide)
                have hb := (Below.refl W2.heap.size W2).alloc (Nat.le_refl _) (.cells (mv (unM f1 f2)) 25)
                have hnew := heap_alloc_new W2 (.cells (mv (unM f1 f2)) 25)
                refine wpOp_step rfl (fun K hK => ?_)
                show Oper.wp _ _ _ _ _ _
                refine wp_buildM _ rfl (unM f1 f2) x14 ?_
                exact hK _ _ ⟨_, rfl, tsp_mk15 fun _ => hnew, hJ.on 15 (by decide) hb, fun j u _ _ _ h => tsp_keep (fun e => (Bool.or_eq_false_iff.1 e).2) hb j u h⟩
              | 16, ho, hs, hLi =>
                cases Option.some.inj ho
                cases Option.some.inj hs
                obtain ⟨g9, e15, hx⟩ := tsp_15 (hhas 15 155 rfl (hdep ⟨15, .data⟩ (by simp) rfl))
                have hh := hx hLi
                have x15 : A.eval (.tmp 155) = .slice (some ⟨g9, 0, none⟩) 1 1 := e15
                have x3 : A.eval (.tmp 143) = .slice (some ⟨gS, 0, none⟩) n0 cz := tsp_at (hhas 3 143 rfl (hdep ⟨3, .data⟩ (by simp) rfl)) (by decide) (by decide)
                refine wpOp_step rfl (fun K hK => ?_)
                show Oper.wp _ _ _ _ _ _
                have hbl := hJ.bel hLi
                refine wp_appendM _ _ rfl w2.heap.size S0 (unM f1 f2) (.slice (some ⟨gS, 0, none⟩) n0 cz) x3 (by rw [hn0]; exact own_below own8 hbl) g9 x15 hh (by omega) (Nat.le_trans hb6 hbl.size) ?_
                intro v' W' hown hgrow
                rw [List.length_append, List.length_singleton, flatS_snoc, hn0] at hown
                exact hK _ _ ⟨v', rfl, tsp_mk16 hown, hJ.app hgrow, fun j u hj _ _ h => tsp_app hj u h⟩
              | kk + 17, ho, hs, hLi => simp at hs
            · intro o' L W2 A ho hL hJ hhas hkept hput
              cases Option.some.inj ho
              have own7 := tsp_16 (hhas 16 156 rfl)
              obtain ⟨v7, ev7⟩ : ∃ v, A.tmps.getD 156 undef = v := ⟨_, rfl⟩
              rw [ev7] at own7
              obtain ⟨p7, c7, hv7⟩ := own_slice own7
              subst hv7
              obtain ⟨x15, e15⟩ : ∃ x, A.tmps.getD 155 undef = x := ⟨_, rfl⟩
              have hA : A = putAll [(140, .slice (some ⟨gS, 0, none⟩) (n0 + 2) cz), (141, .int .i64 ((n0 : Int) + 2)), (142, .int .i64 (n0 : Int)), (143, .slice (some ⟨gS, 0, none⟩) n0 cz), (144, .slice (some ⟨gS, 0, none⟩) (n0 + 2) cz), (145, .int .i64 ((n0 : Int) + 2)), (146, .int .i64 (n0 : Int)), (147, .pointer (some ⟨gS, n0 * 23, none⟩)), (148, .agg (mv f1)), (149, .slice (some ⟨gS, 0, none⟩) (n0 + 2) cz), (150, .int .i64 ((n0 : Int) + 2)), (151, .int .i64 ((n0 : Int) + 1)), (152, .pointer (some ⟨gS, (n0 + 1) * 23, none⟩)), (153, .agg (mv f2)), (154, .agg (mv (unM f1 f2))), (155, x15), (156, .slice p7 (n0 + 1) c7)] _ := hput _ (by as_aux_lemma => kernel_rfl) (fun j s v hj => match j, hj with
                | 0, hj => by cases Option.some.inj hj; exact tsp_at (hhas 0 140 rfl) (by decide) (by decide)
                | 1, hj => by cases Option.some.inj hj; exact tsp_at (hhas 1 141 rfl) (by decide) (by decide)
                | 2, hj => by cases Option.some.inj hj; exact tsp_at (hhas 2 142 rfl) (by decide) (by decide)
                | 3, hj => by cases Option.some.inj hj; exact tsp_at (hhas 3 143 rfl) (by decide) (by decide)
                | 4, hj => by cases Option.some.inj hj; exact tsp_at (hhas 4 144 rfl) (by decide) (by decide)
                | 5, hj => by cases Option.some.inj hj; exact tsp_at (hhas 5 145 rfl) (by decide) (by decide)
                | 6, hj => by cases Option.some.inj hj; exact tsp_at (hhas 6 146 rfl) (by decide) (by decide)
                | 7, hj => by cases Option.some.inj hj; exact tsp_at (hhas 7 147 rfl) (by decide) (by decide)
                | 8, hj => by cases Option.some.inj hj; exact tsp_at (hhas 8 148 rfl) (by decide) (by decide)
                | 9, hj => by cases Option.some.inj hj; exact tsp_at (hhas 9 149 rfl) (by decide) (by decide)
                | 10, hj => by cases Option.some.inj hj; exact tsp_at (hhas 10 150 rfl) (by decide) (by decide)
                | 11, hj => by cases Option.some.inj hj; exact tsp_at (hhas 11 151 rfl) (by decide) (by decide)
                | 12, hj => by cases Option.some.inj hj; exact tsp_at (hhas 12 152 rfl) (by decide) (by decide)
                | 13, hj => by cases Option.some.inj hj; exact tsp_at (hhas 13 153 rfl) (by decide) (by decide)
                | 14, hj => by cases Option.some.inj hj; exact tsp_at (hhas 14 154 rfl) (by decide) (by decide)
                | 15, hj => by cases Option.some.inj hj; exact e15
                | 16, hj => by cases Option.some.inj hj; exact ev7
                | kk + 17, hj => by simp at hj)
              have h156 : A.tmps[156]?.getD undef = .slice p7 (n0 + 1) c7 := (gd A 156).trans ev7
              have own9 : W2.ownsRow w2.heap.size 25 23 (.slice p7 (n0 + 1) c7) (S0 ++ [unM f1 f2]).length (flatS (S0 ++ [unM f1 f2])) := by
                rw [flatS_snoc, List.length_append, List.length_singleton, hn0]
                exact own7
              have HM9 := hidv ((HM6.out.grown hJ.grown own9).re (T0 ++ [unM f1 f2]))
              have HA := hidv hA
              clear own7 own9 hJ hhas hA hput hkept ev7 e15 HM6 own8 rg1 rg2
              refine wpOp_step rfl (fun K hK => ?_)
              go_simp
              refine hK _ _ ⟨⟨_, rfl⟩, ?_⟩
              clear hK h156
              have hA := HA.out
              clear HA
              subst hA
              simp only [putAll_cons, putAll_nil, Act.put, List.setIfInBounds_toArray, List.set_cons_succ, List.set_cons_zero]
              go_wp2_with fail
              go_roundw
              case rel => exact ⟨⟨r, k + 1, T0 ++ [unM f1 f2]⟩ :: G, S0 ++ [unM f1 f2], n + 1, by push_cast; rfl, HM9.out.out (by rw [← HS0.out]; simp [stk]) HF2.out⟩
              case measure => simp [intOf, slLen]; omega
          · obtain ⟨T0, f1, f2, rfl⟩ := last2 (S := T) (by have h2 : (2 : Int) ≤ hAt u.ins k := htk; omega)
            have hF2 := (HF.out.step HR.out HXX.out (by simp)).1
            rw [show stepV (wkB9 day) day (evD (wkB9 day) day cs) ⟨3, a, b, t, sp⟩ ⟨k, T0 ++ [f1, f2], n⟩ = ⟨k + 1, T0 ++ [dfM f1 f2], n + 1⟩ by simp [stepV, pop2_eq]] at hF2
            have hle2 := hF2.le
            have HF2 := hidv hF2
            obtain ⟨S0, hS0⟩ : ∃ S0, stk G ++ T0 = S0 := ⟨_, rfl⟩
            have hSS : S = S0 ++ [f1, f2] := by rw [HSS.out, ← hS0]; simp [stk]
            obtain ⟨gS, eps, nS, hc1, hc2, own8, rg1, rg2⟩ := own_two HM6.out.own hSS
            subst eps
            obtain ⟨n0, hn0⟩ : ∃ n0, S0.length = n0 := ⟨_, rfl⟩
            rw [hn0] at nS hc1 own8 rg1 rg2
            have hb6 := HM6.out.bel.size
            have e2c : ((n0 + 2 : Nat) : Int) = (n0 : Int) + 2 := by push_cast; rfl
            rw [nS]
            rw [nS] at hSl
            have HSQ := hidv hSS
            have HS0 := hidv hS0
            have hn00 : (0 : Int) ≤ (n0 : Int) := by omega
            have hn01 : (n0 : Int) ≤ 50000000 := by omega
            have hcz1 : (n0 : Int) + 2 ≤ (cz : Int) := by omega
            have hcz2 : n0 ≤ cz := by omega
            have hcz3 : cz ≤ 9223372036854775807 := by unfold maxLen at hc2; omega
            have hk2 : (n0 : Int) + 2 - 2 = (n0 : Int) := by omega
            have hk1 : (n0 : Int) + 2 - 1 = (n0 : Int) + 1 := by omega
            have hv2 : IntKind.i64.wrap (n0 : Int) = (n0 : Int) := by rw [IntKind.wrap_i64]; omega
            have hv1 : IntKind.i64.wrap ((n0 : Int) + 1) = (n0 : Int) + 1 := by rw [IntKind.wrap_i64]; omega
            have hi0 : (n0 : Int) < (n0 : Int) + 2 := by omega
            have hi1 : (n0 : Int) + 1 < (n0 : Int) + 2 := by omega
            clear HF hF2 HXX HRX HR hSS hS0 hc2
            go_wp2_with fail
            clear hw6 x0 x1 x2 x3 x4 zk yk
            refine wp_region_lastT (TwoJ w6 (some gS)) (tsp [.slice (some ⟨gS, 0, none⟩) (n0 + 2) cz, .int .i64 ((n0 : Int) + 2), .int .i64 (n0 : Int), .slice (some ⟨gS, 0, none⟩) n0 cz, .slice (some ⟨gS, 0, none⟩) (n0 + 2) cz, .int .i64 ((n0 : Int) + 2), .int .i64 (n0 : Int), .pointer (some ⟨gS, n0 * 23, none⟩), .agg (mv f1), .slice (some ⟨gS, 0, none⟩) (n0 + 2) cz, .int .i64 ((n0 : Int) + 2), .int .i64 ((n0 : Int) + 1), .pointer (some ⟨gS, (n0 + 1) * 23, none⟩), .agg (mv f2), .agg (mv (dfM f1 f2))] w2.heap.size n0 (flatS S0) (dfM f1 f2)) (fun L _ => TwoJ.start rfl) (by as_aux_lemma => kernel_rfl) (by as_aux_lemma => kernel_rfl) (by as_aux_lemma => kernel_rfl) (by as_aux_lemma => kernel_rfl) 17 (by as_aux_lemma => kernel_rfl) (by as_aux_lemma => kernel_rfl) [159, 160, 161, 162, 163, 164, 165, 166, 167, 168, 169, 170, 171, 172, 173, 174, 175] (by as_aux_lemma => kernel_rfl) (by as_aux_lemma => kernel_rfl) ?_ ?_
            · intro i' s o' L A W2 ho hs hLi hdep hc hJ hkept hhas
              match i', ho, hs, hLi with
              | 0, ho, hs, hLi =>
                cases Option.some.inj ho
                cases Option.some.inj hs
                have h10 : A.tmps[10]?.getD undef = .slice (some ⟨gS, 0, none⟩) (n0 + 2) cz := (gd A 10).trans (hkept 10 (by as_aux_lemma => kernel_rfl))
                refine wpOp_step rfl (fun K hK => ?_)
                go_simp
                exact hK _ _ ⟨_, rfl, tsp_mk (by decide) (by decide), hJ.same 0 (by decide), fun j u _ _ _ h => tsp_keep (fun e => (Bool.or_eq_false_iff.1 e).2) (Below.refl _ _) j u h⟩
              | 1, ho, hs, hLi =>
                cases Option.some.inj ho
                cases Option.some.inj hs
                have h15 : A.tmps[15]?.getD undef = .int .i64 ((n0 : Int) + 2) := (gd A 15).trans (hkept 15 (by as_aux_lemma => kernel_rfl))
                refine wpOp_step rfl (fun K hK => ?_)
                go_simp
                exact hK _ _ ⟨_, rfl, tsp_mk (by decide) (by decide), hJ.same 1 (by decide), fun j u _ _ _ h => tsp_keep (fun e => (Bool.or_eq_false_iff.1 e).2) (Below.refl _ _) j u h⟩
              | 2, ho, hs, hLi =>
                cases Option.some.inj ho
                cases Option.some.inj hs
                have h160 : A.tmps[160]?.getD undef = .int .i64 ((n0 : Int) + 2) := (gd A 160).trans (tsp_at (hhas 1 160 rfl (hdep ⟨1, .data⟩ (by simp) rfl)) (by decide) (by decide))
                refine wpOp_step rfl (fun K hK => ?_)
                go_simp
                refine hK _ _ ⟨.int .i64 (n0 : Int), ?_, tsp_mk (i := 2) (by decide) (by decide), hJ.same 2 (by decide), fun j u _ _ _ h => tsp_keep (fun e => (Bool.or_eq_false_iff.1 e).2) (Below.refl _ _) j u h⟩
                first | rfl | (rw [hv2]; rfl) | (rw [hv1]; rfl) | (simp [hk2, hk1])
              | 3, ho, hs, hLi =>
                cases Option.some.inj ho
                cases Option.some.inj hs
                have h159 : A.tmps[159]?.getD undef = .slice (some ⟨gS, 0, none⟩) (n0 + 2) cz := (gd A 159).trans (tsp_at (hhas 0 159 rfl (hdep ⟨0, .data⟩ (by simp) rfl)) (by decide) (by decide))
                have h161 : A.tmps[161]?.getD undef = .int .i64 (n0 : Int) := (gd A 161).trans (tsp_at (hhas 2 161 rfl (hdep ⟨2, .data⟩ (by simp) rfl)) (by decide) (by decide))
                refine wpOp_step rfl (fun K hK => ?_)
                go_simp
                exact hK _ _ ⟨_, rfl, tsp_mk (by decide) (by decide), hJ.same 3 (by decide), fun j u _ _ _ h => tsp_keep (fun e => (Bool.or_eq_false_iff.1 e).2) (Below.refl _ _) j u h⟩
              | 4, ho, hs, hLi =>
                cases Option.some.inj ho
                cases Option.some.inj hs
                have h10 : A.tmps[10]?.getD undef = .slice (some ⟨gS, 0, none⟩) (n0 + 2) cz := (gd A 10).trans (hkept 10 (by as_aux_lemma => kernel_rfl))
                refine wpOp_step rfl (fun K hK => ?_)
                go_simp
                exact hK _ _ ⟨_, rfl, tsp_mk (by decide) (by decide), hJ.same 4 (by decide), fun j u _ _ _ h => tsp_keep (fun e => (Bool.or_eq_false_iff.1 e).2) (Below.refl _ _) j u h⟩
              | 5, ho, hs, hLi =>
                cases Option.some.inj ho
                cases Option.some.inj hs
                have h15 : A.tmps[15]?.getD undef = .int .i64 ((n0 : Int) + 2) := (gd A 15).trans (hkept 15 (by as_aux_lemma => kernel_rfl))
                refine wpOp_step rfl (fun K hK => ?_)
                go_simp
                exact hK _ _ ⟨_, rfl, tsp_mk (by decide) (by decide), hJ.same 5 (by decide), fun j u _ _ _ h => tsp_keep (fun e => (Bool.or_eq_false_iff.1 e).2) (Below.refl _ _) j u h⟩
              | 6, ho, hs, hLi =>
                cases Option.some.inj ho
                cases Option.some.inj hs
                have h164 : A.tmps[164]?.getD undef = .int .i64 ((n0 : Int) + 2) := (gd A 164).trans (tsp_at (hhas 5 164 rfl (hdep ⟨5, .data⟩ (by simp) rfl)) (by decide) (by decide))
                refine wpOp_step rfl (fun K hK => ?_)
                go_simp
                refine hK _ _ ⟨.int .i64 (n0 : Int), ?_, tsp_mk (i := 6) (by decide) (by decide), hJ.same 6 (by decide), fun j u _ _ _ h => tsp_keep (fun e => (Bool.or_eq_false_iff.1 e).2) (Below.refl _ _) j u h⟩
                first | rfl | (rw [hv2]; rfl) | (rw [hv1]; rfl) | (simp [hk2, hk1])
              | 7, ho, hs, hLi =>
                cases Option.some.inj ho
                cases Option.some.inj hs
                have h163 : A.tmps[163]?.getD undef = .slice (some ⟨gS, 0, none⟩) (n0 + 2) cz := (gd A 163).trans (tsp_at (hhas 4 163 rfl (hdep ⟨4, .data⟩ (by simp) rfl)) (by decide) (by decide))
                have h165 : A.tmps[165]?.getD undef = .int .i64 (n0 : Int) := (gd A 165).trans (tsp_at (hhas 6 165 rfl (hdep ⟨6, .data⟩ (by simp) rfl)) (by decide) (by decide))
                refine wpOp_step rfl (fun K hK => ?_)
                go_simp
                exact hK _ _ ⟨_, rfl, tsp_mk (by decide) (by decide), hJ.same 7 (by decide), fun j u _ _ _ h => tsp_keep (fun e => (Bool.or_eq_false_iff.1 e).2) (Below.refl _ _) j u h⟩
              | 8, ho, hs, hLi =>
                cases Option.some.inj ho
                cases Option.some.inj hs
                have no16 : L 16 = false := by
                  cases h : L 16 with
                  | false => rfl
                  | true =>
                    have q15 := hc 16 _ rfl h ⟨15, .data⟩ (by simp) rfl
                    have q14 := hc 15 _ rfl q15 ⟨14, .data⟩ (by simp) rfl
                    have q := hc 14 _ rfl q14 ⟨8, .data⟩ (by simp) rfl
                    rw [hLi] at q; cases q
                have x7 : A.eval (.tmp 166) = .pointer (some ⟨gS, n0 * 23, none⟩) := tsp_at (hhas 7 166 rfl (hdep ⟨7, .data⟩ (by simp) rfl)) (by decide) (by decide)
                have rg := rangeAt_below rg1 (hJ.bel no16)
                refine wpOp_step rfl (fun K hK => ?_)
                show Oper.wp _ _ _ _ _ _
                refine wp_loadM _ rfl gS _ x7 f1 rg ?_
                exact hK _ _ ⟨_, rfl, tsp_mk (by decide) (by decide), hJ.same 8 (by decide), fun j u _ _ _ h => tsp_keep (fun e => (Bool.or_eq_false_iff.1 e).2) (Below.refl _ _) j u h⟩
              | 9, ho, hs, hLi =>
                cases Option.some.inj ho
                cases Option.some.inj hs
                have h10 : A.tmps[10]?.getD undef = .slice (some ⟨gS, 0, none⟩) (n0 + 2) cz := (gd A 10).trans (hkept 10 (by as_aux_lemma => kernel_rfl))
                refine wpOp_step rfl (fun K hK => ?_)
                go_simp
                exact hK _ _ ⟨_, rfl, tsp_mk (by decide) (by decide), hJ.same 9 (by decide), fun j u _ _ _ h => tsp_keep (fun e => (Bool.or_eq_false_iff.1 e).2) (Below.refl _ _) j u h⟩
              | 10, ho, hs, hLi =>
                cases Option.some.inj ho
                cases Option.some.inj hs
                have h15 : A.tmps[15]?.getD undef = .int .i64 ((n0 : Int) + 2) := (gd A 15).trans (hkept 15 (by as_aux_lemma => kernel_rfl))
                refine wpOp_step rfl (fun K hK => ?_)
                go_simp
                exact hK _ _ ⟨_, rfl, tsp_mk (by decide) (by decide), hJ.same 10 (by decide), fun j u _ _ _ h => tsp_keep (fun e => (Bool.or_eq_false_iff.1 e).2) (Below.refl _ _) j u h⟩
              | 11, ho, hs, hLi =>
                cases Option.some.inj ho
                cases Option.some.inj hs
                have h169 : A.tmps[169]?.getD undef = .int .i64 ((n0 : Int) + 2) := (gd A 169).trans (tsp_at (hhas 10 169 rfl (hdep ⟨10, .data⟩ (by simp) rfl)) (by decide) (by decide))
                refine wpOp_step rfl (fun K hK => ?_)
                go_simp
                refine hK _ _ ⟨.int .i64 ((n0 : Int) + 1), ?_, tsp_mk (i := 11) (by decide) (by decide), hJ.same 11 (by decide), fun j u _ _ _ h => tsp_keep (fun e => (Bool.or_eq_false_iff.1 e).2) (Below.refl _ _) j u h⟩
                first | rfl | (rw [hv2]; rfl) | (rw [hv1]; rfl) | (simp [hk2, hk1])
              | 12, ho, hs, hLi =>
                cases Option.some.inj ho
                cases Option.some.inj hs
                have h168 : A.tmps[168]?.getD undef = .slice (some ⟨gS, 0, none⟩) (n0 + 2) cz := (gd A 168).trans (tsp_at (hhas 9 168 rfl (hdep ⟨9, .data⟩ (by simp) rfl)) (by decide) (by decide))
                have h170 : A.tmps[170]?.getD undef = .int .i64 ((n0 : Int) + 1) := (gd A 170).trans (tsp_at (hhas 11 170 rfl (hdep ⟨11, .data⟩ (by simp) rfl)) (by decide) (by decide))
                refine wpOp_step rfl (fun K hK => ?_)
                go_simp
                exact hK _ _ ⟨_, rfl, tsp_mk (by decide) (by decide), hJ.same 12 (by decide), fun j u _ _ _ h => tsp_keep (fun e => (Bool.or_eq_false_iff.1 e).2) (Below.refl _ _) j u h⟩
              | 13, ho, hs, hLi =>
                cases Option.some.inj ho
                cases Option.some.inj hs
                have no16 : L 16 = false := by
                  cases h : L 16 with
                  | false => rfl
                  | true =>
                    have q15 := hc 16 _ rfl h ⟨15, .data⟩ (by simp) rfl
                    have q14 := hc 15 _ rfl q15 ⟨14, .data⟩ (by simp) rfl
                    have q := hc 14 _ rfl q14 ⟨13, .data⟩ (by simp) rfl
                    rw [hLi] at q; cases q
                have x12 : A.eval (.tmp 171) = .pointer (some ⟨gS, (n0 + 1) * 23, none⟩) := tsp_at (hhas 12 171 rfl (hdep ⟨12, .data⟩ (by simp) rfl)) (by decide) (by decide)
                have rg := rangeAt_below rg2 (hJ.bel no16)
                refine wpOp_step rfl (fun K hK => ?_)
                show Oper.wp _ _ _ _ _ _
                refine wp_loadM _ rfl gS _ x12 f2 rg ?_
                exact hK _ _ ⟨_, rfl, tsp_mk (by decide) (by decide), hJ.same 13 (by decide), fun j u _ _ _ h => tsp_keep (fun e => (Bool.or_eq_false_iff.1 e).2) (Below.refl _ _) j u h⟩
              | 14, ho, hs, hLi =>
                cases Option.some.inj ho
                cases Option.some.inj hs
                have h167 : A.tmps[167]?.getD undef = .agg (mv f1) := (gd A 167).trans (tsp_at (hhas 8 167 rfl (hdep ⟨8, .data⟩ (by simp) rfl)) (by decide) (by decide))
                have h172 : A.tmps[172]?.getD undef = .agg (mv f2) := (gd A 172).trans (tsp_at (hhas 13 172 rfl (hdep ⟨13, .data⟩ (by simp) rfl)) (by decide) (by decide))
                refine wpOp_step rfl (fun K hK => ?_)
                go_simp
                refine (diff_ref f1 f2 W2).mono ?_
                rintro r' W' ⟨rfl, hb'⟩
                exact hK _ _ ⟨_, rfl, tsp_mk (by decide) (by decide), hJ.on 14 (by decide) hb', fun j u _ _ _ h => tsp_keep (fun e => (Bool.or_eq_false_iff.1 e).2) hb' j u h⟩
              | 15, ho, hs, hLi =>
                cases Option.some.inj ho
                cases Option.some.inj hs
                have x14 : A.eval (.tmp 173) = .agg (mv (dfM f1 f2)) := tsp_at (hhas 14 173 rfl (hdep ⟨14, .data⟩ (by simp) rfl)) (by decide) (by decide)
                have hb := (Below.refl W2.heap.size W2).alloc (Nat.le_refl _) (.cells (mv (dfM f1 f2)) 25)
                have hnew := heap_alloc_new W2 (.cells (mv (dfM f1 f2)) 25)
                refine wpOp_step rfl (fun K hK => ?_)
                show Oper.wp _ _ _ _ _ _
                refine wp_buildM _ rfl (dfM f1 f2) x14 ?_
                exact hK _ _ ⟨_, rfl, tsp_mk15 fun _ => hnew, hJ.on 15 (by decide) hb, fun j u _ _ _ h => tsp_keep (fun e => (Bool.or_eq_false_iff.1 e).2) hb j u h⟩
              | 16, ho, hs, hLi =>
                cases Option.some.inj ho
                cases Option.some.inj hs
                obtain ⟨g9, e15, hx⟩ := tsp_15 (hhas 15 174 rfl (hdep ⟨15, .data⟩ (by simp) rfl))
                have hh := hx hLi
                have x15 : A.eval (.tmp 174) = .slice (some ⟨g9, 0, none⟩) 1 1 := e15
                have x3 : A.eval (.tmp 162) = .slice (some ⟨gS, 0, none⟩) n0 cz := tsp_at (hhas 3 162 rfl (hdep ⟨3, .data⟩ (by simp) rfl)) (by decide) (by decide)
                refine wpOp_step rfl (fun K hK => ?_)
                show Oper.wp _ _ _ _ _ _
                have hbl := hJ.bel hLi
                refine wp_appendM _ _ rfl w2.heap.size S0 (dfM f1 f2) (.slice (some ⟨gS, 0, none⟩) n0 cz) x3 (by rw [hn0]; exact own_below own8 hbl) g9 x15 hh (by omega) (Nat.le_trans hb6 hbl.size) ?_
                intro v' W' hown hgrow
                rw [List.length_append, List.length_singleton, flatS_snoc, hn0] at hown
                exact hK _ _ ⟨v', rfl, tsp_mk16 hown, hJ.app hgrow, fun j u hj _ _ h => tsp_app hj u h⟩
              | kk + 17, ho, hs, hLi => simp at hs
            · intro o' L W2 A ho hL hJ hhas hkept hput
              cases Option.some.inj ho
              have own7 := tsp_16 (hhas 16 175 rfl)
              obtain ⟨v7, ev7⟩ : ∃ v, A.tmps.getD 175 undef = v := ⟨_, rfl⟩
              rw [ev7] at own7
              obtain ⟨p7, c7, hv7⟩ := own_slice own7
              subst hv7
              obtain ⟨x15, e15⟩ : ∃ x, A.tmps.getD 174 undef = x := ⟨_, rfl⟩
              have hA : A = putAll [(159, .slice (some ⟨gS, 0, none⟩) (n0 + 2) cz), (160, .int .i64 ((n0 : Int) + 2)), (161, .int .i64 (n0 : Int)), (162, .slice (some ⟨gS, 0, none⟩) n0 cz), (163, .slice (some ⟨gS, 0, none⟩) (n0 + 2) cz), (164, .int .i64 ((n0 : Int) + 2)), (165, .int .i64 (n0 : Int)), (166, .pointer (some ⟨gS, n0 * 23, none⟩)), (167, .agg (mv f1)), (168, .slice (some ⟨gS, 0, none⟩) (n0 + 2) cz), (169, .int .i64 ((n0 : Int) + 2)), (170, .int .i64 ((n0 : Int) + 1)), (171, .pointer (some ⟨gS, (n0 + 1) * 23, none⟩)), (172, .agg (mv f2)), (173, .agg (mv (dfM f1 f2))), (174, x15), (175, .slice p7 (n0 + 1) c7)] _ := hput _ (by as_aux_lemma => kernel_rfl) (fun j s v hj => match j, hj with
                | 0, hj => by cases Option.some.inj hj; exact tsp_at (hhas 0 159 rfl) (by decide) (by decide)
                | 1, hj => by cases Option.some.inj hj; exact tsp_at (hhas 1 160 rfl) (by decide) (by decide)
                | 2, hj => by cases Option.some.inj hj; exact tsp_at (hhas 2 161 rfl) (by decide) (by decide)
                | 3, hj => by cases Option.some.inj hj; exact tsp_at (hhas 3 162 rfl) (by decide) (by decide)
                | 4, hj => by cases Option.some.inj hj; exact tsp_at (hhas 4 163 rfl) (by decide) (by decide)
                | 5, hj => by cases Option.some.inj hj; exact tsp_at (hhas 5 164 rfl) (by decide) (by decide)
                | 6, hj => by cases Option.some.inj hj; exact tsp_at (hhas 6 165 rfl) (by decide) (by decide)
                | 7, hj => by cases Option.some.inj hj; exact tsp_at (hhas 7 166 rfl) (by decide) (by decide)
                | 8, hj => by cases Option.some.inj hj; exact tsp_at (hhas 8 167 rfl) (by decide) (by decide)
                | 9, hj => by cases Option.some.inj hj; exact tsp_at (hhas 9 168 rfl) (by decide) (by decide)
                | 10, hj => by cases Option.some.inj hj; exact tsp_at (hhas 10 169 rfl) (by decide) (by decide)
                | 11, hj => by cases Option.some.inj hj; exact tsp_at (hhas 11 170 rfl) (by decide) (by decide)
                | 12, hj => by cases Option.some.inj hj; exact tsp_at (hhas 12 171 rfl) (by decide) (by decide)
                | 13, hj => by cases Option.some.inj hj; exact tsp_at (hhas 13 172 rfl) (by decide) (by decide)
                | 14, hj => by cases Option.some.inj hj; exact tsp_at (hhas 14 173 rfl) (by decide) (by decide)
                | 15, hj => by cases Option.some.inj hj; exact e15
                | 16, hj => by cases Option.some.inj hj; exact ev7
                | kk + 17, hj => by simp at hj)
              have h175 : A.tmps[175]?.getD undef = .slice p7 (n0 + 1) c7 := (gd A 175).trans ev7
              have own9 : W2.ownsRow w2.heap.size 25 23 (.slice p7 (n0 + 1) c7) (S0 ++ [dfM f1 f2]).length (flatS (S0 ++ [dfM f1 f2])) := by
                rw [flatS_snoc, List.length_append, List.length_singleton, hn0]
                exact own7
              have HM9 := hidv ((HM6.out.grown hJ.grown own9).re (T0 ++ [dfM f1 f2]))
              have HA := hidv hA
              clear own7 own9 hJ hhas hA hput hkept ev7 e15 HM6 own8 rg1 rg2
              refine wpOp_step rfl (fun K hK => ?_)
              go_simp
              refine hK _ _ ⟨⟨_, rfl⟩, ?_⟩
              clear hK h175
              have hA := HA.out
              clear HA
              subst hA
              simp only [putAll_cons, putAll_nil, Act.put, List.setIfInBounds_toArray, List.set_cons_succ, List.set_cons_zero]
              go_wp2_with fail
              go_roundw
              case rel => exact ⟨⟨r, k + 1, T0 ++ [dfM f1 f2]⟩ :: G, S0 ++ [dfM f1 f2], n + 1, by push_cast; rfl, HM9.out.out (by rw [← HS0.out]; simp [stk]) HF2.out⟩
              case measure => simp [intOf, slLen]; omega
          · obtain ⟨T0, f1, f2, rfl⟩ := last2 (S := T) (by have h2 : (2 : Int) ≤ hAt u.ins k := htk; omega)
            have hF2 := (HF.out.step HR.out HXX.out (by simp)).1
            rw [show stepV (wkB9 day) day (evD (wkB9 day) day cs) ⟨4, a, b, t, sp⟩ ⟨k, T0 ++ [f1, f2], n⟩ = ⟨k + 1, T0 ++ [boM f1 f2], n + 1⟩ by simp [stepV, pop2_eq]] at hF2
            have hle2 := hF2.le
            have HF2 := hidv hF2
            obtain ⟨S0, hS0⟩ : ∃ S0, stk G ++ T0 = S0 := ⟨_, rfl⟩
            have hSS : S = S0 ++ [f1, f2] := by rw [HSS.out, ← hS0]; simp [stk]
            obtain ⟨gS, eps, nS, hc1, hc2, own8, rg1, rg2⟩ := own_two HM6.out.own hSS
            subst eps
            obtain ⟨n0, hn0⟩ : ∃ n0, S0.length = n0 := ⟨_, rfl⟩
            rw [hn0] at nS hc1 own8 rg1 rg2
            have hb6 := HM6.out.bel.size
            have e2c : ((n0 + 2 : Nat) : Int) = (n0 : Int) + 2 := by push_cast; rfl
            rw [nS]
            rw [nS] at hSl
            have HSQ := hidv hSS
            have HS0 := hidv hS0
            have hn00 : (0 : Int) ≤ (n0 : Int) := by omega
            have hn01 : (n0 : Int) ≤ 50000000 := by omega
            have hcz1 : (n0 : Int) + 2 ≤ (cz : Int) := by omega
            have hcz2 : n0 ≤ cz := by omega
            have hcz3 : cz ≤ 9223372036854775807 := by unfold maxLen at hc2; omega
            have hk2 : (n0 : Int) + 2 - 2 = (n0 : Int) := by omega
            have hk1 : (n0 : Int) + 2 - 1 = (n0 : Int) + 1 := by omega
            have hv2 : IntKind.i64.wrap (n0 : Int) = (n0 : Int) := by rw [IntKind.wrap_i64]; omega
            have hv1 : IntKind.i64.wrap ((n0 : Int) + 1) = (n0 : Int) + 1 := by rw [IntKind.wrap_i64]; omega
            have hi0 : (n0 : Int) < (n0 : Int) + 2 := by omega
            have hi1 : (n0 : Int) + 1 < (n0 : Int) + 2 := by omega
            clear HF hF2 HXX HRX HR hSS hS0 hc2
            go_wp2_with fail
            clear hw6 x0 x1 x2 x3 x4 zk yk
            refine wp_region_lastT (TwoJ w6 (some gS)) (tsp [.slice (some ⟨gS, 0, none⟩) (n0 + 2) cz, .int .i64 ((n0 : Int) + 2), .int .i64 (n0 : Int), .slice (some ⟨gS, 0, none⟩) n0 cz, .slice (some ⟨gS, 0, none⟩) (n0 + 2) cz, .int .i64 ((n0 : Int) + 2), .int .i64 (n0 : Int), .pointer (some ⟨gS, n0 * 23, none⟩), .agg (mv f1), .slice (some ⟨gS, 0, none⟩) (n0 + 2) cz, .int .i64 ((n0 : Int) + 2), .int .i64 ((n0 : Int) + 1), .pointer (some ⟨gS, (n0 + 1) * 23, none⟩), .agg (mv f2), .agg (mv (boM f1 f2))] w2.heap.size n0 (flatS S0) (boM f1 f2)) (fun L _ => TwoJ.start rfl) (by as_aux_lemma => kernel_rfl) (by as_aux_lemma => kernel_rfl) (by as_aux_lemma => kernel_rfl) (by as_aux_lemma => kernel_rfl) 17 (by as_aux_lemma => kernel_rfl) (by as_aux_lemma => kernel_rfl) [178, 179, 180, 181, 182, 183, 184, 185, 186, 187, 188, 189, 190, 191, 192, 193, 194] (by as_aux_lemma => kernel_rfl) (by as_aux_lemma => kernel_rfl) ?_ ?_
            · intro i' s o' L A W2 ho hs hLi hdep hc hJ hkept hhas
              match i', ho, hs, hLi with
              | 0, ho, hs, hLi =>
                cases Option.some.inj ho
                cases Option.some.inj hs
                have h10 : A.tmps[10]?.getD undef = .slice (some ⟨gS, 0, none⟩) (n0 + 2) cz := (gd A 10).trans (hkept 10 (by as_aux_lemma => kernel_rfl))
                refine wpOp_step rfl (fun K hK => ?_)
                go_simp
                exact hK _ _ ⟨_, rfl, tsp_mk (by decide) (by decide), hJ.same 0 (by decide), fun j u _ _ _ h => tsp_keep (fun e => (Bool.or_eq_false_iff.1 e).2) (Below.refl _ _) j u h⟩
              | 1, ho, hs, hLi =>
                cases Option.some.inj ho
                cases Option.some.inj hs
                have h15 : A.tmps[15]?.getD undef = .int .i64 ((n0 : Int) + 2) := (gd A 15).trans (hkept 15 (by as_aux_lemma => kernel_rfl))
                refine wpOp_step rfl (fun K hK => ?_)
                go_simp
                exact hK _ _ ⟨_, rfl, tsp_mk (by decide) (by decide), hJ.same 1 (by decide), fun j u _ _ _ h => tsp_keep (fun e => (Bool.or_eq_false_iff.1 e).2) (Below.refl _ _) j u h⟩
              | 2, ho, hs, hLi =>
                cases Option.some.inj ho
                cases Option.some.inj hs
                have h179 : A.tmps[179]?.getD undef = .int .i64 ((n0 : Int) + 2) := (gd A 179).trans (tsp_at (hhas 1 179 rfl (hdep ⟨1, .data⟩ (by simp) rfl)) (by decide) (by decide))
                refine wpOp_step rfl (fun K hK => ?_)
                go_simp
                refine hK _ _ ⟨.int .i64 (n0 : Int), ?_, tsp_mk (i := 2) (by decide) (by decide), hJ.same 2 (by decide), fun j u _ _ _ h => tsp_keep (fun e => (Bool.or_eq_false_iff.1 e).2) (Below.refl _ _) j u h⟩
                first | rfl | (rw [hv2]; rfl) | (rw [hv1]; rfl) | (simp [hk2, hk1])
              | 3, ho, hs, hLi =>
                cases Option.some.inj ho
                cases Option.some.inj hs
                have h178 : A.tmps[178]?.getD undef = .slice (some ⟨gS, 0, none⟩) (n0 + 2) cz := (gd A 178).trans (tsp_at (hhas 0 178 rfl (hdep ⟨0, .data⟩ (by simp) rfl)) (by decide) (by decide))
                have h180 : A.tmps[180]?.getD undef = .int .i64 (n0 : Int) := (gd A 180).trans (tsp_at (hhas 2 180 rfl (hdep ⟨2, .data⟩ (by simp) rfl)) (by decide) (by decide))
                refine wpOp_step rfl (fun K hK => ?_)
                go_simp
                exact hK _ _ ⟨_, rfl, tsp_mk (by decide) (by decide), hJ.same 3 (by decide), fun j u _ _ _ h => tsp_keep (fun e => (Bool.or_eq_false_iff.1 e).2) (Below.refl _ _) j u h⟩
              | 4, ho, hs, hLi =>
                cases Option.some.inj ho
                cases Option.some.inj hs
                have h10 : A.tmps[10]?.getD undef = .slice (some ⟨gS, 0, none⟩) (n0 + 2) cz := (gd A 10).trans (hkept 10 (by as_aux_lemma => kernel_rfl))
                refine wpOp_step rfl (fun K hK => ?_)
                go_simp
                exact hK _ _ ⟨_, rfl, tsp_mk (by decide) (by decide), hJ.same 4 (by decide), fun j u _ _ _ h => tsp_keep (fun e => (Bool.or_eq_false_iff.1 e).2) (Below.refl _ _) j u h⟩
              | 5, ho, hs, hLi =>
                cases Option.some.inj ho
                cases Option.some.inj hs
                have h15 : A.tmps[15]?.getD undef = .int .i64 ((n0 : Int) + 2) := (gd A 15).trans (hkept 15 (by as_aux_lemma => kernel_rfl))
                refine wpOp_step rfl (fun K hK => ?_)
                go_simp
                exact hK _ _ ⟨_, rfl, tsp_mk (by decide) (by decide), hJ.same 5 (by decide), fun j u _ _ _ h => tsp_keep (fun e => (Bool.or_eq_false_iff.1 e).2) (Below.refl _ _) j u h⟩
              | 6, ho, hs, hLi =>
                cases Option.some.inj ho
                cases Option.some.inj hs
                have h183 : A.tmps[183]?.getD undef = .int .i64 ((n0 : Int) + 2) := (gd A 183).trans (tsp_at (hhas 5 183 rfl (hdep ⟨5, .data⟩ (by simp) rfl)) (by decide) (by decide))
                refine wpOp_step rfl (fun K hK => ?_)
                go_simp
                refine hK _ _ ⟨.int .i64 (n0 : Int), ?_, tsp_mk (i := 6) (by decide) (by decide), hJ.same 6 (by decide), fun j u _ _ _ h => tsp_keep (fun e => (Bool.or_eq_false_iff.1 e).2) (Below.refl _ _) j u h⟩
                first | rfl | (rw [hv2]; rfl) | (rw [hv1]; rfl) | (simp [hk2, hk1])
              | 7, ho, hs, hLi =>
                cases Option.some.inj ho
                cases Option.some.inj hs
                have h182 : A.tmps[182]?.getD undef = .slice (some ⟨gS, 0, none⟩) (n0 + 2) cz := (gd A 182).trans (tsp_at (hhas 4 182 rfl (hdep ⟨4, .data⟩ (by simp) rfl)) (by decide) (by decide))
                have h184 : A.tmps[184]?.getD undef = .int .i64 (n0 : Int) := (gd A 184).trans (tsp_at (hhas 6 184 rfl (hdep ⟨6, .data⟩ (by simp) rfl)) (by decide) (by decide))
                refine wpOp_step rfl (fun K hK => ?_)
                go_simp
                exact hK _ _ ⟨_, rfl, tsp_mk (by decide) (by decide), hJ.same 7 (by decide), fun j u _ _ _ h => tsp_keep (fun e => (Bool.or_eq_false_iff.1 e).2) (Below.refl _ _) j u h⟩
              | 8, ho, hs, hLi =>
                cases Option.some.inj ho
                cases Option.some.inj hs
                have no16 : L 16 = false := by
                  cases h : L 16 with
                  | false => rfl
                  | true =>
                    have q15 := hc 16 _ rfl h ⟨15, .data⟩ (by simp) rfl
                    have q14 := hc 15 _ rfl q15 ⟨14, .data⟩ (by simp) rfl
                    have q := hc 14 _ rfl q14 ⟨8, .data⟩ (by simp) rfl
                    rw [hLi] at q; cases q
                have x7 : A.eval (.tmp 185) = .pointer (some ⟨gS, n0 * 23, none⟩) := tsp_at (hhas 7 185 rfl (hdep ⟨7, .data⟩ (by simp) rfl)) (by decide) (by decide)
                have rg := rangeAt_below rg1 (hJ.bel no16)
                refine wpOp_step rfl (fun K hK => ?_)
                show Oper.wp _ _ _ _ _ _
                refine wp_loadM _ rfl gS _ x7 f1 rg ?_
                exact hK _ _ ⟨_, rfl, tsp_mk (by decide) (by decide), hJ.same 8 (by decide), fun j u _ _ _ h => tsp_keep (fun e => (Bool.or_eq_false_iff.1 e).2) (Below.refl _ _) j u h⟩
              | 9, ho, hs, hLi =>
                cases Option.some.inj ho
                cases Option.some.inj hs
                have h10 : A.tmps[10]?.getD undef = .slice (some ⟨gS, 0, none⟩) (n0 + 2) cz := (gd A 10).trans (hkept 10 (by as_aux_lemma => kernel_rfl))
                refine wpOp_step rfl (fun K hK => ?_)
                go_simp
                exact hK _ _ ⟨_, rfl, tsp_mk (by decide) (by decide), hJ.same 9 (by decide), fun j u _ _ _ h => tsp_keep (fun e => (Bool.or_eq_false_iff.1 e).2) (Below.refl _ _) j u h⟩
              | 10, ho, hs, hLi =>
                cases Option.some.inj ho
                cases Option.some.inj hs
                have h15 : A.tmps[15]?.getD undef = .int .i64 ((n0 : Int) + 2) := (gd A 15).trans (hkept 15 (by as_aux_lemma => kernel_rfl))
                refine wpOp_step rfl (fun K hK => ?_)
                go_simp
                exact hK _ _ ⟨_, rfl, tsp_mk (by decide) (by decide), hJ.same 10 (by decide), fun j u _ _ _ h => tsp_keep (fun e => (Bool.or_eq_false_iff.1 e).2) (Below.refl _ _) j u h⟩
              | 11, ho, hs, hLi =>
                cases Option.some.inj ho
                cases Option.some.inj hs
                have h188 : A.tmps[188]?.getD undef = .int .i64 ((n0 : Int) + 2) := (gd A 188).trans (tsp_at (hhas 10 188 rfl (hdep ⟨10, .data⟩ (by simp) rfl)) (by decide) (by decide))
                refine wpOp_step rfl (fun K hK => ?_)
                go_simp
                refine hK _ _ ⟨.int .i64 ((n0 : Int) + 1), ?_, tsp_mk (i := 11) (by decide) (by decide), hJ.same 11 (by decide), fun j u _ _ _ h => tsp_keep (fun e => (Bool.or_eq_false_iff.1 e).2) (Below.refl _ _) j u h⟩
                first | rfl | (rw [hv2]; rfl) | (rw [hv1]; rfl) | (simp [hk2, hk1])
              | 12, ho, hs, hLi =>
                cases Option.some.inj ho
                cases Option.some.inj hs
                have h187 : A.tmps[187]?.getD undef = .slice (some ⟨gS, 0, none⟩) (n0 + 2) cz := (gd A 187).trans (tsp_at (hhas 9 187 rfl (hdep ⟨9, .data⟩ (by simp) rfl)) (by decide) (by decide))
                have h189 : A.tmps[189]?.getD undef = .int .i64 ((n0 : Int) + 1) := (gd A 189).trans (tsp_at (hhas 11 189 rfl (hdep ⟨11, .data⟩ (by simp) rfl)) (by decide) (by decide))
                refine wpOp_step rfl (fun K hK => ?_)
                go_simp
                exact hK _ _ ⟨_, rfl, tsp_mk (by decide) (by decide), hJ.same 12 (by decide), fun j u _ _ _ h => tsp_keep (fun e => (Bool.or_eq_false_iff.1 e).2) (Below.refl _ _) j u h⟩
              | 13, ho, hs, hLi =>
                cases Option.some.inj ho
                cases Option.some.inj hs
                have no16 : L 16 = false := by
                  cases h : L 16 with
                  | false => rfl
                  | true =>
                    have q15 := hc 16 _ rfl h ⟨15, .data⟩ (by simp) rfl
                    have q14 := hc 15 _ rfl q15 ⟨14, .data⟩ (by simp) rfl
                    have q := hc 14 _ rfl q14 ⟨13, .data⟩ (by simp) rfl
                    rw [hLi] at q; cases q
                have x12 : A.eval (.tmp 190) = .pointer (some ⟨gS, (n0 + 1) * 23, none⟩) := tsp_at (hhas 12 190 rfl (hdep ⟨12, .data⟩ (by simp) rfl)) (by decide) (by decide)
                have rg := rangeAt_below rg2 (hJ.bel no16)
                refine wpOp_step rfl (fun K hK => ?_)
                show Oper.wp _ _ _ _ _ _
                refine wp_loadM _ rfl gS _ x12 f2 rg ?_
                exact hK _ _ ⟨_, rfl, tsp_mk (by decide) (by decide), hJ.same 13 (by decide), fun j u _ _ _ h => tsp_keep (fun e => (Bool.or_eq_false_iff.1 e).2) (Below.refl _ _) j u h⟩
              | 14, ho, hs, hLi =>
                cases Option.some.inj ho
                cases Option.some.inj hs
                have h186 : A.tmps[186]?.getD undef = .agg (mv f1) := (gd A 186).trans (tsp_at (hhas 8 186 rfl (hdep ⟨8, .data⟩ (by simp) rfl)) (by decide) (by decide))
                have h191 : A.tmps[191]?.getD undef = .agg (mv f2) := (gd A 191).trans (tsp_at (hhas 13 191 rfl (hdep ⟨13, .data⟩ (by simp) rfl)) (by decide) (by decide))
                refine wpOp_step rfl (fun K hK => ?_)
                go_simp
                refine (both_ref f1 f2 W2).mono ?_
                rintro r' W' ⟨rfl, hb'⟩
                exact hK _ _ ⟨_, rfl, tsp_mk (by decide) (by decide), hJ.on 14 (by decide) hb', fun j u _ _ _ h => tsp_keep (fun e => (Bool.or_eq_false_iff.1 e).2) hb' j u h⟩
              | 15, ho, hs, hLi =>
                cases Option.some.inj ho
                cases Option.some.inj hs
                have x14 : A.eval (.tmp 192) = .agg (mv (boM f1 f2)) := tsp_at (hhas 14 192 rfl (hdep ⟨14, .data⟩ (by simp) rfl)) (by decide) (by decide)
                have hb := (Below.refl W2.heap.size W2).alloc (Nat.le_refl _) (.cells (mv (boM f1 f2)) 25)
                have hnew := heap_alloc_new W2 (.cells (mv (boM f1 f2)) 25)
                refine wpOp_step rfl (fun K hK => ?_)
                show Oper.wp _ _ _ _ _ _
                refine wp_buildM _ rfl (boM f1 f2) x14 ?_
                exact hK _ _ ⟨_, rfl, tsp_mk15 fun _ => hnew, hJ.on 15 (by decide) hb, fun j u _ _ _ h => tsp_keep (fun e => (Bool.or_eq_false_iff.1 e).2) hb j u h⟩
              | 16, ho, hs, hLi =>
                cases Option.some.inj ho
                cases Option.some.inj hs
                obtain ⟨g9, e15, hx⟩ := tsp_15 (hhas 15 193 rfl (hdep ⟨15, .data⟩ (by simp) rfl))
                have hh := hx hLi
                have x15 : A.eval (.tmp 193) = .slice (some ⟨g9, 0, none⟩) 1 1 := e15
                have x3 : A.eval (.tmp 181) = .slice (some ⟨gS, 0, none⟩) n0 cz := tsp_at (hhas 3 181 rfl (hdep ⟨3, .data⟩ (by simp) rfl)) (by decide) (by decide)
                refine wpOp_step rfl (fun K hK => ?_)
                show Oper.wp _ _ _ _ _ _
                have hbl := hJ.bel hLi
                refine wp_appendM _ _ rfl w2.heap.size S0 (boM f1 f2) (.slice (some ⟨gS, 0, none⟩) n0 cz) x3 (by rw [hn0]; exact own_below own8 hbl) g9 x15 hh (by omega) (Nat.le_trans hb6 hbl.size) ?_
                intro v' W' hown hgrow
                rw [List.length_append, List.length_singleton, flatS_snoc, hn0] at hown
                exact hK _ _ ⟨v', rfl, tsp_mk16 hown, hJ.app hgrow, fun j u hj _ _ h => tsp_app hj u h⟩
              | kk + 17, ho, hs, hLi => simp at hs
            · intro o' L W2 A ho hL hJ hhas hkept hput
              cases Option.some.inj ho
              have own7 := tsp_16 (hhas 16 194 rfl)
              obtain ⟨v7, ev7⟩ : ∃ v, A.tmps.getD 194 undef = v := ⟨_, rfl⟩
              rw [ev7] at own7
              obtain ⟨p7, c7, hv7⟩ := own_slice own7
              subst hv7
              obtain ⟨x15, e15⟩ : ∃ x, A.tmps.getD 193 undef = x := ⟨_, rfl⟩
              have hA : A = putAll [(178, .slice (some ⟨gS, 0, none⟩) (n0 + 2) cz), (179, .int .i64 ((n0 : Int) + 2)), (180, .int .i64 (n0 : Int)), (181, .slice (some ⟨gS, 0, none⟩) n0 cz), (182, .slice (some ⟨gS, 0, none⟩) (n0 + 2) cz), (183, .int .i64 ((n0 : Int) + 2)), (184, .int .i64 (n0 : Int)), (185, .pointer (some ⟨gS, n0 * 23, none⟩)), (186, .agg (mv f1)), (187, .slice (some ⟨gS, 0, none⟩) (n0 + 2) cz), (188, .int .i64 ((n0 : Int) + 2)), (189, .int .i64 ((n0 : Int) + 1)), (190, .pointer (some ⟨gS, (n0 + 1) * 23, none⟩)), (191, .agg (mv f2)), (192, .agg (mv (boM f1 f2))), (193, x15), (194, .slice p7 (n0 + 1) c7)] _ := hput _ (by as_aux_lemma => kernel_rfl) (fun j s v hj => match j, hj with
                | 0, hj => by cases Option.some.inj hj; exact tsp_at (hhas 0 178 rfl) (by decide) (by decide)
                | 1, hj => by cases Option.some.inj hj; exact tsp_at (hhas 1 179 rfl) (by decide) (by decide)
                | 2, hj => by cases Option.some.inj hj; exact tsp_at (hhas 2 180 rfl) (by decide) (by decide)
                | 3, hj => by cases Option.some.inj hj; exact tsp_at (hhas 3 181 rfl) (by decide) (by decide)
                | 4, hj => by cases Option.some.inj hj; exact tsp_at (hhas 4 182 rfl) (by decide) (by decide)
                | 5, hj => by cases Option.some.inj hj; exact tsp_at (hhas 5 183 rfl) (by decide) (by decide)
                | 6, hj => by cases Option.some.inj hj; exact tsp_at (hhas 6 184 rfl) (by decide) (by decide)
                | 7, hj => by cases Option.some.inj hj; exact tsp_at (hhas 7 185 rfl) (by decide) (by decide)
                | 8, hj => by cases Option.some.inj hj; exact tsp_at (hhas 8 186 rfl) (by decide) (by decide)
                | 9, hj => by cases Option.some.inj hj; exact tsp_at (hhas 9 187 rfl) (by decide) (by decide)
                | 10, hj => by cases Option.some.inj hj; exact tsp_at (hhas 10 188 rfl) (by decide) (by decide)
                | 11, hj => by cases Option.some.inj hj; exact tsp_at (hhas 11 189 rfl) (by decide) (by decide)
                | 12, hj => by cases Option.some.inj hj; exact tsp_at (hhas 12 190 rfl) (by decide) (by decide)
                | 13, hj => by cases Option.some.inj hj; exact tsp_at (hhas 13 191 rfl) (by decide) (by decide)
                | 14, hj => by cases Option.some.inj hj; exact tsp_at (hhas 14 192 rfl) (by decide) (by decide)
                | 15, hj => by cases Option.some.inj hj; exact e15
                | 16, hj => by cases Option.some.inj hj; exact ev7
                | kk + 17, hj => by simp at hj)
              have h194 : A.tmps[194]?.getD undef = .slice p7 (n0 + 1) c7 := (gd A 194).trans ev7
              have own9 : W2.ownsRow w2.heap.size 25 23 (.slice p7 (n0 + 1) c7) (S0 ++ [boM f1 f2]).length (flatS (S0 ++ [boM f1 f2])) := by
                rw [flatS_snoc, List.length_append, List.length_singleton, hn0]
                exact own7
              have HM9 := hidv ((HM6.out.grown hJ.grown own9).re (T0 ++ [boM f1 f2]))
              have HA := hidv hA
              clear own7 own9 hJ hhas hA hput hkept ev7 e15 HM6 own8 rg1 rg2
              refine wpOp_step rfl (fun K hK => ?_)
              go_simp
              refine hK _ _ ⟨⟨_, rfl⟩, ?_⟩
              clear hK h194
              have hA := HA.out
              clear HA
              subst hA
              simp only [putAll_cons, putAll_nil, Act.put, List.setIfInBounds_toArray, List.set_cons_succ, List.set_cons_zero]
              go_wp2_with fail
              go_roundw
              case rel => exact ⟨⟨r, k + 1, T0 ++ [boM f1 f2]⟩ :: G, S0 ++ [boM f1 f2], n + 1, by push_cast; rfl, HM9.out.out (by rw [← HS0.out]; simp [stk]) HF2.out⟩
              case measure => simp [intOf, slLen]; omega
          · obtain ⟨T0, f1, rfl⟩ := last1 (S := T) (by have h2 : (1 : Int) ≤ hAt u.ins k := htk; omega)
            have hF2 := (HF.out.step HR.out HXX.out (by simp)).1
            rw [show stepV (wkB9 day) day (evD (wkB9 day) day cs) ⟨5, a, b, t, sp⟩ ⟨k, T0 ++ [f1], n⟩ = ⟨k + 1, T0 ++ [shM f1 a], n + 1⟩ by simp [stepV, pop1_eq]] at hF2
            have hle2 := hF2.le
            have HF2 := hidv hF2
            obtain ⟨S0, hS0⟩ : ∃ S0, stk G ++ T0 = S0 := ⟨_, rfl⟩
            have hSS : S = S0 ++ [f1] := by rw [HSS.out, ← hS0]; simp [stk]
            obtain ⟨gS, eps, nS, hc1, hc2, rg1⟩ := own_last HM6.out.own hSS
            subst eps
            subst hSS
            obtain ⟨n0, hn0⟩ : ∃ n0, S0.length = n0 := ⟨_, rfl⟩
            have e2c : ((n0 + 1 : Nat) : Int) = (n0 : Int) + 1 := by push_cast; rfl
            rw [hn0] at nS hc1 rg1
            rw [nS]
            rw [nS] at hSl
            have HN0 := hidv nS
            have HS0 := hidv hS0
            have hn00 : (0 : Int) ≤ (n0 : Int) := by omega
            have hn01 : (n0 : Int) ≤ 50000000 := by omega
            have hcz3 : cz ≤ 9223372036854775807 := by unfold maxLen at hc2; omega
            have hk1 : (n0 : Int) + 1 - 1 = (n0 : Int) := by omega
            have hv2 : IntKind.i64.wrap (n0 : Int) = (n0 : Int) := by rw [IntKind.wrap_i64]; omega
            have hi0 : (n0 : Int) < (n0 : Int) + 1 := by omega
            clear HF hF2 HXX HRX HR hS0 hc2 nS
            go_wp2_with fail
            clear hw6 x0 x2 x3 x4 zk yk
            refine wp_region_lastK (fun W => Below w6.heap.size w6 W) (Below.refl _ _).drew (by as_aux_lemma => kernel_rfl) (by as_aux_lemma => kernel_rfl) (by as_aux_lemma => kernel_rfl) (by as_aux_lemma => kernel_rfl) 12 (by as_aux_lemma => kernel_rfl) (by as_aux_lemma => kernel_rfl) [(197, .slice (some ⟨gS, 0, none⟩) (n0 + 1) cz), (198, .int .i64 ((n0 : Int) + 1)), (199, .int .i64 (n0 : Int)), (200, .slice (some ⟨gS, 0, none⟩) (n0 + 1) cz), (201, .int .i64 ((n0 : Int) + 1)), (202, .int .i64 (n0 : Int)), (203, .pointer (some ⟨gS, n0 * 23, none⟩)), (204, .agg (mv f1)), (205, .pointer (some ⟨gb, 1, none⟩)), (206, .int .i64 a), (207, .agg (mv (shM f1 a))), (208, .pointer (some ⟨gS, n0 * 23, none⟩))] (by as_aux_lemma => kernel_rfl) (by as_aux_lemma => kernel_rfl) ?_ ?_
            · intro i' s v o' L A W2 ho hv hdep hJ hkept hhas
              match i', ho, hv with
              | 0, ho, hv =>
                cases Option.some.inj ho
                cases Option.some.inj hv
                have h10 : A.tmps[10]?.getD undef = .slice (some ⟨gS, 0, none⟩) (n0 + 1) cz := (gd A 10).trans (hkept 10 (by as_aux_lemma => kernel_rfl))
                refine wpOp_step rfl (fun K hK => ?_)
                go_simp
                exact hK _ _ ⟨rfl, hJ⟩
              | 1, ho, hv =>
                cases Option.some.inj ho
                cases Option.some.inj hv
                have h15 : A.tmps[15]?.getD undef = .int .i64 ((n0 : Int) + 1) := (gd A 15).trans (hkept 15 (by as_aux_lemma => kernel_rfl))
                refine wpOp_step rfl (fun K hK => ?_)
                go_simp
                exact hK _ _ ⟨rfl, hJ⟩
              | 2, ho, hv =>
                cases Option.some.inj ho
                cases Option.some.inj hv
                have h198 : A.tmps[198]?.getD undef = .int .i64 ((n0 : Int) + 1) := (gd A 198).trans (hhas 1 198 _ rfl (hdep ⟨1, .data⟩ (by simp) rfl))
                refine wpOp_step rfl (fun K hK => ?_)
                go_simp
                refine hK _ _ ⟨?_, hJ⟩
                first | rfl | (rw [hv2]; rfl) | (simp [hk1])
              | 3, ho, hv =>
                cases Option.some.inj ho
                cases Option.some.inj hv
                have h10 : A.tmps[10]?.getD undef = .slice (some ⟨gS, 0, none⟩) (n0 + 1) cz := (gd A 10).trans (hkept 10 (by as_aux_lemma => kernel_rfl))
                refine wpOp_step rfl (fun K hK => ?_)
                go_simp
                exact hK _ _ ⟨rfl, hJ⟩
              | 4, ho, hv =>
                cases Option.some.inj ho
                cases Option.some.inj hv
                have h15 : A.tmps[15]?.getD undef = .int .i64 ((n0 : Int) + 1) := (gd A 15).trans (hkept 15 (by as_aux_lemma => kernel_rfl))
                refine wpOp_step rfl (fun K hK => ?_)
                go_simp
                exact hK _ _ ⟨rfl, hJ⟩
              | 5, ho, hv =>
                cases Option.some.inj ho
                cases Option.some.inj hv
                have h201 : A.tmps[201]?.getD undef = .int .i64 ((n0 : Int) + 1) := (gd A 201).trans (hhas 4 201 _ rfl (hdep ⟨4, .data⟩ (by simp) rfl))
                refine wpOp_step rfl (fun K hK => ?_)
                go_simp
                refine hK _ _ ⟨?_, hJ⟩
                first | rfl | (rw [hv2]; rfl) | (simp [hk1])
              | 6, ho, hv =>
                cases Option.some.inj ho
                cases Option.some.inj hv
                have h200 : A.tmps[200]?.getD undef = .slice (some ⟨gS, 0, none⟩) (n0 + 1) cz := (gd A 200).trans (hhas 3 200 _ rfl (hdep ⟨3, .data⟩ (by simp) rfl))
                have h202 : A.tmps[202]?.getD undef = .int .i64 (n0 : Int) := (gd A 202).trans (hhas 5 202 _ rfl (hdep ⟨5, .data⟩ (by simp) rfl))
                refine wpOp_step rfl (fun K hK => ?_)
                go_simp
                exact hK _ _ ⟨rfl, hJ⟩
              | 7, ho, hv =>
                cases Option.some.inj ho
                cases Option.some.inj hv
                have x6 : A.eval (.tmp 203) = .pointer (some ⟨gS, n0 * 23, none⟩) := hhas 6 203 _ rfl (hdep ⟨6, .data⟩ (by simp) rfl)
                refine wpOp_step rfl (fun K hK => ?_)
                show Oper.wp _ _ _ _ _ _
                refine wp_loadM _ rfl gS _ x6 f1 (rangeAt_below rg1 hJ) ?_
                exact hK _ _ ⟨rfl, hJ⟩
              | 8, ho, hv =>
                cases Option.some.inj ho
                cases Option.some.inj hv
                have h14 : A.tmps[14]?.getD undef = .pointer (some ⟨gb, 0, none⟩) := (gd A 14).trans (hkept 14 (by as_aux_lemma => kernel_rfl))
                refine wpOp_step rfl (fun K hK => ?_)
                go_simp
                exact hK _ _ ⟨rfl, hJ⟩
              | 9, ho, hv =>
                cases Option.some.inj ho
                cases Option.some.inj hv
                have h205 : A.tmps[205]?.getD undef = .pointer (some ⟨gb, 1, none⟩) := (gd A 205).trans (hhas 8 205 _ rfl (hdep ⟨8, .data⟩ (by simp) rfl))
                have zz := (hJ.cell (block_lt_of_cell x1)).trans x1
                refine wpOp_step rfl (fun K hK => ?_)
                go_simp
                exact hK _ _ ⟨rfl, hJ⟩
              | 10, ho, hv =>
                cases Option.some.inj ho
                cases Option.some.inj hv
                have h204 : A.tmps[204]?.getD undef = .agg (mv f1) := (gd A 204).trans (hhas 7 204 _ rfl (hdep ⟨7, .data⟩ (by simp) rfl))
                have h206 : A.tmps[206]?.getD undef = .int .i64 a := (gd A 206).trans (hhas 9 206 _ rfl (hdep ⟨9, .data⟩ (by simp) rfl))
                refine wpOp_step rfl (fun K hK => ?_)
                go_simp
                refine (shift_ref f1 a W2).mono ?_
                rintro r' W' ⟨rfl, hb'⟩
                exact hK _ _ ⟨rfl, hJ.trans (hb'.mono hJ.size)⟩
              | 11, ho, hv =>
                cases Option.some.inj ho
                cases Option.some.inj hv
                have h197 : A.tmps[197]?.getD undef = .slice (some ⟨gS, 0, none⟩) (n0 + 1) cz := (gd A 197).trans (hhas 0 197 _ rfl (hdep ⟨0, .data⟩ (by simp) rfl))
                have h199 : A.tmps[199]?.getD undef = .int .i64 (n0 : Int) := (gd A 199).trans (hhas 2 199 _ rfl (hdep ⟨2, .data⟩ (by simp) rfl))
                refine wpOp_step rfl (fun K hK => ?_)
                go_simp
                exact hK _ _ ⟨rfl, hJ⟩
              | kk + 12, ho, hv => simp at hv
            · intro o' W2 A ho hJ hA
              cases Option.some.inj ho
              have hx : A.eval (.tmp 208) = .pointer (some ⟨gS, n0 * 23, none⟩) := by
                rw [hA]
                simp only [putAll_cons, putAll_nil, Act.put, List.setIfInBounds_toArray, List.set_cons_succ, List.set_cons_zero]
                rfl
              have hy : A.eval (.tmp 207) = .agg (mv (shM f1 a)) := by
                rw [hA]
                simp only [putAll_cons, putAll_nil, Act.put, List.setIfInBounds_toArray, List.set_cons_succ, List.set_cons_zero]
                rfl
              have hM8 := HM6.out.below hJ
              have rg2 := rangeAt_below rg1 hJ
              have hth : W2.there gS (n0 * 23) (mv (shM f1 a)).size := by
                have h1 := there_range hM8.own rg2
                rw [mv_size]
                exact h1
              refine wpOp_step rfl (fun K hK => ?_)
              show Oper.wp _ _ _ _ _ _
              refine wp_store_mid 25 _ _ rfl gS (n0 * 23) (mv (shM f1 a)) hx hy hth (maskSize _) (mv_all _) ?_
              refine hK _ _ ⟨⟨undef, rfl⟩, ?_⟩
              have own8 := hM8.own
              rw [HN0.out, ← hn0] at own8
              have own9 := own_setlast (f' := shM f1 a) own8
              have hM9 := hM8.grown (grown_setCells W2 gS (S0.length * 23) (mv (shM f1 a)).toList) own9
              rw [hn0] at hM9
              have HM9 := hidv (hM9.re (T0 ++ [shM f1 a]))
              subst hA
              simp only [putAll_cons, putAll_nil, Act.put, List.setIfInBounds_toArray, List.set_cons_succ, List.set_cons_zero]
              clear hK hth hx hy own8 own9 hM8 hM9 rg1 rg2 HM6 hJ x1
              generalize W2.setCells gS (n0 * 23) (mv (shM f1 a)).toList = w9 at *
              go_wp2_with fail
              go_roundw
              case rel => exact ⟨⟨r, k + 1, T0 ++ [shM f1 a]⟩ :: G, S0 ++ [shM f1 a], n + 1, by push_cast; rfl, HM9.out.out (by rw [← HS0.out]; simp [stk]) HF2.out⟩
              case measure => simp [intOf, slLen]; omega
          · obtain ⟨hF2, hlt2, ha2⟩ := HF.out.call HR.out HXX.out rfl
            dsimp only at hF2 hlt2 ha2
            obtain ⟨an, han⟩ : ∃ an : Nat, a.toNat = an := ⟨_, rfl⟩
            rw [han] at hF2 hlt2 ha2
            subst ha2
            have hle2 := hF2.le
            have bQ := (Below.refl w6.heap.size w6).alloc (Nat.le_refl _) (.cells #[.int .i64 (an : Int), .int .i64 0] 60)
            have nQ := heap_alloc_new w6 (.cells #[.int .i64 (an : Int), .int .i64 0] 60)
            have hM8 := HM6.out.below bQ
            have hb8 := hM8.bel.size
            have HM8 := hidv hM8
            have hGl : (⟨r, k + 1, T⟩ :: G).length ≤ 50000000 := by rw [List.length_cons]; omega
            have HF2 := hidv hF2
            clear HF hF2 HXX HRX HR HM6 bQ hM8 han
            go_wp2_with (refine wpList_appendF rfl _ _ rfl w2.heap.size (⟨r, k + 1, T⟩ :: G) an _ rfl HM8.out.fr w6.heap.size rfl nQ hGl hb8 ?_
                         intro v9 w9 hv9 hg9
                         obtain ⟨p9, c9, rfl⟩ := ownF_slice hv9
                         have hM9 := HM8.out.grownF hg9 hv9
                         simp only [List.length_cons, hq] at hM9
                         have HM9 := hidv hM9
                         clear HM8 hM9 hv9 hg9 nQ)
            go_roundw
            case rel => exact ⟨⟨an, 0, []⟩ :: ⟨r, k + 1, T⟩ :: G, S, n + 1, by push_cast; rfl, HM9.out.out (by rw [HSS.out]; simp [stk]) HF2.out⟩
            case measure => simp [intOf, slLen]; omega
          · have hwb := wkd9_bd day hd0
            have cw := fun W => rweek9 day W hd0 hd1
            have hab := ins_six hE
            have HB := hidv (wkB9_ref day a hd0 (by omega) (by omega))
            go_upto_region 20 with fail
            refine wp_plain_JL (fun _ W => W = w6) (fun L _ => rfl) (fun _ _ _ _ h => h) (by as_aux_lemma => kernel_rfl) (by as_aux_lemma => kernel_rfl) (by as_aux_lemma => kernel_rfl) [(some 99, .pointer (some ⟨gb, 1, none⟩)), (some 100, .int .i64 a), (some 101, .int .i64 day), (some 102, .bool (decide (a ≤ day))), (some 103, .bool (decide (a ≤ day))), (some 104, (if a ≤ day then .int .i64 day else undef)), (some 105, (if a ≤ day then .pointer (some ⟨gb, 2, none⟩) else undef)), (some 106, (if a ≤ day then .int .i64 b else undef)), (some 107, (if a ≤ day then .bool (decide (day ≤ b)) else undef)), (some 108, .bool ((decide (a ≤ day)) && (decide (day ≤ b)))), (some 16, .bool ((decide (a ≤ day)) && (decide (day ≤ b))))] [(99, .pointer (some ⟨gb, 1, none⟩)), (100, .int .i64 a), (101, .int .i64 day), (102, .bool (decide (a ≤ day))), (103, .bool (decide (a ≤ day))), (104, (if a ≤ day then .int .i64 day else undef)), (105, (if a ≤ day then .pointer (some ⟨gb, 2, none⟩) else undef)), (106, (if a ≤ day then .int .i64 b else undef)), (107, (if a ≤ day then .bool (decide (day ≤ b)) else undef)), (108, .bool ((decide (a ≤ day)) && (decide (day ≤ b)))), (16, .bool ((decide (a ≤ day)) && (decide (day ≤ b))))] (by as_aux_lemma => kernel_rfl) (by as_aux_lemma => kernel_rfl) (by as_aux_lemma => kernel_rfl) ?_ ?_
            · intro i' d v o' L A W9 ho hv hLi hdep hc hJ hkept hhas
              match i', ho, hv, hLi with
              | 0, ho, hv, hLi =>
                cases Option.some.inj ho
                cases Option.some.inj hv
                subst hJ
                have h14 : A.tmps[14]?.getD undef = .pointer (some ⟨gb, 0, none⟩) := (gd A 14).trans (hkept 14 (by as_aux_lemma => kernel_rfl))
                refine wpOp_step rfl (fun K hK => ?_)
                go_simp
                exact hK _ _ ⟨rfl, rfl⟩
              | 1, ho, hv, hLi =>
                cases Option.some.inj ho
                cases Option.some.inj hv
                subst hJ
                have h99 : A.tmps[99]?.getD undef = .pointer (some ⟨gb, 1, none⟩) := (gd A 99).trans (hhas 0 99 _ rfl (hdep ⟨0, .data⟩ (by simp) rfl))
                refine wpOp_step rfl (fun K hK => ?_)
                go_simp
                exact hK _ _ ⟨rfl, rfl⟩
              | 2, ho, hv, hLi =>
                cases Option.some.inj ho
                cases Option.some.inj hv
                subst hJ
                have h2 : A.tmps[2]?.getD undef = .int .i64 day := (gd A 2).trans (hkept 2 (by as_aux_lemma => kernel_rfl))
                refine wpOp_step rfl (fun K hK => ?_)
                go_simp
                exact hK _ _ ⟨rfl, rfl⟩
              | 3, ho, hv, hLi =>
                cases Option.some.inj ho
                cases Option.some.inj hv
                subst hJ
                have h100 : A.tmps[100]?.getD undef = .int .i64 a := (gd A 100).trans (hhas 1 100 _ rfl (hdep ⟨1, .data⟩ (by simp) rfl))
                have h101 : A.tmps[101]?.getD undef = .int .i64 day := (gd A 101).trans (hhas 2 101 _ rfl (hdep ⟨2, .data⟩ (by simp) rfl))
                refine wpOp_step rfl (fun K hK => ?_)
                go_simp
                exact hK _ _ ⟨rfl, rfl⟩
              | 4, ho, hv, hLi =>
                cases Option.some.inj ho
                cases Option.some.inj hv
                subst hJ
                have h102 : A.tmps[102]?.getD undef = .bool (decide (a ≤ day)) := (gd A 102).trans (hhas 3 102 _ rfl (hdep ⟨3, .data⟩ (by simp) rfl))
                refine wpOp_step rfl (fun K hK => ?_)
                go_simp
                exact hK _ _ ⟨rfl, rfl⟩
              | 5, ho, hv, hLi =>
                cases Option.some.inj ho
                cases Option.some.inj hv
                subst hJ
                by_cases hg : a ≤ day
                · have hG : A.tmps[103]? = some (.bool true) := gdb ((hhas 4 103 _ rfl (hdep ⟨4, .guard⟩ (by simp) rfl)).trans (by rw [decide_eq_true hg]))
                  rw [if_pos hg]
                  have h2 : A.tmps[2]?.getD undef = .int .i64 day := (gd A 2).trans (hkept 2 (by as_aux_lemma => kernel_rfl))
                  refine wpOp_step rfl (fun K hK => ?_)
                  go_simp
                  exact hK _ _ ⟨rfl, rfl⟩
                · have hG : A.tmps[103]? = some (.bool false) := gdb ((hhas 4 103 _ rfl (hdep ⟨4, .guard⟩ (by simp) rfl)).trans (by rw [decide_eq_false hg]))
                  rw [if_neg hg]
                  refine wpOp_step rfl (fun K hK => ?_)
                  go_simp
                  exact hK _ _ ⟨rfl, rfl⟩
              | 6, ho, hv, hLi =>
                cases Option.some.inj ho
                cases Option.some.inj hv
                subst hJ
                by_cases hg : a ≤ day
                · have hG : A.tmps[103]? = some (.bool true) := gdb ((hhas 4 103 _ rfl (hdep ⟨4, .guard⟩ (by simp) rfl)).trans (by rw [decide_eq_true hg]))
                  rw [if_pos hg]
                  have h14 : A.tmps[14]?.getD undef = .pointer (some ⟨gb, 0, none⟩) := (gd A 14).trans (hkept 14 (by as_aux_lemma => kernel_rfl))
                  refine wpOp_step rfl (fun K hK => ?_)
                  go_simp
                  exact hK _ _ ⟨rfl, rfl⟩
                · have hG : A.tmps[103]? = some (.bool false) := gdb ((hhas 4 103 _ rfl (hdep ⟨4, .guard⟩ (by simp) rfl)).trans (by rw [decide_eq_false hg]))
                  rw [if_neg hg]
                  refine wpOp_step rfl (fun K hK => ?_)
                  go_simp
                  exact hK _ _ ⟨rfl, rfl⟩
              | 7, ho, hv, hLi =>
                cases Option.some.inj ho
                cases Option.some.inj hv
                subst hJ
                by_cases hg : a ≤ day
                · have hG : A.tmps[103]? = some (.bool true) := gdb ((hhas 4 103 _ rfl (hdep ⟨4, .guard⟩ (by simp) rfl)).trans (by rw [decide_eq_true hg]))
                  rw [if_pos hg]
                  have h105 : A.tmps[105]?.getD undef = .pointer (some ⟨gb, 2, none⟩) := ((gd A 105).trans (hhas 6 105 _ rfl (hdep ⟨6, .data⟩ (by simp) rfl))).trans (if_pos hg)
                  refine wpOp_step rfl (fun K hK => ?_)
                  go_simp
                  exact hK _ _ ⟨rfl, rfl⟩
                · have hG : A.tmps[103]? = some (.bool false) := gdb ((hhas 4 103 _ rfl (hdep ⟨4, .guard⟩ (by simp) rfl)).trans (by rw [decide_eq_false hg]))
                  rw [if_neg hg]
                  refine wpOp_step rfl (fun K hK => ?_)
                  go_simp
                  exact hK _ _ ⟨rfl, rfl⟩
              | 8, ho, hv, hLi =>
                cases Option.some.inj ho
                cases Option.some.inj hv
                subst hJ
                by_cases hg : a ≤ day
                · have hG : A.tmps[103]? = some (.bool true) := gdb ((hhas 4 103 _ rfl (hdep ⟨4, .guard⟩ (by simp) rfl)).trans (by rw [decide_eq_true hg]))
                  rw [if_pos hg]
                  have h104 : A.tmps[104]?.getD undef = .int .i64 day := ((gd A 104).trans (hhas 5 104 _ rfl (hdep ⟨5, .data⟩ (by simp) rfl))).trans (if_pos hg)
                  have h106 : A.tmps[106]?.getD undef = .int .i64 b := ((gd A 106).trans (hhas 7 106 _ rfl (hdep ⟨7, .data⟩ (by simp) rfl))).trans (if_pos hg)
                  refine wpOp_step rfl (fun K hK => ?_)
                  go_simp
                  exact hK _ _ ⟨rfl, rfl⟩
                · have hG : A.tmps[103]? = some (.bool false) := gdb ((hhas 4 103 _ rfl (hdep ⟨4, .guard⟩ (by simp) rfl)).trans (by rw [decide_eq_false hg]))
                  rw [if_neg hg]
                  refine wpOp_step rfl (fun K hK => ?_)
                  go_simp
                  exact hK _ _ ⟨rfl, rfl⟩
              | 9, ho, hv, hLi =>
                cases Option.some.inj ho
                cases Option.some.inj hv
                subst hJ
                by_cases hg : a ≤ day
                · have h103 : A.tmps[103]?.getD undef = .bool (decide (a ≤ day)) := (gd A 103).trans (hhas 4 103 _ rfl (hdep ⟨4, .data⟩ (by simp) rfl))
                  have h107 : A.tmps[107]?.getD undef = .bool (decide (day ≤ b)) := ((gd A 107).trans (hhas 8 107 _ rfl (hdep ⟨8, .data⟩ (by simp) rfl))).trans (if_pos hg)
                  rw [decide_eq_true hg] at h103 ⊢
                  refine wpOp_step rfl (fun K hK => ?_)
                  go_simp
                  exact hK _ _ ⟨rfl, rfl⟩
                · have h103 : A.tmps[103]?.getD undef = .bool (decide (a ≤ day)) := (gd A 103).trans (hhas 4 103 _ rfl (hdep ⟨4, .data⟩ (by simp) rfl))
                  rw [decide_eq_false hg] at h103 ⊢
                  refine wpOp_step rfl (fun K hK => ?_)
                  go_simp
                  exact hK _ _ ⟨rfl, rfl⟩
              | 10, ho, hv, hLi =>
                cases Option.some.inj ho
                cases Option.some.inj hv
                subst hJ
                have h108 : A.tmps[108]?.getD undef = .bool ((decide (a ≤ day)) && (decide (day ≤ b))) := (gd A 108).trans (hhas 9 108 _ rfl (hdep ⟨9, .data⟩ (by simp) rfl))
                refine wpOp_step rfl (fun K hK => ?_)
                go_simp
                exact hK _ _ ⟨rfl, rfl⟩
              | kk + 11, ho, hv, hLi => simp at hv
            · intro L W9 hL hJ
              replace hJ := hJ.symm
              subst hJ
              simp only [putAll_cons, putAll_nil, Act.put, List.setIfInBounds_toArray, List.set_cons_succ, List.set_cons_zero]
              clear hL
              generalize (if a ≤ day then .int .i64 day else undef) = y1
              generalize (if a ≤ day then .pointer (some ⟨gb, 2, none⟩) else undef) = y2
              generalize (if a ≤ day then .int .i64 b else undef) = y3
              generalize (if a ≤ day then .bool (decide (day ≤ b)) else undef) = y4
              generalize ((decide (a ≤ day)) && (decide (day ≤ b))) = y5
              generalize (decide (a ≤ day)) = y6
              go_wp2_with fail
              go_quiet ((go_at_call 27; exact Calls.quiet_of_same (cw _)))
              have HB2 : Hid (wkB9 day a = !(bits BinOp.and IntKind.i64 a (wrap64 (2 ^ (wkd9 day).toNat)) == 0)) := by
                show _ = _
                rw [wrap_small9 _ (by omega)]
                exact HB.out
              clear HB
              have hbb : (bits BinOp.and IntKind.i64 a (wrap64 (2 ^ (wkd9 day).toNat)) != 0) = wkB9 day a := HB2.out.symm
              clear HB2
              rw [hbb]
              generalize bits BinOp.and IntKind.i64 a (wrap64 (2 ^ (wkd9 day).toNat)) = b1 at *
              generalize wrap64 (2 ^ (wkd9 day).toNat) = b2 at *
              clear hbb
              by_cases hon : wkB9 day a = true
              · rw [hon]
                have hF2 := (HF.out.step HR.out HXX.out (by simp)).1
                rw [show stepV (wkB9 day) day (evD (wkB9 day) day cs) ⟨6, a, b, t, sp⟩ ⟨k, T, n⟩ = ⟨k + 1, T, n + 1⟩ by simp [stepV, onD, hon]] at hF2
                have hle2 := hF2.le
                have HF2 := hidv hF2
                clear HF hF2 HXX HRX HR
                go_wp2_with fail
                go_roundw
                case rel => exact ⟨⟨r, k + 1, T⟩ :: G, S, n + 1, by push_cast; rfl, (HM6.out.below (below_drewN (Below.refl _ _) nq)).out HSS.out HF2.out⟩
                case measure => simp [intOf, slLen]; omega
              · have hon : wkB9 day a = false := Bool.eq_false_iff.2 hon
                rw [hon]
                have hF2 := (HF.out.step HR.out HXX.out (by simp)).1
                rw [show stepV (wkB9 day) day (evD (wkB9 day) day cs) ⟨6, a, b, t, sp⟩ ⟨k, T, n⟩ = ⟨t.toNat, T ++ [noM], n + 1⟩ by simp [stepV, onD, hon]] at hF2
                have hle2 := hF2.le
                have htt := ins_to hE (x := ⟨6, a, b, t, sp⟩) (by unfold isG; simp)
                dsimp only at htt
                obtain ⟨tn, htn⟩ : ∃ tn : Nat, t = (tn : Int) := ⟨t.toNat, by omega⟩
                subst htn
                rw [Int.toNat_natCast] at hF2
                have HF2 := hidv hF2
                clear HF hF2 HXX HRX HR
                have bQ := (Below.refl (w6.drewN nq).heap.size (w6.drewN nq)).alloc (Nat.le_refl _) (.cells (mv fun _ => false) 25)
                have nQ := heap_alloc_new (w6.drewN nq) (.cells (mv fun _ => false) 25)
                have hM8 := (HM6.out.below (below_drewN (Below.refl _ _) nq)).below bQ
                have hb8 := hM8.bel.size
                have HM8 := hidv hM8
                have hSl2 : S.length ≤ 50000000 := by omega
                clear HM6 bQ hM8
                go_wp2_with (first
                  | (refine wpList_buildM rfl _ rfl (fun _ => false) rfl ?_)
                  | (refine wpList_appendM rfl _ _ rfl w2.heap.size S (fun _ => false) _ rfl HM8.out.own (w6.drewN nq).heap.size rfl nQ hSl2 hb8 ?_
                     intro v9 w9 hv9 hg9
                     have hM9 := HM8.out.grown hg9 hv9
                     have HM9 := hidv (hM9.go rfl hq tn (T ++ [noM]))
                     obtain ⟨gF', cF', cur9, ev9, _, _, _, hq49, _, _, hq79, hq89⟩ := ownF_top hM9.fr
                     have egF : gF' = gF := by
                       injection ev9 with e1 _ _
                       injection e1 with e1
                       injection e1 with e1
                       exact e1.symm
                     subst egF
                     rw [hq] at hq89
                     have zt := (cell_of_row _ _ (q * 2 + 1) _ _ _ hq49).trans hq89
                     have yt := frozen_of_row _ _ (q * 2 + 1) _ _ hq49
                     have xt := (cell_of_row _ _ 3 _ _ _ hM9.box).trans rfl
                     clear HM8 hM9 hv9 hg9 nQ ev9 hq49 hq79 hq89 x0 x1 x2 x3 x4 zk yk hw6))
                go_roundw
                case rel => exact ⟨⟨r, tn, T ++ [noM]⟩ :: G, S ++ [noM], n + 1, by push_cast; rfl, HM9.out.out (by rw [HSS.out]; simp [stk]; rfl) HF2.out⟩
                case measure => simp [intOf, slLen]; omega
          · go_upto_region 20 with fail
            refine wp_plain_JL (fun _ W => W = w6) (fun L _ => rfl) (fun _ _ _ _ h => h) (by as_aux_lemma => kernel_rfl) (by as_aux_lemma => kernel_rfl) (by as_aux_lemma => kernel_rfl) [(some 99, .pointer (some ⟨gb, 1, none⟩)), (some 100, .int .i64 a), (some 101, .int .i64 day), (some 102, .bool (decide (a ≤ day))), (some 103, .bool (decide (a ≤ day))), (some 104, (if a ≤ day then .int .i64 day else undef)), (some 105, (if a ≤ day then .pointer (some ⟨gb, 2, none⟩) else undef)), (some 106, (if a ≤ day then .int .i64 b else undef)), (some 107, (if a ≤ day then .bool (decide (day ≤ b)) else undef)), (some 108, .bool ((decide (a ≤ day)) && (decide (day ≤ b)))), (some 16, .bool ((decide (a ≤ day)) && (decide (day ≤ b))))] [(99, .pointer (some ⟨gb, 1, none⟩)), (100, .int .i64 a), (101, .int .i64 day), (102, .bool (decide (a ≤ day))), (103, .bool (decide (a ≤ day))), (104, (if a ≤ day then .int .i64 day else undef)), (105, (if a ≤ day then .pointer (some ⟨gb, 2, none⟩) else undef)), (106, (if a ≤ day then .int .i64 b else undef)), (107, (if a ≤ day then .bool (decide (day ≤ b)) else undef)), (108, .bool ((decide (a ≤ day)) && (decide (day ≤ b)))), (16, .bool ((decide (a ≤ day)) && (decide (day ≤ b))))] (by as_aux_lemma => kernel_rfl) (by as_aux_lemma => kernel_rfl) (by as_aux_lemma => kernel_rfl) ?_ ?_
            · intro i' d v o' L A W9 ho hv hLi hdep hc hJ hkept hhas
              match i', ho, hv, hLi with
              | 0, ho, hv, hLi =>
                cases Option.some.inj ho
                cases Option.some.inj hv
                subst hJ
                have h14 : A.tmps[14]?.getD undef = .pointer (some ⟨gb, 0, none⟩) := (gd A 14).trans (hkept 14 (by as_aux_lemma => kernel_rfl))
                refine wpOp_step rfl (fun K hK => ?_)
                go_simp
                exact hK _ _ ⟨rfl, rfl⟩
              | 1, ho, hv, hLi =>
                cases Option.some.inj ho
                cases Option.some.inj hv
                subst hJ
                have h99 : A.tmps[99]?.getD undef = .pointer (some ⟨gb, 1, none⟩) := (gd A 99).trans (hhas 0 99 _ rfl (hdep ⟨0, .data⟩ (by simp) rfl))
                refine wpOp_step rfl (fun K hK => ?_)
                go_simp
                exact hK _ _ ⟨rfl, rfl⟩
              | 2, ho, hv, hLi =>
                cases Option.some.inj ho
                cases Option.some.inj hv
                subst hJ
                have h2 : A.tmps[2]?.getD undef = .int .i64 day := (gd A 2).trans (hkept 2 (by as_aux_lemma => kernel_rfl))
                refine wpOp_step rfl (fun K hK => ?_)
                go_simp
                exact hK _ _ ⟨rfl, rfl⟩
              | 3, ho, hv, hLi =>
                cases Option.some.inj ho
                cases Option.some.inj hv
                subst hJ
                have h100 : A.tmps[100]?.getD undef = .int .i64 a := (gd A 100).trans (hhas 1 100 _ rfl (hdep ⟨1, .data⟩ (by simp) rfl))
                have h101 : A.tmps[101]?.getD undef = .int .i64 day := (gd A 101).trans (hhas 2 101 _ rfl (hdep ⟨2, .data⟩ (by simp) rfl))
                refine wpOp_step rfl (fun K hK => ?_)
                go_simp
                exact hK _ _ ⟨rfl, rfl⟩
              | 4, ho, hv, hLi =>
                cases Option.some.inj ho
                cases Option.some.inj hv
                subst hJ
                have h102 : A.tmps[102]?.getD undef = .bool (decide (a ≤ day)) := (gd A 102).trans (hhas 3 102 _ rfl (hdep ⟨3, .data⟩ (by simp) rfl))
                refine wpOp_step rfl (fun K hK => ?_)
                go_simp
                exact hK _ _ ⟨rfl, rfl⟩
              | 5, ho, hv, hLi =>
                cases Option.some.inj ho
                cases Option.some.inj hv
                subst hJ
                by_cases hg : a ≤ day
                · have hG : A.tmps[103]? = some (.bool true) := gdb ((hhas 4 103 _ rfl (hdep ⟨4, .guard⟩ (by simp) rfl)).trans (by rw [decide_eq_true hg]))
                  rw [if_pos hg]
                  have h2 : A.tmps[2]?.getD undef = .int .i64 day := (gd A 2).trans (hkept 2 (by as_aux_lemma => kernel_rfl))
                  refine wpOp_step rfl (fun K hK => ?_)
                  go_simp
                  exact hK _ _ ⟨rfl, rfl⟩
                · have hG : A.tmps[103]? = some (.bool false) := gdb ((hhas 4 103 _ rfl (hdep ⟨4, .guard⟩ (by simp) rfl)).trans (by rw [decide_eq_false hg]))
                  rw [if_neg hg]
                  refine wpOp_step rfl (fun K hK => ?_)
                  go_simp
                  exact hK _ _ ⟨rfl, rfl⟩
              | 6, ho, hv, hLi =>
                cases Option.some.inj ho
                cases Option.some.inj hv
                subst hJ
                by_cases hg : a ≤ day
                · have hG : A.tmps[103]? = some (.bool true) := gdb ((hhas 4 103 _ rfl (hdep ⟨4, .guard⟩ (by simp) rfl)).trans (by rw [decide_eq_true hg]))
                  rw [if_pos hg]
                  have h14 : A.tmps[14]?.getD undef = .pointer (some ⟨gb, 0, none⟩) := (gd A 14).trans (hkept 14 (by as_aux_lemma => kernel_rfl))
                  refine wpOp_step rfl (fun K hK => ?_)
                  go_simp
                  exact hK _ _ ⟨rfl, rfl⟩
                · have hG : A.tmps[103]? = some (.bool false) := gdb ((hhas 4 103 _ rfl (hdep ⟨4, .guard⟩ (by simp) rfl)).trans (by rw [decide_eq_false hg]))
                  rw [if_neg hg]
                  refine wpOp_step rfl (fun K hK => ?_)
                  go_simp
                  exact hK _ _ ⟨rfl, rfl⟩
              | 7, ho, hv, hLi =>
                cases Option.some.inj ho
                cases Option.some.inj hv
                subst hJ
                by_cases hg : a ≤ day
                · have hG : A.tmps[103]? = some (.bool true) := gdb ((hhas 4 103 _ rfl (hdep ⟨4, .guard⟩ (by simp) rfl)).trans (by rw [decide_eq_true hg]))
                  rw [if_pos hg]
                  have h105 : A.tmps[105]?.getD undef = .pointer (some ⟨gb, 2, none⟩) := ((gd A 105).trans (hhas 6 105 _ rfl (hdep ⟨6, .data⟩ (by simp) rfl))).trans (if_pos hg)
                  refine wpOp_step rfl (fun K hK => ?_)
                  go_simp
                  exact hK _ _ ⟨rfl, rfl⟩
                · have hG : A.tmps[103]? = some (.bool false) := gdb ((hhas 4 103 _ rfl (hdep ⟨4, .guard⟩ (by simp) rfl)).trans (by rw [decide_eq_false hg]))
                  rw [if_neg hg]
                  refine wpOp_step rfl (fun K hK => ?_)
                  go_simp
                  exact hK _ _ ⟨rfl, rfl⟩
              | 8, ho, hv, hLi =>
                cases Option.some.inj ho
                cases Option.some.inj hv
                subst hJ
                by_cases hg : a ≤ day
                · have hG : A.tmps[103]? = some (.bool true) := gdb ((hhas 4 103 _ rfl (hdep ⟨4, .guard⟩ (by simp) rfl)).trans (by rw [decide_eq_true hg]))
                  rw [if_pos hg]
                  have h104 : A.tmps[104]?.getD undef = .int .i64 day := ((gd A 104).trans (hhas 5 104 _ rfl (hdep ⟨5, .data⟩ (by simp) rfl))).trans (if_pos hg)
                  have h106 : A.tmps[106]?.getD undef = .int .i64 b := ((gd A 106).trans (hhas 7 106 _ rfl (hdep ⟨7, .data⟩ (by simp) rfl))).trans (if_pos hg)
                  refine wpOp_step rfl (fun K hK => ?_)
                  go_simp
                  exact hK _ _ ⟨rfl, rfl⟩
                · have hG : A.tmps[103]? = some (.bool false) := gdb ((hhas 4 103 _ rfl (hdep ⟨4, .guard⟩ (by simp) rfl)).trans (by rw [decide_eq_false hg]))
                  rw [if_neg hg]
                  refine wpOp_step rfl (fun K hK => ?_)
                  go_simp
                  exact hK _ _ ⟨rfl, rfl⟩
              | 9, ho, hv, hLi =>
                cases Option.some.inj ho
                cases Option.some.inj hv
                subst hJ
                by_cases hg : a ≤ day
                · have h103 : A.tmps[103]?.getD undef = .bool (decide (a ≤ day)) := (gd A 103).trans (hhas 4 103 _ rfl (hdep ⟨4, .data⟩ (by simp) rfl))
                  have h107 : A.tmps[107]?.getD undef = .bool (decide (day ≤ b)) := ((gd A 107).trans (hhas 8 107 _ rfl (hdep ⟨8, .data⟩ (by simp) rfl))).trans (if_pos hg)
                  rw [decide_eq_true hg] at h103 ⊢
                  refine wpOp_step rfl (fun K hK => ?_)
                  go_simp
                  exact hK _ _ ⟨rfl, rfl⟩
                · have h103 : A.tmps[103]?.getD undef = .bool (decide (a ≤ day)) := (gd A 103).trans (hhas 4 103 _ rfl (hdep ⟨4, .data⟩ (by simp) rfl))
                  rw [decide_eq_false hg] at h103 ⊢
                  refine wpOp_step rfl (fun K hK => ?_)
                  go_simp
                  exact hK _ _ ⟨rfl, rfl⟩
              | 10, ho, hv, hLi =>
                cases Option.some.inj ho
                cases Option.some.inj hv
                subst hJ
                have h108 : A.tmps[108]?.getD undef = .bool ((decide (a ≤ day)) && (decide (day ≤ b))) := (gd A 108).trans (hhas 9 108 _ rfl (hdep ⟨9, .data⟩ (by simp) rfl))
                refine wpOp_step rfl (fun K hK => ?_)
                go_simp
                exact hK _ _ ⟨rfl, rfl⟩
              | kk + 11, ho, hv, hLi => simp at hv
            · intro L W9 hL hJ
              replace hJ := hJ.symm
              subst hJ
              simp only [putAll_cons, putAll_nil, Act.put, List.setIfInBounds_toArray, List.set_cons_succ, List.set_cons_zero]
              clear hL
              generalize (if a ≤ day then .int .i64 day else undef) = y1
              generalize (if a ≤ day then .pointer (some ⟨gb, 2, none⟩) else undef) = y2
              generalize (if a ≤ day then .int .i64 b else undef) = y3
              generalize (if a ≤ day then .bool (decide (day ≤ b)) else undef) = y4
              by_cases hon : ((decide (a ≤ day)) && (decide (day ≤ b))) = true
              · rw [hon]
                have hF2 := (HF.out.step HR.out HXX.out (by simp)).1
                rw [show stepV (wkB9 day) day (evD (wkB9 day) day cs) ⟨7, a, b, t, sp⟩ ⟨k, T, n⟩ = ⟨k + 1, T, n + 1⟩ by simp [stepV, onD, hon]] at hF2
                have hle2 := hF2.le
                have HF2 := hidv hF2
                clear HF hF2 HXX HRX HR
                go_wp2_with fail
                go_roundw
                case rel => exact ⟨⟨r, k + 1, T⟩ :: G, S, n + 1, by push_cast; rfl, (HM6.out.below (Below.refl _ _)).out HSS.out HF2.out⟩
                case measure => simp [intOf, slLen]; omega
              · have hon : ((decide (a ≤ day)) && (decide (day ≤ b))) = false := Bool.eq_false_iff.2 hon
                rw [hon]
                have hF2 := (HF.out.step HR.out HXX.out (by simp)).1
                rw [show stepV (wkB9 day) day (evD (wkB9 day) day cs) ⟨7, a, b, t, sp⟩ ⟨k, T, n⟩ = ⟨t.toNat, T ++ [noM], n + 1⟩ by simp [stepV, onD, hon]] at hF2
                have hle2 := hF2.le
                have htt := ins_to hE (x := ⟨7, a, b, t, sp⟩) (by unfold isG; simp)
                dsimp only at htt
                obtain ⟨tn, htn⟩ : ∃ tn : Nat, t = (tn : Int) := ⟨t.toNat, by omega⟩
                subst htn
                rw [Int.toNat_natCast] at hF2
                have HF2 := hidv hF2
                clear HF hF2 HXX HRX HR
                have bQ := (Below.refl w6.heap.size w6).alloc (Nat.le_refl _) (.cells (mv fun _ => false) 25)
                have nQ := heap_alloc_new w6 (.cells (mv fun _ => false) 25)
                have hM8 := (HM6.out.below (Below.refl _ _)).below bQ
                have hb8 := hM8.bel.size
                have HM8 := hidv hM8
                have hSl2 : S.length ≤ 50000000 := by omega
                clear HM6 bQ hM8
                go_wp2_with (first
                  | (refine wpList_buildM rfl _ rfl (fun _ => false) rfl ?_)
                  | (refine wpList_appendM rfl _ _ rfl w2.heap.size S (fun _ => false) _ rfl HM8.out.own w6.heap.size rfl nQ hSl2 hb8 ?_
                     intro v9 w9 hv9 hg9
                     have hM9 := HM8.out.grown hg9 hv9
                     have HM9 := hidv (hM9.go rfl hq tn (T ++ [noM]))
                     obtain ⟨gF', cF', cur9, ev9, _, _, _, hq49, _, _, hq79, hq89⟩ := ownF_top hM9.fr
                     have egF : gF' = gF := by
                       injection ev9 with e1 _ _
                       injection e1 with e1
                       injection e1 with e1
                       exact e1.symm
                     subst egF
                     rw [hq] at hq89
                     have zt := (cell_of_row _ _ (q * 2 + 1) _ _ _ hq49).trans hq89
                     have yt := frozen_of_row _ _ (q * 2 + 1) _ _ hq49
                     have xt := (cell_of_row _ _ 3 _ _ _ hM9.box).trans rfl
                     clear HM8 hM9 hv9 hg9 nQ ev9 hq49 hq79 hq89 x0 x1 x2 x3 x4 zk yk hw6))
                go_roundw
                case rel => exact ⟨⟨r, tn, T ++ [noM]⟩ :: G, S ++ [noM], n + 1, by push_cast; rfl, HM9.out.out (by rw [HSS.out]; simp [stk]; rfl) HF2.out⟩
                case measure => simp [intOf, slLen]; omega
end Go.Proofs.Ytaeengpppehlfaa
