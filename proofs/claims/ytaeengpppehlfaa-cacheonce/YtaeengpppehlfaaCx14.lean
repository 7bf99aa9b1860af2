/- cache.Get, where the machine is run: way 4. Written by gencae.py. -/
import Derived.Test.YtaeengpppehlfaaCx12
import Derived.Test.YtaeengpppehlfaaCx13
import Derived.Test.YtaeengpppehlfaaCx09
import Derived.Test.YtaeengpppehlfaaCx02
namespace Go.Proofs.Ytaeengpppehlfaa
open Go.RowKit Msk Vx

set_option maxRecDepth 100000 in
set_option maxHeartbeats 4000000 in
theorem get_run_no (cs : List Cd) (l : List Kp) (cv lv : Value) (runs ver rule day : Int) (w : World) (h : KRow 0 w cv l) (hl : l.length ≤ 676622540150) (hin : InV w lv cs) (hmiss : hitK l ver rule day = false) (hi0 : ¬ 0 ≤ idxK rule day l 0) (hok : (runE cs rule day).1 = 0) :
    Calls Try.prog 15 #[.agg #[cv, .int .i64 runs], lv, .int .i64 ver, .int .i64 rule, .int .i64 day] w (OutG (runM cs rule day) (lastN (dropAt l (idxK rule day l 0) ++ [⟨rule, day, ver, runM cs rule day⟩])) (IntKind.i64.wrap (runs + 1)) 0 0 w) := by
  obtain ⟨i, hii⟩ : ∃ i, idxK rule day l 0 = i := ⟨_, rfl⟩
  have hiL := idxK_ge rule day l 0
  rw [hii] at hiL
  have hil : i < l.length := by omega
  have hil2 : i ≤ 676622540150 := by omega
  have hil3 : -1 ≤ i := by omega
  have hz := mv_lit
  have bA : Below w.heap.size w ((((((w.alloc (.cells #[cv, .int .i64 runs] 40)).alloc (.cells #[.int .i64 rule] 3)).alloc (.cells #[.int .i64 day] 3)).alloc (.cells (mv fun _ => false) 25)).alloc (.cells #[.slice none 0 0, .int .i64 0] 40)).alloc (.cells #[.int .i64 0, .int .i64 0] 28)) := ((((((Below.refl _ _).alloc (Nat.le_refl _) _).alloc (by simp) _).alloc (by simp; omega) _).alloc (by simp; omega) _).alloc (by simp; omega) _).alloc (by simp; omega) _
  have n5 : ((((((w.alloc (.cells #[cv, .int .i64 runs] 40)).alloc (.cells #[.int .i64 rule] 3)).alloc (.cells #[.int .i64 day] 3)).alloc (.cells (mv fun _ => false) 25)).alloc (.cells #[.slice none 0 0, .int .i64 0] 40)).alloc (.cells #[.int .i64 0, .int .i64 0] 28)).heap[w.heap.size]? = some (.cells #[cv, .int .i64 runs] 40 (0, 0)) := by (repeat (first | refine blk_old _ _ _ (by simp only [size_alloc]; omega) ?_ | exact blk_new _ _ _ (by first | rfl | simp only [size_alloc])))
  have n8 : ((((((w.alloc (.cells #[cv, .int .i64 runs] 40)).alloc (.cells #[.int .i64 rule] 3)).alloc (.cells #[.int .i64 day] 3)).alloc (.cells (mv fun _ => false) 25)).alloc (.cells #[.slice none 0 0, .int .i64 0] 40)).alloc (.cells #[.int .i64 0, .int .i64 0] 28)).heap[w.heap.size + 1]? = some (.cells #[.int .i64 rule] 3 (0, 0)) := by (repeat (first | refine blk_old _ _ _ (by simp only [size_alloc]; omega) ?_ | exact blk_new _ _ _ (by first | rfl | simp only [size_alloc])))
  have n9 : ((((((w.alloc (.cells #[cv, .int .i64 runs] 40)).alloc (.cells #[.int .i64 rule] 3)).alloc (.cells #[.int .i64 day] 3)).alloc (.cells (mv fun _ => false) 25)).alloc (.cells #[.slice none 0 0, .int .i64 0] 40)).alloc (.cells #[.int .i64 0, .int .i64 0] 28)).heap[w.heap.size + 2]? = some (.cells #[.int .i64 day] 3 (0, 0)) := by (repeat (first | refine blk_old _ _ _ (by simp only [size_alloc]; omega) ?_ | exact blk_new _ _ _ (by first | rfl | simp only [size_alloc])))
  have n10 : ((((((w.alloc (.cells #[cv, .int .i64 runs] 40)).alloc (.cells #[.int .i64 rule] 3)).alloc (.cells #[.int .i64 day] 3)).alloc (.cells (mv fun _ => false) 25)).alloc (.cells #[.slice none 0 0, .int .i64 0] 40)).alloc (.cells #[.int .i64 0, .int .i64 0] 28)).heap[w.heap.size + 3]? = some (.cells (mv fun _ => false) 25 (0, 0)) := by (repeat (first | refine blk_old _ _ _ (by simp only [size_alloc]; omega) ?_ | exact blk_new _ _ _ (by first | rfl | simp only [size_alloc])))
  have n11 : ((((((w.alloc (.cells #[cv, .int .i64 runs] 40)).alloc (.cells #[.int .i64 rule] 3)).alloc (.cells #[.int .i64 day] 3)).alloc (.cells (mv fun _ => false) 25)).alloc (.cells #[.slice none 0 0, .int .i64 0] 40)).alloc (.cells #[.int .i64 0, .int .i64 0] 28)).heap[w.heap.size + 4]? = some (.cells #[.slice none 0 0, .int .i64 0] 40 (0, 0)) := by (repeat (first | refine blk_old _ _ _ (by simp only [size_alloc]; omega) ?_ | exact blk_new _ _ _ (by first | rfl | simp only [size_alloc])))
  have n12 : ((((((w.alloc (.cells #[cv, .int .i64 runs] 40)).alloc (.cells #[.int .i64 rule] 3)).alloc (.cells #[.int .i64 day] 3)).alloc (.cells (mv fun _ => false) 25)).alloc (.cells #[.slice none 0 0, .int .i64 0] 40)).alloc (.cells #[.int .i64 0, .int .i64 0] 28)).heap[w.heap.size + 5]? = some (.cells #[.int .i64 0, .int .i64 0] 28 (0, 0)) := by (repeat (first | refine blk_old _ _ _ (by simp only [size_alloc]; omega) ?_ | exact blk_new _ _ _ (by first | rfl | simp only [size_alloc])))
  generalize hwA : (((((w.alloc (.cells #[cv, .int .i64 runs] 40)).alloc (.cells #[.int .i64 rule] 3)).alloc (.cells #[.int .i64 day] 3)).alloc (.cells (mv fun _ => false) 25)).alloc (.cells #[.slice none 0 0, .int .i64 0] 40)).alloc (.cells #[.int .i64 0, .int .i64 0] 28) = wA at *
  have c1 := find_any l cv (w.heap.size + 1) (w.heap.size + 2) rule day wA (h.later bA) n8 n9
  rw [hii] at c1
  have z5 := (cell_of_row _ _ 0 _ _ _ n5).trans rfl
  rw [hii] at hi0
  obtain ⟨er, her⟩ : ∃ q, (runE cs rule day).1 = q := ⟨_, rfl⟩
  obtain ⟨at_, hat⟩ : ∃ q : Int, ((runE cs rule day).2 : Int) = q := ⟨_, rfl⟩
  obtain ⟨f, hf⟩ : ∃ q, runM cs rule day = q := ⟨_, rfl⟩
  obtain ⟨sn, hsn⟩ : ∃ q : Int, (runN cs rule day : Int) = q := ⟨_, rfl⟩
  have HRUN : Hid (∀ W, Below w.heap.size w W → Calls Try.prog 9 #[lv, .int .i64 rule, .int .i64 day] W (OutRV f sn er at_ W)) := fun W hW => by
    have := vrun_any cs lv rule day W (hin.below hW)
    rw [her, hat, hf, hsn] at this
    exact this
  rw [hii, hf]
  obtain ⟨rn, hrn⟩ : ∃ q, IntKind.i64.wrap (runs + 1) = q := ⟨_, rfl⟩
  obtain ⟨RR, hRR⟩ : ∃ q, lastN (dropAt l i ++ [(⟨rule, day, ver, f⟩ : Kp)]) = q := ⟨_, rfl⟩
  rw [hrn, hRR]
  have HRN := hidv hrn
  have HRR := hidv hRR
  clear hrn hRR
  have hat0 : at_ = 0 := by
    rw [← hat, runE_at0 hok]
    rfl
  rw [hok] at her
  subst her hat0
  have hdl : (dropAt l i ++ [(⟨rule, day, ver, f⟩ : Kp)]).length ≤ 676622540160 := by
    have := dropAt_len (l := l) hil
    simp
    omega
  clear hat hf hsn hok
  have HK := hidv h
  obtain ⟨p, c, rfl, hlc, hcm, _⟩ := h
  have HB := hidv bA
  have hm9 : c ≤ 9223372036854775807 := by unfold maxLen at hcm; omega
  have hnh : ∀ k, l[i.toNat]? = some k → 0 ≤ i → k.v ≠ ver := fun k hk hi0 e => by
    have : l.getD i.toNat k0 = k := by simp [List.getD, hk]
    unfold hitK at hmiss
    rw [hii, this, Bool.and_eq_false_iff, decide_eq_false_iff_not, decide_eq_false_iff_not] at hmiss
    rcases hmiss with q | q
    · exact q hi0
    · exact q e
  have HNH := hidv hnh
  clear hii hiL hmiss hcm bA hnh hin
  go_enter Try.func15, Try.ntmps15
  go_wp2_with fail
  refine c1.mono ?_
  rintro e w1 ⟨rfl, b1⟩
  have HB1 := hidv (HB.out.trans (b1.mono HB.out.size))
  have m5 := (b1.block _ (lt_of_block n5)).trans n5
  have m8 := (b1.block _ (lt_of_block n8)).trans n8
  have m9 := (b1.block _ (lt_of_block n9)).trans n9
  have m10 := (b1.block _ (lt_of_block n10)).trans n10
  have m11 := (b1.block _ (lt_of_block n11)).trans n11
  have m12 := (b1.block _ (lt_of_block n12)).trans n12
  have z51 := (cell_of_row _ _ 0 _ _ _ m5).trans rfl
  have z81 := (cell_of_row _ _ 0 _ _ _ m8).trans rfl
  have z91 := (cell_of_row _ _ 0 _ _ _ m9).trans rfl
  have c2 := HRUN.out w1 HB1.out
  clear c1 n5 n8 n9 n10 n11 n12 b1 hwA z5 HB HRUN
  have hi1 : i < 0 := by omega
  clear HNH
  go_wp2_with fail
  refine c2.mono ?_
  rintro e w3 ⟨rfl, b3⟩
  have HB3 := hidv (HB1.out.trans (b3.mono HB1.out.size))
  replace m5 := (b3.block _ (lt_of_block m5)).trans m5
  replace m8 := (b3.block _ (lt_of_block m8)).trans m8
  replace m9 := (b3.block _ (lt_of_block m9)).trans m9
  replace m10 := (b3.block _ (lt_of_block m10)).trans m10
  replace m11 := (b3.block _ (lt_of_block m11)).trans m11
  replace m12 := (b3.block _ (lt_of_block m12)).trans m12
  have bX : Below w3.heap.size w3 ((w3.alloc (.cells (mv fun _ => false) 25)).alloc (.cells #[.int .i64 0, .int .i64 0] 28)) := ((Below.refl _ _).alloc (Nat.le_refl _) _).alloc (by simp) _
  have q15 : ((w3.alloc (.cells (mv fun _ => false) 25)).alloc (.cells #[.int .i64 0, .int .i64 0] 28)).heap[w3.heap.size]? = some (.cells (mv fun _ => false) 25 (0, 0)) := by (repeat (first | refine blk_old _ _ _ (by simp only [size_alloc]; omega) ?_ | exact blk_new _ _ _ (by first | rfl | simp only [size_alloc])))
  have q17 : ((w3.alloc (.cells (mv fun _ => false) 25)).alloc (.cells #[.int .i64 0, .int .i64 0] 28)).heap[w3.heap.size + 1]? = some (.cells #[.int .i64 0, .int .i64 0] 28 (0, 0)) := by (repeat (first | refine blk_old _ _ _ (by simp only [size_alloc]; omega) ?_ | exact blk_new _ _ _ (by first | rfl | simp only [size_alloc])))
  generalize hwX : (w3.alloc (.cells (mv fun _ => false) 25)).alloc (.cells #[.int .i64 0, .int .i64 0] 28) = wX at *
  have r15 := setRow_heap _ _ _ (mv f) _ _ q15
  have r17 := (setRow_other wX w3.heap.size (w3.heap.size + 1) (mv f) (by omega)).trans q17
  have bY := below_setRow bX (Nat.le_refl _) (mv f)
  generalize hwY : wX.setRow w3.heap.size (mv f) = wY at *
  have n15 := (setRow_other wY (w3.heap.size + 1) w3.heap.size #[.int .i64 0, .int .i64 0] (by omega)).trans r15
  have n17 := setRow_heap _ _ _ #[.int .i64 0, .int .i64 0] _ _ r17
  have bZ := below_setRow bY (by omega : w3.heap.size ≤ w3.heap.size + 1) #[.int .i64 0, .int .i64 0]
  generalize hwZ : wY.setRow (w3.heap.size + 1) #[.int .i64 0, .int .i64 0] = w4 at *
  have hgl : w.heap.size + 5 < w3.heap.size := lt_of_block m12
  replace m5 := (bZ.block _ (lt_of_block m5)).trans m5
  replace m8 := (bZ.block _ (lt_of_block m8)).trans m8
  replace m9 := (bZ.block _ (lt_of_block m9)).trans m9
  replace m10 := (bZ.block _ (lt_of_block m10)).trans m10
  replace m11 := (bZ.block _ (lt_of_block m11)).trans m11
  replace m12 := (bZ.block _ (lt_of_block m12)).trans m12
  have z17 := (cell_of_row _ _ 0 _ _ _ n17).trans rfl
  have z8 := (cell_of_row _ _ 0 _ _ _ m8).trans rfl
  have z9 := (cell_of_row _ _ 0 _ _ _ m9).trans rfl
  have HB4 := hidv (HB3.out.trans (bZ.mono HB3.out.size))
  clear c2 b3 bX bY bZ z51 z81 z91 HB1 HB3
  have bE := (Below.refl w4.heap.size w4).alloc (Nat.le_refl _) (.cells (kv ⟨0, 0, 0, fun _ => false⟩) 51)
  have nE := heap_alloc_new w4 (.cells (kv ⟨0, 0, 0, fun _ => false⟩) 51)
  generalize hwE : w4.alloc (.cells (kv ⟨0, 0, 0, fun _ => false⟩) 51) = wE at *
  have bF := below_setRow bE (Nat.le_refl _) (kv ⟨rule, day, ver, f⟩)
  have nF := setRow_heap _ _ _ (kv ⟨rule, day, ver, f⟩) _ _ nE
  generalize hwF : wE.setRow w4.heap.size (kv ⟨rule, day, ver, f⟩) = w2 at *
  have hzk := kv_lit
  go_wp2_with (first
    | (refine wpList_store_row rfl 25 _ _ rfl _ _ rfl rfl _ _ q15 (maskSize _) (by simp [mv_size]) (mv_all _) ?_)
    | (refine wpList_store_row rfl 28 _ _ rfl _ _ rfl rfl _ _ r17 (by kernel_rfl) (by simp) (by simp [Value.oneCell']) ?_)
    | (refine wpList_load_row rfl 25 _ rfl _ rfl _ _ _ _ n15 maskType rfl (maskSize _) ?_)
    | (refine wpList_buildKept rfl _ _ _ _ rfl rule day ver f rfl rfl rfl rfl ?_)
    | (refine wpList_store_row rfl 51 _ _ rfl _ _ rfl rfl _ _ nE (keptSize _) (by simp [kv_size]) (kv_all _) ?_))
  obtain ⟨g15, hg15e⟩ : ∃ q, w3.heap.size = q := ⟨_, rfl⟩
  obtain ⟨g18, hg18e⟩ : ∃ q, w4.heap.size = q := ⟨_, rfl⟩
  have HBW := hidv (HB4.out.trans (bF.mono HB4.out.size))
  have hg18 : g18 < w2.heap.size := by rw [← hg18e]; exact lt_of_block nF
  have hg15 : g15 < w2.heap.size := by rw [← hg15e]; exact Nat.lt_of_lt_of_le (lt_of_block n15) bF.size
  have hgw : w.heap.size + 5 < g15 := by omega
  have hgx : g15 < g18 := by rw [← hg15e, ← hg18e]; exact lt_of_block n15
  have n18 : w2.heap[g18]? = some (.cells (kv ⟨rule, day, ver, f⟩) 51 (0, 0)) := by rw [← hg18e]; exact nF
  replace n15 : w2.heap[g15]? = some (.cells (mv f) 25 (0, 0)) := by rw [← hg15e]; exact (bF.block _ (lt_of_block n15)).trans n15
  replace m5 := (bF.block _ (lt_of_block m5)).trans m5
  replace m10 := (bF.block _ (lt_of_block m10)).trans m10
  replace m11 := (bF.block _ (lt_of_block m11)).trans m11
  replace m12 := (bF.block _ (lt_of_block m12)).trans m12
  rw [hwF]
  simp only [hg15e, hg18e]
  clear hwX hwY hwZ hwE hwF q15 q17 r15 r17 HB4 z17 z8 z9 m8 m9 hz hzk n17 bE bF nE nF hg15e hg18e hgl
  refine wp_region_flow (by kernel_rfl) (by kernel_rfl) (by kernel_rfl) (by kernel_rfl) (fun L _ W => GJ w w2 (w.heap.size + 3) w2.heap.size f RR rn 0 0 12 13 14 L W) (gsp [.agg (mv f), .pointer (some ⟨w.heap.size, 0, none⟩), .slice p l.length c, .int .i64 i, .agg (kv ⟨rule, day, ver, f⟩), undef, undef, .pointer (some ⟨w.heap.size, 1, none⟩), .int .i64 runs, .int .i64 rn, undef, .agg #[.int .i64 0, .int .i64 0]] w2.heap.size (dropAt l i ++ [⟨rule, day, ver, f⟩]) RR rn 5 6 10) ?_ ?_ ?_
  · intro L hL
    exact ⟨(HBW.out).trans ((Below.refl w2.heap.size w2).drew.mono HBW.out.size), fun _ _ _ _ _ => rfl, Nat.le_refl _, by omega, by omega, fun _ => m10, fun e => (by rw [hL 12 (by decide)] at e; cases e), fun _ => m11, fun e => (by rw [hL 13 (by decide)] at e; cases e), fun _ => m12, fun e => (by rw [hL 14 (by decide)] at e; cases e)⟩
  · intro i' o' L A W2 ho hLi hdep hJ hdef hkept hhas
    clear hdef
    match i', ho, hLi with
    | 0, ho, hLi =>
      cases Option.some.inj ho
      have h15 : A.eval (.tmp 15) = .pointer (some ⟨g15, 0, none⟩) := hkept 15 (fun j p hp _ => nd (by kernel_rfl) j p hp)
      have b15 := (hJ.low g15 hg15 (by omega) (by omega) (by omega)).trans n15
      refine wpOp_step rfl (fun K hK => ?_)
      show Oper.wp _ _ _ _ _ _
      refine wp_load_row 25 _ rfl g15 h15 _ _ _ _ b15 maskType rfl (maskSize _) ?_
      exact hK _ _ ⟨_, rfl, fun _ => gsp_mk (by decide) (by decide) (by decide), fun _ _ _ h => h, hJ.same 0 (by decide) (by decide) (by decide)⟩
    | 1, ho, hLi =>
      cases Option.some.inj ho
      have h5 : A.tmps[5]?.getD undef = .pointer (some ⟨w.heap.size, 0, none⟩) := (gd A 5).trans (hkept 5 (fun j p hp _ => nd (by kernel_rfl) j p hp))
      refine wpOp_step rfl (fun K hK => ?_)
      go_simp
      exact hK _ _ ⟨_, rfl, fun _ => gsp_mk (by decide) (by decide) (by decide), fun _ _ _ h => h, hJ.same 1 (by decide) (by decide) (by decide)⟩
    | 2, ho, hLi =>
      cases Option.some.inj ho
      have h71 : A.tmps[71]?.getD undef = .pointer (some ⟨w.heap.size, 0, none⟩) := (gd A 71).trans (gsp_at (hhas 1 _ rfl (hdep ⟨1, .data⟩ (by simp) rfl) 71 rfl) (by decide) (by decide) (by decide))
      have b5 := (hJ.low w.heap.size (by omega) (by omega) (by omega) (by omega)).trans m5
      have y5 := (cell_of_row _ _ 0 _ _ _ b5).trans rfl
      clear b5
      refine wpOp_step rfl (fun K hK => ?_)
      go_simp
      exact hK _ _ ⟨_, rfl, fun _ => gsp_mk (by decide) (by decide) (by decide), fun _ _ _ h => h, hJ.same 2 (by decide) (by decide) (by decide)⟩
    | 3, ho, hLi =>
      cases Option.some.inj ho
      have h13 : A.tmps[13]?.getD undef = .int .i64 i := (gd A 13).trans (hkept 13 (fun j p hp _ => nd (by kernel_rfl) j p hp))
      refine wpOp_step rfl (fun K hK => ?_)
      go_simp
      exact hK _ _ ⟨_, rfl, fun _ => gsp_mk (by decide) (by decide) (by decide), fun _ _ _ h => h, hJ.same 3 (by decide) (by decide) (by decide)⟩
    | 4, ho, hLi =>
      cases Option.some.inj ho
      have h18 : A.eval (.tmp 18) = .pointer (some ⟨g18, 0, none⟩) := hkept 18 (fun j p hp _ => nd (by kernel_rfl) j p hp)
      have b18 := (hJ.low g18 hg18 (by omega) (by omega) (by omega)).trans n18
      refine wpOp_step rfl (fun K hK => ?_)
      show Oper.wp _ _ _ _ _ _
      refine wp_load_row 51 _ rfl g18 h18 _ _ _ _ b18 keptType rfl (keptSize _) ?_
      exact hK _ _ ⟨_, rfl, fun _ => gsp_mk (by decide) (by decide) (by decide), fun _ _ _ h => h, hJ.same 4 (by decide) (by decide) (by decide)⟩
    | 5, ho, hLi =>
      cases Option.some.inj ho
      have h72 : A.tmps[72]?.getD undef = .slice p l.length c := (gd A 72).trans (gsp_at (hhas 2 _ rfl (hdep ⟨2, .data⟩ (by simp) rfl) 72 rfl) (by decide) (by decide) (by decide))
      have h73 : A.tmps[73]?.getD undef = .int .i64 i := (gd A 73).trans (gsp_at (hhas 3 _ rfl (hdep ⟨3, .data⟩ (by simp) rfl) 73 rfl) (by decide) (by decide) (by decide))
      have h74 : A.tmps[74]?.getD undef = .agg (kv ⟨rule, day, ver, f⟩) := (gd A 74).trans (gsp_at (hhas 4 _ rfl (hdep ⟨4, .data⟩ (by simp) rfl) 74 rfl) (by decide) (by decide) (by decide))
      have hk2 := HK.out.later hJ.bel
      refine wpOp_step rfl (fun K hK => ?_)
      go_simp
      refine (renewed_any l _ i _ W2 hk2 hl hil).mono ?_
      rintro r' W' ⟨v', rfl, hk3, hb'⟩
      exact hK _ _ ⟨_, rfl, fun _ => gsp_0.2 (hk3.low hJ.size), fun j u _ h => gsp_mono (fun v l hv => hv.later hb') h, hJ.on 5 (by decide) (by decide) (by decide) hb'⟩
    | 6, ho, hLi =>
      cases Option.some.inj ho
      have k75 := gsp_0.1 (hhas 5 _ rfl (hdep ⟨5, .data⟩ (by simp) rfl) 75 rfl)
      obtain ⟨v5, e5⟩ : ∃ v, A.tmps.getD 75 undef = v := ⟨_, rfl⟩
      rw [e5] at k75
      have h75 : A.tmps[75]?.getD undef = v5 := (gd A 75).trans e5
      refine wpOp_step rfl (fun K hK => ?_)
      go_simp
      refine (latest_any _ _ v5 W2 k75 hdl).mono ?_
      rintro r' W' ⟨v', rfl, hk3, hwq⟩
      replace hwq := hwq.symm
      subst hwq
      rw [HRR.out] at hk3
      exact hK _ _ ⟨_, rfl, fun _ => (gsp_1 (by decide)).2 hk3, fun _ _ _ h => h, hJ.same 6 (by decide) (by decide) (by decide)⟩
    | 7, ho, hLi =>
      cases Option.some.inj ho
      have h5 : A.tmps[5]?.getD undef = .pointer (some ⟨w.heap.size, 0, none⟩) := (gd A 5).trans (hkept 5 (fun j p hp _ => nd (by kernel_rfl) j p hp))
      refine wpOp_step rfl (fun K hK => ?_)
      go_simp
      exact hK _ _ ⟨_, rfl, fun _ => gsp_mk (by decide) (by decide) (by decide), fun _ _ _ h => h, hJ.same 7 (by decide) (by decide) (by decide)⟩
    | 8, ho, hLi =>
      cases Option.some.inj ho
      have h77 : A.tmps[77]?.getD undef = .pointer (some ⟨w.heap.size, 1, none⟩) := (gd A 77).trans (gsp_at (hhas 7 _ rfl (hdep ⟨7, .data⟩ (by simp) rfl) 77 rfl) (by decide) (by decide) (by decide))
      have b5 := (hJ.low w.heap.size (by omega) (by omega) (by omega) (by omega)).trans m5
      have y5 := (cell_of_row _ _ 1 _ _ _ b5).trans rfl
      clear b5
      refine wpOp_step rfl (fun K hK => ?_)
      go_simp
      exact hK _ _ ⟨_, rfl, fun _ => gsp_mk (by decide) (by decide) (by decide), fun _ _ _ h => h, hJ.same 8 (by decide) (by decide) (by decide)⟩
    | 9, ho, hLi =>
      cases Option.some.inj ho
      have h78 : A.tmps[78]?.getD undef = .int .i64 runs := (gd A 78).trans (gsp_at (hhas 8 _ rfl (hdep ⟨8, .data⟩ (by simp) rfl) 78 rfl) (by decide) (by decide) (by decide))
      have hrn := HRN.out
      refine wpOp_step rfl (fun K hK => ?_)
      go_simp
      exact hK _ _ ⟨_, rfl, fun _ => gsp_mk (by decide) (by decide) (by decide), fun _ _ _ h => h, hJ.same 9 (by decide) (by decide) (by decide)⟩
    | 10, ho, hLi =>
      cases Option.some.inj ho
      have k76 := (gsp_1 (by decide)).1 (hhas 6 _ rfl (hdep ⟨6, .data⟩ (by simp) rfl) 76 rfl)
      obtain ⟨v6, e6⟩ : ∃ v, A.tmps.getD 76 undef = v := ⟨_, rfl⟩
      rw [e6] at k76
      have h76 : A.tmps[76]?.getD undef = v6 := (gd A 76).trans e6
      have h79 : A.tmps[79]?.getD undef = .int .i64 rn := (gd A 79).trans (gsp_at (hhas 9 _ rfl (hdep ⟨9, .data⟩ (by simp) rfl) 79 rfl) (by decide) (by decide) (by decide))
      obtain ⟨p6, c6, hv6, _⟩ := id k76
      obtain ⟨nn, hnn⟩ : ∃ nn, RR.length = nn := ⟨_, rfl⟩
      rw [hnn] at hv6
      subst hv6
      refine wpOp_step rfl (fun K hK => ?_)
      go_simp
      exact hK _ _ ⟨_, rfl, fun _ => (gsp_2 (by decide) (by decide)).2 ⟨_, rfl, k76⟩, fun _ _ _ h => h, hJ.same 10 (by decide) (by decide) (by decide)⟩
    | 11, ho, hLi =>
      cases Option.some.inj ho
      refine wpOp_step rfl (fun K hK => ?_)
      go_simp
      exact hK _ _ ⟨_, rfl, fun _ => gsp_mk (by decide) (by decide) (by decide), fun _ _ _ h => h, hJ.same 11 (by decide) (by decide) (by decide)⟩
    | 12, ho, hLi =>
      cases Option.some.inj ho
      have h10 : A.eval (.tmp 10) = .pointer (some ⟨w.heap.size + 3, 0, none⟩) := hkept 10 (fun j p hp _ => nd (by kernel_rfl) j p hp)
      have h70 : A.eval (.tmp 70) = .agg (mv f) := gsp_at (hhas 0 _ rfl (hdep ⟨0, .data⟩ (by simp) rfl) 70 rfl) (by decide) (by decide) (by decide)
      refine wpOp_step rfl (fun K hK => ?_)
      show Oper.wp _ _ _ _ _ _
      refine wp_store_row 25 _ _ rfl _ _ h10 h70 _ _ (hJ.m0 hLi) (maskSize _) (by simp [mv_size]) (mv_all _) ?_
      exact hK _ _ ⟨undef, rfl, fun e => absurd rfl e, fun j u _ h => gsp_mono (fun v l hv => hv.set (by omega) _) h, hJ.mask hLi (by decide) (by decide)⟩
    | 13, ho, hLi =>
      cases Option.some.inj ho
      have h11 : A.eval (.tmp 11) = .pointer (some ⟨w.heap.size + 3 + 1, 0, none⟩) := hkept 11 (fun j p hp _ => nd (by kernel_rfl) j p hp)
      obtain ⟨v9, e9, k9⟩ := (gsp_2 (by decide) (by decide)).1 (hhas 10 _ rfl (hdep ⟨10, .data⟩ (by simp) rfl) 80 rfl)
      have h80 : A.eval (.tmp 80) = .agg #[v9, .int .i64 rn] := e9
      obtain ⟨p9, c9, hv9, _⟩ := id k9
      subst hv9
      refine wpOp_step rfl (fun K hK => ?_)
      show Oper.wp _ _ _ _ _ _
      refine wp_store_row 40 _ _ rfl _ _ h11 h80 _ _ (hJ.c0 hLi) cacheSize (by simp) (by simp [Value.oneCell']) ?_
      exact hK _ _ ⟨undef, rfl, fun e => absurd rfl e, fun j u _ h => gsp_mono (fun v l hv => hv.set (by omega) _) h, hJ.cache hLi (by decide) (by decide) k9⟩
    | 14, ho, hLi =>
      cases Option.some.inj ho
      have h12 : A.eval (.tmp 12) = .pointer (some ⟨w.heap.size + 3 + 2, 0, none⟩) := hkept 12 (fun j p hp _ => nd (by kernel_rfl) j p hp)
      have h81 : A.eval (.tmp 81) = .agg #[.int .i64 0, .int .i64 0] := gsp_at (hhas 11 _ rfl (hdep ⟨11, .data⟩ (by simp) rfl) 81 rfl) (by decide) (by decide) (by decide)
      refine wpOp_step rfl (fun K hK => ?_)
      show Oper.wp _ _ _ _ _ _
      refine wp_store_row 28 _ _ rfl _ _ h12 h81 _ _ (hJ.f0 hLi) faultSize9 (by simp) (by simp [Value.oneCell']) ?_
      exact hK _ _ ⟨undef, rfl, fun e => absurd rfl e, fun j u _ h => gsp_mono (fun v l hv => hv.set (by omega) _) h, hJ.fault hLi (by decide) (by decide)⟩
    | kk + 15, ho, hLi => simp at ho
  · intro L A W2 hL hJ hdef hsz hkept hhas
    have hM := hJ.m1 (hL 12 (by decide))
    obtain ⟨v9, hC, hK9⟩ := hJ.c1 (hL 13 (by decide))
    have hF := hJ.f1 (hL 14 (by decide))
    have a10 := hkept 10 (fun j p hp => nd (by kernel_rfl) j p hp)
    have a11 := hkept 11 (fun j p hp => nd (by kernel_rfl) j p hp)
    have a12 := hkept 12 (fun j p hp => nd (by kernel_rfl) j p hp)
    have hb9 := hJ.bel
    have hsz9 := hb9.size
    have hb1 := hJ.b1
    have hb0 := hJ.b0
    clear hhas hkept hL hJ
    go_wp2_with fail
    exact get_post (w.heap.size + 3) f RR rn 0 0 v9 hdef a10 a11 a12 hM hC hF (hK9.low (by omega)) hb9
end Go.Proofs.Ytaeengpppehlfaa

/- What cache.Get answers. Written by gencae.py. -/
namespace Go.Proofs.Ytaeengpppehlfaa
open Go.RowKit Msk Vx

theorem get_wrong (cs : List Cd) (l : List Kp) (cv lv : Value) (runs ver rule day : Int) (w : World) (h : KRow 0 w cv l) (hl : l.length ≤ 676622540150) (hin : InV w lv cs) (hmiss : hitK l ver rule day = false) (hne : (runE cs rule day).1 ≠ 0) :
    Calls Try.prog 15 #[.agg #[cv, .int .i64 runs], lv, .int .i64 ver, .int .i64 rule, .int .i64 day] w (OutG (fun _ => false) [] 0 (runE cs rule day).1 ((runE cs rule day).2 : Int) w) := by
  by_cases h0 : 0 ≤ idxK rule day l 0
  · exact get_wrong_at cs l cv lv runs ver rule day w h hl hin hmiss h0 hne
  · exact get_wrong_no cs l cv lv runs ver rule day w h hl hin hmiss h0 hne
theorem get_run (cs : List Cd) (l : List Kp) (cv lv : Value) (runs ver rule day : Int) (w : World) (h : KRow 0 w cv l) (hl : l.length ≤ 676622540150) (hin : InV w lv cs) (hmiss : hitK l ver rule day = false) (hok : (runE cs rule day).1 = 0) :
    Calls Try.prog 15 #[.agg #[cv, .int .i64 runs], lv, .int .i64 ver, .int .i64 rule, .int .i64 day] w (OutG (runM cs rule day) (lastN (dropAt l (idxK rule day l 0) ++ [⟨rule, day, ver, runM cs rule day⟩])) (IntKind.i64.wrap (runs + 1)) 0 0 w) := by
  by_cases h0 : 0 ≤ idxK rule day l 0
  · exact get_run_at cs l cv lv runs ver rule day w h hl hin hmiss h0 hok
  · exact get_run_no cs l cv lv runs ver rule day w h hl hin hmiss h0 hok
end Go.Proofs.Ytaeengpppehlfaa

/- Codes asked first; the law VmBound walked. Written by genvmn.py. -/
namespace Go.Proofs.Ytaeengpppehlfaa
open Go.RowKit Msk Vx

set_option maxRecDepth 100000 in
set_option maxHeartbeats 4000000 in
theorem spans8_any (a b : Int) (w : World) : Calls Try.prog 39 #[.int .i64 a, .int .i64 b] w fun e w' => ∃ g : Nat, e = .returned (.agg #[.int .i64 1, .int .i64 0, .int .i64 0, .int .i64 0, .slice (some ⟨g, 0, none⟩) 1 1]) ∧ w'.heap[g]? = some (.cells #[.int .i64 a, .int .i64 b] 97 (0, 0)) ∧ Below w.heap.size w w' := by
  have bA := (Below.refl w.heap.size w).alloc (Nat.le_refl _) (.cells #[.int .i64 0, .int .i64 0, .int .i64 0, .int .i64 0, .slice none 0 0] 65)
  have nA := heap_alloc_new w (.cells #[.int .i64 0, .int .i64 0, .int .i64 0, .int .i64 0, .slice none 0 0] 65)
  generalize hwA : w.alloc (.cells #[.int .i64 0, .int .i64 0, .int .i64 0, .int .i64 0, .slice none 0 0] 65) = wA at *
  have bB := (Below.refl wA.heap.size wA).alloc (Nat.le_refl _) (.cells #[.int .i64 a, .int .i64 b] 97)
  have nB := heap_alloc_new wA (.cells #[.int .i64 a, .int .i64 b] 97)
  have nA2 := (bB.block _ (lt_of_block nA)).trans nA
  have b2 := bA.trans (bB.mono bA.size)
  have hl := lt_of_block nA
  generalize hwB : wA.alloc (.cells #[.int .i64 a, .int .i64 b] 97) = wB at *
  have nA3 := setRow_heap _ _ _ #[.int .i64 1, .int .i64 0, .int .i64 0, .int .i64 0, .slice (some ⟨wA.heap.size, 0, none⟩) 1 1] _ _ nA2
  have nB3 := (setRow_other wB w.heap.size wA.heap.size #[.int .i64 1, .int .i64 0, .int .i64 0, .int .i64 0, .slice (some ⟨wA.heap.size, 0, none⟩) 1 1] (by omega)).trans nB
  have b3 := below_setRow b2 (Nat.le_refl _) #[.int .i64 1, .int .i64 0, .int .i64 0, .int .i64 0, .slice (some ⟨wA.heap.size, 0, none⟩) 1 1]
  go_enter Try.func39, Try.ntmps39
  go_wp2_with (refine wpList_store_row rfl 65 _ _ rfl _ _ rfl rfl _ _ nA2 (by kernel_rfl) (by simp) (by simp [Value.oneCell']) ?_)
  refine bodyPost_ret (v := .agg #[.int .i64 1, .int .i64 0, .int .i64 0, .int .i64 0, .slice (some ⟨wA.heap.size, 0, none⟩) 1 1]) ?_ rfl ⟨_, rfl, nB3, b3⟩
  exact results_cell_row rfl _ _ w.heap.size _ _ _ _ rfl nA3 insType rfl (by kernel_rfl)
theorem row_one {w : World} {g : Nat} {a b : Int} (h : w.heap[g]? = some (.cells #[.int .i64 a, .int .i64 b] 97 (0, 0))) : RowV w (.slice (some ⟨g, 0, none⟩) 1 1) [(a, b)] := by
  refine .inr (.inr ⟨g, 0, 1, rfl, by simp, fun j hj => ?_⟩)
  have hj0 : j = 0 := by simp at hj; omega
  subst hj0
  exact ⟨(cell_of_row _ _ 0 _ _ _ h).trans rfl, (cell_of_row _ _ 1 _ _ _ h).trans rfl⟩
theorem row_nil (w : World) : RowV w (.slice none 0 0) [] := .inl ⟨rfl, none, 0, rfl⟩
theorem inV8 {w : World} {g1 g2 gi gc : Nat} (h1 : w.heap[g1]? = some (.cells #[.int .i64 5, .int .i64 9] 97 (0, 0))) (h2 : w.heap[g2]? = some (.cells #[.int .i64 7, .int .i64 12] 97 (0, 0)))
    (hi : w.heap[gi]? = some (.cells #[.int .i64 1, .int .i64 0, .int .i64 0, .int .i64 0, .slice (some ⟨g1, 0, none⟩) 1 1, .int .i64 1, .int .i64 0, .int .i64 0, .int .i64 0, .slice (some ⟨g2, 0, none⟩) 1 1, .int .i64 2, .int .i64 0, .int .i64 0, .int .i64 0, .slice none 0 0] 65 (0, 0)))
    (hc : w.heap[gc]? = some (.cells #[.slice (some ⟨gi, 0, none⟩) 3 3, .int .i64 2, .int .i64 3] 36 (0, 0))) : InV w (.slice (some ⟨gc, 0, none⟩) 1 1) al8 := by
  refine ⟨[(⟨[⟨1, 0, 0, 0, [(5, 9)]⟩, ⟨1, 0, 0, 0, [(7, 12)]⟩, ⟨2, 0, 0, 0, []⟩], 2, 3⟩, .slice (some ⟨gi, 0, none⟩) 3 3)], ⟨_, _, rfl, by simp, fun j u hj => ?_⟩, rfl⟩
  match j, hj with
  | 0, hj =>
    cases Option.some.inj hj
    refine ⟨⟨[(⟨1, 0, 0, 0, [(5, 9)]⟩, .slice (some ⟨g1, 0, none⟩) 1 1), (⟨1, 0, 0, 0, [(7, 12)]⟩, .slice (some ⟨g2, 0, none⟩) 1 1), (⟨2, 0, 0, 0, []⟩, .slice none 0 0)], ⟨_, _, rfl, by simp, fun i x hx => ?_⟩, rfl⟩, gc, 0, rfl, (cell_of_row _ _ 0 _ _ _ hc).trans rfl, (cell_of_row _ _ 1 _ _ _ hc).trans rfl, (cell_of_row _ _ 2 _ _ _ hc).trans rfl⟩
    match i, hx with
    | 0, hx => cases Option.some.inj hx; exact ⟨row_one h1, gi, 0, rfl, (cell_of_row _ _ 0 _ _ _ hi).trans rfl, (cell_of_row _ _ 1 _ _ _ hi).trans rfl, (cell_of_row _ _ 2 _ _ _ hi).trans rfl, (cell_of_row _ _ 3 _ _ _ hi).trans rfl, (cell_of_row _ _ 4 _ _ _ hi).trans rfl⟩
    | 1, hx => cases Option.some.inj hx; exact ⟨row_one h2, gi, 0, rfl, (cell_of_row _ _ 5 _ _ _ hi).trans rfl, (cell_of_row _ _ 6 _ _ _ hi).trans rfl, (cell_of_row _ _ 7 _ _ _ hi).trans rfl, (cell_of_row _ _ 8 _ _ _ hi).trans rfl, (cell_of_row _ _ 9 _ _ _ hi).trans rfl⟩
    | 2, hx => cases Option.some.inj hx; exact ⟨row_nil w, gi, 0, rfl, (cell_of_row _ _ 10 _ _ _ hi).trans rfl, (cell_of_row _ _ 11 _ _ _ hi).trans rfl, (cell_of_row _ _ 12 _ _ _ hi).trans rfl, (cell_of_row _ _ 13 _ _ _ hi).trans rfl, (cell_of_row _ _ 14 _ _ _ hi).trans rfl⟩
    | i + 3, hx => simp at hx
  | j + 1, hj => simp at hj
theorem run8 : runE al8 0 0 = (0, 0) ∧ runM al8 0 0 = unM (spM [(5, 9)]) (spM [(7, 12)]) ∧ runN al8 0 0 = 3 := by
  have e : runE al8 0 0 = (0, 0) := by
    unfold runE
    rw [al8_wrong, if_neg (by decide), if_neg (by decide), if_neg (by decide)]
  refine ⟨e, ?_, ?_⟩
  · unfold runM
    rw [if_pos (by rw [e])]
    exact congrArg Prod.fst (al8_ev _ _)
  · unfold runN
    rw [if_pos (by rw [e])]
    exact congrArg Prod.snd (al8_ev _ _)
set_option maxRecDepth 100000 in
set_option maxHeartbeats 4000000 in
theorem alive8_any (w : World) : Calls Try.prog 13 #[] w fun e w' => e = .returned (.bool true) ∧ Below w.heap.size w w' := by
  have c1 := spans8_any 5 9 w
  have hz := mv_lit
  go_enter Try.func13, Try.ntmps13
  go_wp2_with fail
  refine c1.mono ?_
  rintro e w1 ⟨g1, rfl, n1, b1⟩
  have c2 := spans8_any 7 12 w1
  clear c1
  go_wp2_with fail
  refine c2.mono ?_
  rintro e w2 ⟨g2, rfl, n2, b2⟩
  have n1a := (b2.block _ (lt_of_block n1)).trans n1
  have bb2 := b1.trans (b2.mono b1.size)
  clear c2 n1 b2 b1
  have bI := (Below.refl w2.heap.size w2).alloc (Nat.le_refl _) (.cells #[.int .i64 1, .int .i64 0, .int .i64 0, .int .i64 0, .slice (some ⟨g1, 0, none⟩) 1 1, .int .i64 1, .int .i64 0, .int .i64 0, .int .i64 0, .slice (some ⟨g2, 0, none⟩) 1 1, .int .i64 2, .int .i64 0, .int .i64 0, .int .i64 0, .slice none 0 0] 65)
  have nI := heap_alloc_new w2 (.cells #[.int .i64 1, .int .i64 0, .int .i64 0, .int .i64 0, .slice (some ⟨g1, 0, none⟩) 1 1, .int .i64 1, .int .i64 0, .int .i64 0, .int .i64 0, .slice (some ⟨g2, 0, none⟩) 1 1, .int .i64 2, .int .i64 0, .int .i64 0, .int .i64 0, .slice none 0 0] 65)
  have n1b := (bI.block _ (lt_of_block n1a)).trans n1a
  have n2b := (bI.block _ (lt_of_block n2)).trans n2
  have bb3 := bb2.trans (bI.mono bb2.size)
  generalize hwI : w2.alloc (.cells #[.int .i64 1, .int .i64 0, .int .i64 0, .int .i64 0, .slice (some ⟨g1, 0, none⟩) 1 1, .int .i64 1, .int .i64 0, .int .i64 0, .int .i64 0, .slice (some ⟨g2, 0, none⟩) 1 1, .int .i64 2, .int .i64 0, .int .i64 0, .int .i64 0, .slice none 0 0] 65) = wI at *
  have bC := (Below.refl wI.heap.size wI).alloc (Nat.le_refl _) (.cells #[.slice (some ⟨w2.heap.size, 0, none⟩) 3 3, .int .i64 2, .int .i64 3] 36)
  have nC := heap_alloc_new wI (.cells #[.slice (some ⟨w2.heap.size, 0, none⟩) 3 3, .int .i64 2, .int .i64 3] 36)
  have n1c := (bC.block _ (lt_of_block n1b)).trans n1b
  have n2c := (bC.block _ (lt_of_block n2b)).trans n2b
  have nIc := (bC.block _ (lt_of_block nI)).trans nI
  have bb4 := bb3.trans (bC.mono bb3.size)
  generalize hwC : wI.alloc (.cells #[.slice (some ⟨w2.heap.size, 0, none⟩) 3 3, .int .i64 2, .int .i64 3] 36) = wC at *
  have c3 := vrun_any al8 _ 0 0 wC (inV8 n1c n2c nIc nC)
  rw [run8.1, run8.2.1, run8.2.2] at c3
  have hcn := al8_cnt
  generalize unM (spM [(5, 9)]) (spM [(7, 12)]) = f at *
  clear n1a n2 bb2 bb3 bI bC n1b n2b nI nC n1c n2c nIc
  go_wp2_with fail
  refine c3.mono ?_
  rintro e w3 ⟨rfl, b3⟩
  have bb5 := bb4.trans (b3.mono bb4.size)
  clear c3 b3 bb4 hwI hwC
  have bA : Below w3.heap.size w3 ((w3.alloc (.cells (mv fun _ => false) 25)).alloc (.cells #[.int .i64 0, .int .i64 0] 28)) := ((Below.refl _ _).alloc (Nat.le_refl _) _).alloc (by simp) _
  have nM0 : ((w3.alloc (.cells (mv fun _ => false) 25)).alloc (.cells #[.int .i64 0, .int .i64 0] 28)).heap[w3.heap.size]? = some (.cells (mv fun _ => false) 25 (0, 0)) := by (repeat (first | refine blk_old _ _ _ (by simp only [size_alloc]; omega) ?_ | exact blk_new _ _ _ (by first | rfl | simp only [size_alloc])))
  have nF0 : ((w3.alloc (.cells (mv fun _ => false) 25)).alloc (.cells #[.int .i64 0, .int .i64 0] 28)).heap[w3.heap.size + 1]? = some (.cells #[.int .i64 0, .int .i64 0] 28 (0, 0)) := by (repeat (first | refine blk_old _ _ _ (by simp only [size_alloc]; omega) ?_ | exact blk_new _ _ _ (by first | rfl | simp only [size_alloc])))
  generalize hwA : (w3.alloc (.cells (mv fun _ => false) 25)).alloc (.cells #[.int .i64 0, .int .i64 0] 28) = wA at *
  have nM1 := setRow_heap _ _ _ (mv f) _ _ nM0
  have nF1 := (setRow_other wA w3.heap.size (w3.heap.size + 1) (mv f) (by omega)).trans nF0
  have bB := below_setRow bA (Nat.le_refl _) (mv f)
  generalize hwB : wA.setRow w3.heap.size (mv f) = wB at *
  have nM2 := (setRow_other wB (w3.heap.size + 1) w3.heap.size #[.int .i64 0, .int .i64 0] (by omega)).trans nM1
  have nF2 := setRow_heap _ _ _ #[.int .i64 0, .int .i64 0] _ _ nF1
  have bC := below_setRow bB (by omega : w3.heap.size ≤ w3.heap.size + 1) #[.int .i64 0, .int .i64 0]
  generalize hwC : wB.setRow (w3.heap.size + 1) #[.int .i64 0, .int .i64 0] = wC2 at *
  have zF := (cell_of_row _ _ 0 _ _ _ nF2).trans rfl
  have bb6 := bb5.trans (bC.mono bb5.size)
  have c4 := count_any f wC2
  rw [hcn] at c4
  clear bb5 bA bB bC nF2 hcn
  go_wp2_with (first
    | (refine wpList_store_row rfl 25 _ _ rfl _ _ rfl rfl _ _ nM0 (maskSize _) (by simp [mv_size]) (mv_all _) ?_)
    | (refine wpList_store_row rfl 28 _ _ rfl _ _ rfl rfl _ _ nF1 (by kernel_rfl) (by simp) (by simp [Value.oneCell']) ?_)
    | (refine load_g (by rfl) _ (by rfl) w3.heap.size (by rfl) f ?r ?_; (case r => exact nM2)))
  refine c4.mono ?_
  rintro e w5 ⟨rfl, b5⟩
  have HB := hidv (bb6.trans (b5.mono bb6.size))
  clear c4 b5 bb6 nM0 nF1 nM1 nF0 nM2 zF
  go_wp2_with fail
  go_ret
  exact ⟨rfl, HB.out⟩
end Go.Proofs.Ytaeengpppehlfaa

/- cache.Get, all ways; the code that is asked first. -/
namespace Go.Proofs.Ytaeengpppehlfaa
open Go.RowKit Msk Vx

/-- What is answered, and kept. -/
structure Got where
  m : M
  l : List Kp
  n : Int
  er : Int
  at_ : Nat
def getP (cs : List Cd) (l : List Kp) (runs ver rule day : Int) : Got :=
  if hitK l ver rule day = true then ⟨(l.getD (idxK rule day l 0).toNat k0).m, dropAt l (idxK rule day l 0) ++ [l.getD (idxK rule day l 0).toNat k0], runs, 0, 0⟩
  else if (runE cs rule day).1 ≠ 0 then ⟨fun _ => false, [], 0, (runE cs rule day).1, (runE cs rule day).2⟩
  else ⟨runM cs rule day, lastN (dropAt l (idxK rule day l 0) ++ [⟨rule, day, ver, runM cs rule day⟩]), IntKind.i64.wrap (runs + 1), 0, 0⟩
theorem get_any (cs : List Cd) (l : List Kp) (cv lv : Value) (runs ver rule day : Int) (w : World) (h : KRow 0 w cv l) (hl : l.length ≤ 676622540150) (hin : InV w lv cs) :
    Calls Try.prog 15 #[.agg #[cv, .int .i64 runs], lv, .int .i64 ver, .int .i64 rule, .int .i64 day] w (OutG (getP cs l runs ver rule day).m (getP cs l runs ver rule day).l (getP cs l runs ver rule day).n (getP cs l runs ver rule day).er ((getP cs l runs ver rule day).at_ : Int) w) := by
  unfold getP
  by_cases hh : hitK l ver rule day = true
  · rw [if_pos hh]
    exact get_hit l cv lv runs ver rule day w h hl hh
  · rw [if_neg hh]
    have hm : hitK l ver rule day = false := Bool.eq_false_iff.2 hh
    by_cases he : (runE cs rule day).1 ≠ 0
    · rw [if_pos he]
      exact get_wrong cs l cv lv runs ver rule day w h hl hin hm he
    · rw [if_neg he]
      exact get_run cs l cv lv runs ver rule day w h hl hin hm (Classical.not_not.1 he)
theorem inV9 {w : World} {g1 gi gc : Nat} (h1 : w.heap[g1]? = some (.cells #[.int .i64 5, .int .i64 9] 97 (0, 0)))
    (hi : w.heap[gi]? = some (.cells #[.int .i64 1, .int .i64 0, .int .i64 0, .int .i64 0, .slice (some ⟨g1, 0, none⟩) 1 1] 65 (0, 0)))
    (hc : w.heap[gc]? = some (.cells #[.slice (some ⟨gi, 0, none⟩) 1 1, .int .i64 1, .int .i64 1] 36 (0, 0))) : InV w (.slice (some ⟨gc, 0, none⟩) 1 1) al9 := by
  refine ⟨[(⟨[⟨1, 0, 0, 0, [(5, 9)]⟩], 1, 1⟩, .slice (some ⟨gi, 0, none⟩) 1 1)], ⟨_, _, rfl, by simp, fun j u hj => ?_⟩, rfl⟩
  match j, hj with
  | 0, hj =>
    cases Option.some.inj hj
    refine ⟨⟨[(⟨1, 0, 0, 0, [(5, 9)]⟩, .slice (some ⟨g1, 0, none⟩) 1 1)], ⟨_, _, rfl, by simp, fun i x hx => ?_⟩, rfl⟩, gc, 0, rfl, (cell_of_row _ _ 0 _ _ _ hc).trans rfl, (cell_of_row _ _ 1 _ _ _ hc).trans rfl, (cell_of_row _ _ 2 _ _ _ hc).trans rfl⟩
    match i, hx with
    | 0, hx => cases Option.some.inj hx; exact ⟨row_one h1, gi, 0, rfl, (cell_of_row _ _ 0 _ _ _ hi).trans rfl, (cell_of_row _ _ 1 _ _ _ hi).trans rfl, (cell_of_row _ _ 2 _ _ _ hi).trans rfl, (cell_of_row _ _ 3 _ _ _ hi).trans rfl, (cell_of_row _ _ 4 _ _ _ hi).trans rfl⟩
    | i + 1, hx => simp at hx
  | j + 1, hj => simp at hj
set_option maxRecDepth 100000 in
set_option maxHeartbeats 1000000 in
theorem code9_any (w : World) : Calls Try.prog 47 #[] w fun e w' => ∃ g : Nat, e = .returned (.slice (some ⟨g, 0, none⟩) 1 1) ∧ InV w' (.slice (some ⟨g, 0, none⟩) 1 1) al9 ∧ Below w.heap.size w w' := by
  have bA := (Below.refl w.heap.size w).alloc (Nat.le_refl _) (.cells #[.int .i64 5, .int .i64 9] 97)
  have nA := heap_alloc_new w (.cells #[.int .i64 5, .int .i64 9] 97)
  generalize hwA : w.alloc (.cells #[.int .i64 5, .int .i64 9] 97) = wA at *
  have bB := (Below.refl wA.heap.size wA).alloc (Nat.le_refl _) (.cells #[.int .i64 1, .int .i64 0, .int .i64 0, .int .i64 0, .slice (some ⟨w.heap.size, 0, none⟩) 1 1] 65)
  have nB := heap_alloc_new wA (.cells #[.int .i64 1, .int .i64 0, .int .i64 0, .int .i64 0, .slice (some ⟨w.heap.size, 0, none⟩) 1 1] 65)
  have nA1 := (bB.block _ (lt_of_block nA)).trans nA
  generalize hwB : wA.alloc (.cells #[.int .i64 1, .int .i64 0, .int .i64 0, .int .i64 0, .slice (some ⟨w.heap.size, 0, none⟩) 1 1] 65) = wB at *
  have bC := (Below.refl wB.heap.size wB).alloc (Nat.le_refl _) (.cells #[.slice (some ⟨wA.heap.size, 0, none⟩) 1 1, .int .i64 1, .int .i64 1] 36)
  have nC := heap_alloc_new wB (.cells #[.slice (some ⟨wA.heap.size, 0, none⟩) 1 1, .int .i64 1, .int .i64 1] 36)
  have nA2 := (bC.block _ (lt_of_block nA1)).trans nA1
  have nB2 := (bC.block _ (lt_of_block nB)).trans nB
  generalize hwC : wB.alloc (.cells #[.slice (some ⟨wA.heap.size, 0, none⟩) 1 1, .int .i64 1, .int .i64 1] 36) = wC at *
  have HN := hidv (inV9 nA2 nB2 nC)
  have HB := hidv (bA.trans ((bB.trans (bC.mono bB.size)).mono bA.size))
  clear bA bB bC nA nA1 nB nC nA2 nB2
  go_enter Try.func47, Try.ntmps47
  go_wp2_with fail
  go_ret
  exact ⟨_, rfl, HN.out, HB.out⟩
theorem run9 : runE al9 0 7 = (0, 0) ∧ runM al9 0 7 = spM [(5, 9)] := by
  have e : runE al9 0 7 = (0, 0) := by
    unfold runE
    rw [al9_wrong, if_neg (by decide), if_neg (by decide), if_neg (by decide)]
  refine ⟨e, ?_⟩
  unfold runM
  rw [if_pos (by rw [e])]
  exact congrArg Prod.fst (al9_ev _ _)
theorem get9 : getP al9 [] 0 1 0 7 = ⟨spM [(5, 9)], [⟨0, 7, 1, spM [(5, 9)]⟩], 1, 0, 0⟩ := by
  unfold getP
  rw [if_neg (by decide), run9.1, if_neg (by decide), run9.2]
  rfl
theorem get9' : getP al9 [⟨0, 7, 1, spM [(5, 9)]⟩] 1 1 0 7 = ⟨spM [(5, 9)], [⟨0, 7, 1, spM [(5, 9)]⟩], 1, 0, 0⟩ := by
  unfold getP
  rw [if_pos (by decide)]
  rfl
end Go.Proofs.Ytaeengpppehlfaa
