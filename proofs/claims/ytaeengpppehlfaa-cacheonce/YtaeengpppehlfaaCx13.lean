/- cache.Get, where the machine is run: way 2. Written by gencae.py. -/
import Derived.Test.YtaeengpppehlfaaCx12
namespace Go.Proofs.Ytaeengpppehlfaa
open Go.RowKit Msk Vx

set_option maxRecDepth 100000 in
set_option maxHeartbeats 4000000 in
theorem get_wrong_no (cs : List Cd) (l : List Kp) (cv lv : Value) (runs ver rule day : Int) (w : World) (h : KRow 0 w cv l) (hl : l.length ≤ 676622540150) (hin : InV w lv cs) (hmiss : hitK l ver rule day = false) (hi0 : ¬ 0 ≤ idxK rule day l 0) (hne : (runE cs rule day).1 ≠ 0) :
    Calls Try.prog 15 #[.agg #[cv, .int .i64 runs], lv, .int .i64 ver, .int .i64 rule, .int .i64 day] w (OutG (fun _ => false) [] 0 (runE cs rule day).1 ((runE cs rule day).2 : Int) w) := by
  obtain ⟨i, hii⟩ : ∃ i, idxK rule day l 0 = i := ⟨_, rfl⟩
  have hiL := idxK_ge rule day l 0
  rw [hii] at hiL
  have hil : i < l.length := by omega
  have hil2 : i ≤ 676622540150 := by omega
  have hil3 : -1 ≤ i := by omega
  have hz := mv_lit
  have bA : Below w.heap.size w ((((((w.alloc (.cells #[cv, .int .i64 runs] 40)).alloc (.cells #[.int .i64 rule] 3)).alloc (.cells #[.int .i64 day] 3)).alloc (.cells (mv fun _ => false) 25)).alloc (.cells #[.slice none 0 0, .int .i64 0] 40)).alloc (.cells #[.int .i64 0, .int .i64 0] 28)) := ((((((Below.refl _ _).alloc (Nat.le_refl _) _).alloc (by simp) _).alloc (by simp; omega) _).alloc (by simp; omega) _).alloc (by simp; omega) _).alloc (by simp; omega) _
  have n5 : ((((((w.alloc (.cells #[cv, .int .i64 runs] 40)).alloc (.cells #[.int .i64 rule] 3)).alloc (.cells #[.int .i64 day] 3)).alloc (.cells (mv fun _ => false) 25)).alloc (.cells #[.slice none 0 0, .int .i64 0] 40)).alloc (.cells #[.int .i64 0, .int .i64 0] 28)).heap[w.heap.size]? = some (.cells #[cv, .int .i64 runs] 40 (0, 0)) := by (repeat (first | refine blk_old _ _ _ (by simp only [size_alloc]; omega) ?_ | exact blk_new _ _ _ (by first | rfl | simp only [size_alloc])))
  have n8 : ((((((w.alloc (.cells #[cv, .int .i64 runs] 40)).alloc (.cells #[.int .i64 rule] 3)).alloc (.cells #[.int .i64 day] 3)).alloc (.cells (mv fun _ => false) 25)).alloc (.cells #[.slice none 0 0, .int .i64 0] 40)).alloc (.cells #[.int .i64 0, .int .i64 0] 28)).heap[w.heap.size + 1]? = some (.cells #[.int .i64 rule] 3 (0, 0)) := by (repeat (first | refine blk_old _ _ _ (by simp only [size_alloc]; omega) ?_ | exact blk_new _ _ _ (by first | rfl | simp only [size_alloc])))
  have n9 : ((((((w.alloc (.cells #[cv, .int .i64 runs] 40)).alloc (.cells #[.int .i64 rule] 3)).alloc (.cells #[.int .i64 day] 3)).alloc (.cells (mv fun _ => false) 25)).alloc (.cells #[.slice none 0 0, .int .i64 0] 40)).alloc (.cells #[.int .i64 0, .int .i64 0] 28)).heap[w.heap.size + 2]? = some (.cells #[.int .i64 day] 3 (0, 0)) := by (repeat (first | refine blk_old _ _ _ (by simp only [size_alloc]; omega) ?_ | exact blk_new _ _ _ (by first | rfl | simp only [size_alloc])))
  have n10 : ((((((w.alloc (.cells #[cv, .int .i64 runs] 40)).alloc (.cells #[.int .i64 rule] 3)).alloc (.cells #[.int .i64 day] 3)).alloc (.cells (mv fun _ => false) 25)).alloc (.cells #[.slice none 0 0, .int .i64 0] 40)).alloc (.cells #[.int .i64 0, .int .i64 0] 28)).heap[w.heap.size + 3]? = some (.cells (mv fun _ => false) 25 (0, 0)) := by (repeat (first | refine blk_old _ _ _ (by simp only [size_alloc]; omega) ?_ | exact blk_new _ _ _ (by first | rfl | simp only [size_alloc])))
  have n11 : ((((((w.alloc (.cells #[cv, .int .i64 runs] 40)).alloc (.cells #[.int .i64 rule] 3)).alloc (.cells #[.int .i64 day] 3)).alloc (.cells (mv fun _ => false) 25)).alloc (.cells #[.slice none 0 0, .int .i64 0] 40)).alloc (.cells #[.int .i64 0, .int .i64 0] 28)).heap[w.heap.size + 4]? = some (.cells #[.slice none 0 0, .int .i64 0] 40 (0, 0)) := by (repeat (first | refine blk_old _ _ _ (by simp only [size_alloc]; omega) ?_ | exact blk_new _ _ _ (by first | rfl | simp only [size_alloc])))
  have n12 : ((((((w.alloc (.cells #[cv, .int .i64 runs] 40)).alloc (.cells #[.int .i64 rule] 3)).alloc (.cells #[.int .i64 day] 3)).alloc (.cells (mv fun _ => false) 25)).alloc (.cells #[.slice none 0 0, .int .i64 0] 40)).alloc (.cells #[.int .i64 0, .int .i64 0] 28)).heap[w.heap.size + 5]? = some (.cells #[.int .i64 0, .int .i64 0] 28 (0, 0)) := by (repeat (first | refine blk_old _ _ _ (by simp only [size_alloc]; omega) ?_ | exact blk_new _ _ _ (by first | rfl | simp only [size_alloc])))
  generalize hwA : (((((w.alloc (.cells #[cv, .int .i64 runs] 40)).alloc (.cells #[.int .i64 rule] 3)).alloc (.cells #[.int .i64 day] 3)).alloc (.cells (mv fun _ => false) 25)).alloc (.cells #[.slice none 0 0, .int .i64 0] 40)).alloc (.cells #[.int .i64 0, .int .i64 0] 28) = wA at *
  have c1 := find_any l cv (w.heap.size + 1) (w.heap.size + 2) rule day wA (h.later bA) n8 n9
  rw [hii] at c1
  have z5 := (cell_of_row _ _ 0 _ _ _ n5).trans rfl
  rw [hii] at hi0
  obtain ⟨er, her⟩ : ∃ q, (runE cs rule day).1 = q := ⟨_, rfl⟩
  obtain ⟨at_, hat⟩ : ∃ q : Int, ((runE cs rule day).2 : Int) = q := ⟨_, rfl⟩
  obtain ⟨f, hf⟩ : ∃ q, runM cs rule day = q := ⟨_, rfl⟩
  obtain ⟨sn, hsn⟩ : ∃ q : Int, (runN cs rule day : Int) = q := ⟨_, rfl⟩
  have HRUN : Hid (∀ W, Below w.heap.size w W → Calls Try.prog 9 #[lv, .int .i64 rule, .int .i64 day] W (OutRV f sn er at_ W)) := fun W hW => by
    have := vrun_any cs lv rule day W (hin.below hW)
    rw [her, hat, hf, hsn] at this
    exact this
  rw [her] at hne ⊢
  rw [hat]
  have hbe : (er == 0) = false := beq_eq_false_iff_ne.2 hne
  have hbn : (er != 0) = true := by simpa using hne
  clear her hat hf hsn hne
  have HK := hidv h
  obtain ⟨p, c, rfl, hlc, hcm, _⟩ := h
  have HB := hidv bA
  have hm9 : c ≤ 9223372036854775807 := by unfold maxLen at hcm; omega
  have hnh : ∀ k, l[i.toNat]? = some k → 0 ≤ i → k.v ≠ ver := fun k hk hi0 e => by
    have : l.getD i.toNat k0 = k := by simp [List.getD, hk]
    unfold hitK at hmiss
    rw [hii, this, Bool.and_eq_false_iff, decide_eq_false_iff_not, decide_eq_false_iff_not] at hmiss
    rcases hmiss with q | q
    · exact q hi0
    · exact q e
  have HNH := hidv hnh
  clear hii hiL hmiss hcm bA hnh hin
  go_enter Try.func15, Try.ntmps15
  go_wp2_with fail
  refine c1.mono ?_
  rintro e w1 ⟨rfl, b1⟩
  have HB1 := hidv (HB.out.trans (b1.mono HB.out.size))
  have m5 := (b1.block _ (lt_of_block n5)).trans n5
  have m8 := (b1.block _ (lt_of_block n8)).trans n8
  have m9 := (b1.block _ (lt_of_block n9)).trans n9
  have m10 := (b1.block _ (lt_of_block n10)).trans n10
  have m11 := (b1.block _ (lt_of_block n11)).trans n11
  have m12 := (b1.block _ (lt_of_block n12)).trans n12
  have z51 := (cell_of_row _ _ 0 _ _ _ m5).trans rfl
  have z81 := (cell_of_row _ _ 0 _ _ _ m8).trans rfl
  have z91 := (cell_of_row _ _ 0 _ _ _ m9).trans rfl
  have c2 := HRUN.out w1 HB1.out
  clear c1 n5 n8 n9 n10 n11 n12 b1 hwA z5 HB HRUN
  have hi1 : i < 0 := by omega
  clear HNH
  go_wp2_with fail
  refine c2.mono ?_
  rintro e w3 ⟨rfl, b3⟩
  have HB3 := hidv (HB1.out.trans (b3.mono HB1.out.size))
  replace m5 := (b3.block _ (lt_of_block m5)).trans m5
  replace m8 := (b3.block _ (lt_of_block m8)).trans m8
  replace m9 := (b3.block _ (lt_of_block m9)).trans m9
  replace m10 := (b3.block _ (lt_of_block m10)).trans m10
  replace m11 := (b3.block _ (lt_of_block m11)).trans m11
  replace m12 := (b3.block _ (lt_of_block m12)).trans m12
  have bX : Below w3.heap.size w3 ((w3.alloc (.cells (mv fun _ => false) 25)).alloc (.cells #[.int .i64 0, .int .i64 0] 28)) := ((Below.refl _ _).alloc (Nat.le_refl _) _).alloc (by simp) _
  have q15 : ((w3.alloc (.cells (mv fun _ => false) 25)).alloc (.cells #[.int .i64 0, .int .i64 0] 28)).heap[w3.heap.size]? = some (.cells (mv fun _ => false) 25 (0, 0)) := by (repeat (first | refine blk_old _ _ _ (by simp only [size_alloc]; omega) ?_ | exact blk_new _ _ _ (by first | rfl | simp only [size_alloc])))
  have q17 : ((w3.alloc (.cells (mv fun _ => false) 25)).alloc (.cells #[.int .i64 0, .int .i64 0] 28)).heap[w3.heap.size + 1]? = some (.cells #[.int .i64 0, .int .i64 0] 28 (0, 0)) := by (repeat (first | refine blk_old _ _ _ (by simp only [size_alloc]; omega) ?_ | exact blk_new _ _ _ (by first | rfl | simp only [size_alloc])))
  generalize hwX : (w3.alloc (.cells (mv fun _ => false) 25)).alloc (.cells #[.int .i64 0, .int .i64 0] 28) = wX at *
  have r15 := setRow_heap _ _ _ (mv f) _ _ q15
  have r17 := (setRow_other wX w3.heap.size (w3.heap.size + 1) (mv f) (by omega)).trans q17
  have bY := below_setRow bX (Nat.le_refl _) (mv f)
  generalize hwY : wX.setRow w3.heap.size (mv f) = wY at *
  have n15 := (setRow_other wY (w3.heap.size + 1) w3.heap.size #[.int .i64 er, .int .i64 at_] (by omega)).trans r15
  have n17 := setRow_heap _ _ _ #[.int .i64 er, .int .i64 at_] _ _ r17
  have bZ := below_setRow bY (by omega : w3.heap.size ≤ w3.heap.size + 1) #[.int .i64 er, .int .i64 at_]
  generalize hwZ : wY.setRow (w3.heap.size + 1) #[.int .i64 er, .int .i64 at_] = w4 at *
  have hgl : w.heap.size + 5 < w3.heap.size := lt_of_block m12
  replace m5 := (bZ.block _ (lt_of_block m5)).trans m5
  replace m8 := (bZ.block _ (lt_of_block m8)).trans m8
  replace m9 := (bZ.block _ (lt_of_block m9)).trans m9
  replace m10 := (bZ.block _ (lt_of_block m10)).trans m10
  replace m11 := (bZ.block _ (lt_of_block m11)).trans m11
  replace m12 := (bZ.block _ (lt_of_block m12)).trans m12
  have z17 := (cell_of_row _ _ 0 _ _ _ n17).trans rfl
  have z8 := (cell_of_row _ _ 0 _ _ _ m8).trans rfl
  have z9 := (cell_of_row _ _ 0 _ _ _ m9).trans rfl
  have HB4 := hidv (HB3.out.trans (bZ.mono HB3.out.size))
  clear c2 b3 bX bY bZ z51 z81 z91 HB1 HB3
  go_wp2_with (first
    | (refine wpList_store_row rfl 25 _ _ rfl _ _ rfl rfl _ _ q15 (maskSize _) (by simp [mv_size]) (mv_all _) ?_)
    | (refine wpList_store_row rfl 28 _ _ rfl _ _ rfl rfl _ _ r17 (by kernel_rfl) (by simp) (by simp [Value.oneCell']) ?_))
  have HBW := HB4
  obtain ⟨w2, hw2⟩ : ∃ q, w4 = q := ⟨_, rfl⟩
  obtain ⟨g17, hg17e⟩ : ∃ q, w3.heap.size + 1 = q := ⟨_, rfl⟩
  rw [hw2]
  rw [hw2] at m5 m10 m11 m12 n17 HBW
  simp only [hg17e] at n17 ⊢
  have hg17 : g17 < w2.heap.size := lt_of_block n17
  have hgw : w.heap.size + 5 < g17 := by omega
  clear hwX hwY hwZ q15 q17 r15 r17 n15 HB4 z17 z8 z9 m8 m9 hw2 hz
  refine wp_region_flow (by kernel_rfl) (by kernel_rfl) (by kernel_rfl) (by kernel_rfl) (fun L _ W => GJ w w2 (w.heap.size + 3) w2.heap.size (fun _ => false) [] 0 er at_ 3 4 5 L W) (gsp [.agg (mv fun _ => false), undef, .agg #[.int .i64 er, .int .i64 at_]] w2.heap.size [] [] 0 1000 1001 1) ?_ ?_ ?_
  · intro L hL
    exact ⟨(HBW.out).trans ((Below.refl w2.heap.size w2).drew.mono HBW.out.size), fun _ _ _ _ _ => rfl, Nat.le_refl _, by omega, by omega, fun _ => m10, fun e => (by rw [hL 3 (by decide)] at e; cases e), fun _ => m11, fun e => (by rw [hL 4 (by decide)] at e; cases e), fun _ => m12, fun e => (by rw [hL 5 (by decide)] at e; cases e)⟩
  · intro i' o' L A W2 ho hLi hdep hJ hdef hkept hhas
    clear hdef
    match i', ho, hLi with
    | 0, ho, hLi =>
      cases Option.some.inj ho
      refine wpOp_step rfl (fun K hK => ?_)
      go_simp
      exact hK _ _ ⟨_, rfl, fun _ => gsp_mk (by decide) (by decide) (by decide), fun _ _ _ h => h, hJ.same 0 (by decide) (by decide) (by decide)⟩
    | 1, ho, hLi =>
      cases Option.some.inj ho
      refine wpOp_step rfl (fun K hK => ?_)
      go_simp
      exact hK _ _ ⟨_, rfl, fun _ => (gsp_2 (by decide) (by decide)).2 ⟨_, rfl, KRow.none _ _ _ _ (Nat.zero_le _)⟩, fun _ _ _ h => h, hJ.same 1 (by decide) (by decide) (by decide)⟩
    | 2, ho, hLi =>
      cases Option.some.inj ho
      have h17 : A.eval (.tmp 17) = .pointer (some ⟨g17, 0, none⟩) := hkept 17 (fun j p hp _ => nd (by kernel_rfl) j p hp)
      have b17 := (hJ.low g17 hg17 (by omega) (by omega) (by omega)).trans n17
      refine wpOp_step rfl (fun K hK => ?_)
      show Oper.wp _ _ _ _ _ _
      refine wp_load_row 28 _ rfl g17 h17 _ _ _ _ b17 faultTypeV rfl faultSize9 ?_
      exact hK _ _ ⟨_, rfl, fun _ => gsp_mk (by decide) (by decide) (by decide), fun _ _ _ h => h, hJ.same 2 (by decide) (by decide) (by decide)⟩
    | 3, ho, hLi =>
      cases Option.some.inj ho
      have h10 : A.eval (.tmp 10) = .pointer (some ⟨w.heap.size + 3, 0, none⟩) := hkept 10 (fun j p hp _ => nd (by kernel_rfl) j p hp)
      have h62 : A.eval (.tmp 62) = .agg (mv fun _ => false) := gsp_at (hhas 0 _ rfl (hdep ⟨0, .data⟩ (by simp) rfl) 62 rfl) (by decide) (by decide) (by decide)
      refine wpOp_step rfl (fun K hK => ?_)
      show Oper.wp _ _ _ _ _ _
      refine wp_store_row 25 _ _ rfl _ _ h10 h62 _ _ (hJ.m0 hLi) (maskSize _) (by simp [mv_size]) (mv_all _) ?_
      exact hK _ _ ⟨undef, rfl, fun e => absurd rfl e, fun j u _ h => gsp_mono (fun v l hv => hv.set (by omega) _) h, hJ.mask hLi (by decide) (by decide)⟩
    | 4, ho, hLi =>
      cases Option.some.inj ho
      have h11 : A.eval (.tmp 11) = .pointer (some ⟨w.heap.size + 3 + 1, 0, none⟩) := hkept 11 (fun j p hp _ => nd (by kernel_rfl) j p hp)
      obtain ⟨v9, e9, k9⟩ := (gsp_2 (by decide) (by decide)).1 (hhas 1 _ rfl (hdep ⟨1, .data⟩ (by simp) rfl) 63 rfl)
      have h63 : A.eval (.tmp 63) = .agg #[v9, .int .i64 0] := e9
      obtain ⟨p9, c9, hv9, _⟩ := id k9
      subst hv9
      refine wpOp_step rfl (fun K hK => ?_)
      show Oper.wp _ _ _ _ _ _
      refine wp_store_row 40 _ _ rfl _ _ h11 h63 _ _ (hJ.c0 hLi) cacheSize (by simp) (by simp [Value.oneCell']) ?_
      exact hK _ _ ⟨undef, rfl, fun e => absurd rfl e, fun j u _ h => gsp_mono (fun v l hv => hv.set (by omega) _) h, hJ.cache hLi (by decide) (by decide) k9⟩
    | 5, ho, hLi =>
      cases Option.some.inj ho
      have h12 : A.eval (.tmp 12) = .pointer (some ⟨w.heap.size + 3 + 2, 0, none⟩) := hkept 12 (fun j p hp _ => nd (by kernel_rfl) j p hp)
      have h64 : A.eval (.tmp 64) = .agg #[.int .i64 er, .int .i64 at_] := gsp_at (hhas 2 _ rfl (hdep ⟨2, .data⟩ (by simp) rfl) 64 rfl) (by decide) (by decide) (by decide)
      refine wpOp_step rfl (fun K hK => ?_)
      show Oper.wp _ _ _ _ _ _
      refine wp_store_row 28 _ _ rfl _ _ h12 h64 _ _ (hJ.f0 hLi) faultSize9 (by simp) (by simp [Value.oneCell']) ?_
      exact hK _ _ ⟨undef, rfl, fun e => absurd rfl e, fun j u _ h => gsp_mono (fun v l hv => hv.set (by omega) _) h, hJ.fault hLi (by decide) (by decide)⟩
    | kk + 6, ho, hLi => simp at ho
  · intro L A W2 hL hJ hdef hsz hkept hhas
    have hM := hJ.m1 (hL 3 (by decide))
    obtain ⟨v9, hC, hK9⟩ := hJ.c1 (hL 4 (by decide))
    have hF := hJ.f1 (hL 5 (by decide))
    have a10 := hkept 10 (fun j p hp => nd (by kernel_rfl) j p hp)
    have a11 := hkept 11 (fun j p hp => nd (by kernel_rfl) j p hp)
    have a12 := hkept 12 (fun j p hp => nd (by kernel_rfl) j p hp)
    have hb9 := hJ.bel
    have hsz9 := hb9.size
    have hb1 := hJ.b1
    have hb0 := hJ.b0
    clear hhas hkept hL hJ
    go_wp2_with fail
    exact get_post (w.heap.size + 3) (fun _ => false) [] 0 er at_ v9 hdef a10 a11 a12 hM hC hF (hK9.low (by omega)) hb9
end Go.Proofs.Ytaeengpppehlfaa

/- cache.Get, where the machine is run: way 3. Written by gencae.py. -/
namespace Go.Proofs.Ytaeengpppehlfaa
open Go.RowKit Msk Vx

set_option maxRecDepth 100000 in
set_option maxHeartbeats 4000000 in
theorem get_run_at (cs : List Cd) (l : List Kp) (cv lv : Value) (runs ver rule day : Int) (w : World) (h : KRow 0 w cv l) (hl : l.length ≤ 676622540150) (hin : InV w lv cs) (hmiss : hitK l ver rule day = false) (hi0 : 0 ≤ idxK rule day l 0) (hok : (runE cs rule day).1 = 0) :
    Calls Try.prog 15 #[.agg #[cv, .int .i64 runs], lv, .int .i64 ver, .int .i64 rule, .int .i64 day] w (OutG (runM cs rule day) (lastN (dropAt l (idxK rule day l 0) ++ [⟨rule, day, ver, runM cs rule day⟩])) (IntKind.i64.wrap (runs + 1)) 0 0 w) := by
  obtain ⟨i, hii⟩ : ∃ i, idxK rule day l 0 = i := ⟨_, rfl⟩
  have hiL := idxK_ge rule day l 0
  rw [hii] at hiL
  have hil : i < l.length := by omega
  have hil2 : i ≤ 676622540150 := by omega
  have hil3 : -1 ≤ i := by omega
  have hz := mv_lit
  have bA : Below w.heap.size w ((((((w.alloc (.cells #[cv, .int .i64 runs] 40)).alloc (.cells #[.int .i64 rule] 3)).alloc (.cells #[.int .i64 day] 3)).alloc (.cells (mv fun _ => false) 25)).alloc (.cells #[.slice none 0 0, .int .i64 0] 40)).alloc (.cells #[.int .i64 0, .int .i64 0] 28)) := ((((((Below.refl _ _).alloc (Nat.le_refl _) _).alloc (by simp) _).alloc (by simp; omega) _).alloc (by simp; omega) _).alloc (by simp; omega) _).alloc (by simp; omega) _
  have n5 : ((((((w.alloc (.cells #[cv, .int .i64 runs] 40)).alloc (.cells #[.int .i64 rule] 3)).alloc (.cells #[.int .i64 day] 3)).alloc (.cells (mv fun _ => false) 25)).alloc (.cells #[.slice none 0 0, .int .i64 0] 40)).alloc (.cells #[.int .i64 0, .int .i64 0] 28)).heap[w.heap.size]? = some (.cells #[cv, .int .i64 runs] 40 (0, 0)) := by (repeat (first | refine blk_old _ _ _ (by simp only [size_alloc]; omega) ?_ | exact blk_new _ _ _ (by first | rfl | simp only [size_alloc])))
  have n8 : ((((((w.alloc (.cells #[cv, .int .i64 runs] 40)).alloc (.cells #[.int .i64 rule] 3)).alloc (.cells #[.int .i64 day] 3)).alloc (.cells (mv fun _ => false) 25)).alloc (.cells #[.slice none 0 0, .int .i64 0] 40)).alloc (.cells #[.int .i64 0, .int .i64 0] 28)).heap[w.heap.size + 1]? = some (.cells #[.int .i64 rule] 3 (0, 0)) := by (repeat (first | refine blk_old _ _ _ (by simp only [size_alloc]; omega) ?_ | exact blk_new _ _ _ (by first | rfl | simp only [size_alloc])))
  have n9 : ((((((w.alloc (.cells #[cv, .int .i64 runs] 40)).alloc (.cells #[.int .i64 rule] 3)).alloc (.cells #[.int .i64 day] 3)).alloc (.cells (mv fun _ => false) 25)).alloc (.cells #[.slice none 0 0, .int .i64 0] 40)).alloc (.cells #[.int .i64 0, .int .i64 0] 28)).heap[w.heap.size + 2]? = some (.cells #[.int .i64 day] 3 (0, 0)) := by (repeat (first | refine blk_old _ _ _ (by simp only [size_alloc]; omega) ?_ | exact blk_new _ _ _ (by first | rfl | simp only [size_alloc])))
  have n10 : ((((((w.alloc (.cells #[cv, .int .i64 runs] 40)).alloc (.cells #[.int .i64 rule] 3)).alloc (.cells #[.int .i64 day] 3)).alloc (.cells (mv fun _ => false) 25)).alloc (.cells #[.slice none 0 0, .int .i64 0] 40)).alloc (.cells #[.int .i64 0, .int .i64 0] 28)).heap[w.heap.size + 3]? = some (.cells (mv fun _ => false) 25 (0, 0)) := by (repeat (first | refine blk_old _ _ _ (by simp only [size_alloc]; omega) ?_ | exact blk_new _ _ _ (by first | rfl | simp only [size_alloc])))
  have n11 : ((((((w.alloc (.cells #[cv, .int .i64 runs] 40)).alloc (.cells #[.int .i64 rule] 3)).alloc (.cells #[.int .i64 day] 3)).alloc (.cells (mv fun _ => false) 25)).alloc (.cells #[.slice none 0 0, .int .i64 0] 40)).alloc (.cells #[.int .i64 0, .int .i64 0] 28)).heap[w.heap.size + 4]? = some (.cells #[.slice none 0 0, .int .i64 0] 40 (0, 0)) := by (repeat (first | refine blk_old _ _ _ (by simp only [size_alloc]; omega) ?_ | exact blk_new _ _ _ (by first | rfl | simp only [size_alloc])))
  have n12 : ((((((w.alloc (.cells #[cv, .int .i64 runs] 40)).alloc (.cells #[.int .i64 rule] 3)).alloc (.cells #[.int .i64 day] 3)).alloc (.cells (mv fun _ => false) 25)).alloc (.cells #[.slice none 0 0, .int .i64 0] 40)).alloc (.cells #[.int .i64 0, .int .i64 0] 28)).heap[w.heap.size + 5]? = some (.cells #[.int .i64 0, .int .i64 0] 28 (0, 0)) := by (repeat (first | refine blk_old _ _ _ (by simp only [size_alloc]; omega) ?_ | exact blk_new _ _ _ (by first | rfl | simp only [size_alloc])))
  generalize hwA : (((((w.alloc (.cells #[cv, .int .i64 runs] 40)).alloc (.cells #[.int .i64 rule] 3)).alloc (.cells #[.int .i64 day] 3)).alloc (.cells (mv fun _ => false) 25)).alloc (.cells #[.slice none 0 0, .int .i64 0] 40)).alloc (.cells #[.int .i64 0, .int .i64 0] 28) = wA at *
  have c1 := find_any l cv (w.heap.size + 1) (w.heap.size + 2) rule day wA (h.later bA) n8 n9
  rw [hii] at c1
  have z5 := (cell_of_row _ _ 0 _ _ _ n5).trans rfl
  rw [hii] at hi0
  obtain ⟨er, her⟩ : ∃ q, (runE cs rule day).1 = q := ⟨_, rfl⟩
  obtain ⟨at_, hat⟩ : ∃ q : Int, ((runE cs rule day).2 : Int) = q := ⟨_, rfl⟩
  obtain ⟨f, hf⟩ : ∃ q, runM cs rule day = q := ⟨_, rfl⟩
  obtain ⟨sn, hsn⟩ : ∃ q : Int, (runN cs rule day : Int) = q := ⟨_, rfl⟩
  have HRUN : Hid (∀ W, Below w.heap.size w W → Calls Try.prog 9 #[lv, .int .i64 rule, .int .i64 day] W (OutRV f sn er at_ W)) := fun W hW => by
    have := vrun_any cs lv rule day W (hin.below hW)
    rw [her, hat, hf, hsn] at this
    exact this
  rw [hii, hf]
  obtain ⟨rn, hrn⟩ : ∃ q, IntKind.i64.wrap (runs + 1) = q := ⟨_, rfl⟩
  obtain ⟨RR, hRR⟩ : ∃ q, lastN (dropAt l i ++ [(⟨rule, day, ver, f⟩ : Kp)]) = q := ⟨_, rfl⟩
  rw [hrn, hRR]
  have HRN := hidv hrn
  have HRR := hidv hRR
  clear hrn hRR
  have hat0 : at_ = 0 := by
    rw [← hat, runE_at0 hok]
    rfl
  rw [hok] at her
  subst her hat0
  have hdl : (dropAt l i ++ [(⟨rule, day, ver, f⟩ : Kp)]).length ≤ 676622540160 := by
    have := dropAt_len (l := l) hil
    simp
    omega
  clear hat hf hsn hok
  have HK := hidv h
  obtain ⟨p, c, rfl, hlc, hcm, _⟩ := h
  have HB := hidv bA
  have hm9 : c ≤ 9223372036854775807 := by unfold maxLen at hcm; omega
  have hnh : ∀ k, l[i.toNat]? = some k → 0 ≤ i → k.v ≠ ver := fun k hk hi0 e => by
    have : l.getD i.toNat k0 = k := by simp [List.getD, hk]
    unfold hitK at hmiss
    rw [hii, this, Bool.and_eq_false_iff, decide_eq_false_iff_not, decide_eq_false_iff_not] at hmiss
    rcases hmiss with q | q
    · exact q hi0
    · exact q e
  have HNH := hidv hnh
  clear hii hiL hmiss hcm bA hnh hin
  go_enter Try.func15, Try.ntmps15
  go_wp2_with fail
  refine c1.mono ?_
  rintro e w1 ⟨rfl, b1⟩
  have HB1 := hidv (HB.out.trans (b1.mono HB.out.size))
  have m5 := (b1.block _ (lt_of_block n5)).trans n5
  have m8 := (b1.block _ (lt_of_block n8)).trans n8
  have m9 := (b1.block _ (lt_of_block n9)).trans n9
  have m10 := (b1.block _ (lt_of_block n10)).trans n10
  have m11 := (b1.block _ (lt_of_block n11)).trans n11
  have m12 := (b1.block _ (lt_of_block n12)).trans n12
  have z51 := (cell_of_row _ _ 0 _ _ _ m5).trans rfl
  have z81 := (cell_of_row _ _ 0 _ _ _ m8).trans rfl
  have z91 := (cell_of_row _ _ 0 _ _ _ m9).trans rfl
  have c2 := HRUN.out w1 HB1.out
  clear c1 n5 n8 n9 n10 n11 n12 b1 hwA z5 HB HRUN
  obtain ⟨n, rfl⟩ : ∃ n : Nat, i = (n : Int) := ⟨i.toNat, by omega⟩
  obtain ⟨k, hk⟩ : ∃ k, l[n]? = some k := ⟨l[n]'(by omega), List.getElem?_eq_getElem (by omega)⟩
  have hkv := HNH.out k hk hi0
  obtain ⟨g, o, hpe, hrg⟩ := HK.out.at hk
  have rg1 := rangeAt_below hrg HB1.out
  have y2 : w1.cell? ⟨g, o + n * 26 + 2, none⟩ = some (.int .i64 k.v) := rg1 2 _ (by rw [Array.getElem?_toList]; exact kv_2 k)
  have hvb : (k.v == ver) = false := beq_eq_false_iff_ne.2 hkv
  have hni : (n : Int) < (l.length : Int) := by omega
  subst hpe
  obtain ⟨kv9, hkv9⟩ : ∃ q, k.v = q := ⟨_, rfl⟩
  rw [hkv9] at y2 hvb
  clear rg1 hrg hkv hk HNH hkv9
  go_wp2_with fail
  clear y2 hvb
  refine c2.mono ?_
  rintro e w3 ⟨rfl, b3⟩
  have HB3 := hidv (HB1.out.trans (b3.mono HB1.out.size))
  replace m5 := (b3.block _ (lt_of_block m5)).trans m5
  replace m8 := (b3.block _ (lt_of_block m8)).trans m8
  replace m9 := (b3.block _ (lt_of_block m9)).trans m9
  replace m10 := (b3.block _ (lt_of_block m10)).trans m10
  replace m11 := (b3.block _ (lt_of_block m11)).trans m11
  replace m12 := (b3.block _ (lt_of_block m12)).trans m12
  have bX : Below w3.heap.size w3 ((w3.alloc (.cells (mv fun _ => false) 25)).alloc (.cells #[.int .i64 0, .int .i64 0] 28)) := ((Below.refl _ _).alloc (Nat.le_refl _) _).alloc (by simp) _
  have q15 : ((w3.alloc (.cells (mv fun _ => false) 25)).alloc (.cells #[.int .i64 0, .int .i64 0] 28)).heap[w3.heap.size]? = some (.cells (mv fun _ => false) 25 (0, 0)) := by (repeat (first | refine blk_old _ _ _ (by simp only [size_alloc]; omega) ?_ | exact blk_new _ _ _ (by first | rfl | simp only [size_alloc])))
  have q17 : ((w3.alloc (.cells (mv fun _ => false) 25)).alloc (.cells #[.int .i64 0, .int .i64 0] 28)).heap[w3.heap.size + 1]? = some (.cells #[.int .i64 0, .int .i64 0] 28 (0, 0)) := by (repeat (first | refine blk_old _ _ _ (by simp only [size_alloc]; omega) ?_ | exact blk_new _ _ _ (by first | rfl | simp only [size_alloc])))
  generalize hwX : (w3.alloc (.cells (mv fun _ => false) 25)).alloc (.cells #[.int .i64 0, .int .i64 0] 28) = wX at *
  have r15 := setRow_heap _ _ _ (mv f) _ _ q15
  have r17 := (setRow_other wX w3.heap.size (w3.heap.size + 1) (mv f) (by omega)).trans q17
  have bY := below_setRow bX (Nat.le_refl _) (mv f)
  generalize hwY : wX.setRow w3.heap.size (mv f) = wY at *
  have n15 := (setRow_other wY (w3.heap.size + 1) w3.heap.size #[.int .i64 0, .int .i64 0] (by omega)).trans r15
  have n17 := setRow_heap _ _ _ #[.int .i64 0, .int .i64 0] _ _ r17
  have bZ := below_setRow bY (by omega : w3.heap.size ≤ w3.heap.size + 1) #[.int .i64 0, .int .i64 0]
  generalize hwZ : wY.setRow (w3.heap.size + 1) #[.int .i64 0, .int .i64 0] = w4 at *
  have hgl : w.heap.size + 5 < w3.heap.size := lt_of_block m12
  replace m5 := (bZ.block _ (lt_of_block m5)).trans m5
  replace m8 := (bZ.block _ (lt_of_block m8)).trans m8
  replace m9 := (bZ.block _ (lt_of_block m9)).trans m9
  replace m10 := (bZ.block _ (lt_of_block m10)).trans m10
  replace m11 := (bZ.block _ (lt_of_block m11)).trans m11
  replace m12 := (bZ.block _ (lt_of_block m12)).trans m12
  have z17 := (cell_of_row _ _ 0 _ _ _ n17).trans rfl
  have z8 := (cell_of_row _ _ 0 _ _ _ m8).trans rfl
  have z9 := (cell_of_row _ _ 0 _ _ _ m9).trans rfl
  have HB4 := hidv (HB3.out.trans (bZ.mono HB3.out.size))
  clear c2 b3 bX bY bZ z51 z81 z91 HB1 HB3
  have bE := (Below.refl w4.heap.size w4).alloc (Nat.le_refl _) (.cells (kv ⟨0, 0, 0, fun _ => false⟩) 51)
  have nE := heap_alloc_new w4 (.cells (kv ⟨0, 0, 0, fun _ => false⟩) 51)
  generalize hwE : w4.alloc (.cells (kv ⟨0, 0, 0, fun _ => false⟩) 51) = wE at *
  have bF := below_setRow bE (Nat.le_refl _) (kv ⟨rule, day, ver, f⟩)
  have nF := setRow_heap _ _ _ (kv ⟨rule, day, ver, f⟩) _ _ nE
  generalize hwF : wE.setRow w4.heap.size (kv ⟨rule, day, ver, f⟩) = w2 at *
  have hzk := kv_lit
  go_wp2_with (first
    | (refine wpList_store_row rfl 25 _ _ rfl _ _ rfl rfl _ _ q15 (maskSize _) (by simp [mv_size]) (mv_all _) ?_)
    | (refine wpList_store_row rfl 28 _ _ rfl _ _ rfl rfl _ _ r17 (by kernel_rfl) (by simp) (by simp [Value.oneCell']) ?_)
    | (refine wpList_load_row rfl 25 _ rfl _ rfl _ _ _ _ n15 maskType rfl (maskSize _) ?_)
    | (refine wpList_buildKept rfl _ _ _ _ rfl rule day ver f rfl rfl rfl rfl ?_)
    | (refine wpList_store_row rfl 51 _ _ rfl _ _ rfl rfl _ _ nE (keptSize _) (by simp [kv_size]) (kv_all _) ?_))
  obtain ⟨g15, hg15e⟩ : ∃ q, w3.heap.size = q := ⟨_, rfl⟩
  obtain ⟨g18, hg18e⟩ : ∃ q, w4.heap.size = q := ⟨_, rfl⟩
  have HBW := hidv (HB4.out.trans (bF.mono HB4.out.size))
  have hg18 : g18 < w2.heap.size := by rw [← hg18e]; exact lt_of_block nF
  have hg15 : g15 < w2.heap.size := by rw [← hg15e]; exact Nat.lt_of_lt_of_le (lt_of_block n15) bF.size
  have hgw : w.heap.size + 5 < g15 := by omega
  have hgx : g15 < g18 := by rw [← hg15e, ← hg18e]; exact lt_of_block n15
  have n18 : w2.heap[g18]? = some (.cells (kv ⟨rule, day, ver, f⟩) 51 (0, 0)) := by rw [← hg18e]; exact nF
  replace n15 : w2.heap[g15]? = some (.cells (mv f) 25 (0, 0)) := by rw [← hg15e]; exact (bF.block _ (lt_of_block n15)).trans n15
  replace m5 := (bF.block _ (lt_of_block m5)).trans m5
  replace m10 := (bF.block _ (lt_of_block m10)).trans m10
  replace m11 := (bF.block _ (lt_of_block m11)).trans m11
  replace m12 := (bF.block _ (lt_of_block m12)).trans m12
  rw [hwF]
  simp only [hg15e, hg18e]
  clear hwX hwY hwZ hwE hwF q15 q17 r15 r17 HB4 z17 z8 z9 m8 m9 hz hzk n17 bE bF nE nF hg15e hg18e hgl
  refine wp_region_flow (by kernel_rfl) (by kernel_rfl) (by kernel_rfl) (by kernel_rfl) (fun L _ W => GJ w w2 (w.heap.size + 3) w2.heap.size f RR rn 0 0 12 13 14 L W) (gsp [.agg (mv f), .pointer (some ⟨w.heap.size, 0, none⟩), .slice (some ⟨g, o, none⟩) l.length c, .int .i64 (n : Int), .agg (kv ⟨rule, day, ver, f⟩), undef, undef, .pointer (some ⟨w.heap.size, 1, none⟩), .int .i64 runs, .int .i64 rn, undef, .agg #[.int .i64 0, .int .i64 0]] w2.heap.size (dropAt l (n : Int) ++ [⟨rule, day, ver, f⟩]) RR rn 5 6 10) ?_ ?_ ?_
  · intro L hL
    exact ⟨(HBW.out).trans ((Below.refl w2.heap.size w2).drew.mono HBW.out.size), fun _ _ _ _ _ => rfl, Nat.le_refl _, by omega, by omega, fun _ => m10, fun e => (by rw [hL 12 (by decide)] at e; cases e), fun _ => m11, fun e => (by rw [hL 13 (by decide)] at e; cases e), fun _ => m12, fun e => (by rw [hL 14 (by decide)] at e; cases e)⟩
  · intro i' o' L A W2 ho hLi hdep hJ hdef hkept hhas
    clear hdef
    match i', ho, hLi with
    | 0, ho, hLi =>
      cases Option.some.inj ho
      have h15 : A.eval (.tmp 15) = .pointer (some ⟨g15, 0, none⟩) := hkept 15 (fun j p hp _ => nd (by kernel_rfl) j p hp)
      have b15 := (hJ.low g15 hg15 (by omega) (by omega) (by omega)).trans n15
      refine wpOp_step rfl (fun K hK => ?_)
      show Oper.wp _ _ _ _ _ _
      refine wp_load_row 25 _ rfl g15 h15 _ _ _ _ b15 maskType rfl (maskSize _) ?_
      exact hK _ _ ⟨_, rfl, fun _ => gsp_mk (by decide) (by decide) (by decide), fun _ _ _ h => h, hJ.same 0 (by decide) (by decide) (by decide)⟩
    | 1, ho, hLi =>
      cases Option.some.inj ho
      have h5 : A.tmps[5]?.getD undef = .pointer (some ⟨w.heap.size, 0, none⟩) := (gd A 5).trans (hkept 5 (fun j p hp _ => nd (by kernel_rfl) j p hp))
      refine wpOp_step rfl (fun K hK => ?_)
      go_simp
      exact hK _ _ ⟨_, rfl, fun _ => gsp_mk (by decide) (by decide) (by decide), fun _ _ _ h => h, hJ.same 1 (by decide) (by decide) (by decide)⟩
    | 2, ho, hLi =>
      cases Option.some.inj ho
      have h71 : A.tmps[71]?.getD undef = .pointer (some ⟨w.heap.size, 0, none⟩) := (gd A 71).trans (gsp_at (hhas 1 _ rfl (hdep ⟨1, .data⟩ (by simp) rfl) 71 rfl) (by decide) (by decide) (by decide))
      have b5 := (hJ.low w.heap.size (by omega) (by omega) (by omega) (by omega)).trans m5
      have y5 := (cell_of_row _ _ 0 _ _ _ b5).trans rfl
      clear b5
      refine wpOp_step rfl (fun K hK => ?_)
      go_simp
      exact hK _ _ ⟨_, rfl, fun _ => gsp_mk (by decide) (by decide) (by decide), fun _ _ _ h => h, hJ.same 2 (by decide) (by decide) (by decide)⟩
    | 3, ho, hLi =>
      cases Option.some.inj ho
      have h13 : A.tmps[13]?.getD undef = .int .i64 (n : Int) := (gd A 13).trans (hkept 13 (fun j p hp _ => nd (by kernel_rfl) j p hp))
      refine wpOp_step rfl (fun K hK => ?_)
      go_simp
      exact hK _ _ ⟨_, rfl, fun _ => gsp_mk (by decide) (by decide) (by decide), fun _ _ _ h => h, hJ.same 3 (by decide) (by decide) (by decide)⟩
    | 4, ho, hLi =>
      cases Option.some.inj ho
      have h18 : A.eval (.tmp 18) = .pointer (some ⟨g18, 0, none⟩) := hkept 18 (fun j p hp _ => nd (by kernel_rfl) j p hp)
      have b18 := (hJ.low g18 hg18 (by omega) (by omega) (by omega)).trans n18
      refine wpOp_step rfl (fun K hK => ?_)
      show Oper.wp _ _ _ _ _ _
      refine wp_load_row 51 _ rfl g18 h18 _ _ _ _ b18 keptType rfl (keptSize _) ?_
      exact hK _ _ ⟨_, rfl, fun _ => gsp_mk (by decide) (by decide) (by decide), fun _ _ _ h => h, hJ.same 4 (by decide) (by decide) (by decide)⟩
    | 5, ho, hLi =>
      cases Option.some.inj ho
      have h72 : A.tmps[72]?.getD undef = .slice (some ⟨g, o, none⟩) l.length c := (gd A 72).trans (gsp_at (hhas 2 _ rfl (hdep ⟨2, .data⟩ (by simp) rfl) 72 rfl) (by decide) (by decide) (by decide))
      have h73 : A.tmps[73]?.getD undef = .int .i64 (n : Int) := (gd A 73).trans (gsp_at (hhas 3 _ rfl (hdep ⟨3, .data⟩ (by simp) rfl) 73 rfl) (by decide) (by decide) (by decide))
      have h74 : A.tmps[74]?.getD undef = .agg (kv ⟨rule, day, ver, f⟩) := (gd A 74).trans (gsp_at (hhas 4 _ rfl (hdep ⟨4, .data⟩ (by simp) rfl) 74 rfl) (by decide) (by decide) (by decide))
      have hk2 := HK.out.later hJ.bel
      refine wpOp_step rfl (fun K hK => ?_)
      go_simp
      refine (renewed_any l _ (n : Int) _ W2 hk2 hl hil).mono ?_
      rintro r' W' ⟨v', rfl, hk3, hb'⟩
      exact hK _ _ ⟨_, rfl, fun _ => gsp_0.2 (hk3.low hJ.size), fun j u _ h => gsp_mono (fun v l hv => hv.later hb') h, hJ.on 5 (by decide) (by decide) (by decide) hb'⟩
    | 6, ho, hLi =>
      cases Option.some.inj ho
      have k75 := gsp_0.1 (hhas 5 _ rfl (hdep ⟨5, .data⟩ (by simp) rfl) 75 rfl)
      obtain ⟨v5, e5⟩ : ∃ v, A.tmps.getD 75 undef = v := ⟨_, rfl⟩
      rw [e5] at k75
      have h75 : A.tmps[75]?.getD undef = v5 := (gd A 75).trans e5
      refine wpOp_step rfl (fun K hK => ?_)
      go_simp
      refine (latest_any _ _ v5 W2 k75 hdl).mono ?_
      rintro r' W' ⟨v', rfl, hk3, hwq⟩
      replace hwq := hwq.symm
      subst hwq
      rw [HRR.out] at hk3
      exact hK _ _ ⟨_, rfl, fun _ => (gsp_1 (by decide)).2 hk3, fun _ _ _ h => h, hJ.same 6 (by decide) (by decide) (by decide)⟩
    | 7, ho, hLi =>
      cases Option.some.inj ho
      have h5 : A.tmps[5]?.getD undef = .pointer (some ⟨w.heap.size, 0, none⟩) := (gd A 5).trans (hkept 5 (fun j p hp _ => nd (by kernel_rfl) j p hp))
      refine wpOp_step rfl (fun K hK => ?_)
      go_simp
      exact hK _ _ ⟨_, rfl, fun _ => gsp_mk (by decide) (by decide) (by decide), fun _ _ _ h => h, hJ.same 7 (by decide) (by decide) (by decide)⟩
    | 8, ho, hLi =>
      cases Option.some.inj ho
      have h77 : A.tmps[77]?.getD undef = .pointer (some ⟨w.heap.size, 1, none⟩) := (gd A 77).trans (gsp_at (hhas 7 _ rfl (hdep ⟨7, .data⟩ (by simp) rfl) 77 rfl) (by decide) (by decide) (by decide))
      have b5 := (hJ.low w.heap.size (by omega) (by omega) (by omega) (by omega)).trans m5
      have y5 := (cell_of_row _ _ 1 _ _ _ b5).trans rfl
      clear b5
      refine wpOp_step rfl (fun K hK => ?_)
      go_simp
      exact hK _ _ ⟨_, rfl, fun _ => gsp_mk (by decide) (by decide) (by decide), fun _ _ _ h => h, hJ.same 8 (by decide) (by decide) (by decide)⟩
    | 9, ho, hLi =>
      cases Option.some.inj ho
      have h78 : A.tmps[78]?.getD undef = .int .i64 runs := (gd A 78).trans (gsp_at (hhas 8 _ rfl (hdep ⟨8, .data⟩ (by simp) rfl) 78 rfl) (by decide) (by decide) (by decide))
      have hrn := HRN.out
      refine wpOp_step rfl (fun K hK => ?_)
      go_simp
      exact hK _ _ ⟨_, rfl, fun _ => gsp_mk (by decide) (by decide) (by decide), fun _ _ _ h => h, hJ.same 9 (by decide) (by decide) (by decide)⟩
    | 10, ho, hLi =>
      cases Option.some.inj ho
      have k76 := (gsp_1 (by decide)).1 (hhas 6 _ rfl (hdep ⟨6, .data⟩ (by simp) rfl) 76 rfl)
      obtain ⟨v6, e6⟩ : ∃ v, A.tmps.getD 76 undef = v := ⟨_, rfl⟩
      rw [e6] at k76
      have h76 : A.tmps[76]?.getD undef = v6 := (gd A 76).trans e6
      have h79 : A.tmps[79]?.getD undef = .int .i64 rn := (gd A 79).trans (gsp_at (hhas 9 _ rfl (hdep ⟨9, .data⟩ (by simp) rfl) 79 rfl) (by decide) (by decide) (by decide))
      obtain ⟨p6, c6, hv6, _⟩ := id k76
      obtain ⟨nn, hnn⟩ : ∃ nn, RR.length = nn := ⟨_, rfl⟩
      rw [hnn] at hv6
      subst hv6
      refine wpOp_step rfl (fun K hK => ?_)
      go_simp
      exact hK _ _ ⟨_, rfl, fun _ => (gsp_2 (by decide) (by decide)).2 ⟨_, rfl, k76⟩, fun _ _ _ h => h, hJ.same 10 (by decide) (by decide) (by decide)⟩
    | 11, ho, hLi =>
      cases Option.some.inj ho
      refine wpOp_step rfl (fun K hK => ?_)
      go_simp
      exact hK _ _ ⟨_, rfl, fun _ => gsp_mk (by decide) (by decide) (by decide), fun _ _ _ h => h, hJ.same 11 (by decide) (by decide) (by decide)⟩
    | 12, ho, hLi =>
      cases Option.some.inj ho
      have h10 : A.eval (.tmp 10) = .pointer (some ⟨w.heap.size + 3, 0, none⟩) := hkept 10 (fun j p hp _ => nd (by kernel_rfl) j p hp)
      have h70 : A.eval (.tmp 70) = .agg (mv f) := gsp_at (hhas 0 _ rfl (hdep ⟨0, .data⟩ (by simp) rfl) 70 rfl) (by decide) (by decide) (by decide)
      refine wpOp_step rfl (fun K hK => ?_)
      show Oper.wp _ _ _ _ _ _
      refine wp_store_row 25 _ _ rfl _ _ h10 h70 _ _ (hJ.m0 hLi) (maskSize _) (by simp [mv_size]) (mv_all _) ?_
      exact hK _ _ ⟨undef, rfl, fun e => absurd rfl e, fun j u _ h => gsp_mono (fun v l hv => hv.set (by omega) _) h, hJ.mask hLi (by decide) (by decide)⟩
    | 13, ho, hLi =>
      cases Option.some.inj ho
      have h11 : A.eval (.tmp 11) = .pointer (some ⟨w.heap.size + 3 + 1, 0, none⟩) := hkept 11 (fun j p hp _ => nd (by kernel_rfl) j p hp)
      obtain ⟨v9, e9, k9⟩ := (gsp_2 (by decide) (by decide)).1 (hhas 10 _ rfl (hdep ⟨10, .data⟩ (by simp) rfl) 80 rfl)
      have h80 : A.eval (.tmp 80) = .agg #[v9, .int .i64 rn] := e9
      obtain ⟨p9, c9, hv9, _⟩ := id k9
      subst hv9
      refine wpOp_step rfl (fun K hK => ?_)
      show Oper.wp _ _ _ _ _ _
      refine wp_store_row 40 _ _ rfl _ _ h11 h80 _ _ (hJ.c0 hLi) cacheSize (by simp) (by simp [Value.oneCell']) ?_
      exact hK _ _ ⟨undef, rfl, fun e => absurd rfl e, fun j u _ h => gsp_mono (fun v l hv => hv.set (by omega) _) h, hJ.cache hLi (by decide) (by decide) k9⟩
    | 14, ho, hLi =>
      cases Option.some.inj ho
      have h12 : A.eval (.tmp 12) = .pointer (some ⟨w.heap.size + 3 + 2, 0, none⟩) := hkept 12 (fun j p hp _ => nd (by kernel_rfl) j p hp)
      have h81 : A.eval (.tmp 81) = .agg #[.int .i64 0, .int .i64 0] := gsp_at (hhas 11 _ rfl (hdep ⟨11, .data⟩ (by simp) rfl) 81 rfl) (by decide) (by decide) (by decide)
      refine wpOp_step rfl (fun K hK => ?_)
      show Oper.wp _ _ _ _ _ _
      refine wp_store_row 28 _ _ rfl _ _ h12 h81 _ _ (hJ.f0 hLi) faultSize9 (by simp) (by simp [Value.oneCell']) ?_
      exact hK _ _ ⟨undef, rfl, fun e => absurd rfl e, fun j u _ h => gsp_mono (fun v l hv => hv.set (by omega) _) h, hJ.fault hLi (by decide) (by decide)⟩
    | kk + 15, ho, hLi => simp at ho
  · intro L A W2 hL hJ hdef hsz hkept hhas
    have hM := hJ.m1 (hL 12 (by decide))
    obtain ⟨v9, hC, hK9⟩ := hJ.c1 (hL 13 (by decide))
    have hF := hJ.f1 (hL 14 (by decide))
    have a10 := hkept 10 (fun j p hp => nd (by kernel_rfl) j p hp)
    have a11 := hkept 11 (fun j p hp => nd (by kernel_rfl) j p hp)
    have a12 := hkept 12 (fun j p hp => nd (by kernel_rfl) j p hp)
    have hb9 := hJ.bel
    have hsz9 := hb9.size
    have hb1 := hJ.b1
    have hb0 := hJ.b0
    clear hhas hkept hL hJ
    go_wp2_with fail
    exact get_post (w.heap.size + 3) f RR rn 0 0 v9 hdef a10 a11 a12 hM hC hF (hK9.low (by omega)) hb9
end Go.Proofs.Ytaeengpppehlfaa
