/- The document's Mean, kind by kind. Written by genrm.py. -/
import Derived.Test.YtjllbklkaalafaaTa39
import Derived.Test.YtjllbklkaalafaaTa26
namespace Go.Proofs.Ytjllbklkaalafaa
open Go.RowKit Lx Msk
theorem wrap_small (k : Int) (h : 0 ≤ k ∧ k < 7) : wrap64 (2 ^ k.toNat) = 2 ^ k.toNat := by
  have hk : k = 0 ∨ k = 1 ∨ k = 2 ∨ k = 3 ∨ k = 4 ∨ k = 5 ∨ k = 6 := by omega
  rcases hk with rfl | rfl | rfl | rfl | rfl | rfl | rfl <;> (unfold wrap64; decide)
set_option maxRecDepth 100000 in
set_option maxHeartbeats 4000000 in
theorem rmean_4 {w : World} {a b day : Int} {nm : List UInt8} {pe pv : Option Addr} {ks : List Ex} {ce n cv gk gm : Nat} {ok : Ex → Bool} {F : Ex → Nat → Bool} (hlk : ks.length ≤ 2) (hkk : RKids w (.slice pv n cv) day (.slice (some ⟨gk, 0, none⟩) n n) (.slice (some ⟨gm, 0, none⟩) n n) pe ks ok F) (k0 : Ex) (h0 : ks[0]? = some k0) (d0 : 0 ≤ day) (d1 : day < 146097) (a0 : 1 ≤ a) (a1 : a < 128) (Fz : Nat → Bool) (hF : Fz = if wkB day a = true then F k0 else fun _ => false) :
    Calls Try.prog 26 #[.agg #[.int .i64 4, .int .i64 a, .int .i64 b, .string ⟨nm.toArray⟩, .slice pe ks.length ce], .slice pv n cv, .int .i64 day, .slice (some ⟨gk, 0, none⟩) n n, .slice (some ⟨gm, 0, none⟩) n n] w (OutMn (ks.all ok) (Fz) w) := by
  have hz := mv_lit
  have HK := hid5 hkk
  have HF := hid5 hF
  clear hF
  have bA : Below w.heap.size w ((w.alloc (.cells #[.int .i64 4, .int .i64 a, .int .i64 b, .string ⟨nm.toArray⟩, .slice pe ks.length ce] 41)).alloc (.cells (mv fun _ => false) 58)) := ((Below.refl _ _).alloc (Nat.le_refl _) _).alloc (by simp) _
  have nE : ((w.alloc (.cells #[.int .i64 4, .int .i64 a, .int .i64 b, .string ⟨nm.toArray⟩, .slice pe ks.length ce] 41)).alloc (.cells (mv fun _ => false) 58)).heap[w.heap.size]? = some (.cells #[.int .i64 4, .int .i64 a, .int .i64 b, .string ⟨nm.toArray⟩, .slice pe ks.length ce] 41 (0, 0)) := by (repeat (first | refine blk_old _ _ _ (by simp only [size_alloc]; omega) ?_ | exact blk_new _ _ _ (by first | rfl | simp only [size_alloc])))
  have nR : ((w.alloc (.cells #[.int .i64 4, .int .i64 a, .int .i64 b, .string ⟨nm.toArray⟩, .slice pe ks.length ce] 41)).alloc (.cells (mv fun _ => false) 58)).heap[w.heap.size + 1]? = some (.cells (mv fun _ => false) 58 (0, 0)) := by (repeat (first | refine blk_old _ _ _ (by simp only [size_alloc]; omega) ?_ | exact blk_new _ _ _ (by first | rfl | simp only [size_alloc])))
  have sA : ((w.alloc (.cells #[.int .i64 4, .int .i64 a, .int .i64 b, .string ⟨nm.toArray⟩, .slice pe ks.length ce] 41)).alloc (.cells (mv fun _ => false) 58)).heap.size = w.heap.size + 1 + 1 := by simp
  generalize hwA : (w.alloc (.cells #[.int .i64 4, .int .i64 a, .int .i64 b, .string ⟨nm.toArray⟩, .slice pe ks.length ce] 41)).alloc (.cells (mv fun _ => false) 58) = wA at *
  have k4 := (cell_of_row _ _ 4 _ _ _ nE).trans rfl
  have hlkI : (ks.length : Int) ≤ 2 := by omega
  have HsA := hid5 sA
  obtain ⟨i0, hi, hzz⟩ := Option.map_eq_some_iff.1 maskInfo6
  simp only [Prod.mk.injEq] at hzz
  obtain ⟨hz0, hz1, hz2⟩ := hzz
  have Hzi := hid5 hz0
  clear hkk sA hz0
  go_enter Try.func26, Try.ntmps26
  go_wp2_with fail
  clear k4 hwA
  go_loopw [12, 14, 15, 16, 22] (fun q _ _ _ t wr => RmRel wA ks ok F q t wr) (fun _ _ _ _ t _ => ks.length - (intOf t).toNat)
  case atStart => exact ⟨0, rfl, by omega, rfl, World.ownsRow_nil _ _ _ _, Below.refl _ _⟩
  case round =>
    obtain ⟨j, rfl, hj, hall, hown, hbr⟩ := hrel
    have hj0 : (0 : Int) ≤ (j : Int) := by omega
    by_cases hlt : j < ks.length
    · have hlt' : (j : Int) < (ks.length : Int) := by omega
      obtain ⟨k, hjk⟩ : ∃ k, ks[j]? = some k := ⟨ks[j], List.getElem?_eq_getElem hlt⟩
      obtain ⟨g, o, ps, cs, hpe, c0, c1, c2, c3, c4, cK⟩ := HK.out j k hjk
      subst hpe
      have hbw := bA.trans (hbr.mono bA.size)
      have d0 := (hbw.cell (block_lt_of_cell c0)).trans c0
      have d1 := (hbw.cell (block_lt_of_cell c1)).trans c1
      have d2 := (hbw.cell (block_lt_of_cell c2)).trans c2
      have d3 := (hbw.cell (block_lt_of_cell c3)).trans c3
      have d4 := (hbw.cell (block_lt_of_cell c4)).trans c4
      have hbA := hbr.alloc hbr.size (.cells #[.int .i64 k.kind, .int .i64 k.a, .int .i64 k.b, .string ⟨k.name.toArray⟩, .slice ps k.kids.length cs] 41)
      have hxB := heap_alloc_new wr (.cells #[.int .i64 k.kind, .int .i64 k.a, .int .i64 k.b, .string ⟨k.name.toArray⟩, .slice ps k.kids.length cs] 41)
      have ho1 := owns_keep (w' := wr.alloc (.cells #[.int .i64 k.kind, .int .i64 k.a, .int .i64 k.b, .string ⟨k.name.toArray⟩, .slice ps k.kids.length cs] 41)) hown fun b hb => Below.heap_alloc _ _ _ (hown.lt b hb).2
      have cR := cK _ (bA.trans (hbA.mono bA.size))
      have HJ := hid5 hjk
      have Hall := hid5 hall
      clear c0 c1 c2 c3 c4 cK hjk hall hbr hbw hown
      generalize hwB : wr.alloc (.cells #[.int .i64 k.kind, .int .i64 k.a, .int .i64 k.b, .string ⟨k.name.toArray⟩, .slice ps k.kids.length cs] 41) = wB at *
      go_wp2_with (refine wpList_load_row rfl 41 _ rfl _ rfl _ _ _ _ hxB exprType5 rfl (by kernel_rfl) ?_)
      refine cR.mono ?_
      rintro r w2 ⟨⟨f, rfl, hf⟩, hb2⟩
      have hm2 := heap_alloc_new w2 (.cells (mv fun _ => false) 58)
      have hb3 := hbA.trans (hb2.mono hbA.size)
      have hb4 := hb3.alloc hb3.size (.cells (mv fun _ => false) 58)
      have ho2 := owns_below ho1 hb2
      have ho3 := owns_keep (w' := (w2.alloc (.cells (mv fun _ => false) 58)).setRow w2.heap.size (mv f)) ho2 fun b hb => (setRow_other _ _ _ _ (by have := (ho2.lt b hb).2; omega)).trans (Below.heap_alloc _ _ _ (ho2.lt b hb).2)
      have hb5 := below_setRow hb4 hb3.size (mv f)
      have hm3 := setRow_heap _ _ _ (mv f) _ _ hm2
      have s3 : w2.heap.size < ((w2.alloc (.cells (mv fun _ => false) 58)).setRow w2.heap.size (mv f)).heap.size := lt_of_block hm3
      clear cR hxB hwB d0 d1 d2 d3 d4 ho1 ho2 hb2 hbA hb4 hb3
      generalize hw3 : w2.alloc (.cells (mv fun _ => false) 58) = w3 at *
      generalize hw4 : w3.setRow w2.heap.size (mv f) = w4 at *
      cases hok : ok k with
      | false =>
        have nR3 := (hb5.block _ (lt_of_block nR)).trans nR
        have HO : Hid (OutMn (ks.all ok) (Fz) w (.returned (.tuple #[.agg (mv f), .bool false])) (w4.setRow (w.heap.size + 1) (mv f))) := by
          refine ⟨⟨f, ?_, fun h => ?_⟩, ?_⟩
          · rw [all_bad HJ.out hok]
          · rw [all_bad HJ.out hok] at h
            cases h
          · exact below_setRow (bA.trans (hb5.mono bA.size)) (by omega) _
        clear HK Hall HJ hf ho3
        go_wp2_with (first
          | (refine wpList_store_row rfl 58 _ _ rfl _ _ rfl rfl _ _ hm2 (maskSize _) (by simp [mv_size]) (mv_all _) ?_)
          | (refine wpList_load_row rfl 58 _ rfl _ rfl _ _ _ _ hm3 maskType rfl (maskSize _) ?_)
          | (refine wpList_store_row rfl 58 _ _ rfl _ _ rfl rfl _ _ nR3 (maskSize _) (by simp [mv_size]) (mv_all _) ?_))
        exact rmean_post (w.heap.size + 1) f false rfl rfl rfl (setRow_heap _ _ _ _ _ _ nR3) HO.out
      | true =>
        have ef := hf hok
        subst ef
        have Hok := hid5 hok
        clear hf hok
        have hb6 := hb5.alloc hb5.size (.cells (mv (F k)) 58)
        have hx6 := heap_alloc_new w4 (.cells (mv (F k)) 58)
        have ho6 := owns_keep (w' := w4.alloc (.cells (mv (F k)) 58)) ho3 fun b hb => Below.heap_alloc _ _ _ (ho3.lt b hb).2
        have s6 : (w4.alloc (.cells (mv (F k)) 58)).heap.size = w4.heap.size + 1 := by simp
        have Hs6 := hid5 s6
        clear s6
        clear ho3 hb5
        go_wp2_with (first
          | (refine wpList_store_row rfl 58 _ _ rfl _ _ rfl rfl _ _ hm2 (maskSize _) (by simp [mv_size]) (mv_all _) ?_)
          | (refine wpList_load_row rfl 58 _ rfl _ rfl _ _ _ _ hm3 maskType rfl (maskSize _) ?_)
          | (refine wpList_bslice_mask rfl _ rfl (F k) rfl ?_)
          | (at_builtin; refine wpList_append_own _ rfl _ _ 31 rfl wA.heap.size 58 i0 _ 23 184 masksType6 hi Hzi.out hz1 hz2 rfl (by decide) u12 j (mcl F (ks.take j)) rfl ho6 ⟨w4.heap.size, 0, none⟩ 1 1 (mv (F k)).toList rfl (by rw [Array.length_toList, mv_size]) ?c1 ?c2 ?c3 ?c4 ?c5 ?_))
        case c1 =>
          intro k' u' hk'
          rw [show (Addr.add ⟨w4.heap.size, 0, none⟩ k') = ⟨w4.heap.size, k', none⟩ by simp [Addr.add]; exact fun h => h.symm, cell_of_row _ _ _ _ _ _ hx6, ← Array.getElem?_toList]
          exact hk'
        case c2 => exact fun u hu => (Array.all_eq_true_iff_forall_mem.1 (mv_all (F k))) u (by simpa using hu)
        case c3 => unfold maxLen; omega
        case c4 => omega
        case c5 => have := hb6.size; omega
        intro v' w7 hown' hgrow _
        have hlo := ho6.lt
        have hb7 : Below wA.heap.size wA w7 := hb6.grown hgrow hb6.size (fun q hq => (hlo q hq).1)
        have HN : Hid (RmRel wA ks ok F v' (.int .i64 ((j + 1 : Nat) : Int)) w7) := by
          refine ⟨j + 1, rfl, by omega, all_take HJ.out Hall.out Hok.out, ?_, hb7⟩
          rw [mcl_next HJ.out]
          exact hown'
        clear hown' hgrow ho6 hx6 hb6 hb7 hlo hm2 hm3 hw3 hw4 s3 Hall HJ Hok HK
        go_wp2_with fail
        go_roundw
        case rel => first
          | exact HN.out
          | exact ⟨_, _, _, _, _, HN.out, rfl, rfl, rfl, rfl, rfl⟩
        case measure => simp [intOf]; omega
    · have ej : j = ks.length := by omega
      have hlt' : ¬ (j : Int) < (ks.length : Int) := by omega
      subst ej
      rw [List.take_length] at hall hown
      have n5 := heap_alloc_new wr (.cells (mv fun _ => false) 58)
      have hb5 := below_setRow (hbr.alloc hbr.size (.cells (mv fun _ => false) 58)) hbr.size (mv fun _ => false)
      have n6 := setRow_heap _ _ _ (mv fun _ => false) _ _ n5
      have ho6 := owns_keep (w' := (wr.alloc (.cells (mv fun _ => false) 58)).setRow wr.heap.size (mv fun _ => false)) hown fun b hb => (setRow_other _ _ _ _ (by have := (hown.lt b hb).2; omega)).trans (Below.heap_alloc _ _ _ (hown.lt b hb).2)
      have nE6 := (hb5.block _ (lt_of_block nE)).trans nE
      have nR6 := (hb5.block _ (lt_of_block nR)).trans nR
      have Hw6 := hid5 (bA.trans (hb5.mono bA.size))
      generalize hw5 : wr.alloc (.cells (mv fun _ => false) 58) = w5 at *
      generalize hw6 : w5.setRow wr.heap.size (mv fun _ => false) = w6 at *
      have zk := (cell_of_row _ _ 0 _ _ _ nE6).trans rfl
      have Hall := hid5 hall
      clear hown hbr HK hall nE nR hb5 hlt hlt' hj
      obtain ⟨p, c, hu, _, hrow⟩ := (own_range ho6 rfl).resolve_right (by omega)
      rw [List.length_map] at hu
      obtain ⟨g, o, hp, hr0⟩ := hrow 0 (F k0) (by rw [List.getElem?_map, h0]; rfl)
      subst hu hp
      rw [Nat.zero_mul, Nat.add_zero] at hr0
      have hpN : 0 < ks.length := (List.getElem?_eq_some_iff.1 h0).1
      have hpos : (0 : Int) < (ks.length : Int) := by omega
      have k1 := (cell_of_row _ _ 1 _ _ _ nE6).trans rfl
      have HR0 := hid5 hr0
      have hwb := wkd_bd day d0
      have cw := fun W => rweek6 day W d0 d1
      have HB := hid5 (wkB_ref day a d0 (by omega) (by omega))
      clear hrow ho6 hr0 nE6
      have HO : Hid (∀ (f : Nat → Bool) (W : World), f = Fz → Below w.heap.size w W → OutMn (ks.all ok) (Fz) w (.returned (.tuple #[.agg (mv f), .bool true])) W) := fun f W hf hW => ⟨⟨f, by rw [Hall.out], fun _ => hf⟩, hW⟩
      go_wp2_with (refine wpList_store_row rfl 58 _ _ rfl _ _ rfl rfl _ _ n5 (maskSize _) (by simp [mv_size]) (mv_all _) ?_)
      go_quiet ((go_at_call 39; exact Calls.quiet_of_same (cw _)))
      have HB2 : Hid (wkB day a = !(bits BinOp.and IntKind.i64 a (wrap64 (2 ^ (wkd day).toNat)) == 0)) := by
        show _ = _
        rw [wrap_small _ (by omega)]
        exact HB.out
      clear HB
      generalize (bits BinOp.and IntKind.i64 a (wrap64 (2 ^ (wkd day).toNat)) == 0) = bb at *
      generalize bits BinOp.and IntKind.i64 a (wrap64 (2 ^ (wkd day).toNat)) = b1 at *
      generalize wrap64 (2 ^ (wkd day).toNat) = b2 at *
      have n6q : (w6.drewN nq).heap[wr.heap.size]? = some (.cells (mv fun _ => false) 58 (0, 0)) := n6
      have nRq : (w6.drewN nq).heap[w.heap.size + 1]? = some (.cells (mv fun _ => false) 58 (0, 0)) := nR6
      have HRq : Hid ((w6.drewN nq).rangeAt g o (mv (F k0)).toList) := HR0.out
      have Hwq := hid5 (below_drewN Hw6.out nq)
      generalize w6.drewN nq = w7 at *
      cases bb with
      | true =>
        have HX : Hid ((fun _ => false) = Fz) := (HF.out.trans (if_neg (by rw [HB2.out]; simp))).symm
        go_wp2_with (first | (refine wpList_load_row rfl 58 _ rfl _ rfl _ _ _ _ n6q maskType rfl (maskSize _) ?_) | (refine wpList_store_row rfl 58 _ _ rfl _ _ rfl rfl _ _ nRq (maskSize _) (by simp [mv_size]) (mv_all _) ?_))
        exact rmean_post (w.heap.size + 1) (fun _ => false) true rfl rfl rfl (setRow_heap _ _ _ _ _ _ nRq) (HO.out _ _ (HX.out) (below_setRow Hwq.out (show w.heap.size ≤ w.heap.size + 1 by omega) _))
      | false =>
        have HX : Hid (F k0 = Fz) := (HF.out.trans (if_pos (by rw [HB2.out]; rfl))).symm
        go_wp2_with (first | (refine wpList_load_mask rfl _ rfl g o rfl (F k0) HRq.out ?_) | (refine wpList_store_row rfl 58 _ _ rfl _ _ rfl rfl _ _ nRq (maskSize _) (by simp [mv_size]) (mv_all _) ?_))
        exact rmean_post (w.heap.size + 1) (F k0) true rfl rfl rfl (setRow_heap _ _ _ _ _ _ nRq) (HO.out _ _ (HX.out) (below_setRow Hwq.out (show w.heap.size ≤ w.heap.size + 1 by omega) _))
set_option maxRecDepth 100000 in
set_option maxHeartbeats 4000000 in
theorem rmean_5 {w : World} {a b day : Int} {nm : List UInt8} {pe pv : Option Addr} {ks : List Ex} {ce n cv gk gm : Nat} {ok : Ex → Bool} {F : Ex → Nat → Bool} (hlk : ks.length ≤ 2) (hkk : RKids w (.slice pv n cv) day (.slice (some ⟨gk, 0, none⟩) n n) (.slice (some ⟨gm, 0, none⟩) n n) pe ks ok F) (k0 : Ex) (h0 : ks[0]? = some k0) (Fz : Nat → Bool) (hF : Fz = if a ≤ day ∧ day ≤ b then F k0 else fun _ => false) :
    Calls Try.prog 26 #[.agg #[.int .i64 5, .int .i64 a, .int .i64 b, .string ⟨nm.toArray⟩, .slice pe ks.length ce], .slice pv n cv, .int .i64 day, .slice (some ⟨gk, 0, none⟩) n n, .slice (some ⟨gm, 0, none⟩) n n] w (OutMn (ks.all ok) (Fz) w) := by
  have hz := mv_lit
  have HK := hid5 hkk
  have HF := hid5 hF
  clear hF
  have bA : Below w.heap.size w ((w.alloc (.cells #[.int .i64 5, .int .i64 a, .int .i64 b, .string ⟨nm.toArray⟩, .slice pe ks.length ce] 41)).alloc (.cells (mv fun _ => false) 58)) := ((Below.refl _ _).alloc (Nat.le_refl _) _).alloc (by simp) _
  have nE : ((w.alloc (.cells #[.int .i64 5, .int .i64 a, .int .i64 b, .string ⟨nm.toArray⟩, .slice pe ks.length ce] 41)).alloc (.cells (mv fun _ => false) 58)).heap[w.heap.size]? = some (.cells #[.int .i64 5, .int .i64 a, .int .i64 b, .string ⟨nm.toArray⟩, .slice pe ks.length ce] 41 (0, 0)) := by (repeat (first | refine blk_old _ _ _ (by simp only [size_alloc]; omega) ?_ | exact blk_new _ _ _ (by first | rfl | simp only [size_alloc])))
  have nR : ((w.alloc (.cells #[.int .i64 5, .int .i64 a, .int .i64 b, .string ⟨nm.toArray⟩, .slice pe ks.length ce] 41)).alloc (.cells (mv fun _ => false) 58)).heap[w.heap.size + 1]? = some (.cells (mv fun _ => false) 58 (0, 0)) := by (repeat (first | refine blk_old _ _ _ (by simp only [size_alloc]; omega) ?_ | exact blk_new _ _ _ (by first | rfl | simp only [size_alloc])))
  have sA : ((w.alloc (.cells #[.int .i64 5, .int .i64 a, .int .i64 b, .string ⟨nm.toArray⟩, .slice pe ks.length ce] 41)).alloc (.cells (mv fun _ => false) 58)).heap.size = w.heap.size + 1 + 1 := by simp
  generalize hwA : (w.alloc (.cells #[.int .i64 5, .int .i64 a, .int .i64 b, .string ⟨nm.toArray⟩, .slice pe ks.length ce] 41)).alloc (.cells (mv fun _ => false) 58) = wA at *
  have k4 := (cell_of_row _ _ 4 _ _ _ nE).trans rfl
  have hlkI : (ks.length : Int) ≤ 2 := by omega
  have HsA := hid5 sA
  obtain ⟨i0, hi, hzz⟩ := Option.map_eq_some_iff.1 maskInfo6
  simp only [Prod.mk.injEq] at hzz
  obtain ⟨hz0, hz1, hz2⟩ := hzz
  have Hzi := hid5 hz0
  clear hkk sA hz0
  go_enter Try.func26, Try.ntmps26
  go_wp2_with fail
  clear k4 hwA
  go_loopw [12, 14, 15, 16, 22] (fun q _ _ _ t wr => RmRel wA ks ok F q t wr) (fun _ _ _ _ t _ => ks.length - (intOf t).toNat)
  case atStart => exact ⟨0, rfl, by omega, rfl, World.ownsRow_nil _ _ _ _, Below.refl _ _⟩
  case round =>
    obtain ⟨j, rfl, hj, hall, hown, hbr⟩ := hrel
    have hj0 : (0 : Int) ≤ (j : Int) := by omega
    by_cases hlt : j < ks.length
    · have hlt' : (j : Int) < (ks.length : Int) := by omega
      obtain ⟨k, hjk⟩ : ∃ k, ks[j]? = some k := ⟨ks[j], List.getElem?_eq_getElem hlt⟩
      obtain ⟨g, o, ps, cs, hpe, c0, c1, c2, c3, c4, cK⟩ := HK.out j k hjk
      subst hpe
      have hbw := bA.trans (hbr.mono bA.size)
      have d0 := (hbw.cell (block_lt_of_cell c0)).trans c0
      have d1 := (hbw.cell (block_lt_of_cell c1)).trans c1
      have d2 := (hbw.cell (block_lt_of_cell c2)).trans c2
      have d3 := (hbw.cell (block_lt_of_cell c3)).trans c3
      have d4 := (hbw.cell (block_lt_of_cell c4)).trans c4
      have hbA := hbr.alloc hbr.size (.cells #[.int .i64 k.kind, .int .i64 k.a, .int .i64 k.b, .string ⟨k.name.toArray⟩, .slice ps k.kids.length cs] 41)
      have hxB := heap_alloc_new wr (.cells #[.int .i64 k.kind, .int .i64 k.a, .int .i64 k.b, .string ⟨k.name.toArray⟩, .slice ps k.kids.length cs] 41)
      have ho1 := owns_keep (w' := wr.alloc (.cells #[.int .i64 k.kind, .int .i64 k.a, .int .i64 k.b, .string ⟨k.name.toArray⟩, .slice ps k.kids.length cs] 41)) hown fun b hb => Below.heap_alloc _ _ _ (hown.lt b hb).2
      have cR := cK _ (bA.trans (hbA.mono bA.size))
      have HJ := hid5 hjk
      have Hall := hid5 hall
      clear c0 c1 c2 c3 c4 cK hjk hall hbr hbw hown
      generalize hwB : wr.alloc (.cells #[.int .i64 k.kind, .int .i64 k.a, .int .i64 k.b, .string ⟨k.name.toArray⟩, .slice ps k.kids.length cs] 41) = wB at *
      go_wp2_with (refine wpList_load_row rfl 41 _ rfl _ rfl _ _ _ _ hxB exprType5 rfl (by kernel_rfl) ?_)
      refine cR.mono ?_
      rintro r w2 ⟨⟨f, rfl, hf⟩, hb2⟩
      have hm2 := heap_alloc_new w2 (.cells (mv fun _ => false) 58)
      have hb3 := hbA.trans (hb2.mono hbA.size)
      have hb4 := hb3.alloc hb3.size (.cells (mv fun _ => false) 58)
      have ho2 := owns_below ho1 hb2
      have ho3 := owns_keep (w' := (w2.alloc (.cells (mv fun _ => false) 58)).setRow w2.heap.size (mv f)) ho2 fun b hb => (setRow_other _ _ _ _ (by have := (ho2.lt b hb).2; omega)).trans (Below.heap_alloc _ _ _ (ho2.lt b hb).2)
      have hb5 := below_setRow hb4 hb3.size (mv f)
      have hm3 := setRow_heap _ _ _ (mv f) _ _ hm2
      have s3 : w2.heap.size < ((w2.alloc (.cells (mv fun _ => false) 58)).setRow w2.heap.size (mv f)).heap.size := lt_of_block hm3
      clear cR hxB hwB d0 d1 d2 d3 d4 ho1 ho2 hb2 hbA hb4 hb3
      generalize hw3 : w2.alloc (.cells (mv fun _ => false) 58) = w3 at *
      generalize hw4 : w3.setRow w2.heap.size (mv f) = w4 at *
      cases hok : ok k with
      | false =>
        have nR3 := (hb5.block _ (lt_of_block nR)).trans nR
        have HO : Hid (OutMn (ks.all ok) (Fz) w (.returned (.tuple #[.agg (mv f), .bool false])) (w4.setRow (w.heap.size + 1) (mv f))) := by
          refine ⟨⟨f, ?_, fun h => ?_⟩, ?_⟩
          · rw [all_bad HJ.out hok]
          · rw [all_bad HJ.out hok] at h
            cases h
          · exact below_setRow (bA.trans (hb5.mono bA.size)) (by omega) _
        clear HK Hall HJ hf ho3
        go_wp2_with (first
          | (refine wpList_store_row rfl 58 _ _ rfl _ _ rfl rfl _ _ hm2 (maskSize _) (by simp [mv_size]) (mv_all _) ?_)
          | (refine wpList_load_row rfl 58 _ rfl _ rfl _ _ _ _ hm3 maskType rfl (maskSize _) ?_)
          | (refine wpList_store_row rfl 58 _ _ rfl _ _ rfl rfl _ _ nR3 (maskSize _) (by simp [mv_size]) (mv_all _) ?_))
        exact rmean_post (w.heap.size + 1) f false rfl rfl rfl (setRow_heap _ _ _ _ _ _ nR3) HO.out
      | true =>
        have ef := hf hok
        subst ef
        have Hok := hid5 hok
        clear hf hok
        have hb6 := hb5.alloc hb5.size (.cells (mv (F k)) 58)
        have hx6 := heap_alloc_new w4 (.cells (mv (F k)) 58)
        have ho6 := owns_keep (w' := w4.alloc (.cells (mv (F k)) 58)) ho3 fun b hb => Below.heap_alloc _ _ _ (ho3.lt b hb).2
        have s6 : (w4.alloc (.cells (mv (F k)) 58)).heap.size = w4.heap.size + 1 := by simp
        have Hs6 := hid5 s6
        clear s6
        clear ho3 hb5
        go_wp2_with (first
          | (refine wpList_store_row rfl 58 _ _ rfl _ _ rfl rfl _ _ hm2 (maskSize _) (by simp [mv_size]) (mv_all _) ?_)
          | (refine wpList_load_row rfl 58 _ rfl _ rfl _ _ _ _ hm3 maskType rfl (maskSize _) ?_)
          | (refine wpList_bslice_mask rfl _ rfl (F k) rfl ?_)
          | (at_builtin; refine wpList_append_own _ rfl _ _ 31 rfl wA.heap.size 58 i0 _ 23 184 masksType6 hi Hzi.out hz1 hz2 rfl (by decide) u12 j (mcl F (ks.take j)) rfl ho6 ⟨w4.heap.size, 0, none⟩ 1 1 (mv (F k)).toList rfl (by rw [Array.length_toList, mv_size]) ?c1 ?c2 ?c3 ?c4 ?c5 ?_))
        case c1 =>
          intro k' u' hk'
          rw [show (Addr.add ⟨w4.heap.size, 0, none⟩ k') = ⟨w4.heap.size, k', none⟩ by simp [Addr.add]; exact fun h => h.symm, cell_of_row _ _ _ _ _ _ hx6, ← Array.getElem?_toList]
          exact hk'
        case c2 => exact fun u hu => (Array.all_eq_true_iff_forall_mem.1 (mv_all (F k))) u (by simpa using hu)
        case c3 => unfold maxLen; omega
        case c4 => omega
        case c5 => have := hb6.size; omega
        intro v' w7 hown' hgrow _
        have hlo := ho6.lt
        have hb7 : Below wA.heap.size wA w7 := hb6.grown hgrow hb6.size (fun q hq => (hlo q hq).1)
        have HN : Hid (RmRel wA ks ok F v' (.int .i64 ((j + 1 : Nat) : Int)) w7) := by
          refine ⟨j + 1, rfl, by omega, all_take HJ.out Hall.out Hok.out, ?_, hb7⟩
          rw [mcl_next HJ.out]
          exact hown'
        clear hown' hgrow ho6 hx6 hb6 hb7 hlo hm2 hm3 hw3 hw4 s3 Hall HJ Hok HK
        go_wp2_with fail
        go_roundw
        case rel => first
          | exact HN.out
          | exact ⟨_, _, _, _, _, HN.out, rfl, rfl, rfl, rfl, rfl⟩
        case measure => simp [intOf]; omega
    · have ej : j = ks.length := by omega
      have hlt' : ¬ (j : Int) < (ks.length : Int) := by omega
      subst ej
      rw [List.take_length] at hall hown
      have n5 := heap_alloc_new wr (.cells (mv fun _ => false) 58)
      have hb5 := below_setRow (hbr.alloc hbr.size (.cells (mv fun _ => false) 58)) hbr.size (mv fun _ => false)
      have n6 := setRow_heap _ _ _ (mv fun _ => false) _ _ n5
      have ho6 := owns_keep (w' := (wr.alloc (.cells (mv fun _ => false) 58)).setRow wr.heap.size (mv fun _ => false)) hown fun b hb => (setRow_other _ _ _ _ (by have := (hown.lt b hb).2; omega)).trans (Below.heap_alloc _ _ _ (hown.lt b hb).2)
      have nE6 := (hb5.block _ (lt_of_block nE)).trans nE
      have nR6 := (hb5.block _ (lt_of_block nR)).trans nR
      have Hw6 := hid5 (bA.trans (hb5.mono bA.size))
      generalize hw5 : wr.alloc (.cells (mv fun _ => false) 58) = w5 at *
      generalize hw6 : w5.setRow wr.heap.size (mv fun _ => false) = w6 at *
      have zk := (cell_of_row _ _ 0 _ _ _ nE6).trans rfl
      have Hall := hid5 hall
      clear hown hbr HK hall nE nR hb5 hlt hlt' hj
      obtain ⟨p, c, hu, _, hrow⟩ := (own_range ho6 rfl).resolve_right (by omega)
      rw [List.length_map] at hu
      obtain ⟨g, o, hp, hr0⟩ := hrow 0 (F k0) (by rw [List.getElem?_map, h0]; rfl)
      subst hu hp
      rw [Nat.zero_mul, Nat.add_zero] at hr0
      have hpN : 0 < ks.length := (List.getElem?_eq_some_iff.1 h0).1
      have hpos : (0 : Int) < (ks.length : Int) := by omega
      have k1 := (cell_of_row _ _ 1 _ _ _ nE6).trans rfl
      have k2 := (cell_of_row _ _ 2 _ _ _ nE6).trans rfl
      have HR0 := hid5 hr0
      clear hrow ho6 hr0 nE6
      have HO : Hid (∀ (f : Nat → Bool) (W : World), f = Fz → Below w.heap.size w W → OutMn (ks.all ok) (Fz) w (.returned (.tuple #[.agg (mv f), .bool true])) W) := fun f W hf hW => ⟨⟨f, by rw [Hall.out], fun _ => hf⟩, hW⟩
      by_cases h1 : day < a
      · have HX : Hid ((fun _ => false) = Fz) := (HF.out.trans (if_neg (by omega))).symm
        go_wp2_with (first | (refine wpList_store_row rfl 58 _ _ rfl _ _ rfl rfl _ _ n5 (maskSize _) (by simp [mv_size]) (mv_all _) ?_) | (refine wpList_load_row rfl 58 _ rfl _ rfl _ _ _ _ n6 maskType rfl (maskSize _) ?_) | (refine wpList_store_row rfl 58 _ _ rfl _ _ rfl rfl _ _ nR6 (maskSize _) (by simp [mv_size]) (mv_all _) ?_))
        exact rmean_post (w.heap.size + 1) (fun _ => false) true rfl rfl rfl (setRow_heap _ _ _ _ _ _ nR6) (HO.out _ _ (HX.out) (below_setRow Hw6.out (show w.heap.size ≤ w.heap.size + 1 by omega) _))
      · by_cases h2 : b < day
        · have HX : Hid ((fun _ => false) = Fz) := (HF.out.trans (if_neg (by omega))).symm
          go_wp2_with (first | (refine wpList_store_row rfl 58 _ _ rfl _ _ rfl rfl _ _ n5 (maskSize _) (by simp [mv_size]) (mv_all _) ?_) | (refine wpList_load_row rfl 58 _ rfl _ rfl _ _ _ _ n6 maskType rfl (maskSize _) ?_) | (refine wpList_store_row rfl 58 _ _ rfl _ _ rfl rfl _ _ nR6 (maskSize _) (by simp [mv_size]) (mv_all _) ?_))
          exact rmean_post (w.heap.size + 1) (fun _ => false) true rfl rfl rfl (setRow_heap _ _ _ _ _ _ nR6) (HO.out _ _ (HX.out) (below_setRow Hw6.out (show w.heap.size ≤ w.heap.size + 1 by omega) _))
        · have HX : Hid (F k0 = Fz) := (HF.out.trans (if_pos (by omega))).symm
          go_wp2_with (first | (refine wpList_store_row rfl 58 _ _ rfl _ _ rfl rfl _ _ n5 (maskSize _) (by simp [mv_size]) (mv_all _) ?_) | (refine wpList_load_mask rfl _ rfl g o rfl (F k0) HR0.out ?_) | (refine wpList_store_row rfl 58 _ _ rfl _ _ rfl rfl _ _ nR6 (maskSize _) (by simp [mv_size]) (mv_all _) ?_))
          exact rmean_post (w.heap.size + 1) (F k0) true rfl rfl rfl (setRow_heap _ _ _ _ _ _ nR6) (HO.out _ _ (HX.out) (below_setRow Hw6.out (show w.heap.size ≤ w.heap.size + 1 by omega) _))
end Go.Proofs.Ytjllbklkaalafaa

/- A region that draws its order, whose values are known beforehand; what is said of the world hangs on what has been done. It speaks of no program. -/
namespace Go.Proofs.Ytjllbklkaalafaa
open Go Go.RowKit
section
variable {P : Program} {ops : Array Oper} {Q : Exit → Act → World → Prop} {id : Nat} {a0 : Act} {w : World}
/-- What has been done was ready. -/
def ClosL (ops : Array Oper) (L : Nat → Bool) : Prop := ∀ (j : Nat) (p : Oper), ops[j]? = some p → L j = true → ∀ e ∈ p.after, Region.binds .any e = true → L e.on = true
/-- What an operation of the region comes to. -/
def StepL (P : Program) (ops : Array Oper) (Q : Exit → Act → World → Prop) (ds : List (Option Nat × Value)) (a0 : Act) (J : (Nat → Bool) → World → Prop) : Prop :=
  ∀ (i : Nat) (d : Option Nat) (v : Value) (o : Oper) (L : Nat → Bool) (A : Act) (W : World), ops[i]? = some o → ds[i]? = some (d, v) → L i = false → (∀ e ∈ o.after, Region.binds .any e = true → L e.on = true) → ClosL ops L → J L W →
    (∀ s, notDst ops s = true → A.tmps.getD s undef = a0.tmps.getD s undef) → (∀ (j s : Nat) (u : Value), ds[j]? = some (some s, u) → L j = true → A.tmps.getD s undef = u) → wpOp P ops Q i (fun a' W' => a' = A.put d v ∧ J (fun k => decide (i = k) || L k) W') A W
theorem clos_lt {m : Nat} (hu : useB (ops.extract 0 (m + 1)) = true) (hm : m < ops.size) {L : Nat → Bool} (hc : ClosL ops L) {i : Nat} (hi : i < m) (hL : L i = false) : L m = false := by
  cases h : L m with
  | false => rfl
  | true =>
    have hs : (ops.extract 0 (m + 1)).size = m + 1 := by simp; omega
    have hex : ∀ (j : Nat) (p : Oper), (ops.extract 0 (m + 1))[j]? = some p → ops[j]? = some p := fun j p hp => by
      rw [Array.getElem?_extract] at hp
      split at hp
      · simpa using hp
      · cases hp
    have := use_all hu hs (L := L) (fun j p hp hj => hc j p (hex j p hp) hj) h m i (by omega) (by omega)
    rw [this] at hL; cases hL
theorem wp_region_JL (J : (Nat → Bool) → World → Prop) (hJ0 : ∀ L : Nat → Bool, (∀ i, i < ops.size → L i = false) → J L w.drew) (hm : P.follows .mixedOrders = true) (hback : backB ops = true) (hdst : dstB ops = true) (hin : inB ops a0.tmps.size = true) (ds : List (Option Nat × Value)) (es : List (Nat × Value))
    (hds : ops.toList.map (fun o => o.dst) = ds.map (fun p => p.1)) (hes : ds.filterMap (fun p => p.1.map fun s => (s, p.2)) = es) (hnd : decide ((es.map (fun p => p.1)).Nodup) = true)
    (hstep : StepL P ops Q ds a0 J) (hend : ∀ (L : Nat → Bool) (W : World), (∀ i, i < ops.size → L i = true) → J L W → Q .normal (putAll es a0) W) : (Code.region id ops true).wp P Q a0 w := by
  have hl : ds.length = ops.size := by
    have h := congrArg List.length hds
    simpa using h.symm
  have atD : ∀ {j : Nat} {p : Oper}, ops[j]? = some p → ∃ v, ds[j]? = some (p.dst, v) := fun {j p} hp => by
    have h1 : (ops.toList.map (fun o => o.dst))[j]? = some p.dst := by
      rw [List.getElem?_map, Array.getElem?_toList, hp]
      rfl
    rw [hds, List.getElem?_map] at h1
    cases hs : ds[j]? with
    | none => rw [hs] at h1; cases h1
    | some q =>
      rw [hs] at h1
      exact ⟨q.2, by rw [← Option.some.inj h1]⟩
  have atO : ∀ {j : Nat} {d : Option Nat} {v : Value}, ds[j]? = some (d, v) → ∃ p, ops[j]? = some p ∧ p.dst = d := fun {j d v} hj => by
    have hj' := (List.getElem?_eq_some_iff.1 hj).1
    obtain ⟨p, hp⟩ : ∃ p, ops[j]? = some p := ⟨ops[j]'(by omega), Array.getElem?_eq_getElem _⟩
    obtain ⟨v', hv'⟩ := atD hp
    rw [hj] at hv'
    exact ⟨p, hp, (congrArg Prod.fst (Option.some.inj hv')).symm⟩
  refine wp_region_flow hm hback hdst hin (fun L _ W => ClosL ops L ∧ J L W) (fun j x _ => ∀ d v, ds[j]? = some (d, v) → x = v) ?_ ?_ ?_
  · intro L h
    refine ⟨fun j p hp hj => ?_, hJ0 L h⟩
    have := h j (Array.getElem?_eq_some_iff.1 hp).1
    rw [this] at hj; cases hj
  · intro i o L A W ho hLi hdep hJ hdef hkept hhas
    obtain ⟨hc, hJ⟩ := hJ
    have hc' : ClosL ops (fun k => decide (i = k) || L k) := by
      intro j p hp hj e he hb
      show (decide (i = e.on) || L e.on) = true
      by_cases hij : i = j
      · subst hij
        rw [ho] at hp
        cases hp
        rw [hdep e he hb]; simp
      · rw [hc j p hp (by simpa [hij] using hj) e he hb]; simp
    obtain ⟨v, hv⟩ := atD ho
    refine wpOp_mono ?_ (hstep i o.dst v o L A W ho hv hLi hdep hc hJ (fun s' h => hkept s' fun j p hp _ => nd h j p hp) fun j s u hj hL => ?_)
    · rintro a' W' ⟨rfl, hJ'⟩
      exact ⟨v, rfl, fun _ d' v' h => by rw [hv] at h; exact congrArg Prod.snd (Option.some.inj h), fun _ _ _ h => h, hc', hJ'⟩
    · obtain ⟨p, hp, hd⟩ := atO hj
      exact hhas j p hp hL s hd _ _ hj
  · intro L A W hL hJ hdef hsize hkept hhas
    have e : A = putAll es a0 := by
      refine act_is es hdef hsize (by
        have := of_decide_eq_true hnd
        rw [show es.map (fun p => some p.1) = (es.map (fun p => p.1)).map some by rw [List.map_map]; rfl]
        rw [List.nodup_iff_pairwise_ne] at this ⊢
        rw [List.pairwise_map]
        exact this.imp fun hab e => hab (Option.some.inj e)) (fun s h => hkept s fun j p hp e => ?_) (fun j s v hj => ?_)
      · obtain ⟨v, hv⟩ := atD hp
        refine h (s, v) ?_ rfl
        rw [← hes, List.mem_filterMap]
        exact ⟨_, List.mem_of_getElem? hv, by rw [e]; rfl⟩
      · have hm' := List.mem_of_getElem? hj
        rw [← hes, List.mem_filterMap] at hm'
        obtain ⟨q, hq, hqe⟩ := hm'
        obtain ⟨k, hk⟩ := List.getElem?_of_mem hq
        obtain ⟨d, v'⟩ := q
        cases d with
        | none => cases hqe
        | some t =>
          have h2 := Option.some.inj hqe
          have h3 : t = s := congrArg Prod.fst h2
          have h4 : v' = v := congrArg Prod.snd h2
          subst h3 h4
          obtain ⟨p, hp, hd⟩ := atO hk
          exact hhas k p hp t hd _ _ hk
    rw [e]
    exact hend L W hL hJ.2
/-- Ahead of an operation this is said of the world, and behind it that. -/
def JJ (m : Nat) (Pre Post : World → Prop) (L : Nat → Bool) (W : World) : Prop := (L m = false → Pre W) ∧ (L m = true → Post W)
variable {m : Nat} {Pre Post : World → Prop} {L : Nat → Bool} {W W' : World} {i : Nat}
theorem JJ.start (hm : m < ops.size) (h : Pre W) (hL : ∀ i, i < ops.size → L i = false) : JJ m Pre Post L W := ⟨fun _ => h, fun e => by rw [hL m hm] at e; cases e⟩
theorem JJ.keep (h : JJ m Pre Post L W) (hi : i ≠ m) : JJ m Pre Post (fun k => decide (i = k) || L k) W := ⟨fun e => h.1 (by simpa [hi] using e), fun e => h.2 (by simpa [hi] using e)⟩
theorem JJ.low (hi : i ≠ m) (hL : L m = false) (h : Pre W') : JJ m Pre Post (fun k => decide (i = k) || L k) W' := ⟨fun _ => h, fun e => by simp [hi, hL] at e⟩
theorem JJ.both {R : Prop} (h : JJ m Pre Post L W) (h1 : Pre W → R) (h2 : Post W → R) : R := by
  cases hL : L m with
  | false => exact h1 (h.1 hL)
  | true => exact h2 (h.2 hL)
theorem JJ.done (h : Post W') : JJ m Pre Post (fun k => decide (m = k) || L k) W' := ⟨fun e => by simp at e, fun _ => h⟩
end
end Go.Proofs.Ytjllbklkaalafaa
