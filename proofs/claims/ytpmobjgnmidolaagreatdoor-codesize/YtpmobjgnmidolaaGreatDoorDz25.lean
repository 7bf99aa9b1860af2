/- The document's Mean, kind by kind. Written by genrm.py. -/
import Derived.Test.YtpmobjgnmidolaaGreatDoorDz24
import Derived.Test.YtpmobjgnmidolaaGreatDoorDz18
import Derived.Test.YtpmobjgnmidolaaGreatDoorDz23
import Derived.Test.YtpmobjgnmidolaaGreatDoorDz12
import Derived.Test.YtpmobjgnmidolaaGreatDoorDz06
namespace Go.Proofs.YtpmobjgnmidolaaGreatDoor
open Go.RowKit Lx Msk
set_option maxRecDepth 100000 in
set_option maxHeartbeats 4000000 in
theorem rmean_9 {w : World} {a b day : Int} {nm : List UInt8} {pe pv pk pm : Option Addr} {ks : List Ex} {ce n cv nk ck nq cq : Nat} {ok : Ex → Bool} {F : Ex → Nat → Bool} (hlk : ks.length ≤ 2) (hkk : RKids w (.slice pv n cv) day (.slice pk nk ck) (.slice pm nq cq) pe ks ok F) (k0 : Ex) (h0 : ks[0]? = some k0) :
    Calls Tryz.prog 15 #[.agg #[.int .i64 9, .int .i64 a, .int .i64 b, .string ⟨nm.toArray⟩, .slice pe ks.length ce], .slice pv n cv, .int .i64 day, .slice pk nk ck, .slice pm nq cq] w (OutMn (ks.all ok) (shf (F k0) a) w) := by
  have hz := mv_lit
  have HK := hid5 hkk
  have bA : Below w.heap.size w ((w.alloc (.cells #[.int .i64 9, .int .i64 a, .int .i64 b, .string ⟨nm.toArray⟩, .slice pe ks.length ce] 36)).alloc (.cells (mv fun _ => false) 41)) := ((Below.refl _ _).alloc (Nat.le_refl _) _).alloc (by simp) _
  have nE : ((w.alloc (.cells #[.int .i64 9, .int .i64 a, .int .i64 b, .string ⟨nm.toArray⟩, .slice pe ks.length ce] 36)).alloc (.cells (mv fun _ => false) 41)).heap[w.heap.size]? = some (.cells #[.int .i64 9, .int .i64 a, .int .i64 b, .string ⟨nm.toArray⟩, .slice pe ks.length ce] 36 (0, 0)) := by (repeat (first | refine blk_old _ _ _ (by simp only [size_alloc]; omega) ?_ | exact blk_new _ _ _ (by first | rfl | simp only [size_alloc])))
  have nR : ((w.alloc (.cells #[.int .i64 9, .int .i64 a, .int .i64 b, .string ⟨nm.toArray⟩, .slice pe ks.length ce] 36)).alloc (.cells (mv fun _ => false) 41)).heap[w.heap.size + 1]? = some (.cells (mv fun _ => false) 41 (0, 0)) := by (repeat (first | refine blk_old _ _ _ (by simp only [size_alloc]; omega) ?_ | exact blk_new _ _ _ (by first | rfl | simp only [size_alloc])))
  have sA : ((w.alloc (.cells #[.int .i64 9, .int .i64 a, .int .i64 b, .string ⟨nm.toArray⟩, .slice pe ks.length ce] 36)).alloc (.cells (mv fun _ => false) 41)).heap.size = w.heap.size + 1 + 1 := by simp
  generalize hwA : (w.alloc (.cells #[.int .i64 9, .int .i64 a, .int .i64 b, .string ⟨nm.toArray⟩, .slice pe ks.length ce] 36)).alloc (.cells (mv fun _ => false) 41) = wA at *
  have k4 := (cell_of_row _ _ 4 _ _ _ nE).trans rfl
  have hlkI : (ks.length : Int) ≤ 2 := by omega
  have HsA := hid5 sA
  obtain ⟨i0, hi, hzz⟩ := Option.map_eq_some_iff.1 maskInfo6
  simp only [Prod.mk.injEq] at hzz
  obtain ⟨hz0, hz1, hz2⟩ := hzz
  have Hzi := hid5 hz0
  clear hkk sA hz0
  go_enter Tryz.func15, Tryz.ntmps15
  go_wp2_with fail
  clear k4 hwA
  go_loopw [12, 14, 15, 16, 22] (fun q _ _ _ t wr => RmRel wA ks ok F q t wr) (fun _ _ _ _ t _ => ks.length - (intOf t).toNat)
  case atStart => exact ⟨0, rfl, by omega, rfl, World.ownsRow_nil _ _ _ _, Below.refl _ _⟩
  case round =>
    obtain ⟨j, rfl, hj, hall, hown, hbr⟩ := hrel
    have hj0 : (0 : Int) ≤ (j : Int) := by omega
    by_cases hlt : j < ks.length
    · have hlt' : (j : Int) < (ks.length : Int) := by omega
      obtain ⟨k, hjk⟩ : ∃ k, ks[j]? = some k := ⟨ks[j], List.getElem?_eq_getElem hlt⟩
      obtain ⟨g, o, ps, cs, hpe, c0, c1, c2, c3, c4, cK⟩ := HK.out j k hjk
      subst hpe
      have hbw := bA.trans (hbr.mono bA.size)
      have d0 := (hbw.cell (block_lt_of_cell c0)).trans c0
      have d1 := (hbw.cell (block_lt_of_cell c1)).trans c1
      have d2 := (hbw.cell (block_lt_of_cell c2)).trans c2
      have d3 := (hbw.cell (block_lt_of_cell c3)).trans c3
      have d4 := (hbw.cell (block_lt_of_cell c4)).trans c4
      have hbA := hbr.alloc hbr.size (.cells #[.int .i64 k.kind, .int .i64 k.a, .int .i64 k.b, .string ⟨k.name.toArray⟩, .slice ps k.kids.length cs] 36)
      have hxB := heap_alloc_new wr (.cells #[.int .i64 k.kind, .int .i64 k.a, .int .i64 k.b, .string ⟨k.name.toArray⟩, .slice ps k.kids.length cs] 36)
      have ho1 := owns_keep (w' := wr.alloc (.cells #[.int .i64 k.kind, .int .i64 k.a, .int .i64 k.b, .string ⟨k.name.toArray⟩, .slice ps k.kids.length cs] 36)) hown fun b hb => Below.heap_alloc _ _ _ (hown.lt b hb).2
      have cR := cK _ (bA.trans (hbA.mono bA.size))
      have HJ := hid5 hjk
      have Hall := hid5 hall
      clear c0 c1 c2 c3 c4 cK hjk hall hbr hbw hown
      generalize hwB : wr.alloc (.cells #[.int .i64 k.kind, .int .i64 k.a, .int .i64 k.b, .string ⟨k.name.toArray⟩, .slice ps k.kids.length cs] 36) = wB at *
      go_wp2_with (refine wpList_load_row rfl 36 _ rfl _ rfl _ _ _ _ hxB exprType5 rfl (by kernel_rfl) ?_)
      refine cR.mono ?_
      rintro r w2 ⟨⟨f, rfl, hf⟩, hb2⟩
      have hm2 := heap_alloc_new w2 (.cells (mv fun _ => false) 41)
      have hb3 := hbA.trans (hb2.mono hbA.size)
      have hb4 := hb3.alloc hb3.size (.cells (mv fun _ => false) 41)
      have ho2 := owns_below ho1 hb2
      have ho3 := owns_keep (w' := (w2.alloc (.cells (mv fun _ => false) 41)).setRow w2.heap.size (mv f)) ho2 fun b hb => (setRow_other _ _ _ _ (by have := (ho2.lt b hb).2; omega)).trans (Below.heap_alloc _ _ _ (ho2.lt b hb).2)
      have hb5 := below_setRow hb4 hb3.size (mv f)
      have hm3 := setRow_heap _ _ _ (mv f) _ _ hm2
      have s3 : w2.heap.size < ((w2.alloc (.cells (mv fun _ => false) 41)).setRow w2.heap.size (mv f)).heap.size := lt_of_block hm3
      clear cR hxB hwB d0 d1 d2 d3 d4 ho1 ho2 hb2 hbA hb4 hb3
      generalize hw3 : w2.alloc (.cells (mv fun _ => false) 41) = w3 at *
      generalize hw4 : w3.setRow w2.heap.size (mv f) = w4 at *
      cases hok : ok k with
      | false =>
        have nR3 := (hb5.block _ (lt_of_block nR)).trans nR
        have HO : Hid (OutMn (ks.all ok) (shf (F k0) a) w (.returned (.tuple #[.agg (mv f), .bool false])) (w4.setRow (w.heap.size + 1) (mv f))) := by
          refine ⟨⟨f, ?_, fun h => ?_⟩, ?_⟩
          · rw [all_bad HJ.out hok]
          · rw [all_bad HJ.out hok] at h
            cases h
          · exact below_setRow (bA.trans (hb5.mono bA.size)) (by omega) _
        clear HK Hall HJ hf ho3
        go_wp2_with (first
          | (refine wpList_store_row rfl 41 _ _ rfl _ _ rfl rfl _ _ hm2 (maskSize _) (by simp [mv_size]) (mv_all _) ?_)
          | (refine wpList_load_row rfl 41 _ rfl _ rfl _ _ _ _ hm3 maskType rfl (maskSize _) ?_)
          | (refine wpList_store_row rfl 41 _ _ rfl _ _ rfl rfl _ _ nR3 (maskSize _) (by simp [mv_size]) (mv_all _) ?_))
        exact rmean_post (w.heap.size + 1) f false rfl rfl rfl (setRow_heap _ _ _ _ _ _ nR3) HO.out
      | true =>
        have ef := hf hok
        subst ef
        have Hok := hid5 hok
        clear hf hok
        have hb6 := hb5.alloc hb5.size (.cells (mv (F k)) 41)
        have hx6 := heap_alloc_new w4 (.cells (mv (F k)) 41)
        have ho6 := owns_keep (w' := w4.alloc (.cells (mv (F k)) 41)) ho3 fun b hb => Below.heap_alloc _ _ _ (ho3.lt b hb).2
        have s6 : (w4.alloc (.cells (mv (F k)) 41)).heap.size = w4.heap.size + 1 := by simp
        have Hs6 := hid5 s6
        clear s6
        clear ho3 hb5
        go_wp2_with (first
          | (refine wpList_store_row rfl 41 _ _ rfl _ _ rfl rfl _ _ hm2 (maskSize _) (by simp [mv_size]) (mv_all _) ?_)
          | (refine wpList_load_row rfl 41 _ rfl _ rfl _ _ _ _ hm3 maskType rfl (maskSize _) ?_)
          | (refine wpList_bslice_mask rfl _ rfl (F k) rfl ?_)
          | (at_builtin; refine wpList_append_own _ rfl _ _ 79 rfl wA.heap.size 41 i0 _ 23 184 masksType6 hi Hzi.out hz1 hz2 rfl (by decide) u12 j (mcl F (ks.take j)) rfl ho6 ⟨w4.heap.size, 0, none⟩ 1 1 (mv (F k)).toList rfl (by rw [Array.length_toList, mv_size]) ?c1 ?c2 ?c3 ?c4 ?c5 ?_))
        case c1 =>
          intro k' u' hk'
          rw [show (Addr.add ⟨w4.heap.size, 0, none⟩ k') = ⟨w4.heap.size, k', none⟩ by simp [Addr.add]; exact fun h => h.symm, cell_of_row _ _ _ _ _ _ hx6, ← Array.getElem?_toList]
          exact hk'
        case c2 => exact fun u hu => (Array.all_eq_true_iff_forall_mem.1 (mv_all (F k))) u (by simpa using hu)
        case c3 => unfold maxLen; omega
        case c4 => omega
        case c5 => have := hb6.size; omega
        intro v' w7 hown' hgrow _
        have hlo := ho6.lt
        have hb7 : Below wA.heap.size wA w7 := hb6.grown hgrow hb6.size (fun q hq => (hlo q hq).1)
        have HN : Hid (RmRel wA ks ok F v' (.int .i64 ((j + 1 : Nat) : Int)) w7) := by
          refine ⟨j + 1, rfl, by omega, all_take HJ.out Hall.out Hok.out, ?_, hb7⟩
          rw [mcl_next HJ.out]
          exact hown'
        clear hown' hgrow ho6 hx6 hb6 hb7 hlo hm2 hm3 hw3 hw4 s3 Hall HJ Hok HK
        go_wp2_with fail
        go_roundw
        case rel => first
          | exact HN.out
          | exact ⟨_, _, _, _, _, HN.out, rfl, rfl, rfl, rfl, rfl⟩
        case measure => simp [intOf]; omega
    · have ej : j = ks.length := by omega
      have hlt' : ¬ (j : Int) < (ks.length : Int) := by omega
      subst ej
      rw [List.take_length] at hall hown
      have n5 := heap_alloc_new wr (.cells (mv fun _ => false) 41)
      have hb5 := below_setRow (hbr.alloc hbr.size (.cells (mv fun _ => false) 41)) hbr.size (mv fun _ => false)
      have n6 := setRow_heap _ _ _ (mv fun _ => false) _ _ n5
      have ho6 := owns_keep (w' := (wr.alloc (.cells (mv fun _ => false) 41)).setRow wr.heap.size (mv fun _ => false)) hown fun b hb => (setRow_other _ _ _ _ (by have := (hown.lt b hb).2; omega)).trans (Below.heap_alloc _ _ _ (hown.lt b hb).2)
      have nE6 := (hb5.block _ (lt_of_block nE)).trans nE
      have nR6 := (hb5.block _ (lt_of_block nR)).trans nR
      have Hw6 := hid5 (bA.trans (hb5.mono bA.size))
      generalize hw5 : wr.alloc (.cells (mv fun _ => false) 41) = w5 at *
      generalize hw6 : w5.setRow wr.heap.size (mv fun _ => false) = w6 at *
      have zk := (cell_of_row _ _ 0 _ _ _ nE6).trans rfl
      have Hall := hid5 hall
      clear hown hbr HK hall nE nR hb5 hlt hlt' hj
      obtain ⟨p, c, hu, _, hrow⟩ := (own_range ho6 rfl).resolve_right (by omega)
      rw [List.length_map] at hu
      obtain ⟨g, o, hp, hr0⟩ := hrow 0 (F k0) (by rw [List.getElem?_map, h0]; rfl)
      subst hu hp
      rw [Nat.zero_mul, Nat.add_zero] at hr0
      have hpN : 0 < ks.length := (List.getElem?_eq_some_iff.1 h0).1
      have hpos : (0 : Int) < (ks.length : Int) := by omega
      have HR0 := hid5 hr0
      clear hrow ho6 hr0
      have HO : Hid (∀ (f : Nat → Bool) (W : World), f = (shf (F k0) a) → Below w.heap.size w W → OutMn (ks.all ok) ((shf (F k0) a)) w (.returned (.tuple #[.agg (mv f), .bool true])) W) := fun f W hf hW => ⟨⟨f, by rw [Hall.out], fun _ => hf⟩, hW⟩
      go_wp2_with (refine wpList_store_row rfl 41 _ _ rfl _ _ rfl rfl _ _ n5 (maskSize _) (by simp [mv_size]) (mv_all _) ?_)
      clear n5 n6 hw5 hw6 zk
      refine wp_region_JL (JJ 6 (Below w6.heap.size w6) (fun W => Below w.heap.size w W ∧ W.heap[w.heap.size + 1]? = some (.cells (mv (shf (F k0) a)) 41 (0, 0)))) (fun L hL => JJ.start (by simp) (Below.refl _ _).drew hL) (by kernel_rfl) (by kernel_rfl) (by kernel_rfl) (by kernel_rfl) [(some 111, .slice (some ⟨g, o, none⟩) ks.length c), (some 112, .pointer (some ⟨g, o, none⟩)), (some 113, .agg (mv (F k0))), (some 114, .pointer (some ⟨w.heap.size, 1, none⟩)), (some 115, .int .i64 a), (some 116, .agg (mv (shf (F k0) a))), (none, undef), (some 11, .bool true)] [(111, .slice (some ⟨g, o, none⟩) ks.length c), (112, .pointer (some ⟨g, o, none⟩)), (113, .agg (mv (F k0))), (114, .pointer (some ⟨w.heap.size, 1, none⟩)), (115, .int .i64 a), (116, .agg (mv (shf (F k0) a))), (11, .bool true)] (by kernel_rfl) (by kernel_rfl) (by kernel_rfl) ?_ ?_
      · intro i' d v o' L A W2 ho hv hLi hdep hc hJ hkept hhas
        match i', ho, hv, hLi with
        | 0, ho, hv, hLi =>
          cases Option.some.inj ho
          cases Option.some.inj hv
          have hLm := clos_lt (m := 6) (by kernel_rfl) (by simp) hc (by decide) hLi
          have hJb := hJ.1 hLm
          have h12 : A.tmps[12]?.getD undef = .slice (some ⟨g, o, none⟩) ks.length c := (gd A 12).trans (hkept 12 (by kernel_rfl))
          refine wpOp_step rfl (fun K hK => ?_)
          go_simp
          exact hK _ _ ⟨rfl, hJ.keep (by decide)⟩
        | 1, ho, hv, hLi =>
          cases Option.some.inj ho
          cases Option.some.inj hv
          have hLm := clos_lt (m := 6) (by kernel_rfl) (by simp) hc (by decide) hLi
          have hJb := hJ.1 hLm
          have h111 : A.tmps[111]?.getD undef = .slice (some ⟨g, o, none⟩) ks.length c := (gd A 111).trans (hhas 0 111 _ rfl (hdep ⟨0, .data⟩ (by simp) rfl))
          refine wpOp_step rfl (fun K hK => ?_)
          go_simp
          exact hK _ _ ⟨rfl, hJ.keep (by decide)⟩
        | 2, ho, hv, hLi =>
          cases Option.some.inj ho
          cases Option.some.inj hv
          have hLm := clos_lt (m := 6) (by kernel_rfl) (by simp) hc (by decide) hLi
          have hJb := hJ.1 hLm
          have h112 : A.eval (.tmp 112) = .pointer (some ⟨g, o, none⟩) := hhas 1 112 _ rfl (hdep ⟨1, .data⟩ (by simp) rfl)
          refine wpOp_step rfl (fun K hK => ?_)
          show Oper.wp _ _ _ _ _ _
          refine wp_load_mask _ rfl g (o) h112 (F k0) (range_later HR0.out hJb) ?_
          exact hK _ _ ⟨rfl, hJ.keep (by decide)⟩
        | 3, ho, hv, hLi =>
          cases Option.some.inj ho
          cases Option.some.inj hv
          have hLm := clos_lt (m := 6) (by kernel_rfl) (by simp) hc (by decide) hLi
          have hJb := hJ.1 hLm
          have h5 : A.tmps[5]?.getD undef = .pointer (some ⟨w.heap.size, 0, none⟩) := (gd A 5).trans (hkept 5 (by kernel_rfl))
          refine wpOp_step rfl (fun K hK => ?_)
          go_simp
          exact hK _ _ ⟨rfl, hJ.keep (by decide)⟩
        | 4, ho, hv, hLi =>
          cases Option.some.inj ho
          cases Option.some.inj hv
          have hLm := clos_lt (m := 6) (by kernel_rfl) (by simp) hc (by decide) hLi
          have hJb := hJ.1 hLm
          have h114 : A.tmps[114]?.getD undef = .pointer (some ⟨w.heap.size, 1, none⟩) := (gd A 114).trans (hhas 3 114 _ rfl (hdep ⟨3, .data⟩ (by simp) rfl))
          have e1 := (cell_of_row _ _ 1 _ _ _ ((hJb.block _ (lt_of_block nE6)).trans nE6)).trans rfl
          refine wpOp_step rfl (fun K hK => ?_)
          go_simp
          exact hK _ _ ⟨rfl, hJ.keep (by decide)⟩
        | 5, ho, hv, hLi =>
          cases Option.some.inj ho
          cases Option.some.inj hv
          have hLm := clos_lt (m := 6) (by kernel_rfl) (by simp) hc (by decide) hLi
          have hJb := hJ.1 hLm
          have h113 : A.tmps[113]?.getD undef = .agg (mv (F k0)) := (gd A 113).trans (hhas 2 113 _ rfl (hdep ⟨2, .data⟩ (by simp) rfl))
          have h115 : A.tmps[115]?.getD undef = .int .i64 a := (gd A 115).trans (hhas 4 115 _ rfl (hdep ⟨4, .data⟩ (by simp) rfl))
          refine wpOp_step rfl (fun K hK => ?_)
          go_simp
          refine (shift_ref (F k0) a W2).mono ?_
          rintro e' W' ⟨rfl, hb'⟩
          exact hK _ _ ⟨rfl, JJ.low (by decide) hLm (hJb.trans (hb'.mono hJb.size))⟩
        | 6, ho, hv, hLi =>
          cases Option.some.inj ho
          cases Option.some.inj hv
          have hJb := hJ.1 hLi
          have hx : A.eval (.tmp 10) = .pointer (some ⟨w.heap.size + 1, 0, none⟩) := hkept 10 (by kernel_rfl)
          have hy : A.eval (.tmp 116) = .agg (mv (shf (F k0) a)) := hhas 5 116 _ rfl (hdep ⟨5, .data⟩ (by simp) rfl)
          have n2 := (hJb.block _ (lt_of_block nR6)).trans nR6
          refine wpOp_step rfl (fun K hK => ?_)
          show Oper.wp _ _ _ _ _ _
          refine wp_store_row 41 _ _ rfl _ _ hx hy _ _ n2 (maskSize _) (by simp [mv_size]) (mv_all _) ?_
          exact hK _ _ ⟨rfl, JJ.done ⟨below_setRow (Hw6.out.trans (hJb.mono Hw6.out.size)) (show w.heap.size ≤ w.heap.size + 1 by omega) _, setRow_heap _ _ _ _ _ _ n2⟩⟩
        | 7, ho, hv, hLi =>
          cases Option.some.inj ho
          cases Option.some.inj hv
          refine wpOp_step rfl (fun K hK => ?_)
          go_simp
          exact hK _ _ ⟨rfl, hJ.keep (by decide)⟩
        | kk + 8, ho, hv, hLi => simp at hv
      · intro L W2 hL hJ
        obtain ⟨hbw, hn⟩ := hJ.2 (hL 6 (by simp))
        simp only [putAll_cons, putAll_nil, Act.put, List.setIfInBounds_toArray, List.set_cons_succ, List.set_cons_zero]
        clear hJ hL
        go_wp2_with fail
        exact rmean_post (w.heap.size + 1) (shf (F k0) a) true rfl rfl rfl hn (HO.out _ _ rfl hbw)
end Go.Proofs.YtpmobjgnmidolaaGreatDoor

/- What the document's Steady comes to. -/
namespace Go.Proofs.YtpmobjgnmidolaaGreatDoor
open Go.RowKit Lx Vx Msk
theorem rstd_step {w : World} {e : Ex} {pe : Option Addr} {ce : Nat} (hok : OKE e) (hs : stdE e = true) (hkk : RKids w (.slice none 0 0) 0 (.slice none 0 0) (.slice none 0 0) pe e.kids (fun _ => true) mnE) :
    Calls Tryz.prog 15 #[exV e (.slice pe e.kids.length ce), .slice none 0 0, .int .i64 0, .slice none 0 0, .slice none 0 0] w (OutMn true (mnE e) w) := by
  have hv : mnE e = _ := valE_eq (fun _ => false) 0 (fun _ => nev) e
  obtain ⟨k1, k2, hlen, hr, _⟩ := hok.kinds
  have h0 := fun hk => hok.kid0 hk
  have h1 := fun hk => hok.kid1 hk
  obtain ⟨s4, s5, s10⟩ := stdE_kind hs
  have hall : ∀ ks : List Ex, ks.all (fun _ => true) = true := fun ks => by simp
  change _ = valK _ 0 e.kind e.a e.b _ (e.kids.map mnE) at hv
  obtain ⟨kd, a, b, nm, ks⟩ := e
  unfold exV
  dsimp only at *
  have hc : kd = 1 ∨ kd = 2 ∨ kd = 3 ∨ kd = 6 ∨ kd = 7 ∨ kd = 8 ∨ kd = 9 := by omega
  have hl2 : ks.length ≤ 2 := by
    rw [hlen]
    unfold kidsP
    split
    · omega
    · split <;> omega
  rw [hv, ← hall ks]
  rcases hc with rfl | rfl | rfl | rfl | rfl | rfl | rfl
  · rw [valK_1]
    exact rmean_1 hl2 hkk
  · rw [valK_2]
    exact rmean_2 hl2 hkk
  · rw [valK_3]
    exact rmean_3 hl2 hkk
  · obtain ⟨k, hk, _⟩ := h0 (by decide)
    obtain ⟨k', hk', _⟩ := h1 (by decide)
    rw [valK_6, mapD_at hk, mapD_at hk']
    exact rmean_6 hl2 hkk k hk k' hk'
  · obtain ⟨k, hk, _⟩ := h0 (by decide)
    obtain ⟨k', hk', _⟩ := h1 (by decide)
    rw [valK_7, mapD_at hk, mapD_at hk']
    exact rmean_7 hl2 hkk k hk k' hk'
  · obtain ⟨k, hk, _⟩ := h0 (by decide)
    obtain ⟨k', hk', _⟩ := h1 (by decide)
    rw [valK_8, mapD_at hk, mapD_at hk']
    exact rmean_8 hl2 hkk k hk k' hk'
  · obtain ⟨k, hk, _⟩ := h0 (by decide)
    rw [valK_9, mapD_at hk]
    exact rmean_9 hl2 hkk k hk
theorem rstd_all : ∀ (d : Nat) (e : Ex) (sl : Value) (w : World), KidsB (fun k => k < w.heap.size) d w sl e.kids → OKE e → stdE e = true →
    Calls Tryz.prog 15 #[exV e sl, .slice none 0 0, .int .i64 0, .slice none 0 0, .slice none 0 0] w (OutMn true (mnE e) w) := by
  have none : ∀ (e : Ex) (p : Option Addr) (c : Nat) (w : World), e.kids = [] → OKE e → stdE e = true →
      Calls Tryz.prog 15 #[exV e (.slice p 0 c), .slice none 0 0, .int .i64 0, .slice none 0 0, .slice none 0 0] w (OutMn true (mnE e) w) := fun e p c w h0 hok hs => by
    have := rstd_step (w := w) (pe := p) (ce := c) (e := e) hok hs (fun j k hj => by rw [h0] at hj; simp at hj)
    rw [show e.kids.length = 0 by rw [h0]; rfl] at this
    exact this
  intro d
  induction d with
  | zero =>
    intro e sl w hk hok hs
    obtain ⟨h0, p, c, rfl⟩ := hk
    exact none e p c w h0 hok hs
  | succ d ih =>
    intro e sl w hk hok hs
    rcases hk with ⟨h0, p, c, rfl⟩ | ⟨g, o, c, _, rfl, hlk, hkk⟩
    · exact none e p c w h0 hok hs
    · refine rstd_step hok hs (fun j k hj => ?_)
      obtain ⟨_, sk, c0, c1, c2, c3, c4, r⟩ := hkk j k hj
      obtain ⟨ps, cs, rfl⟩ := r.form
      have hmem : k ∈ e.kids := List.mem_of_getElem? hj
      exact ⟨g, o, ps, cs, rfl, c0, c1, c2, c3, c4, fun W hW => ih k _ W ((r.kept fun g _ hl => hW.block g hl).mono fun g hg => Nat.lt_of_lt_of_le hg hW.size) (hok.kid hmem) (stdE_kid hs hmem)⟩
theorem rsteady_post {R : Ending → World → Prop} {a : Act} {w : World} (g : Nat) (f : Nat → Bool) (b : Bool) (hd : a.defers = []) (h2 : a.tmps.getD 3 undef = .bool b) (h3 : a.tmps.getD 2 undef = .pointer (some ⟨g, 0, none⟩))
    (hg : w.heap[g]? = some (.cells (mv f) 41 (0, 0))) (hR : R (.returned (.tuple #[.agg (mv f), .bool b])) w) : bodyPost Tryz.prog Tryz.f7 R .ret a w := by
  refine bodyPost_ret (v := .tuple #[.agg (mv f), .bool b]) ?_ hd hR
  have h2' : a.tmps[3]?.getD undef = .bool b := by simpa using h2
  have h3' : a.tmps[2]?.getD undef = .pointer (some ⟨g, 0, none⟩) := by simpa using h3
  have hv := run_loadVar_row (P := Tryz.prog) w g 41 41 _ _ _ hg maskType rfl (maskSize _)
  simp [results, Tryz.results7, h2', h3', asAddr, hv]
theorem std_drop {ks : List Ex} {j : Nat} {k : Ex} (h : ks[j]? = some k) : (ks.drop j).all stdE = (stdE k && (ks.drop (j + 1)).all stdE) := by
  obtain ⟨h1, h2⟩ := List.getElem?_eq_some_iff.1 h
  rw [List.drop_eq_getElem_cons h1, h2]
  rfl
set_option maxRecDepth 100000 in
set_option maxHeartbeats 2000000 in
theorem rsteady_step (e : Ex) (pe : Option Addr) (ce : Nat) (w : World) (hlk : (e.kids.length : Int) < 9223372036854775808)
    (hm : stdE e = true → ∀ W, Below w.heap.size w W → Calls Tryz.prog 15 #[exV e (.slice pe e.kids.length ce), .slice none 0 0, .int .i64 0, .slice none 0 0, .slice none 0 0] W (OutMn true (mnE e) W))
    (hkk : ∀ (j : Nat) (k : Ex), e.kids[j]? = some k → ∃ (g o : Nat) (ps : Option Addr) (cs : Nat), pe = some ⟨g, o, none⟩ ∧
        w.cell? ⟨g, o + j * 5, none⟩ = some (.int .i64 k.kind) ∧ w.cell? ⟨g, o + j * 5 + 1, none⟩ = some (.int .i64 k.a) ∧ w.cell? ⟨g, o + j * 5 + 2, none⟩ = some (.int .i64 k.b) ∧
        w.cell? ⟨g, o + j * 5 + 3, none⟩ = some (.string ⟨k.name.toArray⟩) ∧ w.cell? ⟨g, o + j * 5 + 4, none⟩ = some (.slice ps k.kids.length cs) ∧
        ∀ W, Below w.heap.size w W → Calls Tryz.prog 7 #[exV k (.slice ps k.kids.length cs)] W (OutMn (stdE k) (mnE k) W)) :
    Calls Tryz.prog 7 #[exV e (.slice pe e.kids.length ce)] w (OutMn (stdE e) (mnE e) w) := by
  have hz := mv_lit
  have HK := hid5 hkk
  have HM := hid5 hm
  have bA : Below w.heap.size w ((w.alloc (.cells #[.int .i64 e.kind, .int .i64 e.a, .int .i64 e.b, .string ⟨e.name.toArray⟩, .slice pe e.kids.length ce] 36)).alloc (.cells (mv fun _ => false) 41)) := ((Below.refl _ _).alloc (Nat.le_refl _) _).alloc (by simp) _
  have nE : ((w.alloc (.cells #[.int .i64 e.kind, .int .i64 e.a, .int .i64 e.b, .string ⟨e.name.toArray⟩, .slice pe e.kids.length ce] 36)).alloc (.cells (mv fun _ => false) 41)).heap[w.heap.size]? = some (.cells #[.int .i64 e.kind, .int .i64 e.a, .int .i64 e.b, .string ⟨e.name.toArray⟩, .slice pe e.kids.length ce] 36 (0, 0)) := by (repeat (first | refine blk_old _ _ _ (by simp only [size_alloc]; omega) ?_ | exact blk_new _ _ _ (by first | rfl | simp only [size_alloc])))
  have nR : ((w.alloc (.cells #[.int .i64 e.kind, .int .i64 e.a, .int .i64 e.b, .string ⟨e.name.toArray⟩, .slice pe e.kids.length ce] 36)).alloc (.cells (mv fun _ => false) 41)).heap[w.heap.size + 1]? = some (.cells (mv fun _ => false) 41 (0, 0)) := by (repeat (first | refine blk_old _ _ _ (by simp only [size_alloc]; omega) ?_ | exact blk_new _ _ _ (by first | rfl | simp only [size_alloc])))
  have sA : ((w.alloc (.cells #[.int .i64 e.kind, .int .i64 e.a, .int .i64 e.b, .string ⟨e.name.toArray⟩, .slice pe e.kids.length ce] 36)).alloc (.cells (mv fun _ => false) 41)).heap.size = w.heap.size + 1 + 1 := by simp
  unfold exV
  generalize hwA : (w.alloc (.cells #[.int .i64 e.kind, .int .i64 e.a, .int .i64 e.b, .string ⟨e.name.toArray⟩, .slice pe e.kids.length ce] 36)).alloc (.cells (mv fun _ => false) 41) = wA at *
  have k0 := (cell_of_row _ _ 0 _ _ _ nE).trans rfl
  have k4 := (cell_of_row _ _ 4 _ _ _ nE).trans rfl
  have HsA := hid5 sA
  clear hkk hm sA
  have HN : Hid (stdE e = false → ∀ W : World, Below w.heap.size w W → OutMn (stdE e) (mnE e) w (.returned (.tuple #[.agg (mv fun _ => false), .bool false])) (W.setRow (w.heap.size + 1) (mv fun _ => false))) := fun h W hW => by
    rw [h]
    exact ⟨⟨_, rfl, fun h => by cases h⟩, below_setRow hW (by omega) _⟩
  have hstd := stdE_eq e
  by_cases kbad : e.kind = 4 ∨ e.kind = 5 ∨ e.kind = 10
  · have HF : Hid (stdE e = false) := by
      show _ = _
      rw [hstd]
      rcases kbad with h | h | h <;> simp [h]
    have HO := hid5 (HN.out HF.out _ bA)
    clear hstd HK HM HN
    have hd4 : (e.kind == 4) = true ∨ ((e.kind == 4) = false ∧ ((e.kind == 5) = true ∨ ((e.kind == 5) = false ∧ (e.kind == 10) = true))) := by
      rcases kbad with h | h | h <;> simp [h]
    clear kbad
    rcases hd4 with h4 | ⟨h4, h5 | ⟨h5, h10⟩⟩
    all_goals
      go_enter Tryz.func7, Tryz.ntmps7
      go_wp2_with (refine wpList_store_row rfl 41 _ _ rfl _ _ rfl rfl _ _ nR (maskSize _) (by simp [mv_size]) (mv_all _) ?_)
      exact rsteady_post (w.heap.size + 1) _ false rfl rfl rfl (setRow_heap _ _ _ _ _ _ nR) HO.out
  have h4 : (e.kind == 4) = false := by simpa using fun h => kbad (.inl h)
  have h5 : (e.kind == 5) = false := by simpa using fun h => kbad (.inr (.inl h))
  have h10 : (e.kind == 10) = false := by simpa using fun h => kbad (.inr (.inr h))
  have HS : Hid (stdE e = (e.kids.drop 0).all stdE) := by
    show _ = _
    have q4 : e.kind ≠ 4 := fun h => kbad (.inl h)
    have q5 : e.kind ≠ 5 := fun h => kbad (.inr (.inl h))
    have q10 : e.kind ≠ 10 := fun h => kbad (.inr (.inr h))
    rw [hstd]
    simp [q4, q5, q10]
  clear kbad hstd
  go_enter Tryz.func7, Tryz.ntmps7
  go_wp2_with fail
  clear k0 k4 h4 h5 h10 hwA
  go_loopw [5, 6, 7, 25] (fun _ _ _ t wr => ∃ j : Nat, t = .int .i64 (j : Int) ∧ j ≤ e.kids.length ∧ Hid (stdE e = (e.kids.drop j).all stdE) ∧ Below wA.heap.size wA wr) (fun _ _ _ t _ => e.kids.length - (intOf t).toNat)
  case atStart => exact ⟨0, rfl, by omega, HS, Below.refl _ _⟩
  case round =>
    obtain ⟨j, rfl, hj, HX, hbr⟩ := hrel
    have hj0 : (0 : Int) ≤ (j : Int) := by omega
    by_cases hlt : j < e.kids.length
    · have hlt' : (j : Int) < (e.kids.length : Int) := by omega
      obtain ⟨k, hjk⟩ : ∃ k, e.kids[j]? = some k := ⟨e.kids[j], List.getElem?_eq_getElem hlt⟩
      obtain ⟨g, o, ps, cs, hpe, c0, c1, c2, c3, c4, cK⟩ := HK.out j k hjk
      have HD := hid5 (std_drop hjk)
      subst hpe
      have hbw := bA.trans (hbr.mono bA.size)
      have d0 := (hbw.cell (block_lt_of_cell c0)).trans c0
      have d1 := (hbw.cell (block_lt_of_cell c1)).trans c1
      have d2 := (hbw.cell (block_lt_of_cell c2)).trans c2
      have d3 := (hbw.cell (block_lt_of_cell c3)).trans c3
      have d4 := (hbw.cell (block_lt_of_cell c4)).trans c4
      have hbA := hbr.alloc hbr.size (.cells #[.int .i64 k.kind, .int .i64 k.a, .int .i64 k.b, .string ⟨k.name.toArray⟩, .slice ps k.kids.length cs] 36)
      have hxB := heap_alloc_new wr (.cells #[.int .i64 k.kind, .int .i64 k.a, .int .i64 k.b, .string ⟨k.name.toArray⟩, .slice ps k.kids.length cs] 36)
      have cR := cK _ (bA.trans (hbA.mono bA.size))
      unfold exV at cR
      clear c0 c1 c2 c3 c4 cK hjk hbr hbw
      generalize hwB : wr.alloc (.cells #[.int .i64 k.kind, .int .i64 k.a, .int .i64 k.b, .string ⟨k.name.toArray⟩, .slice ps k.kids.length cs] 36) = wB at *
      go_wp2_with (refine wpList_load_row rfl 36 _ rfl _ rfl _ _ _ _ hxB exprType5 rfl (by kernel_rfl) ?_)
      refine cR.mono ?_
      rintro r w2 ⟨⟨f, rfl, hf⟩, hb2⟩
      have hm2 := heap_alloc_new w2 (.cells (mv fun _ => false) 41)
      have hb3 := hbA.trans (hb2.mono hbA.size)
      have hb4 := hb3.alloc hb3.size (.cells (mv fun _ => false) 41)
      have hb5 := below_setRow hb4 hb3.size (mv f)
      clear cR hxB hwB d0 d1 d2 d3 d4 hb2 hbA hb4 hb3 hf
      generalize hw3 : w2.alloc (.cells (mv fun _ => false) 41) = w3 at *
      generalize hw4 : w3.setRow w2.heap.size (mv f) = w4 at *
      cases hok : stdE k with
      | false =>
        have nR3 := (hb5.block _ (lt_of_block nR)).trans nR
        have HF : Hid (stdE e = false) := by
          show _ = _
          rw [HX.out, HD.out, hok]
          rfl
        have HO := hid5 (HN.out HF.out _ (bA.trans (hb5.mono bA.size)))
        clear HK HM HN HS HX HD hok
        go_wp2_with (first
          | (refine wpList_store_row rfl 41 _ _ rfl _ _ rfl rfl _ _ hm2 (maskSize _) (by simp [mv_size]) (mv_all _) ?_)
          | (refine wpList_store_row rfl 41 _ _ rfl _ _ rfl rfl _ _ nR3 (maskSize _) (by simp [mv_size]) (mv_all _) ?_))
        exact rsteady_post (w.heap.size + 1) _ false rfl rfl rfl (setRow_heap _ _ _ _ _ _ nR3) HO.out
      | true =>
        have HX2 : Hid (stdE e = (e.kids.drop (j + 1)).all stdE) := by
          show _ = _
          rw [HX.out, HD.out, hok]
          rfl
        clear HX HD hok
        go_wp2_with (refine wpList_store_row rfl 41 _ _ rfl _ _ rfl rfl _ _ hm2 (maskSize _) (by simp [mv_size]) (mv_all _) ?_)
        go_roundw
        case rel => exact ⟨j + 1, by go_num, by omega, HX2, hb5⟩
        case measure => simp [intOf]; omega
    · have hlt' : ¬ (j : Int) < (e.kids.length : Int) := by omega
      have HF : Hid (stdE e = true) := by
        show _ = _
        rw [HX.out, List.drop_of_length_le (by omega)]
        rfl
      have cM := HM.out HF.out wr (bA.trans (hbr.mono bA.size))
      unfold exV at cM
      have nE3 := (hbr.block _ (lt_of_block nE)).trans nE
      clear HK HM HN HS HX
      go_wp2_with (refine wpList_load_row rfl 36 _ rfl _ rfl _ _ _ _ nE3 exprType5 rfl (by kernel_rfl) ?_)
      refine cM.mono ?_
      rintro r w2 ⟨⟨f, rfl, hf⟩, hb2⟩
      have hb3 := hbr.trans (hb2.mono hbr.size)
      have nR3 := (hb3.block _ (lt_of_block nR)).trans nR
      have HO : Hid (OutMn (stdE e) (mnE e) w (.returned (.tuple #[.agg (mv f), .bool true])) (w2.setRow (w.heap.size + 1) (mv f))) := by
        rw [HF.out]
        exact ⟨⟨f, rfl, fun _ => hf rfl⟩, below_setRow (bA.trans (hb3.mono bA.size)) (by omega) _⟩
      clear cM hf hb2 nE3 HF
      go_wp2_with (refine wpList_store_row rfl 41 _ _ rfl _ _ rfl rfl _ _ nR3 (maskSize _) (by simp [mv_size]) (mv_all _) ?_)
      exact rsteady_post (w.heap.size + 1) _ true rfl rfl rfl (setRow_heap _ _ _ _ _ _ nR3) HO.out
theorem rsteady_any : ∀ (d : Nat) (e : Ex) (sl : Value) (w : World), KidsB (fun k => k < w.heap.size) d w sl e.kids → OKE e → Calls Tryz.prog 7 #[exV e sl] w (OutMn (stdE e) (mnE e) w)
  | 0, e, sl, w, hk, hok => by
    have hM := fun hs W (hW : Below w.heap.size w W) => rstd_all 0 e sl W hk hok hs
    obtain ⟨h0, p, c, rfl⟩ := hk
    have := rsteady_step e p c w (by rw [h0]; decide) (by rw [h0]; exact hM) (fun j k hj => by rw [h0] at hj; simp at hj)
    rw [h0] at this
    exact this
  | d + 1, e, sl, w, hk, hok => by
    have hM := fun hs W (hW : Below w.heap.size w W) => rstd_all (d + 1) e sl W ((hk.kept fun q _ hl => hW.block q hl).mono fun q hq => Nat.lt_of_lt_of_le hq hW.size) hok hs
    obtain ⟨pe, ce, hsl⟩ := hk.form
    subst hsl
    have hlk : (e.kids.length : Int) < 9223372036854775808 := by
      rcases hk with ⟨h0, _⟩ | ⟨_, _, _, _, _, hl, _⟩
      · rw [h0]; decide
      · omega
    refine rsteady_step e pe ce w hlk hM fun j k hj => ?_
    rcases hk with ⟨h0, _⟩ | ⟨g, o, c, hB, hs, hl, hkk⟩
    · rw [h0] at hj; simp at hj
    · obtain ⟨_, sk, c0, c1, c2, c3, c4, r⟩ := hkk j k hj
      obtain ⟨ps, cs, rfl⟩ := r.form
      injection hs with e1
      exact ⟨g, o, ps, cs, e1, c0, c1, c2, c3, c4, fun W hb => rsteady_any d k _ W ((r.kept fun q _ hl => hb.block q hl).mono fun q hq => Nat.lt_of_lt_of_le hq hb.size) (hok.kid (List.mem_of_getElem? hj))⟩
end Go.Proofs.YtpmobjgnmidolaaGreatDoor

/- The code of an expression uses its stack well. -/
namespace Go.Proofs.YtpmobjgnmidolaaGreatDoor
open Go.RowKit Lx Vx Msk
def SegAt (l : List In) (b : Nat) (c : List In) : Prop := ∀ j, j < c.length → l[b + j]? = c[j]?
theorem SegAt.left {l : List In} {b : Nat} {c d : List In} (h : SegAt l b (c ++ d)) : SegAt l b c := fun j hj => by
  rw [h j (by rw [List.length_append]; omega), List.getElem?_append_left hj]
theorem SegAt.right {l : List In} {b : Nat} {c d : List In} (h : SegAt l b (c ++ d)) : SegAt l (b + c.length) d := fun j hj => by
  have := h (c.length + j) (by rw [List.length_append]; omega)
  rw [List.getElem?_append_right (by omega), Nat.add_sub_cancel_left, ← Nat.add_assoc] at this
  exact this
theorem SegAt.one {l : List In} {b : Nat} {x : In} {d : List In} (h : SegAt l b (x :: d)) : l[b]? = some x := by
  have := h 0 (by simp)
  simpa using this
theorem SegAt.tail {l : List In} {b : Nat} {x : In} {d : List In} (h : SegAt l b (x :: d)) : SegAt l (b + 1) d := SegAt.right (c := [x]) h
structure SegOK (l : List In) (b n R N : Nat) : Prop where
  fin : hAt l (b + n) = hAt l b + 1
  tk : ∀ j x, b ≤ j → j < b + n → l[j]? = some x → Vx.tk x + hAt l b ≤ hAt l j
  to : ∀ j x, b ≤ j → j < b + n → l[j]? = some x → isG x → hAt l x.to.toNat = hAt l j + 1
  ins : ∀ j x, b ≤ j → j < b + n → l[j]? = some x → insE x j N R = 0
theorem ins_1 {x : In} (ho : x.op = 1) (h : risL x.sp (-1) = true) (j N R : Nat) : insE x j N R = 0 := by
  unfold insE
  rw [if_neg (by omega), if_pos ho, if_pos h]
theorem ins_234 {x : In} (ho : x.op = 2 ∨ x.op = 3 ∨ x.op = 4) (j N R : Nat) : insE x j N R = 0 := by
  unfold insE
  rw [if_pos ho]
theorem ins_5 {x : In} (ho : x.op = 5) (h : x.a ≠ 0 ∧ -1439 ≤ x.a ∧ x.a ≤ 1439) (j N R : Nat) : insE x j N R = 0 := by
  unfold insE
  rw [if_neg (by omega), if_neg (by omega), if_pos ho, if_pos h]
theorem ins_6 {x : In} {j N : Nat} (ho : x.op = 6) (ht : (j : Int) + 2 ≤ x.to ∧ x.to ≤ N) (h : 1 ≤ x.a ∧ x.a ≤ 127) (R : Nat) : insE x j N R = 0 := by
  unfold insE
  rw [if_neg (by omega), if_neg (by omega), if_neg (by omega), if_pos ho, if_pos ht, if_pos h]
theorem ins_7 {x : In} {j N : Nat} (ho : x.op = 7) (ht : (j : Int) + 2 ≤ x.to ∧ x.to ≤ N) (h : 0 ≤ x.a ∧ x.a ≤ x.b ∧ x.b < 146097) (R : Nat) : insE x j N R = 0 := by
  unfold insE
  rw [if_neg (by omega), if_neg (by omega), if_neg (by omega), if_neg (by omega), if_pos ho, if_pos ht, if_pos h]
theorem ins_8 {x : In} {R : Nat} (ho : x.op = 8) (h : 0 ≤ x.a ∧ x.a < R) (j N : Nat) : insE x j N R = 0 := by
  unfold insE
  rw [if_neg (by omega), if_neg (by omega), if_neg (by omega), if_neg (by omega), if_neg (by omega), if_pos ho, if_pos h]
theorem eff_1 {x : In} (ho : x.op = 1 ∨ x.op = 8) : eff x = 1 := by unfold eff; rw [if_pos ho]
theorem eff_2 {x : In} (ho : x.op = 2 ∨ x.op = 3 ∨ x.op = 4) : eff x = -1 := by unfold eff; rw [if_neg (by omega), if_pos ho]
theorem eff_0 {x : In} (ho : x.op = 5 ∨ x.op = 6 ∨ x.op = 7) : eff x = 0 := by unfold eff; rw [if_neg (by omega), if_neg (by omega)]
theorem tk_0 {x : In} (ho : x.op = 1 ∨ x.op = 6 ∨ x.op = 7 ∨ x.op = 8) : Vx.tk x = 0 := by unfold Vx.tk; rw [if_neg (by omega), if_neg (by omega)]
theorem tk_1 {x : In} (ho : x.op = 5) : Vx.tk x = 1 := by unfold Vx.tk; rw [if_pos ho]
theorem tk_2 {x : In} (ho : x.op = 2 ∨ x.op = 3 ∨ x.op = 4) : Vx.tk x = 2 := by unfold Vx.tk; rw [if_neg (by omega), if_pos ho]
theorem SegOK.one {l : List In} {b R N : Nat} {x : In} (hx : l[b]? = some x) (ho : x.op = 1 ∨ x.op = 8) (hi : insE x b N R = 0) : SegOK l b 1 R N := by
  refine ⟨by rw [hAt_step hx, eff_1 ho], fun j y h1 h2 hy => ?_, fun j y h1 h2 hy hg => ?_, fun j y h1 h2 hy => ?_⟩ <;>
    (obtain rfl : j = b := by omega) <;> (rw [hx] at hy; cases Option.some.inj hy)
  · rw [tk_0 (by omega)]; omega
  · rcases hg with hg | hg <;> omega
  · exact hi
theorem SegOK.guard {l : List In} {b n R N : Nat} {x : In} (hx : l[b]? = some x) (ho : x.op = 6 ∨ x.op = 7) (hto : x.to = ((b + 1 + n : Nat) : Int)) (hi : insE x b N R = 0) (h : SegOK l (b + 1) n R N) : SegOK l b (n + 1) R N := by
  have e1 : hAt l (b + 1) = hAt l b := by rw [hAt_step hx, eff_0 (by omega)]; omega
  have e2 : b + (n + 1) = b + 1 + n := by omega
  refine ⟨by rw [e2, h.fin, e1], fun j y h1 h2 hy => ?_, fun j y h1 h2 hy hg => ?_, fun j y h1 h2 hy => ?_⟩ <;> by_cases hj : j = b
  · subst hj
    rw [hx] at hy; cases Option.some.inj hy
    rw [tk_0 (by omega)]; omega
  · have := h.tk j y (by omega) (by omega) hy
    rw [e1] at this; exact this
  · subst hj
    rw [hx] at hy; cases Option.some.inj hy
    rw [hto, Int.toNat_natCast, h.fin, e1]
  · exact h.to j y (by omega) (by omega) hy hg
  · subst hj
    rw [hx] at hy; cases Option.some.inj hy
    exact hi
  · exact h.ins j y (by omega) (by omega) hy
theorem SegOK.shift {l : List In} {b n R N : Nat} {x : In} (h : SegOK l b n R N) (hx : l[b + n]? = some x) (ho : x.op = 5) (hi : insE x (b + n) N R = 0) : SegOK l b (n + 1) R N := by
  refine ⟨by rw [← Nat.add_assoc, hAt_step hx, eff_0 (by omega), h.fin]; omega, fun j y h1 h2 hy => ?_, fun j y h1 h2 hy hg => ?_, fun j y h1 h2 hy => ?_⟩ <;> by_cases hj : j = b + n
  · subst hj
    rw [hx] at hy; cases Option.some.inj hy
    rw [tk_1 ho, h.fin]; omega
  · exact h.tk j y h1 (by omega) hy
  · subst hj
    rw [hx] at hy; cases Option.some.inj hy
    rcases hg with hg | hg <;> omega
  · exact h.to j y h1 (by omega) hy hg
  · subst hj
    rw [hx] at hy; cases Option.some.inj hy
    exact hi
  · exact h.ins j y h1 (by omega) hy
theorem SegOK.pair {l : List In} {b n m R N : Nat} {x : In} (h : SegOK l b n R N) (h' : SegOK l (b + n) m R N) (hx : l[b + n + m]? = some x) (ho : x.op = 2 ∨ x.op = 3 ∨ x.op = 4) : SegOK l b (n + m + 1) R N := by
  have e1 := h.fin
  have e2 := h'.fin
  refine ⟨by rw [show b + (n + m + 1) = b + n + m + 1 by omega, hAt_step hx, eff_2 ho]; omega, fun j y h1 h2 hy => ?_, fun j y h1 h2 hy hg => ?_, fun j y h1 h2 hy => ?_⟩ <;> by_cases hj : j = b + n + m
  · subst hj
    rw [hx] at hy; cases Option.some.inj hy
    rw [tk_2 ho]; omega
  · by_cases hj2 : j < b + n
    · exact h.tk j y h1 hj2 hy
    · have := h'.tk j y (by omega) (by omega) hy
      omega
  · subst hj
    rw [hx] at hy; cases Option.some.inj hy
    rcases hg with hg | hg <;> omega
  · by_cases hj2 : j < b + n
    · exact h.to j y h1 hj2 hy hg
    · exact h'.to j y (by omega) (by omega) hy hg
  · subst hj
    rw [hx] at hy; cases Option.some.inj hy
    exact ins_234 ho _ _ _
  · by_cases hj2 : j < b + n
    · exact h.ins j y h1 hj2 hy
    · exact h'.ins j y (by omega) (by omega) hy
theorem opK_234 {k : Int} (h : k = 6 ∨ k = 7 ∨ k = 8) : opK k = 2 ∨ opK k = 3 ∨ opK k = 4 := by
  unfold opK
  rcases h with rfl | rfl | rfl <;> simp
theorem nms_kid {e k : Ex} (hk : k ∈ e.kids) {x : List UInt8} (hx : x ∈ nms k) : x ∈ nms e := by
  rw [nms_eq, List.mem_append]
  right
  unfold nmsL
  exact List.mem_flatten.2 ⟨nms k, List.mem_map.2 ⟨k, hk, rfl⟩, hx⟩
theorem nms_own {e : Ex} (h : e.kind = 10) : e.name ∈ nms e := by rw [nms_eq, if_pos h]; simp
theorem seg_ok {num : List UInt8 → Int} {R N : Nat} {l : List In} : ∀ (M : Nat) (e : Ex), SizeOf.sizeOf e ≤ M → OKE e → (∀ x ∈ nms e, 0 ≤ num x ∧ num x < R) → ∀ b, SegAt l b (codeE num e b) → b + (codeE num e b).length ≤ N → SegOK l b (codeE num e b).length R N
  | 0, e, hM, _, _, _, _, _ => by cases e; simp at hM
  | M + 1, e, hM, h, hn, b, hs, hN => by
    have ih : ∀ k ∈ e.kids, ∀ b', SegAt l b' (codeE num k b') → b' + (codeE num k b').length ≤ N → SegOK l b' (codeE num k b').length R N := fun k hk b' => seg_ok M k (by have := kid_lt hk; omega) (h.kid hk) (fun x hx => hn x (nms_kid hk hx)) b'
    have hr := h.kinds.2.2.2.1
    cases hstd : stdE e with
    | true =>
      rw [code_std hstd] at hs ⊢
      exact SegOK.one hs.one (.inl rfl) (ins_1 rfl (risL_rs _) _ _ _)
    | false =>
      rcases code_kinds h hstd with ⟨q, k, hk⟩ | ⟨q, k, hk⟩ | ⟨q, k, hk⟩ | q | ⟨q, k, m, hk⟩
      · have hm : k ∈ e.kids := by rw [hk]; simp
        have h1 := (code_len num _ k (Nat.le_refl _) (h.kid hm) (b + 1)).1
        unfold rangeP at hr
        rw [if_neg (by omega), if_pos q] at hr
        have hr' := of_decide_eq_true hr
        rw [code_week q (by rw [hk]; rfl)] at hs hN ⊢
        rw [List.length_cons] at hN ⊢
        refine SegOK.guard hs.one (.inl rfl) rfl (ins_6 rfl ⟨?_, ?_⟩ ⟨hr'.1, ?_⟩ _) (ih k hm (b + 1) hs.tail (by omega))
        · show (b : Int) + 2 ≤ ((b + 1 + _ : Nat) : Int); omega
        · show ((b + 1 + _ : Nat) : Int) ≤ _; omega
        · show e.a ≤ 127; omega
      · have hm : k ∈ e.kids := by rw [hk]; simp
        have h1 := (code_len num _ k (Nat.le_refl _) (h.kid hm) (b + 1)).1
        unfold rangeP at hr
        rw [if_neg (by omega), if_neg (by omega), if_pos q] at hr
        have hr' := of_decide_eq_true hr
        rw [code_dates q (by rw [hk]; rfl)] at hs hN ⊢
        rw [List.length_cons] at hN ⊢
        refine SegOK.guard hs.one (.inr rfl) rfl (ins_7 rfl ⟨?_, ?_⟩ hr' _) (ih k hm (b + 1) hs.tail (by omega))
        · show (b : Int) + 2 ≤ ((b + 1 + _ : Nat) : Int); omega
        · show ((b + 1 + _ : Nat) : Int) ≤ _; omega
      · have hm : k ∈ e.kids := by rw [hk]; simp
        unfold rangeP at hr
        rw [if_neg (by omega), if_neg (by omega), if_neg (by omega), if_pos q] at hr
        have hr' := of_decide_eq_true hr
        rw [code_shift hstd q hk] at hs hN ⊢
        rw [List.length_append, List.length_singleton] at hN ⊢
        exact SegOK.shift (ih k hm b hs.left (by omega)) hs.right.one rfl (ins_5 rfl ⟨hr'.1, by show -1439 ≤ e.a; omega, by show e.a ≤ 1439; omega⟩ _ _ _)
      · rw [code_name q] at hs ⊢
        exact SegOK.one hs.one (.inr rfl) (ins_8 rfl (hn _ (nms_own q)) _ _)
      · have hm : k ∈ e.kids := by rw [hk]; simp
        have hm' : m ∈ e.kids := by rw [hk]; simp
        rw [code_pair hstd q hk] at hs hN ⊢
        rw [List.length_append, List.length_append, List.length_singleton] at hN ⊢
        have hs1 := hs.right.one
        rw [List.length_append, ← Nat.add_assoc] at hs1
        exact SegOK.pair (ih k hm b hs.left.left (by omega)) (ih m hm' _ hs.left.right (by omega)) hs1 (opK_234 q)
theorem code_well {num : List UInt8 → Int} {R : Nat} {e : Ex} (h : OKE e) (hn : ∀ x ∈ nms e, 0 ≤ num x ∧ num x < R) : WellV (codeE num e 0) ∧ ∀ j x, (codeE num e 0)[j]? = some x → insE x j (codeE num e 0).length R = 0 := by
  have hs : SegAt (codeE num e 0) 0 (codeE num e 0) := fun j _ => by rw [Nat.zero_add]
  have q := seg_ok (N := (codeE num e 0).length) (R := R) _ e (Nat.le_refl _) h hn 0 hs (by omega)
  have lt : ∀ {j : Nat} {x : In}, (codeE num e 0)[j]? = some x → j < 0 + (codeE num e 0).length := fun hj => by
    have := (List.getElem?_eq_some_iff.1 hj).1
    omega
  refine ⟨⟨fun j x hx => ?_, fun j x hx hg => q.to j x (Nat.zero_le _) (lt hx) hx hg, ?_⟩, fun j x hx => q.ins j x (Nat.zero_le _) (lt hx) hx⟩
  · have := q.tk j x (Nat.zero_le _) (lt hx) hx
    simpa [hAt] using this
  · have := q.fin
    simpa [hAt] using this
end Go.Proofs.YtpmobjgnmidolaaGreatDoor

/- How high code grows and how many steps it takes, plainly: as measure reckons it. -/
namespace Go.Proofs.YtpmobjgnmidolaaGreatDoor
open Go.RowKit Lx Vx Msk
theorem mxH_congr {cs cs' : List Cd} {l : List In} : ∀ (j : Nat), (∀ j' x, j' < j → l[j']? = some x → x.op = 8 → (cs.getD x.a.toNat cd0).high = (cs'.getD x.a.toNat cd0).high) → j ≤ l.length → mxH cs l j = mxH cs' l j
  | 0, _, _ => rfl
  | j + 1, h, hj => by
    have ih := mxH_congr (cs := cs) (cs' := cs') (l := l) j (fun j' x h1 => h j' x (by omega)) (by omega)
    have hx : l[j]? = some l[j] := List.getElem?_eq_getElem (by omega)
    rw [mxH_step hx, mxH_step hx, ih]
    by_cases ho : (l[j]).op = 8
    · rw [if_pos ho, if_pos ho, h j _ (by omega) hx ho]
    · rw [if_neg ho, if_neg ho]
theorem stS_congr {cs cs' : List Cd} {l : List In} : ∀ (j : Nat), (∀ j' x, j' < j → l[j']? = some x → x.op = 8 → (cs.getD x.a.toNat cd0).steps = (cs'.getD x.a.toNat cd0).steps) → j ≤ l.length → stS cs l j = stS cs' l j
  | 0, _, _ => rfl
  | j + 1, h, hj => by
    have ih := stS_congr (cs := cs) (cs' := cs') (l := l) j (fun j' x h1 => h j' x (by omega)) (by omega)
    have hx : l[j]? = some l[j] := List.getElem?_eq_getElem (by omega)
    rw [stS_step hx, stS_step hx, ih]
    by_cases ho : (l[j]).op = 8
    · rw [if_pos ho, if_pos ho, h j _ (by omega) hx ho]
    · rw [if_neg ho, if_neg ho]
def withM (C : List (List In)) (m : Nat → Int × Int) : List Cd := (List.range C.length).map fun k => ⟨C.getD k [], (m k).1, (m k).2⟩
theorem withM_len (C : List (List In)) (m : Nat → Int × Int) : (withM C m).length = C.length := by simp [withM]
theorem withM_at {C : List (List In)} {m : Nat → Int × Int} {k : Nat} (h : k < C.length) : (withM C m).getD k cd0 = ⟨C.getD k [], (m k).1, (m k).2⟩ := by
  have : (withM C m)[k]? = some ⟨C.getD k [], (m k).1, (m k).2⟩ := by
    unfold withM
    rw [List.getElem?_map, List.getElem?_range h]
    rfl
  simp [List.getD, this]
def reck (C : List (List In)) (m : Nat → Int × Int) (i : Nat) : Int × Int := (min (mxH (withM C m) (C.getD i []) (C.getD i []).length) 101, min (stS (withM C m) (C.getD i []) (C.getD i []).length) 20001)
def meaF (C : List (List In)) : Nat → Nat → Int × Int
  | 0, _ => (0, 0)
  | f + 1, i => reck C (meaF C f) i
structure Ranked (C : List (List In)) (ρ : Nat → Nat) : Prop where
  lt : ∀ (i j : Nat) (x : In), i < C.length → (C.getD i [])[j]? = some x → x.op = 8 → 0 ≤ x.a ∧ x.a.toNat < C.length ∧ ρ x.a.toNat < ρ i
theorem reck_congr {C : List (List In)} {ρ : Nat → Nat} (h : Ranked C ρ) {m m' : Nat → Int × Int} {i : Nat} (hi : i < C.length) (hm : ∀ k, k < C.length → ρ k < ρ i → m k = m' k) : reck C m i = reck C m' i := by
  have key : ∀ j' x, j' < (C.getD i []).length → (C.getD i [])[j']? = some x → x.op = 8 → (withM C m).getD x.a.toNat cd0 = (withM C m').getD x.a.toNat cd0 := fun j' x _ hx ho => by
    obtain ⟨_, h2, h3⟩ := h.lt i j' x hi hx ho
    rw [withM_at h2, withM_at h2, hm _ h2 h3]
  have e1 : mxH (withM C m) (C.getD i []) (C.getD i []).length = mxH (withM C m') (C.getD i []) (C.getD i []).length := mxH_congr _ (fun j' x h1 h2 h3 => by rw [key j' x h1 h2 h3]) (Nat.le_refl _)
  have e2 : stS (withM C m) (C.getD i []) (C.getD i []).length = stS (withM C m') (C.getD i []) (C.getD i []).length := stS_congr _ (fun j' x h1 h2 h3 => by rw [key j' x h1 h2 h3]) (Nat.le_refl _)
  unfold reck
  rw [e1, e2]
theorem meaF_fuel {C : List (List In)} {ρ : Nat → Nat} (h : Ranked C ρ) : ∀ (f f' i : Nat), i < C.length → ρ i < f → ρ i < f' → meaF C f i = meaF C f' i
  | 0, _, _, _, h1, _ => by omega
  | _ + 1, 0, _, _, _, h2 => by omega
  | f + 1, f' + 1, i, hi, h1, h2 => by
    unfold meaF
    exact reck_congr h hi fun k hk hr => meaF_fuel h f f' k hk (by omega) (by omega)
theorem meaF_eq {C : List (List In)} {ρ : Nat → Nat} (h : Ranked C ρ) {N : Nat} (hN : ∀ i, i < C.length → ρ i ≤ N) {i : Nat} (hi : i < C.length) : meaF C (N + 1) i = reck C (meaF C (N + 1)) i := by
  conv => lhs; unfold meaF
  have h1 := hN i hi
  exact reck_congr h hi fun k hk hr => meaF_fuel h N (N + 1) k hk (by omega) (by have := hN k hk; omega)
theorem eff_bd (x : In) : -1 ≤ eff x ∧ eff x ≤ 1 := by
  unfold eff
  split
  · omega
  · split <;> omega
theorem hAt_bd (l : List In) : ∀ j : Nat, -(j : Int) ≤ hAt l j ∧ hAt l j ≤ (j : Int)
  | 0 => by simp [hAt]
  | j + 1 => by
    have ih := hAt_bd l j
    have e := eff_bd (l.getD j in0)
    simp only [hAt]
    omega
structure Small (cs : List Cd) : Prop where
  hi : ∀ k, 0 ≤ (cs.getD k cd0).high ∧ (cs.getD k cd0).high ≤ 101
  st : ∀ k, 0 ≤ (cs.getD k cd0).steps ∧ (cs.getD k cd0).steps ≤ 20001
theorem mxH_bd {cs : List Cd} (h : Small cs) (l : List In) : ∀ j : Nat, 0 ≤ mxH cs l j ∧ mxH cs l j ≤ (j : Int) + 101
  | 0 => by simp [mxH]
  | j + 1 => by
    have ih := mxH_bd h l j
    have e := hAt_bd l j
    have e' := hAt_bd l (j + 1)
    have q := h.hi (l.getD j in0).a.toNat
    simp only [mxH]
    split <;> omega
theorem stS_bd {cs : List Cd} (h : Small cs) (l : List In) : ∀ j : Nat, (j : Int) ≤ stS cs l j ∧ stS cs l j ≤ (j : Int) * 20002
  | 0 => by simp [stS]
  | j + 1 => by
    have ih := stS_bd h l j
    have q := h.st (l.getD j in0).a.toNat
    simp only [stS]
    split <;> omega
theorem withM_small {C : List (List In)} {m : Nat → Int × Int} (h : ∀ k, k < C.length → (0 ≤ (m k).1 ∧ (m k).1 ≤ 101) ∧ (0 ≤ (m k).2 ∧ (m k).2 ≤ 20001)) : Small (withM C m) := by
  constructor <;> intro k <;> by_cases hk : k < C.length
  · rw [withM_at hk]; exact (h k hk).1
  · have : (withM C m).getD k cd0 = cd0 := by
      have : (withM C m)[k]? = none := List.getElem?_eq_none (by rw [withM_len]; omega)
      simp [List.getD, this]
    rw [this]; simp [cd0]
  · rw [withM_at hk]; exact (h k hk).2
  · have : (withM C m).getD k cd0 = cd0 := by
      have : (withM C m)[k]? = none := List.getElem?_eq_none (by rw [withM_len]; omega)
      simp [List.getD, this]
    rw [this]; simp [cd0]
theorem reck_bd {C : List (List In)} {m : Nat → Int × Int} (h : Small (withM C m)) (i : Nat) : (0 ≤ (reck C m i).1 ∧ (reck C m i).1 ≤ 101) ∧ (0 ≤ (reck C m i).2 ∧ (reck C m i).2 ≤ 20001) ∧ (1 ≤ (C.getD i []).length → 1 ≤ (reck C m i).2) := by
  have a := mxH_bd h (C.getD i []) (C.getD i []).length
  have b := stS_bd h (C.getD i []) (C.getD i []).length
  refine ⟨⟨?_, ?_⟩, ⟨?_, ?_⟩, fun hl => ?_⟩ <;> simp only [reck] <;> omega
theorem meaF_bd (C : List (List In)) : ∀ (f i : Nat), (0 ≤ (meaF C f i).1 ∧ (meaF C f i).1 ≤ 101) ∧ (0 ≤ (meaF C f i).2 ∧ (meaF C f i).2 ≤ 20001)
  | 0, i => by simp [meaF]
  | f + 1, i => by
    have h := reck_bd (C := C) (withM_small (C := C) fun k _ => meaF_bd C f k) i
    exact ⟨h.1, h.2.1⟩
theorem meaF_small (C : List (List In)) (f : Nat) : Small (withM C (meaF C f)) := withM_small fun k _ => meaF_bd C f k
end Go.Proofs.YtpmobjgnmidolaaGreatDoor

/- What code.steady comes to. -/
namespace Go.Proofs.YtpmobjgnmidolaaGreatDoor
open Go.RowKit Lx Vx Msk
variable {B : Nat → Prop}
def OutS7 (e : Ex) (w : World) (r : Ending) (w' : World) : Prop := r = .returned (.bool (stdE e)) ∧ Below w.heap.size w w'
def KidsS (w : World) (sl : Value) (ks : List Ex) : Prop :=
  ∃ g o c : Nat, sl = .slice (some ⟨g, o, none⟩) ks.length c ∧ ks.length < 9223372036854775808 ∧ ∀ (j : Nat) (k : Ex), ks[j]? = some k → ∃ (p : Option Addr) (q : Nat),
    w.cell? ⟨g, o + j * 5, none⟩ = some (.int .i64 k.kind) ∧ w.cell? ⟨g, o + j * 5 + 1, none⟩ = some (.int .i64 k.a) ∧ w.cell? ⟨g, o + j * 5 + 2, none⟩ = some (.int .i64 k.b) ∧
    w.cell? ⟨g, o + j * 5 + 3, none⟩ = some (.string ⟨k.name.toArray⟩) ∧ w.cell? ⟨g, o + j * 5 + 4, none⟩ = some (.slice p k.kids.length q) ∧
    ∀ W : World, Below w.heap.size w W → Calls Tryz.prog 24 #[.agg #[.int .i64 k.kind, .int .i64 k.a, .int .i64 k.b, .string ⟨k.name.toArray⟩, .slice p k.kids.length q]] W (OutS7 k W)
theorem all_step {ks : List Ex} {j : Nat} {k : Ex} (h : ks[j]? = some k) : (ks.drop j).all stdE = (stdE k && (ks.drop (j + 1)).all stdE) := by
  obtain ⟨h1, h2⟩ := List.getElem?_eq_some_iff.1 h
  rw [List.drop_eq_getElem_cons h1, h2]
  rfl
set_option maxRecDepth 100000 in
set_option maxHeartbeats 2000000 in
theorem steady_step (e : Ex) (p : Option Addr) (c : Nat) (w : World) (hk : e.kids = [] ∨ KidsS w (.slice p e.kids.length c) e.kids) (hlen : e.kids.length < 9223372036854775808) :
    Calls Tryz.prog 24 #[.agg #[.int .i64 e.kind, .int .i64 e.a, .int .i64 e.b, .string ⟨e.name.toArray⟩, .slice p e.kids.length c]] w (OutS7 e w) := by
  have hbA := (Below.refl w.heap.size w).alloc (Nat.le_refl _) (.cells #[.int .i64 e.kind, .int .i64 e.a, .int .i64 e.b, .string ⟨e.name.toArray⟩, .slice p e.kids.length c] 36)
  have hxA := heap_alloc_new w (.cells #[.int .i64 e.kind, .int .i64 e.a, .int .i64 e.b, .string ⟨e.name.toArray⟩, .slice p e.kids.length c] 36)
  generalize hwA : w.alloc (.cells #[.int .i64 e.kind, .int .i64 e.a, .int .i64 e.b, .string ⟨e.name.toArray⟩, .slice p e.kids.length c] 36) = wA at *
  have z0 := (cell_of_row _ _ 0 _ _ _ hxA).trans rfl
  have z4 := (cell_of_row _ _ 4 _ _ _ hxA).trans rfl
  generalize hX : stdE e = X
  have HX : Hid (stdE e = X) := hX
  unfold OutS7
  rw [hX]
  clear hX
  by_cases k4 : e.kind = 4
  · have HE : Hid (X = false) := by
      show _ = _
      rw [← HX.out]
      cases hs : stdE e with
      | false => rfl
      | true => exact absurd k4 (stdE_kind hs).1
    have e4 : (e.kind == 4) = true := by simp [k4]
    clear hk HX k4
    go_enter Tryz.func24, Tryz.ntmps24
    go_wp2_with fail
    go_ret
    rw [HE.out]
    exact ⟨rfl, hbA⟩
  have e4 : (e.kind == 4) = false := by simpa using k4
  by_cases k5 : e.kind = 5
  · have HE : Hid (X = false) := by
      show _ = _
      rw [← HX.out]
      cases hs : stdE e with
      | false => rfl
      | true => exact absurd k5 (stdE_kind hs).2.1
    have e5 : (e.kind == 5) = true := by simp [k5]
    clear hk HX k4 k5
    go_enter Tryz.func24, Tryz.ntmps24
    go_wp2_with fail
    go_ret
    rw [HE.out]
    exact ⟨rfl, hbA⟩
  have e5 : (e.kind == 5) = false := by simpa using k5
  by_cases k10 : e.kind = 10
  · have HE : Hid (X = false) := by
      show _ = _
      rw [← HX.out]
      cases hs : stdE e with
      | false => rfl
      | true => exact absurd k10 (stdE_kind hs).2.2
    have e10 : (e.kind == 10) = true := by simp [k10]
    clear hk HX k4 k5 k10
    go_enter Tryz.func24, Tryz.ntmps24
    go_wp2_with fail
    go_ret
    rw [HE.out]
    exact ⟨rfl, hbA⟩
  have e10 : (e.kind == 10) = false := by simpa using k10
  have HS : Hid ((e.kids.drop 0).all stdE = X) := by
    show _ = _
    rw [← HX.out, stdE_eq, List.drop_zero]
    simp [k4, k5, k10]
  clear HX k4 k5 k10
  go_enter Tryz.func24, Tryz.ntmps24
  go_wp2_with fail
  go_loopw [4, 14] (fun _ t wr => ∃ j : Nat, t = .int .i64 (j : Int) ∧ j ≤ e.kids.length ∧ (e.kids.drop j).all stdE = X ∧ Below w.heap.size w wr) (fun _ t _ => e.kids.length - (intOf t).toNat)
  case atStart => exact ⟨0, rfl, by omega, HS.out, hbA⟩
  case round =>
    obtain ⟨j, rfl, hj, hXr, hb⟩ := hrel
    clear HS z0 z4 hxA hbA hwA e4 e5 e10
    have hj0 : (0 : Int) ≤ (j : Int) := by omega
    by_cases hlt : j < e.kids.length
    · have hlt' : (j : Int) < (e.kids.length : Int) := by omega
      obtain ⟨k, hjk⟩ : ∃ k, e.kids[j]? = some k := ⟨e.kids[j], List.getElem?_eq_getElem hlt⟩
      rw [all_step hjk] at hXr
      have hks : e.kids ≠ [] := fun h => by rw [h] at hlt; simp at hlt
      obtain ⟨g, o, c', hsl, _, hkid⟩ := hk.resolve_left hks
      obtain ⟨pk, ck, d0, d1, d2, d3, d4, ihk⟩ := hkid j k hjk
      have f0 := (hb.cell (block_lt_of_cell d0)).trans d0
      have f1 := (hb.cell (block_lt_of_cell d1)).trans d1
      have f2 := (hb.cell (block_lt_of_cell d2)).trans d2
      have f3 := (hb.cell (block_lt_of_cell d3)).trans d3
      have f4 := (hb.cell (block_lt_of_cell d4)).trans d4
      have hbB := (Below.refl wr.heap.size wr).alloc (Nat.le_refl _) (.cells #[.int .i64 k.kind, .int .i64 k.a, .int .i64 k.b, .string ⟨k.name.toArray⟩, .slice pk k.kids.length ck] 36)
      have hxB := heap_alloc_new wr (.cells #[.int .i64 k.kind, .int .i64 k.a, .int .i64 k.b, .string ⟨k.name.toArray⟩, .slice pk k.kids.length ck] 36)
      have hb2 := hb.trans (hbB.mono hb.size)
      have cR := ihk _ hb2
      injection hsl with e1 e2 e3
      subst e1
      subst e3
      clear d0 d1 d2 d3 d4 ihk hkid hks hjk hbB
      have HXr : Hid ((stdE k && (e.kids.drop (j + 1)).all stdE) = X) := hXr
      unfold OutS7 at cR
      clear hXr
      generalize stdE k = y at *
      generalize hwB : wr.alloc (.cells #[.int .i64 k.kind, .int .i64 k.a, .int .i64 k.b, .string ⟨k.name.toArray⟩, .slice pk k.kids.length ck] 36) = wB at *
      go_wp2_with (refine wpList_load_row rfl 36 _ rfl _ rfl _ _ _ _ hxB exprType rfl (by kernel_rfl) ?_)
      refine cR.mono ?_
      rintro r w3 ⟨rfl, b3⟩
      have hb3 := hb2.trans (b3.mono hb2.size)
      clear cR hxB hwB f0 f1 f2 f3 f4 b3 hb2
      cases y with
      | false =>
        have HE : Hid (X = false) := by show _ = _; rw [← HXr.out]; rfl
        clear HXr
        go_wp2_with fail
        go_ret
        rw [HE.out]
        exact ⟨rfl, hb3⟩
      | true =>
        go_wp2_with fail
        go_roundw
        case rel => exact ⟨j + 1, by go_num, by omega, by rw [← HXr.out]; rfl, hb3⟩
        case measure => simp [intOf]; omega
    · have hlt' : ¬ (j : Int) < (e.kids.length : Int) := by omega
      have HE : Hid (X = true) := by show _ = _; rw [← hXr, List.drop_eq_nil_of_le (by omega)]; rfl
      clear hXr
      go_wp2_with fail
      go_ret
      rw [HE.out]
      exact ⟨rfl, hb⟩
theorem steady_any : ∀ (d : Nat) (e : Ex) (sl : Value) (w : World), KidsB B d w sl e.kids → Calls Tryz.prog 24 #[exV e sl] w (OutS7 e w) := by
  intro d
  induction d with
  | zero =>
    intro e sl w hk
    obtain ⟨p, c, rfl⟩ := hk.form
    exact steady_step e p c w (.inl hk.1) (by rw [hk.1]; decide)
  | succ d ih =>
    intro e sl w hk
    obtain ⟨p, c, hsl⟩ := hk.form
    subst hsl
    rcases hk with ⟨h, _⟩ | ⟨g, o, c', hg, hs, hl, hkid⟩
    · exact steady_step e p c w (.inl h) (by rw [h]; decide)
    · refine steady_step e p c w (.inr ⟨g, o, c', hs, hl, fun j k hj => ?_⟩) hl
      obtain ⟨hn', sk, c0, c1, c2, c3, c4, r⟩ := hkid j k hj
      obtain ⟨p', q', rfl⟩ := r.form
      exact ⟨p', q', c0, c1, c2, c3, c4, fun W hb => ih k _ W (r.kept fun g' _ hl' => hb.block g' hl')⟩
end Go.Proofs.YtpmobjgnmidolaaGreatDoor
