/- The document's Mean, kind by kind. Written by genrm.py. -/
import Derived.Test.YtpmobjgnmidolaaDoorDt23
import Derived.Test.YtpmobjgnmidolaaDoorDt03
namespace Go.Proofs.YtpmobjgnmidolaaDoor
open Go.RowKit Lx Msk
set_option maxRecDepth 100000 in
set_option maxHeartbeats 4000000 in
theorem rmean_6 {w:World}{a b day:Int}{nm:List UInt8}{pe pv pk pm:Option Addr}{ks:List Ex}{ce n cv nk ck nq cq:Nat}{ok:Ex→Bool}{F:Ex→Nat→Bool}(hlk:ks.length≤2)(hkk:RKids w (.slice pv n cv) day (.slice pk nk ck) (.slice pm nq cq) pe ks ok F)(k0:Ex)(h0:ks[0]? =some k0)(k1:Ex)(h1:ks[1]? =some k1):
  Calls Tryd.prog 73 #[.agg #[.int .i64 6,.int .i64 a,.int .i64 b,.string ⟨nm.toArray⟩,.slice pe ks.length ce],.slice pv n cv,.int .i64 day,.slice pk nk ck,.slice pm nq cq] w (OutMn (ks.all ok) (fun i=>(F k0 i||F k1 i)&&decide (i<1440)) w):=by
 have hz:=mv_lit;have HK:=hid5 hkk;have bA:Below w.heap.size w ((w.alloc (.cells #[.int .i64 6,.int .i64 a,.int .i64 b,.string ⟨nm.toArray⟩,.slice pe ks.length ce] 50)).alloc (.cells (mv fun _=>false) 37)):=((Below.refl _ _).alloc (Nat.le_refl _) _).alloc (by simp) _;have nE:((w.alloc (.cells #[.int .i64 6,.int .i64 a,.int .i64 b,.string ⟨nm.toArray⟩,.slice pe ks.length ce] 50)).alloc (.cells (mv fun _=>false) 37)).heap[w.heap.size]? =some (.cells #[.int .i64 6,.int .i64 a,.int .i64 b,.string ⟨nm.toArray⟩,.slice pe ks.length ce] 50 (0,0)):=by (repeat (first | refine blk_old _ _ _ (by simp only [size_alloc]; omega) ?_ | exact blk_new _ _ _ (by first | rfl | simp only [size_alloc])))
 have nR:((w.alloc (.cells #[.int .i64 6,.int .i64 a,.int .i64 b,.string ⟨nm.toArray⟩,.slice pe ks.length ce] 50)).alloc (.cells (mv fun _=>false) 37)).heap[w.heap.size+1]? =some (.cells (mv fun _=>false) 37 (0,0)):=by (repeat (first | refine blk_old _ _ _ (by simp only [size_alloc]; omega) ?_ | exact blk_new _ _ _ (by first | rfl | simp only [size_alloc])))
 have sA:((w.alloc (.cells #[.int .i64 6,.int .i64 a,.int .i64 b,.string ⟨nm.toArray⟩,.slice pe ks.length ce] 50)).alloc (.cells (mv fun _=>false) 37)).heap.size=w.heap.size+1+1:=by simp
 generalize hwA:(w.alloc (.cells #[.int .i64 6,.int .i64 a,.int .i64 b,.string ⟨nm.toArray⟩,.slice pe ks.length ce] 50)).alloc (.cells (mv fun _=>false) 37)=wA at*;have k4:=(cell_of_row _ _ 4 _ _ _ nE).trans rfl;have hlkI:(ks.length:Int)≤2:=by omega
 have HsA:=hid5 sA;obtain⟨i0,hi,hzz⟩:=Option.map_eq_some_iff.1 maskInfo6;simp only[Prod.mk.injEq]at hzz;obtain⟨hz0,hz1,hz2⟩:=hzz;have Hzi:=hid5 hz0;clear hkk sA hz0;go_enter Tryd.func73,Tryd.ntmps73;go_wp2_with fail;clear k4 hwA;go_loopw [12,14,15,16,22] (fun q _ _ _ t wr=>RmRel wA ks ok F q t wr) (fun _ _ _ _ t _=>ks.length-(intOf t).toNat);case atStart=>exact⟨0,rfl,by omega,rfl,World.ownsRow_nil _ _ _ _,Below.refl _ _⟩
 case round=>
  obtain⟨j,rfl,hj,hall,hown,hbr⟩:=hrel;have hj0:(0:Int)≤(j:Int):=(by omega);by_cases hlt:j<ks.length
  ·have hlt':(j:Int)<(ks.length:Int):=(by omega);obtain⟨k,hjk⟩: ∃k,ks[j]? =some k:=⟨ks[j],List.getElem?_eq_getElem hlt⟩
   obtain⟨g,o,ps,cs,hpe,c0,c1,c2,c3,c4,cK⟩:=HK.out j k hjk;subst hpe;have hbw:=bA.trans (hbr.mono bA.size);have d0:=(hbw.cell (block_lt_of_cell c0)).trans c0;have d1:=(hbw.cell (block_lt_of_cell c1)).trans c1;have d2:=(hbw.cell (block_lt_of_cell c2)).trans c2;have d3:=(hbw.cell (block_lt_of_cell c3)).trans c3;have d4:=(hbw.cell (block_lt_of_cell c4)).trans c4;have hbA:=hbr.alloc hbr.size (.cells #[.int .i64 k.kind,.int .i64 k.a,.int .i64 k.b,.string ⟨k.name.toArray⟩,.slice ps k.kids.length cs] 50);have hxB:=heap_alloc_new wr (.cells #[.int .i64 k.kind,.int .i64 k.a,.int .i64 k.b,.string ⟨k.name.toArray⟩,.slice ps k.kids.length cs] 50);have ho1:=owns_keep (w':=wr.alloc (.cells #[.int .i64 k.kind,.int .i64 k.a,.int .i64 k.b,.string ⟨k.name.toArray⟩,.slice ps k.kids.length cs] 50)) hown fun b hb=>Below.heap_alloc _ _ _ (hown.lt b hb).2;have cR:=cK _ (bA.trans (hbA.mono bA.size));have HJ:=hid5 hjk;have Hall:=hid5 hall;clear c0 c1 c2 c3 c4 cK hjk hall hbr hbw hown;generalize hwB:wr.alloc (.cells #[.int .i64 k.kind,.int .i64 k.a,.int .i64 k.b,.string ⟨k.name.toArray⟩,.slice ps k.kids.length cs] 50)=wB at*;go_wp2_with(refine wpList_load_row rfl 50 _ rfl _ rfl _ _ _ _ hxB exprType5 rfl (by kernel_rfl) ?_)
   refine cR.mono ?_;rintro r w2 ⟨⟨f,rfl,hf⟩,hb2⟩;have hm2:=heap_alloc_new w2 (.cells (mv fun _=>false) 37);have hb3:=hbA.trans (hb2.mono hbA.size);have hb4:=hb3.alloc hb3.size (.cells (mv fun _=>false) 37);have ho2:=owns_below ho1 hb2;have ho3:=owns_keep (w':=(w2.alloc (.cells (mv fun _=>false) 37)).setRow w2.heap.size (mv f)) ho2 fun b hb=>(setRow_other _ _ _ _ (by have:=(ho2.lt b hb).2;omega)).trans (Below.heap_alloc _ _ _ (ho2.lt b hb).2);have hb5:=below_setRow hb4 hb3.size (mv f);have hm3:=setRow_heap _ _ _ (mv f) _ _ hm2;have s3:w2.heap.size<((w2.alloc (.cells (mv fun _=>false) 37)).setRow w2.heap.size (mv f)).heap.size:=lt_of_block hm3;clear cR hxB hwB d0 d1 d2 d3 d4 ho1 ho2 hb2 hbA hb4 hb3;generalize hw3:w2.alloc (.cells (mv fun _=>false) 37)=w3 at*;generalize hw4:w3.setRow w2.heap.size (mv f)=w4 at*;cases hok:ok k with
   |false=>
    have nR3:=(hb5.block _ (lt_of_block nR)).trans nR
    have HO:Hid (OutMn (ks.all ok) (fun i=>(F k0 i||F k1 i)&&decide (i<1440)) w (.returned (.tuple #[.agg (mv f),.bool false])) (w4.setRow (w.heap.size+1) (mv f))):=by
     refine⟨⟨f,?_,fun h=> ?_⟩,?_⟩
     ·rw[all_bad HJ.out hok]
     ·rw[all_bad HJ.out hok]at h;cases h
     ·exact below_setRow (bA.trans (hb5.mono bA.size)) (by omega) _
    clear HK Hall HJ hf ho3
    go_wp2_with(first
     |(refine wpList_store_row rfl 37 _ _ rfl _ _ rfl rfl _ _ hm2 (maskSize _) (by simp[mv_size]) (mv_all _) ?_)
     |(refine wpList_load_row rfl 37 _ rfl _ rfl _ _ _ _ hm3 maskType rfl (maskSize _) ?_)
     |(refine wpList_store_row rfl 37 _ _ rfl _ _ rfl rfl _ _ nR3 (maskSize _) (by simp[mv_size]) (mv_all _) ?_))
    exact rmean_post (w.heap.size+1) f false rfl rfl rfl (setRow_heap _ _ _ _ _ _ nR3) HO.out
   |true=>
    have ef:=hf hok;subst ef;have Hok:=hid5 hok;clear hf hok;have hb6:=hb5.alloc hb5.size (.cells (mv (F k)) 37);have hx6:=heap_alloc_new w4 (.cells (mv (F k)) 37);have ho6:=owns_keep (w':=w4.alloc (.cells (mv (F k)) 37)) ho3 fun b hb=>Below.heap_alloc _ _ _ (ho3.lt b hb).2;have s6:(w4.alloc (.cells (mv (F k)) 37)).heap.size=w4.heap.size+1:=(by simp);have Hs6:=hid5 s6;clear s6;clear ho3 hb5
    go_wp2_with(first
     |(refine wpList_store_row rfl 37 _ _ rfl _ _ rfl rfl _ _ hm2 (maskSize _) (by simp[mv_size]) (mv_all _) ?_)
     |(refine wpList_load_row rfl 37 _ rfl _ rfl _ _ _ _ hm3 maskType rfl (maskSize _) ?_)
     |(refine wpList_bslice_mask rfl _ rfl (F k) rfl ?_)
     |(at_builtin;refine wpList_append_own _ rfl _ _ 32 rfl wA.heap.size 37 i0 _ 23 184 masksType6 hi Hzi.out hz1 hz2 rfl (by decide) u12 j (mcl F (ks.take j)) rfl ho6 ⟨w4.heap.size,0,none⟩ 1 1 (mv (F k)).toList rfl (by rw[Array.length_toList,mv_size]) ?c1 ?c2 ?c3 ?c4 ?c5 ?_))
    case c1=>
     intro k' u' hk';rw[show(Addr.add ⟨w4.heap.size,0,none⟩ k')=⟨w4.heap.size,k',none⟩ by simp[Addr.add];exact fun h=>h.symm,cell_of_row _ _ _ _ _ _ hx6,←Array.getElem?_toList];exact hk'
    case c2=>exact fun u hu=>(Array.all_eq_true_iff_forall_mem.1 (mv_all (F k))) u (by simpa using hu)
    case c3=>unfold maxLen;omega
    case c4=>omega
    case c5=>have:=hb6.size;omega
    intro v' w7 hown' hgrow _;have hlo:=ho6.lt;have hb7:Below wA.heap.size wA w7:=hb6.grown hgrow hb6.size (fun q hq=>(hlo q hq).1)
    have HN:Hid (RmRel wA ks ok F v' (.int .i64 ((j+1:Nat):Int)) w7):=by
     refine⟨j+1,rfl,by omega,all_take HJ.out Hall.out Hok.out,?_,hb7⟩;rw[mcl_next HJ.out];exact hown'
    clear hown' hgrow ho6 hx6 hb6 hb7 hlo hm2 hm3 hw3 hw4 s3 Hall HJ Hok HK;go_wp2_with fail;go_roundw
    case rel=>first
     |exact HN.out
     |exact⟨_,_,_,_,_,HN.out,rfl,rfl,rfl,rfl,rfl⟩
    case measure=>simp[intOf];omega
  ·have ej:j=ks.length:=(by omega);have hlt': ¬(j:Int)<(ks.length:Int):=(by omega);subst ej;rw[List.take_length]at hall hown;have n5:=heap_alloc_new wr (.cells (mv fun _=>false) 37);have hb5:=below_setRow (hbr.alloc hbr.size (.cells (mv fun _=>false) 37)) hbr.size (mv fun _=>false);have n6:=setRow_heap _ _ _ (mv fun _=>false) _ _ n5;have ho6:=owns_keep (w':=(wr.alloc (.cells (mv fun _=>false) 37)).setRow wr.heap.size (mv fun _=>false)) hown fun b hb=>(setRow_other _ _ _ _ (by have:=(hown.lt b hb).2;omega)).trans (Below.heap_alloc _ _ _ (hown.lt b hb).2);have nE6:=(hb5.block _ (lt_of_block nE)).trans nE;have nR6:=(hb5.block _ (lt_of_block nR)).trans nR;have Hw6:=hid5 (bA.trans (hb5.mono bA.size));generalize hw5:wr.alloc (.cells (mv fun _=>false) 37)=w5 at*;generalize hw6:w5.setRow wr.heap.size (mv fun _=>false)=w6 at*;have zk:=(cell_of_row _ _ 0 _ _ _ nE6).trans rfl;have Hall:=hid5 hall;clear hown hbr HK hall nE nR hb5 hlt hlt' hj;obtain⟨p,c,hu,_,hrow⟩:=(own_range ho6 rfl).resolve_right (by omega);rw[List.length_map]at hu;obtain⟨g,o,hp,hr0⟩:=hrow 0 (F k0) (by rw[List.getElem?_map,h0];rfl);subst hu hp;rw[Nat.zero_mul,Nat.add_zero]at hr0;have hpN:0<ks.length:=(List.getElem?_eq_some_iff.1 h0).1;have hpos:(0:Int)<(ks.length:Int):=(by omega);obtain⟨g',o',hp',hr1⟩:=hrow 1 (F k1) (by rw[List.getElem?_map,h1];rfl);cases hp';rw[Nat.one_mul]at hr1;have hpN1:1<ks.length:=(List.getElem?_eq_some_iff.1 h1).1;have hpos1:(1:Int)<(ks.length:Int):=(by omega);have HR0:=hid5 hr0;have HR1:=hid5 hr1;clear hrow ho6 hr0 hr1 nE6;have HO:Hid (∀(f:Nat→Bool) (W:World),f=(fun i=>(F k0 i||F k1 i)&&decide (i<1440))→Below w.heap.size w W→OutMn (ks.all ok) ((fun i=>(F k0 i||F k1 i)&&decide (i<1440))) w (.returned (.tuple #[.agg (mv f),.bool true])) W):=fun f W hf hW=>⟨⟨f,by rw[Hall.out],fun _=>hf⟩,hW⟩
   go_wp2_with(refine wpList_store_row rfl 37 _ _ rfl _ _ rfl rfl _ _ n5 (maskSize _) (by simp[mv_size]) (mv_all _) ?_)
   clear n5 n6 hw5 hw6 zk;refine wp_region_JL (JJ 7 (Below w6.heap.size w6) (fun W=>Below w.heap.size w W∧W.heap[w.heap.size+1]? =some (.cells (mv (fun i=>(F k0 i||F k1 i)&&decide (i<1440))) 37 (0,0)))) (fun L hL=>JJ.start (by simp) (Below.refl _ _).drew hL) (by kernel_rfl) (by kernel_rfl) (by kernel_rfl) (by kernel_rfl) [(some 84,.slice (some ⟨g,o,none⟩) ks.length c),(some 85,.pointer (some ⟨g,o,none⟩)),(some 86,.agg (mv (F k0))),(some 87,.slice (some ⟨g,o,none⟩) ks.length c),(some 88,.pointer (some ⟨g,o+23,none⟩)),(some 89,.agg (mv (F k1))),(some 90,.agg (mv (fun i=>(F k0 i||F k1 i)&&decide (i<1440)))),(none,undef),(some 11,.bool true)] [(84,.slice (some ⟨g,o,none⟩) ks.length c),(85,.pointer (some ⟨g,o,none⟩)),(86,.agg (mv (F k0))),(87,.slice (some ⟨g,o,none⟩) ks.length c),(88,.pointer (some ⟨g,o+23,none⟩)),(89,.agg (mv (F k1))),(90,.agg (mv (fun i=>(F k0 i||F k1 i)&&decide (i<1440)))),(11,.bool true)] (by kernel_rfl) (by kernel_rfl) (by kernel_rfl) ?_ ?_
   ·intro i' d v o' L A W2 ho hv hLi hdep hc hJ hkept hhas;match i',ho,hv,hLi with
    |0,ho,hv,hLi=>
     cases Option.some.inj ho;cases Option.some.inj hv;have hLm:=clos_lt (m:=7) (by kernel_rfl) (by simp) hc (by decide) hLi;have hJb:=hJ.1 hLm;have h12:A.tmps[12]?.getD undef= .slice (some ⟨g,o,none⟩) ks.length c:=(gd A 12).trans (hkept 12 (by kernel_rfl));refine wpOp_step rfl (fun K hK=> ?_);go_simp;exact hK _ _ ⟨rfl,hJ.keep (by decide)⟩
    |1,ho,hv,hLi=>
     cases Option.some.inj ho;cases Option.some.inj hv;have hLm:=clos_lt (m:=7) (by kernel_rfl) (by simp) hc (by decide) hLi;have hJb:=hJ.1 hLm;have h84:A.tmps[84]?.getD undef= .slice (some ⟨g,o,none⟩) ks.length c:=(gd A 84).trans (hhas 0 84 _ rfl (hdep ⟨0,.data⟩ (by simp) rfl));refine wpOp_step rfl (fun K hK=> ?_);go_simp;exact hK _ _ ⟨rfl,hJ.keep (by decide)⟩
    |2,ho,hv,hLi=>
     cases Option.some.inj ho;cases Option.some.inj hv;have hLm:=clos_lt (m:=7) (by kernel_rfl) (by simp) hc (by decide) hLi;have hJb:=hJ.1 hLm;have h85:A.eval (.tmp 85)= .pointer (some ⟨g,o,none⟩):=hhas 1 85 _ rfl (hdep ⟨1,.data⟩ (by simp) rfl);refine wpOp_step rfl (fun K hK=> ?_);show Oper.wp _ _ _ _ _ _;refine wp_load_mask _ rfl g (o) h85 (F k0) (range_later HR0.out hJb) ?_;exact hK _ _ ⟨rfl,hJ.keep (by decide)⟩
    |3,ho,hv,hLi=>
     cases Option.some.inj ho;cases Option.some.inj hv;have hLm:=clos_lt (m:=7) (by kernel_rfl) (by simp) hc (by decide) hLi;have hJb:=hJ.1 hLm;have h12:A.tmps[12]?.getD undef= .slice (some ⟨g,o,none⟩) ks.length c:=(gd A 12).trans (hkept 12 (by kernel_rfl));refine wpOp_step rfl (fun K hK=> ?_);go_simp;exact hK _ _ ⟨rfl,hJ.keep (by decide)⟩
    |4,ho,hv,hLi=>
     cases Option.some.inj ho;cases Option.some.inj hv;have hLm:=clos_lt (m:=7) (by kernel_rfl) (by simp) hc (by decide) hLi;have hJb:=hJ.1 hLm;have h87:A.tmps[87]?.getD undef= .slice (some ⟨g,o,none⟩) ks.length c:=(gd A 87).trans (hhas 3 87 _ rfl (hdep ⟨3,.data⟩ (by simp) rfl));refine wpOp_step rfl (fun K hK=> ?_);go_simp;exact hK _ _ ⟨rfl,hJ.keep (by decide)⟩
    |5,ho,hv,hLi=>
     cases Option.some.inj ho;cases Option.some.inj hv;have hLm:=clos_lt (m:=7) (by kernel_rfl) (by simp) hc (by decide) hLi;have hJb:=hJ.1 hLm;have h88:A.eval (.tmp 88)= .pointer (some ⟨g,o+23,none⟩):=hhas 4 88 _ rfl (hdep ⟨4,.data⟩ (by simp) rfl);refine wpOp_step rfl (fun K hK=> ?_);show Oper.wp _ _ _ _ _ _;refine wp_load_mask _ rfl g (o+23) h88 (F k1) (range_later HR1.out hJb) ?_;exact hK _ _ ⟨rfl,hJ.keep (by decide)⟩
    |6,ho,hv,hLi=>
     cases Option.some.inj ho;cases Option.some.inj hv;have hLm:=clos_lt (m:=7) (by kernel_rfl) (by simp) hc (by decide) hLi;have hJb:=hJ.1 hLm;have h86:A.tmps[86]?.getD undef= .agg (mv (F k0)):=(gd A 86).trans (hhas 2 86 _ rfl (hdep ⟨2,.data⟩ (by simp) rfl));have h89:A.tmps[89]?.getD undef= .agg (mv (F k1)):=(gd A 89).trans (hhas 5 89 _ rfl (hdep ⟨5,.data⟩ (by simp) rfl));refine wpOp_step rfl (fun K hK=> ?_);go_simp;refine(union_ref (F k0) (F k1) W2).mono ?_;rintro e' W' ⟨rfl,hb'⟩;exact hK _ _ ⟨rfl,JJ.low (by decide) hLm (hJb.trans (hb'.mono hJb.size))⟩
    |7,ho,hv,hLi=>
     cases Option.some.inj ho;cases Option.some.inj hv;have hJb:=hJ.1 hLi;have hx:A.eval (.tmp 10)= .pointer (some ⟨w.heap.size+1,0,none⟩):=hkept 10 (by kernel_rfl);have hy:A.eval (.tmp 90)= .agg (mv (fun i=>(F k0 i||F k1 i)&&decide (i<1440))):=hhas 6 90 _ rfl (hdep ⟨6,.data⟩ (by simp) rfl);have n2:=(hJb.block _ (lt_of_block nR6)).trans nR6;refine wpOp_step rfl (fun K hK=> ?_);show Oper.wp _ _ _ _ _ _;refine wp_store_row 37 _ _ rfl _ _ hx hy _ _ n2 (maskSize _) (by simp[mv_size]) (mv_all _) ?_;exact hK _ _ ⟨rfl,JJ.done ⟨below_setRow (Hw6.out.trans (hJb.mono Hw6.out.size)) (show w.heap.size≤w.heap.size+1 by omega) _,setRow_heap _ _ _ _ _ _ n2⟩⟩
    |8,ho,hv,hLi=>
     cases Option.some.inj ho;cases Option.some.inj hv;refine wpOp_step rfl (fun K hK=> ?_);go_simp;exact hK _ _ ⟨rfl,hJ.keep (by decide)⟩
    |kk+9,ho,hv,hLi=>simp at hv
   ·intro L W2 hL hJ;obtain⟨hbw,hn⟩:=hJ.2 (hL 7 (by simp));simp only[putAll_cons,putAll_nil,Act.put,List.setIfInBounds_toArray,List.set_cons_succ,List.set_cons_zero];clear hJ hL;go_wp2_with fail;exact rmean_post (w.heap.size+1) (fun i=>(F k0 i||F k1 i)&&decide (i<1440)) true rfl rfl rfl hn (HO.out _ _ rfl hbw)
set_option maxRecDepth 100000 in
set_option maxHeartbeats 4000000 in
theorem rmean_7 {w:World}{a b day:Int}{nm:List UInt8}{pe pv pk pm:Option Addr}{ks:List Ex}{ce n cv nk ck nq cq:Nat}{ok:Ex→Bool}{F:Ex→Nat→Bool}(hlk:ks.length≤2)(hkk:RKids w (.slice pv n cv) day (.slice pk nk ck) (.slice pm nq cq) pe ks ok F)(k0:Ex)(h0:ks[0]? =some k0)(k1:Ex)(h1:ks[1]? =some k1):
  Calls Tryd.prog 73 #[.agg #[.int .i64 7,.int .i64 a,.int .i64 b,.string ⟨nm.toArray⟩,.slice pe ks.length ce],.slice pv n cv,.int .i64 day,.slice pk nk ck,.slice pm nq cq] w (OutMn (ks.all ok) (fun i=>(F k0 i&& !F k1 i)&&decide (i<1440)) w):=by
 have hz:=mv_lit;have HK:=hid5 hkk;have bA:Below w.heap.size w ((w.alloc (.cells #[.int .i64 7,.int .i64 a,.int .i64 b,.string ⟨nm.toArray⟩,.slice pe ks.length ce] 50)).alloc (.cells (mv fun _=>false) 37)):=((Below.refl _ _).alloc (Nat.le_refl _) _).alloc (by simp) _;have nE:((w.alloc (.cells #[.int .i64 7,.int .i64 a,.int .i64 b,.string ⟨nm.toArray⟩,.slice pe ks.length ce] 50)).alloc (.cells (mv fun _=>false) 37)).heap[w.heap.size]? =some (.cells #[.int .i64 7,.int .i64 a,.int .i64 b,.string ⟨nm.toArray⟩,.slice pe ks.length ce] 50 (0,0)):=by (repeat (first | refine blk_old _ _ _ (by simp only [size_alloc]; omega) ?_ | exact blk_new _ _ _ (by first | rfl | simp only [size_alloc])))
 have nR:((w.alloc (.cells #[.int .i64 7,.int .i64 a,.int .i64 b,.string ⟨nm.toArray⟩,.slice pe ks.length ce] 50)).alloc (.cells (mv fun _=>false) 37)).heap[w.heap.size+1]? =some (.cells (mv fun _=>false) 37 (0,0)):=by (repeat (first | refine blk_old _ _ _ (by simp only [size_alloc]; omega) ?_ | exact blk_new _ _ _ (by first | rfl | simp only [size_alloc])))
 have sA:((w.alloc (.cells #[.int .i64 7,.int .i64 a,.int .i64 b,.string ⟨nm.toArray⟩,.slice pe ks.length ce] 50)).alloc (.cells (mv fun _=>false) 37)).heap.size=w.heap.size+1+1:=by simp
 generalize hwA:(w.alloc (.cells #[.int .i64 7,.int .i64 a,.int .i64 b,.string ⟨nm.toArray⟩,.slice pe ks.length ce] 50)).alloc (.cells (mv fun _=>false) 37)=wA at*;have k4:=(cell_of_row _ _ 4 _ _ _ nE).trans rfl;have hlkI:(ks.length:Int)≤2:=by omega
 have HsA:=hid5 sA;obtain⟨i0,hi,hzz⟩:=Option.map_eq_some_iff.1 maskInfo6;simp only[Prod.mk.injEq]at hzz;obtain⟨hz0,hz1,hz2⟩:=hzz;have Hzi:=hid5 hz0;clear hkk sA hz0;go_enter Tryd.func73,Tryd.ntmps73;go_wp2_with fail;clear k4 hwA;go_loopw [12,14,15,16,22] (fun q _ _ _ t wr=>RmRel wA ks ok F q t wr) (fun _ _ _ _ t _=>ks.length-(intOf t).toNat);case atStart=>exact⟨0,rfl,by omega,rfl,World.ownsRow_nil _ _ _ _,Below.refl _ _⟩
 case round=>
  obtain⟨j,rfl,hj,hall,hown,hbr⟩:=hrel;have hj0:(0:Int)≤(j:Int):=(by omega);by_cases hlt:j<ks.length
  ·have hlt':(j:Int)<(ks.length:Int):=(by omega);obtain⟨k,hjk⟩: ∃k,ks[j]? =some k:=⟨ks[j],List.getElem?_eq_getElem hlt⟩
   obtain⟨g,o,ps,cs,hpe,c0,c1,c2,c3,c4,cK⟩:=HK.out j k hjk;subst hpe;have hbw:=bA.trans (hbr.mono bA.size);have d0:=(hbw.cell (block_lt_of_cell c0)).trans c0;have d1:=(hbw.cell (block_lt_of_cell c1)).trans c1;have d2:=(hbw.cell (block_lt_of_cell c2)).trans c2;have d3:=(hbw.cell (block_lt_of_cell c3)).trans c3;have d4:=(hbw.cell (block_lt_of_cell c4)).trans c4;have hbA:=hbr.alloc hbr.size (.cells #[.int .i64 k.kind,.int .i64 k.a,.int .i64 k.b,.string ⟨k.name.toArray⟩,.slice ps k.kids.length cs] 50);have hxB:=heap_alloc_new wr (.cells #[.int .i64 k.kind,.int .i64 k.a,.int .i64 k.b,.string ⟨k.name.toArray⟩,.slice ps k.kids.length cs] 50);have ho1:=owns_keep (w':=wr.alloc (.cells #[.int .i64 k.kind,.int .i64 k.a,.int .i64 k.b,.string ⟨k.name.toArray⟩,.slice ps k.kids.length cs] 50)) hown fun b hb=>Below.heap_alloc _ _ _ (hown.lt b hb).2;have cR:=cK _ (bA.trans (hbA.mono bA.size));have HJ:=hid5 hjk;have Hall:=hid5 hall;clear c0 c1 c2 c3 c4 cK hjk hall hbr hbw hown;generalize hwB:wr.alloc (.cells #[.int .i64 k.kind,.int .i64 k.a,.int .i64 k.b,.string ⟨k.name.toArray⟩,.slice ps k.kids.length cs] 50)=wB at*;go_wp2_with(refine wpList_load_row rfl 50 _ rfl _ rfl _ _ _ _ hxB exprType5 rfl (by kernel_rfl) ?_)
   refine cR.mono ?_;rintro r w2 ⟨⟨f,rfl,hf⟩,hb2⟩;have hm2:=heap_alloc_new w2 (.cells (mv fun _=>false) 37);have hb3:=hbA.trans (hb2.mono hbA.size);have hb4:=hb3.alloc hb3.size (.cells (mv fun _=>false) 37);have ho2:=owns_below ho1 hb2;have ho3:=owns_keep (w':=(w2.alloc (.cells (mv fun _=>false) 37)).setRow w2.heap.size (mv f)) ho2 fun b hb=>(setRow_other _ _ _ _ (by have:=(ho2.lt b hb).2;omega)).trans (Below.heap_alloc _ _ _ (ho2.lt b hb).2);have hb5:=below_setRow hb4 hb3.size (mv f);have hm3:=setRow_heap _ _ _ (mv f) _ _ hm2;have s3:w2.heap.size<((w2.alloc (.cells (mv fun _=>false) 37)).setRow w2.heap.size (mv f)).heap.size:=lt_of_block hm3;clear cR hxB hwB d0 d1 d2 d3 d4 ho1 ho2 hb2 hbA hb4 hb3;generalize hw3:w2.alloc (.cells (mv fun _=>false) 37)=w3 at*;generalize hw4:w3.setRow w2.heap.size (mv f)=w4 at*;cases hok:ok k with
   |false=>
    have nR3:=(hb5.block _ (lt_of_block nR)).trans nR
    have HO:Hid (OutMn (ks.all ok) (fun i=>(F k0 i&& !F k1 i)&&decide (i<1440)) w (.returned (.tuple #[.agg (mv f),.bool false])) (w4.setRow (w.heap.size+1) (mv f))):=by
     refine⟨⟨f,?_,fun h=> ?_⟩,?_⟩
     ·rw[all_bad HJ.out hok]
     ·rw[all_bad HJ.out hok]at h;cases h
     ·exact below_setRow (bA.trans (hb5.mono bA.size)) (by omega) _
    clear HK Hall HJ hf ho3
    go_wp2_with(first
     |(refine wpList_store_row rfl 37 _ _ rfl _ _ rfl rfl _ _ hm2 (maskSize _) (by simp[mv_size]) (mv_all _) ?_)
     |(refine wpList_load_row rfl 37 _ rfl _ rfl _ _ _ _ hm3 maskType rfl (maskSize _) ?_)
     |(refine wpList_store_row rfl 37 _ _ rfl _ _ rfl rfl _ _ nR3 (maskSize _) (by simp[mv_size]) (mv_all _) ?_))
    exact rmean_post (w.heap.size+1) f false rfl rfl rfl (setRow_heap _ _ _ _ _ _ nR3) HO.out
   |true=>
    have ef:=hf hok;subst ef;have Hok:=hid5 hok;clear hf hok;have hb6:=hb5.alloc hb5.size (.cells (mv (F k)) 37);have hx6:=heap_alloc_new w4 (.cells (mv (F k)) 37);have ho6:=owns_keep (w':=w4.alloc (.cells (mv (F k)) 37)) ho3 fun b hb=>Below.heap_alloc _ _ _ (ho3.lt b hb).2;have s6:(w4.alloc (.cells (mv (F k)) 37)).heap.size=w4.heap.size+1:=(by simp);have Hs6:=hid5 s6;clear s6;clear ho3 hb5
    go_wp2_with(first
     |(refine wpList_store_row rfl 37 _ _ rfl _ _ rfl rfl _ _ hm2 (maskSize _) (by simp[mv_size]) (mv_all _) ?_)
     |(refine wpList_load_row rfl 37 _ rfl _ rfl _ _ _ _ hm3 maskType rfl (maskSize _) ?_)
     |(refine wpList_bslice_mask rfl _ rfl (F k) rfl ?_)
     |(at_builtin;refine wpList_append_own _ rfl _ _ 32 rfl wA.heap.size 37 i0 _ 23 184 masksType6 hi Hzi.out hz1 hz2 rfl (by decide) u12 j (mcl F (ks.take j)) rfl ho6 ⟨w4.heap.size,0,none⟩ 1 1 (mv (F k)).toList rfl (by rw[Array.length_toList,mv_size]) ?c1 ?c2 ?c3 ?c4 ?c5 ?_))
    case c1=>
     intro k' u' hk';rw[show(Addr.add ⟨w4.heap.size,0,none⟩ k')=⟨w4.heap.size,k',none⟩ by simp[Addr.add];exact fun h=>h.symm,cell_of_row _ _ _ _ _ _ hx6,←Array.getElem?_toList];exact hk'
    case c2=>exact fun u hu=>(Array.all_eq_true_iff_forall_mem.1 (mv_all (F k))) u (by simpa using hu)
    case c3=>unfold maxLen;omega
    case c4=>omega
    case c5=>have:=hb6.size;omega
    intro v' w7 hown' hgrow _;have hlo:=ho6.lt;have hb7:Below wA.heap.size wA w7:=hb6.grown hgrow hb6.size (fun q hq=>(hlo q hq).1)
    have HN:Hid (RmRel wA ks ok F v' (.int .i64 ((j+1:Nat):Int)) w7):=by
     refine⟨j+1,rfl,by omega,all_take HJ.out Hall.out Hok.out,?_,hb7⟩;rw[mcl_next HJ.out];exact hown'
    clear hown' hgrow ho6 hx6 hb6 hb7 hlo hm2 hm3 hw3 hw4 s3 Hall HJ Hok HK;go_wp2_with fail;go_roundw
    case rel=>first
     |exact HN.out
     |exact⟨_,_,_,_,_,HN.out,rfl,rfl,rfl,rfl,rfl⟩
    case measure=>simp[intOf];omega
  ·have ej:j=ks.length:=(by omega);have hlt': ¬(j:Int)<(ks.length:Int):=(by omega);subst ej;rw[List.take_length]at hall hown;have n5:=heap_alloc_new wr (.cells (mv fun _=>false) 37);have hb5:=below_setRow (hbr.alloc hbr.size (.cells (mv fun _=>false) 37)) hbr.size (mv fun _=>false);have n6:=setRow_heap _ _ _ (mv fun _=>false) _ _ n5;have ho6:=owns_keep (w':=(wr.alloc (.cells (mv fun _=>false) 37)).setRow wr.heap.size (mv fun _=>false)) hown fun b hb=>(setRow_other _ _ _ _ (by have:=(hown.lt b hb).2;omega)).trans (Below.heap_alloc _ _ _ (hown.lt b hb).2);have nE6:=(hb5.block _ (lt_of_block nE)).trans nE;have nR6:=(hb5.block _ (lt_of_block nR)).trans nR;have Hw6:=hid5 (bA.trans (hb5.mono bA.size));generalize hw5:wr.alloc (.cells (mv fun _=>false) 37)=w5 at*;generalize hw6:w5.setRow wr.heap.size (mv fun _=>false)=w6 at*;have zk:=(cell_of_row _ _ 0 _ _ _ nE6).trans rfl;have Hall:=hid5 hall;clear hown hbr HK hall nE nR hb5 hlt hlt' hj;obtain⟨p,c,hu,_,hrow⟩:=(own_range ho6 rfl).resolve_right (by omega);rw[List.length_map]at hu;obtain⟨g,o,hp,hr0⟩:=hrow 0 (F k0) (by rw[List.getElem?_map,h0];rfl);subst hu hp;rw[Nat.zero_mul,Nat.add_zero]at hr0;have hpN:0<ks.length:=(List.getElem?_eq_some_iff.1 h0).1;have hpos:(0:Int)<(ks.length:Int):=(by omega);obtain⟨g',o',hp',hr1⟩:=hrow 1 (F k1) (by rw[List.getElem?_map,h1];rfl);cases hp';rw[Nat.one_mul]at hr1;have hpN1:1<ks.length:=(List.getElem?_eq_some_iff.1 h1).1;have hpos1:(1:Int)<(ks.length:Int):=(by omega);have HR0:=hid5 hr0;have HR1:=hid5 hr1;clear hrow ho6 hr0 hr1 nE6;have HO:Hid (∀(f:Nat→Bool) (W:World),f=(fun i=>(F k0 i&& !F k1 i)&&decide (i<1440))→Below w.heap.size w W→OutMn (ks.all ok) ((fun i=>(F k0 i&& !F k1 i)&&decide (i<1440))) w (.returned (.tuple #[.agg (mv f),.bool true])) W):=fun f W hf hW=>⟨⟨f,by rw[Hall.out],fun _=>hf⟩,hW⟩
   go_wp2_with(refine wpList_store_row rfl 37 _ _ rfl _ _ rfl rfl _ _ n5 (maskSize _) (by simp[mv_size]) (mv_all _) ?_)
   clear n5 n6 hw5 hw6 zk;refine wp_region_JL (JJ 7 (Below w6.heap.size w6) (fun W=>Below w.heap.size w W∧W.heap[w.heap.size+1]? =some (.cells (mv (fun i=>(F k0 i&& !F k1 i)&&decide (i<1440))) 37 (0,0)))) (fun L hL=>JJ.start (by simp) (Below.refl _ _).drew hL) (by kernel_rfl) (by kernel_rfl) (by kernel_rfl) (by kernel_rfl) [(some 93,.slice (some ⟨g,o,none⟩) ks.length c),(some 94,.pointer (some ⟨g,o,none⟩)),(some 95,.agg (mv (F k0))),(some 96,.slice (some ⟨g,o,none⟩) ks.length c),(some 97,.pointer (some ⟨g,o+23,none⟩)),(some 98,.agg (mv (F k1))),(some 99,.agg (mv (fun i=>(F k0 i&& !F k1 i)&&decide (i<1440)))),(none,undef),(some 11,.bool true)] [(93,.slice (some ⟨g,o,none⟩) ks.length c),(94,.pointer (some ⟨g,o,none⟩)),(95,.agg (mv (F k0))),(96,.slice (some ⟨g,o,none⟩) ks.length c),(97,.pointer (some ⟨g,o+23,none⟩)),(98,.agg (mv (F k1))),(99,.agg (mv (fun i=>(F k0 i&& !F k1 i)&&decide (i<1440)))),(11,.bool true)] (by kernel_rfl) (by kernel_rfl) (by kernel_rfl) ?_ ?_
   ·intro i' d v o' L A W2 ho hv hLi hdep hc hJ hkept hhas;match i',ho,hv,hLi with
    |0,ho,hv,hLi=>
     cases Option.some.inj ho;cases Option.some.inj hv;have hLm:=clos_lt (m:=7) (by kernel_rfl) (by simp) hc (by decide) hLi;have hJb:=hJ.1 hLm;have h12:A.tmps[12]?.getD undef= .slice (some ⟨g,o,none⟩) ks.length c:=(gd A 12).trans (hkept 12 (by kernel_rfl));refine wpOp_step rfl (fun K hK=> ?_);go_simp;exact hK _ _ ⟨rfl,hJ.keep (by decide)⟩
    |1,ho,hv,hLi=>
     cases Option.some.inj ho;cases Option.some.inj hv;have hLm:=clos_lt (m:=7) (by kernel_rfl) (by simp) hc (by decide) hLi;have hJb:=hJ.1 hLm;have h93:A.tmps[93]?.getD undef= .slice (some ⟨g,o,none⟩) ks.length c:=(gd A 93).trans (hhas 0 93 _ rfl (hdep ⟨0,.data⟩ (by simp) rfl));refine wpOp_step rfl (fun K hK=> ?_);go_simp;exact hK _ _ ⟨rfl,hJ.keep (by decide)⟩
    |2,ho,hv,hLi=>
     cases Option.some.inj ho;cases Option.some.inj hv;have hLm:=clos_lt (m:=7) (by kernel_rfl) (by simp) hc (by decide) hLi;have hJb:=hJ.1 hLm;have h94:A.eval (.tmp 94)= .pointer (some ⟨g,o,none⟩):=hhas 1 94 _ rfl (hdep ⟨1,.data⟩ (by simp) rfl);refine wpOp_step rfl (fun K hK=> ?_);show Oper.wp _ _ _ _ _ _;refine wp_load_mask _ rfl g (o) h94 (F k0) (range_later HR0.out hJb) ?_;exact hK _ _ ⟨rfl,hJ.keep (by decide)⟩
    |3,ho,hv,hLi=>
     cases Option.some.inj ho;cases Option.some.inj hv;have hLm:=clos_lt (m:=7) (by kernel_rfl) (by simp) hc (by decide) hLi;have hJb:=hJ.1 hLm;have h12:A.tmps[12]?.getD undef= .slice (some ⟨g,o,none⟩) ks.length c:=(gd A 12).trans (hkept 12 (by kernel_rfl));refine wpOp_step rfl (fun K hK=> ?_);go_simp;exact hK _ _ ⟨rfl,hJ.keep (by decide)⟩
    |4,ho,hv,hLi=>
     cases Option.some.inj ho;cases Option.some.inj hv;have hLm:=clos_lt (m:=7) (by kernel_rfl) (by simp) hc (by decide) hLi;have hJb:=hJ.1 hLm;have h96:A.tmps[96]?.getD undef= .slice (some ⟨g,o,none⟩) ks.length c:=(gd A 96).trans (hhas 3 96 _ rfl (hdep ⟨3,.data⟩ (by simp) rfl));refine wpOp_step rfl (fun K hK=> ?_);go_simp;exact hK _ _ ⟨rfl,hJ.keep (by decide)⟩
    |5,ho,hv,hLi=>
     cases Option.some.inj ho;cases Option.some.inj hv;have hLm:=clos_lt (m:=7) (by kernel_rfl) (by simp) hc (by decide) hLi;have hJb:=hJ.1 hLm;have h97:A.eval (.tmp 97)= .pointer (some ⟨g,o+23,none⟩):=hhas 4 97 _ rfl (hdep ⟨4,.data⟩ (by simp) rfl);refine wpOp_step rfl (fun K hK=> ?_);show Oper.wp _ _ _ _ _ _;refine wp_load_mask _ rfl g (o+23) h97 (F k1) (range_later HR1.out hJb) ?_;exact hK _ _ ⟨rfl,hJ.keep (by decide)⟩
    |6,ho,hv,hLi=>
     cases Option.some.inj ho;cases Option.some.inj hv;have hLm:=clos_lt (m:=7) (by kernel_rfl) (by simp) hc (by decide) hLi;have hJb:=hJ.1 hLm;have h95:A.tmps[95]?.getD undef= .agg (mv (F k0)):=(gd A 95).trans (hhas 2 95 _ rfl (hdep ⟨2,.data⟩ (by simp) rfl));have h98:A.tmps[98]?.getD undef= .agg (mv (F k1)):=(gd A 98).trans (hhas 5 98 _ rfl (hdep ⟨5,.data⟩ (by simp) rfl));refine wpOp_step rfl (fun K hK=> ?_);go_simp;refine(diff_ref (F k0) (F k1) W2).mono ?_;rintro e' W' ⟨rfl,hb'⟩;exact hK _ _ ⟨rfl,JJ.low (by decide) hLm (hJb.trans (hb'.mono hJb.size))⟩
    |7,ho,hv,hLi=>
     cases Option.some.inj ho;cases Option.some.inj hv;have hJb:=hJ.1 hLi;have hx:A.eval (.tmp 10)= .pointer (some ⟨w.heap.size+1,0,none⟩):=hkept 10 (by kernel_rfl);have hy:A.eval (.tmp 99)= .agg (mv (fun i=>(F k0 i&& !F k1 i)&&decide (i<1440))):=hhas 6 99 _ rfl (hdep ⟨6,.data⟩ (by simp) rfl);have n2:=(hJb.block _ (lt_of_block nR6)).trans nR6;refine wpOp_step rfl (fun K hK=> ?_);show Oper.wp _ _ _ _ _ _;refine wp_store_row 37 _ _ rfl _ _ hx hy _ _ n2 (maskSize _) (by simp[mv_size]) (mv_all _) ?_;exact hK _ _ ⟨rfl,JJ.done ⟨below_setRow (Hw6.out.trans (hJb.mono Hw6.out.size)) (show w.heap.size≤w.heap.size+1 by omega) _,setRow_heap _ _ _ _ _ _ n2⟩⟩
    |8,ho,hv,hLi=>
     cases Option.some.inj ho;cases Option.some.inj hv;refine wpOp_step rfl (fun K hK=> ?_);go_simp;exact hK _ _ ⟨rfl,hJ.keep (by decide)⟩
    |kk+9,ho,hv,hLi=>simp at hv
   ·intro L W2 hL hJ;obtain⟨hbw,hn⟩:=hJ.2 (hL 7 (by simp));simp only[putAll_cons,putAll_nil,Act.put,List.setIfInBounds_toArray,List.set_cons_succ,List.set_cons_zero];clear hJ hL;go_wp2_with fail;exact rmean_post (w.heap.size+1) (fun i=>(F k0 i&& !F k1 i)&&decide (i<1440)) true rfl rfl rfl hn (HO.out _ _ rfl hbw)
set_option maxRecDepth 100000 in
set_option maxHeartbeats 4000000 in
theorem rmean_8 {w:World}{a b day:Int}{nm:List UInt8}{pe pv pk pm:Option Addr}{ks:List Ex}{ce n cv nk ck nq cq:Nat}{ok:Ex→Bool}{F:Ex→Nat→Bool}(hlk:ks.length≤2)(hkk:RKids w (.slice pv n cv) day (.slice pk nk ck) (.slice pm nq cq) pe ks ok F)(k0:Ex)(h0:ks[0]? =some k0)(k1:Ex)(h1:ks[1]? =some k1):
  Calls Tryd.prog 73 #[.agg #[.int .i64 8,.int .i64 a,.int .i64 b,.string ⟨nm.toArray⟩,.slice pe ks.length ce],.slice pv n cv,.int .i64 day,.slice pk nk ck,.slice pm nq cq] w (OutMn (ks.all ok) (fun i=>(F k0 i&&F k1 i)&&decide (i<1440)) w):=by
 have hz:=mv_lit;have HK:=hid5 hkk;have bA:Below w.heap.size w ((w.alloc (.cells #[.int .i64 8,.int .i64 a,.int .i64 b,.string ⟨nm.toArray⟩,.slice pe ks.length ce] 50)).alloc (.cells (mv fun _=>false) 37)):=((Below.refl _ _).alloc (Nat.le_refl _) _).alloc (by simp) _;have nE:((w.alloc (.cells #[.int .i64 8,.int .i64 a,.int .i64 b,.string ⟨nm.toArray⟩,.slice pe ks.length ce] 50)).alloc (.cells (mv fun _=>false) 37)).heap[w.heap.size]? =some (.cells #[.int .i64 8,.int .i64 a,.int .i64 b,.string ⟨nm.toArray⟩,.slice pe ks.length ce] 50 (0,0)):=by (repeat (first | refine blk_old _ _ _ (by simp only [size_alloc]; omega) ?_ | exact blk_new _ _ _ (by first | rfl | simp only [size_alloc])))
 have nR:((w.alloc (.cells #[.int .i64 8,.int .i64 a,.int .i64 b,.string ⟨nm.toArray⟩,.slice pe ks.length ce] 50)).alloc (.cells (mv fun _=>false) 37)).heap[w.heap.size+1]? =some (.cells (mv fun _=>false) 37 (0,0)):=by (repeat (first | refine blk_old _ _ _ (by simp only [size_alloc]; omega) ?_ | exact blk_new _ _ _ (by first | rfl | simp only [size_alloc])))
 have sA:((w.alloc (.cells #[.int .i64 8,.int .i64 a,.int .i64 b,.string ⟨nm.toArray⟩,.slice pe ks.length ce] 50)).alloc (.cells (mv fun _=>false) 37)).heap.size=w.heap.size+1+1:=by simp
 generalize hwA:(w.alloc (.cells #[.int .i64 8,.int .i64 a,.int .i64 b,.string ⟨nm.toArray⟩,.slice pe ks.length ce] 50)).alloc (.cells (mv fun _=>false) 37)=wA at*;have k4:=(cell_of_row _ _ 4 _ _ _ nE).trans rfl;have hlkI:(ks.length:Int)≤2:=by omega
 have HsA:=hid5 sA;obtain⟨i0,hi,hzz⟩:=Option.map_eq_some_iff.1 maskInfo6;simp only[Prod.mk.injEq]at hzz;obtain⟨hz0,hz1,hz2⟩:=hzz;have Hzi:=hid5 hz0;clear hkk sA hz0;go_enter Tryd.func73,Tryd.ntmps73;go_wp2_with fail;clear k4 hwA;go_loopw [12,14,15,16,22] (fun q _ _ _ t wr=>RmRel wA ks ok F q t wr) (fun _ _ _ _ t _=>ks.length-(intOf t).toNat);case atStart=>exact⟨0,rfl,by omega,rfl,World.ownsRow_nil _ _ _ _,Below.refl _ _⟩
 case round=>
  obtain⟨j,rfl,hj,hall,hown,hbr⟩:=hrel;have hj0:(0:Int)≤(j:Int):=(by omega);by_cases hlt:j<ks.length
  ·have hlt':(j:Int)<(ks.length:Int):=(by omega);obtain⟨k,hjk⟩: ∃k,ks[j]? =some k:=⟨ks[j],List.getElem?_eq_getElem hlt⟩
   obtain⟨g,o,ps,cs,hpe,c0,c1,c2,c3,c4,cK⟩:=HK.out j k hjk;subst hpe;have hbw:=bA.trans (hbr.mono bA.size);have d0:=(hbw.cell (block_lt_of_cell c0)).trans c0;have d1:=(hbw.cell (block_lt_of_cell c1)).trans c1;have d2:=(hbw.cell (block_lt_of_cell c2)).trans c2;have d3:=(hbw.cell (block_lt_of_cell c3)).trans c3;have d4:=(hbw.cell (block_lt_of_cell c4)).trans c4;have hbA:=hbr.alloc hbr.size (.cells #[.int .i64 k.kind,.int .i64 k.a,.int .i64 k.b,.string ⟨k.name.toArray⟩,.slice ps k.kids.length cs] 50);have hxB:=heap_alloc_new wr (.cells #[.int .i64 k.kind,.int .i64 k.a,.int .i64 k.b,.string ⟨k.name.toArray⟩,.slice ps k.kids.length cs] 50);have ho1:=owns_keep (w':=wr.alloc (.cells #[.int .i64 k.kind,.int .i64 k.a,.int .i64 k.b,.string ⟨k.name.toArray⟩,.slice ps k.kids.length cs] 50)) hown fun b hb=>Below.heap_alloc _ _ _ (hown.lt b hb).2;have cR:=cK _ (bA.trans (hbA.mono bA.size));have HJ:=hid5 hjk;have Hall:=hid5 hall;clear c0 c1 c2 c3 c4 cK hjk hall hbr hbw hown;generalize hwB:wr.alloc (.cells #[.int .i64 k.kind,.int .i64 k.a,.int .i64 k.b,.string ⟨k.name.toArray⟩,.slice ps k.kids.length cs] 50)=wB at*;go_wp2_with(refine wpList_load_row rfl 50 _ rfl _ rfl _ _ _ _ hxB exprType5 rfl (by kernel_rfl) ?_)
   refine cR.mono ?_;rintro r w2 ⟨⟨f,rfl,hf⟩,hb2⟩;have hm2:=heap_alloc_new w2 (.cells (mv fun _=>false) 37);have hb3:=hbA.trans (hb2.mono hbA.size);have hb4:=hb3.alloc hb3.size (.cells (mv fun _=>false) 37);have ho2:=owns_below ho1 hb2;have ho3:=owns_keep (w':=(w2.alloc (.cells (mv fun _=>false) 37)).setRow w2.heap.size (mv f)) ho2 fun b hb=>(setRow_other _ _ _ _ (by have:=(ho2.lt b hb).2;omega)).trans (Below.heap_alloc _ _ _ (ho2.lt b hb).2);have hb5:=below_setRow hb4 hb3.size (mv f);have hm3:=setRow_heap _ _ _ (mv f) _ _ hm2;have s3:w2.heap.size<((w2.alloc (.cells (mv fun _=>false) 37)).setRow w2.heap.size (mv f)).heap.size:=lt_of_block hm3;clear cR hxB hwB d0 d1 d2 d3 d4 ho1 ho2 hb2 hbA hb4 hb3;generalize hw3:w2.alloc (.cells (mv fun _=>false) 37)=w3 at*;generalize hw4:w3.setRow w2.heap.size (mv f)=w4 at*;cases hok:ok k with
   |false=>
    have nR3:=(hb5.block _ (lt_of_block nR)).trans nR
    have HO:Hid (OutMn (ks.all ok) (fun i=>(F k0 i&&F k1 i)&&decide (i<1440)) w (.returned (.tuple #[.agg (mv f),.bool false])) (w4.setRow (w.heap.size+1) (mv f))):=by
     refine⟨⟨f,?_,fun h=> ?_⟩,?_⟩
     ·rw[all_bad HJ.out hok]
     ·rw[all_bad HJ.out hok]at h;cases h
     ·exact below_setRow (bA.trans (hb5.mono bA.size)) (by omega) _
    clear HK Hall HJ hf ho3
    go_wp2_with(first
     |(refine wpList_store_row rfl 37 _ _ rfl _ _ rfl rfl _ _ hm2 (maskSize _) (by simp[mv_size]) (mv_all _) ?_)
     |(refine wpList_load_row rfl 37 _ rfl _ rfl _ _ _ _ hm3 maskType rfl (maskSize _) ?_)
     |(refine wpList_store_row rfl 37 _ _ rfl _ _ rfl rfl _ _ nR3 (maskSize _) (by simp[mv_size]) (mv_all _) ?_))
    exact rmean_post (w.heap.size+1) f false rfl rfl rfl (setRow_heap _ _ _ _ _ _ nR3) HO.out
   |true=>
    have ef:=hf hok;subst ef;have Hok:=hid5 hok;clear hf hok;have hb6:=hb5.alloc hb5.size (.cells (mv (F k)) 37);have hx6:=heap_alloc_new w4 (.cells (mv (F k)) 37);have ho6:=owns_keep (w':=w4.alloc (.cells (mv (F k)) 37)) ho3 fun b hb=>Below.heap_alloc _ _ _ (ho3.lt b hb).2;have s6:(w4.alloc (.cells (mv (F k)) 37)).heap.size=w4.heap.size+1:=(by simp);have Hs6:=hid5 s6;clear s6;clear ho3 hb5
    go_wp2_with(first
     |(refine wpList_store_row rfl 37 _ _ rfl _ _ rfl rfl _ _ hm2 (maskSize _) (by simp[mv_size]) (mv_all _) ?_)
     |(refine wpList_load_row rfl 37 _ rfl _ rfl _ _ _ _ hm3 maskType rfl (maskSize _) ?_)
     |(refine wpList_bslice_mask rfl _ rfl (F k) rfl ?_)
     |(at_builtin;refine wpList_append_own _ rfl _ _ 32 rfl wA.heap.size 37 i0 _ 23 184 masksType6 hi Hzi.out hz1 hz2 rfl (by decide) u12 j (mcl F (ks.take j)) rfl ho6 ⟨w4.heap.size,0,none⟩ 1 1 (mv (F k)).toList rfl (by rw[Array.length_toList,mv_size]) ?c1 ?c2 ?c3 ?c4 ?c5 ?_))
    case c1=>
     intro k' u' hk';rw[show(Addr.add ⟨w4.heap.size,0,none⟩ k')=⟨w4.heap.size,k',none⟩ by simp[Addr.add];exact fun h=>h.symm,cell_of_row _ _ _ _ _ _ hx6,←Array.getElem?_toList];exact hk'
    case c2=>exact fun u hu=>(Array.all_eq_true_iff_forall_mem.1 (mv_all (F k))) u (by simpa using hu)
    case c3=>unfold maxLen;omega
    case c4=>omega
    case c5=>have:=hb6.size;omega
    intro v' w7 hown' hgrow _;have hlo:=ho6.lt;have hb7:Below wA.heap.size wA w7:=hb6.grown hgrow hb6.size (fun q hq=>(hlo q hq).1)
    have HN:Hid (RmRel wA ks ok F v' (.int .i64 ((j+1:Nat):Int)) w7):=by
     refine⟨j+1,rfl,by omega,all_take HJ.out Hall.out Hok.out,?_,hb7⟩;rw[mcl_next HJ.out];exact hown'
    clear hown' hgrow ho6 hx6 hb6 hb7 hlo hm2 hm3 hw3 hw4 s3 Hall HJ Hok HK;go_wp2_with fail;go_roundw
    case rel=>first
     |exact HN.out
     |exact⟨_,_,_,_,_,HN.out,rfl,rfl,rfl,rfl,rfl⟩
    case measure=>simp[intOf];omega
  ·have ej:j=ks.length:=(by omega);have hlt': ¬(j:Int)<(ks.length:Int):=(by omega);subst ej;rw[List.take_length]at hall hown;have n5:=heap_alloc_new wr (.cells (mv fun _=>false) 37);have hb5:=below_setRow (hbr.alloc hbr.size (.cells (mv fun _=>false) 37)) hbr.size (mv fun _=>false);have n6:=setRow_heap _ _ _ (mv fun _=>false) _ _ n5;have ho6:=owns_keep (w':=(wr.alloc (.cells (mv fun _=>false) 37)).setRow wr.heap.size (mv fun _=>false)) hown fun b hb=>(setRow_other _ _ _ _ (by have:=(hown.lt b hb).2;omega)).trans (Below.heap_alloc _ _ _ (hown.lt b hb).2);have nE6:=(hb5.block _ (lt_of_block nE)).trans nE;have nR6:=(hb5.block _ (lt_of_block nR)).trans nR;have Hw6:=hid5 (bA.trans (hb5.mono bA.size));generalize hw5:wr.alloc (.cells (mv fun _=>false) 37)=w5 at*;generalize hw6:w5.setRow wr.heap.size (mv fun _=>false)=w6 at*;have zk:=(cell_of_row _ _ 0 _ _ _ nE6).trans rfl;have Hall:=hid5 hall;clear hown hbr HK hall nE nR hb5 hlt hlt' hj;obtain⟨p,c,hu,_,hrow⟩:=(own_range ho6 rfl).resolve_right (by omega);rw[List.length_map]at hu;obtain⟨g,o,hp,hr0⟩:=hrow 0 (F k0) (by rw[List.getElem?_map,h0];rfl);subst hu hp;rw[Nat.zero_mul,Nat.add_zero]at hr0;have hpN:0<ks.length:=(List.getElem?_eq_some_iff.1 h0).1;have hpos:(0:Int)<(ks.length:Int):=(by omega);obtain⟨g',o',hp',hr1⟩:=hrow 1 (F k1) (by rw[List.getElem?_map,h1];rfl);cases hp';rw[Nat.one_mul]at hr1;have hpN1:1<ks.length:=(List.getElem?_eq_some_iff.1 h1).1;have hpos1:(1:Int)<(ks.length:Int):=(by omega);have HR0:=hid5 hr0;have HR1:=hid5 hr1;clear hrow ho6 hr0 hr1 nE6;have HO:Hid (∀(f:Nat→Bool) (W:World),f=(fun i=>(F k0 i&&F k1 i)&&decide (i<1440))→Below w.heap.size w W→OutMn (ks.all ok) ((fun i=>(F k0 i&&F k1 i)&&decide (i<1440))) w (.returned (.tuple #[.agg (mv f),.bool true])) W):=fun f W hf hW=>⟨⟨f,by rw[Hall.out],fun _=>hf⟩,hW⟩
   go_wp2_with(refine wpList_store_row rfl 37 _ _ rfl _ _ rfl rfl _ _ n5 (maskSize _) (by simp[mv_size]) (mv_all _) ?_)
   clear n5 n6 hw5 hw6 zk;refine wp_region_JL (JJ 7 (Below w6.heap.size w6) (fun W=>Below w.heap.size w W∧W.heap[w.heap.size+1]? =some (.cells (mv (fun i=>(F k0 i&&F k1 i)&&decide (i<1440))) 37 (0,0)))) (fun L hL=>JJ.start (by simp) (Below.refl _ _).drew hL) (by kernel_rfl) (by kernel_rfl) (by kernel_rfl) (by kernel_rfl) [(some 102,.slice (some ⟨g,o,none⟩) ks.length c),(some 103,.pointer (some ⟨g,o,none⟩)),(some 104,.agg (mv (F k0))),(some 105,.slice (some ⟨g,o,none⟩) ks.length c),(some 106,.pointer (some ⟨g,o+23,none⟩)),(some 107,.agg (mv (F k1))),(some 108,.agg (mv (fun i=>(F k0 i&&F k1 i)&&decide (i<1440)))),(none,undef),(some 11,.bool true)] [(102,.slice (some ⟨g,o,none⟩) ks.length c),(103,.pointer (some ⟨g,o,none⟩)),(104,.agg (mv (F k0))),(105,.slice (some ⟨g,o,none⟩) ks.length c),(106,.pointer (some ⟨g,o+23,none⟩)),(107,.agg (mv (F k1))),(108,.agg (mv (fun i=>(F k0 i&&F k1 i)&&decide (i<1440)))),(11,.bool true)] (by kernel_rfl) (by kernel_rfl) (by kernel_rfl) ?_ ?_
   ·intro i' d v o' L A W2 ho hv hLi hdep hc hJ hkept hhas;match i',ho,hv,hLi with
    |0,ho,hv,hLi=>
     cases Option.some.inj ho;cases Option.some.inj hv;have hLm:=clos_lt (m:=7) (by kernel_rfl) (by simp) hc (by decide) hLi;have hJb:=hJ.1 hLm;have h12:A.tmps[12]?.getD undef= .slice (some ⟨g,o,none⟩) ks.length c:=(gd A 12).trans (hkept 12 (by kernel_rfl));refine wpOp_step rfl (fun K hK=> ?_);go_simp;exact hK _ _ ⟨rfl,hJ.keep (by decide)⟩
    |1,ho,hv,hLi=>
     cases Option.some.inj ho;cases Option.some.inj hv;have hLm:=clos_lt (m:=7) (by kernel_rfl) (by simp) hc (by decide) hLi;have hJb:=hJ.1 hLm;have h102:A.tmps[102]?.getD undef= .slice (some ⟨g,o,none⟩) ks.length c:=(gd A 102).trans (hhas 0 102 _ rfl (hdep ⟨0,.data⟩ (by simp) rfl));refine wpOp_step rfl (fun K hK=> ?_);go_simp;exact hK _ _ ⟨rfl,hJ.keep (by decide)⟩
    |2,ho,hv,hLi=>
     cases Option.some.inj ho;cases Option.some.inj hv;have hLm:=clos_lt (m:=7) (by kernel_rfl) (by simp) hc (by decide) hLi;have hJb:=hJ.1 hLm;have h103:A.eval (.tmp 103)= .pointer (some ⟨g,o,none⟩):=hhas 1 103 _ rfl (hdep ⟨1,.data⟩ (by simp) rfl);refine wpOp_step rfl (fun K hK=> ?_);show Oper.wp _ _ _ _ _ _;refine wp_load_mask _ rfl g (o) h103 (F k0) (range_later HR0.out hJb) ?_;exact hK _ _ ⟨rfl,hJ.keep (by decide)⟩
    |3,ho,hv,hLi=>
     cases Option.some.inj ho;cases Option.some.inj hv;have hLm:=clos_lt (m:=7) (by kernel_rfl) (by simp) hc (by decide) hLi;have hJb:=hJ.1 hLm;have h12:A.tmps[12]?.getD undef= .slice (some ⟨g,o,none⟩) ks.length c:=(gd A 12).trans (hkept 12 (by kernel_rfl));refine wpOp_step rfl (fun K hK=> ?_);go_simp;exact hK _ _ ⟨rfl,hJ.keep (by decide)⟩
    |4,ho,hv,hLi=>
     cases Option.some.inj ho;cases Option.some.inj hv;have hLm:=clos_lt (m:=7) (by kernel_rfl) (by simp) hc (by decide) hLi;have hJb:=hJ.1 hLm;have h105:A.tmps[105]?.getD undef= .slice (some ⟨g,o,none⟩) ks.length c:=(gd A 105).trans (hhas 3 105 _ rfl (hdep ⟨3,.data⟩ (by simp) rfl));refine wpOp_step rfl (fun K hK=> ?_);go_simp;exact hK _ _ ⟨rfl,hJ.keep (by decide)⟩
    |5,ho,hv,hLi=>
     cases Option.some.inj ho;cases Option.some.inj hv;have hLm:=clos_lt (m:=7) (by kernel_rfl) (by simp) hc (by decide) hLi;have hJb:=hJ.1 hLm;have h106:A.eval (.tmp 106)= .pointer (some ⟨g,o+23,none⟩):=hhas 4 106 _ rfl (hdep ⟨4,.data⟩ (by simp) rfl);refine wpOp_step rfl (fun K hK=> ?_);show Oper.wp _ _ _ _ _ _;refine wp_load_mask _ rfl g (o+23) h106 (F k1) (range_later HR1.out hJb) ?_;exact hK _ _ ⟨rfl,hJ.keep (by decide)⟩
    |6,ho,hv,hLi=>
     cases Option.some.inj ho;cases Option.some.inj hv;have hLm:=clos_lt (m:=7) (by kernel_rfl) (by simp) hc (by decide) hLi;have hJb:=hJ.1 hLm;have h104:A.tmps[104]?.getD undef= .agg (mv (F k0)):=(gd A 104).trans (hhas 2 104 _ rfl (hdep ⟨2,.data⟩ (by simp) rfl));have h107:A.tmps[107]?.getD undef= .agg (mv (F k1)):=(gd A 107).trans (hhas 5 107 _ rfl (hdep ⟨5,.data⟩ (by simp) rfl));refine wpOp_step rfl (fun K hK=> ?_);go_simp;refine(both_ref (F k0) (F k1) W2).mono ?_;rintro e' W' ⟨rfl,hb'⟩;exact hK _ _ ⟨rfl,JJ.low (by decide) hLm (hJb.trans (hb'.mono hJb.size))⟩
    |7,ho,hv,hLi=>
     cases Option.some.inj ho;cases Option.some.inj hv;have hJb:=hJ.1 hLi;have hx:A.eval (.tmp 10)= .pointer (some ⟨w.heap.size+1,0,none⟩):=hkept 10 (by kernel_rfl);have hy:A.eval (.tmp 108)= .agg (mv (fun i=>(F k0 i&&F k1 i)&&decide (i<1440))):=hhas 6 108 _ rfl (hdep ⟨6,.data⟩ (by simp) rfl);have n2:=(hJb.block _ (lt_of_block nR6)).trans nR6;refine wpOp_step rfl (fun K hK=> ?_);show Oper.wp _ _ _ _ _ _;refine wp_store_row 37 _ _ rfl _ _ hx hy _ _ n2 (maskSize _) (by simp[mv_size]) (mv_all _) ?_;exact hK _ _ ⟨rfl,JJ.done ⟨below_setRow (Hw6.out.trans (hJb.mono Hw6.out.size)) (show w.heap.size≤w.heap.size+1 by omega) _,setRow_heap _ _ _ _ _ _ n2⟩⟩
    |8,ho,hv,hLi=>
     cases Option.some.inj ho;cases Option.some.inj hv;refine wpOp_step rfl (fun K hK=> ?_);go_simp;exact hK _ _ ⟨rfl,hJ.keep (by decide)⟩
    |kk+9,ho,hv,hLi=>simp at hv
   ·intro L W2 hL hJ;obtain⟨hbw,hn⟩:=hJ.2 (hL 7 (by simp));simp only[putAll_cons,putAll_nil,Act.put,List.setIfInBounds_toArray,List.set_cons_succ,List.set_cons_zero];clear hJ hL;go_wp2_with fail;exact rmean_post (w.heap.size+1) (fun i=>(F k0 i&&F k1 i)&&decide (i<1440)) true rfl rfl rfl hn (HO.out _ _ rfl hbw)
end Go.Proofs.YtpmobjgnmidolaaDoor
