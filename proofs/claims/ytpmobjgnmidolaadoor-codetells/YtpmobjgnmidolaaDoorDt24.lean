/- The document's Mean, kind by kind. Written by genrm.py. -/
import Derived.Test.YtpmobjgnmidolaaDoorDt23
namespace Go.Proofs.YtpmobjgnmidolaaDoor
open Go.RowKit Lx Msk
set_option maxHeartbeats 400000 in
theorem rmk1 (i:Nat)(w:World):Calls Tryd.prog 97 (#[.int .i64 (i:Int)]++ #[]) w fun e w'=>e= .returned (.bool true)∧Below w.heap.size w w':=by
 show Calls Tryd.prog 97 #[.int .i64 (i:Int)] w _;go_enter Tryd.func97,Tryd.ntmps97;go_wp2_with fail;go_ret;exact⟨rfl,Below.refl _ _⟩
set_option maxHeartbeats 400000 in
theorem rmk2 (i:Nat)(a b:Int){kd:Int}{nm:List UInt8}{sl:Value}{g:Nat}(w:World)(h:w.heap[g]? =some (.cells #[.int .i64 kd,.int .i64 a,.int .i64 b,.string ⟨nm.toArray⟩,sl] 50 (0,0))):
  Calls Tryd.prog 98 (#[.int .i64 (i:Int)]++ #[.pointer (some ⟨g,0,none⟩)]) w fun e w'=>e= .returned (.bool (decide (a≤(i:Int))&&decide ((i:Int)<b)))∧Below w.heap.size w w':=by
 show Calls Tryd.prog 98 #[.int .i64 (i:Int),.pointer (some ⟨g,0,none⟩)] w _;have k1:=(cell_of_row _ _ 1 _ _ _ h).trans rfl;have k2:=(cell_of_row _ _ 2 _ _ _ h).trans rfl;by_cases h1:a≤(i:Int)
 ·by_cases h2:(i:Int)<b
  ·rw[decide_eq_true h1,decide_eq_true h2];go_enter Tryd.func98,Tryd.ntmps98;go_wp2_with fail;go_ret;exact⟨rfl,Below.refl _ _⟩
  ·rw[decide_eq_true h1,decide_eq_false h2];go_enter Tryd.func98,Tryd.ntmps98;go_wp2_with fail;go_ret;exact⟨rfl,Below.refl _ _⟩
 ·rw[decide_eq_false h1];go_enter Tryd.func98,Tryd.ntmps98;go_wp2_with fail;go_ret;exact⟨rfl,Below.refl _ _⟩
set_option maxRecDepth 100000 in
set_option maxHeartbeats 4000000 in
theorem rmean_1 {w:World}{a b day:Int}{nm:List UInt8}{pe pv pk pm:Option Addr}{ks:List Ex}{ce n cv nk ck nq cq:Nat}{ok:Ex→Bool}{F:Ex→Nat→Bool}(hlk:ks.length≤2)(hkk:RKids w (.slice pv n cv) day (.slice pk nk ck) (.slice pm nq cq) pe ks ok F):
  Calls Tryd.prog 73 #[.agg #[.int .i64 1,.int .i64 a,.int .i64 b,.string ⟨nm.toArray⟩,.slice pe ks.length ce],.slice pv n cv,.int .i64 day,.slice pk nk ck,.slice pm nq cq] w (OutMn (ks.all ok) (fun _=>false) w):=by
 have hz:=mv_lit;have HK:=hid5 hkk;have bA:Below w.heap.size w ((w.alloc (.cells #[.int .i64 1,.int .i64 a,.int .i64 b,.string ⟨nm.toArray⟩,.slice pe ks.length ce] 50)).alloc (.cells (mv fun _=>false) 37)):=((Below.refl _ _).alloc (Nat.le_refl _) _).alloc (by simp) _;have nE:((w.alloc (.cells #[.int .i64 1,.int .i64 a,.int .i64 b,.string ⟨nm.toArray⟩,.slice pe ks.length ce] 50)).alloc (.cells (mv fun _=>false) 37)).heap[w.heap.size]? =some (.cells #[.int .i64 1,.int .i64 a,.int .i64 b,.string ⟨nm.toArray⟩,.slice pe ks.length ce] 50 (0,0)):=by (repeat (first | refine blk_old _ _ _ (by simp only [size_alloc]; omega) ?_ | exact blk_new _ _ _ (by first | rfl | simp only [size_alloc])))
 have nR:((w.alloc (.cells #[.int .i64 1,.int .i64 a,.int .i64 b,.string ⟨nm.toArray⟩,.slice pe ks.length ce] 50)).alloc (.cells (mv fun _=>false) 37)).heap[w.heap.size+1]? =some (.cells (mv fun _=>false) 37 (0,0)):=by (repeat (first | refine blk_old _ _ _ (by simp only [size_alloc]; omega) ?_ | exact blk_new _ _ _ (by first | rfl | simp only [size_alloc])))
 have sA:((w.alloc (.cells #[.int .i64 1,.int .i64 a,.int .i64 b,.string ⟨nm.toArray⟩,.slice pe ks.length ce] 50)).alloc (.cells (mv fun _=>false) 37)).heap.size=w.heap.size+1+1:=by simp
 generalize hwA:(w.alloc (.cells #[.int .i64 1,.int .i64 a,.int .i64 b,.string ⟨nm.toArray⟩,.slice pe ks.length ce] 50)).alloc (.cells (mv fun _=>false) 37)=wA at*;have k4:=(cell_of_row _ _ 4 _ _ _ nE).trans rfl;have hlkI:(ks.length:Int)≤2:=by omega
 have HsA:=hid5 sA;obtain⟨i0,hi,hzz⟩:=Option.map_eq_some_iff.1 maskInfo6;simp only[Prod.mk.injEq]at hzz;obtain⟨hz0,hz1,hz2⟩:=hzz;have Hzi:=hid5 hz0;clear hkk sA hz0;go_enter Tryd.func73,Tryd.ntmps73;go_wp2_with fail;clear k4 hwA;go_loopw [12,14,15,16,22] (fun q _ _ _ t wr=>RmRel wA ks ok F q t wr) (fun _ _ _ _ t _=>ks.length-(intOf t).toNat);case atStart=>exact⟨0,rfl,by omega,rfl,World.ownsRow_nil _ _ _ _,Below.refl _ _⟩
 case round=>
  obtain⟨j,rfl,hj,hall,hown,hbr⟩:=hrel;have hj0:(0:Int)≤(j:Int):=(by omega);by_cases hlt:j<ks.length
  ·have hlt':(j:Int)<(ks.length:Int):=(by omega);obtain⟨k,hjk⟩: ∃k,ks[j]? =some k:=⟨ks[j],List.getElem?_eq_getElem hlt⟩
   obtain⟨g,o,ps,cs,hpe,c0,c1,c2,c3,c4,cK⟩:=HK.out j k hjk;subst hpe;have hbw:=bA.trans (hbr.mono bA.size);have d0:=(hbw.cell (block_lt_of_cell c0)).trans c0;have d1:=(hbw.cell (block_lt_of_cell c1)).trans c1;have d2:=(hbw.cell (block_lt_of_cell c2)).trans c2;have d3:=(hbw.cell (block_lt_of_cell c3)).trans c3;have d4:=(hbw.cell (block_lt_of_cell c4)).trans c4;have hbA:=hbr.alloc hbr.size (.cells #[.int .i64 k.kind,.int .i64 k.a,.int .i64 k.b,.string ⟨k.name.toArray⟩,.slice ps k.kids.length cs] 50);have hxB:=heap_alloc_new wr (.cells #[.int .i64 k.kind,.int .i64 k.a,.int .i64 k.b,.string ⟨k.name.toArray⟩,.slice ps k.kids.length cs] 50);have ho1:=owns_keep (w':=wr.alloc (.cells #[.int .i64 k.kind,.int .i64 k.a,.int .i64 k.b,.string ⟨k.name.toArray⟩,.slice ps k.kids.length cs] 50)) hown fun b hb=>Below.heap_alloc _ _ _ (hown.lt b hb).2;have cR:=cK _ (bA.trans (hbA.mono bA.size));have HJ:=hid5 hjk;have Hall:=hid5 hall;clear c0 c1 c2 c3 c4 cK hjk hall hbr hbw hown;generalize hwB:wr.alloc (.cells #[.int .i64 k.kind,.int .i64 k.a,.int .i64 k.b,.string ⟨k.name.toArray⟩,.slice ps k.kids.length cs] 50)=wB at*;go_wp2_with(refine wpList_load_row rfl 50 _ rfl _ rfl _ _ _ _ hxB exprType5 rfl (by kernel_rfl) ?_)
   refine cR.mono ?_;rintro r w2 ⟨⟨f,rfl,hf⟩,hb2⟩;have hm2:=heap_alloc_new w2 (.cells (mv fun _=>false) 37);have hb3:=hbA.trans (hb2.mono hbA.size);have hb4:=hb3.alloc hb3.size (.cells (mv fun _=>false) 37);have ho2:=owns_below ho1 hb2;have ho3:=owns_keep (w':=(w2.alloc (.cells (mv fun _=>false) 37)).setRow w2.heap.size (mv f)) ho2 fun b hb=>(setRow_other _ _ _ _ (by have:=(ho2.lt b hb).2;omega)).trans (Below.heap_alloc _ _ _ (ho2.lt b hb).2);have hb5:=below_setRow hb4 hb3.size (mv f);have hm3:=setRow_heap _ _ _ (mv f) _ _ hm2;have s3:w2.heap.size<((w2.alloc (.cells (mv fun _=>false) 37)).setRow w2.heap.size (mv f)).heap.size:=lt_of_block hm3;clear cR hxB hwB d0 d1 d2 d3 d4 ho1 ho2 hb2 hbA hb4 hb3;generalize hw3:w2.alloc (.cells (mv fun _=>false) 37)=w3 at*;generalize hw4:w3.setRow w2.heap.size (mv f)=w4 at*;cases hok:ok k with
   |false=>
    have nR3:=(hb5.block _ (lt_of_block nR)).trans nR
    have HO:Hid (OutMn (ks.all ok) (fun _=>false) w (.returned (.tuple #[.agg (mv f),.bool false])) (w4.setRow (w.heap.size+1) (mv f))):=by
     refine⟨⟨f,?_,fun h=> ?_⟩,?_⟩
     ·rw[all_bad HJ.out hok]
     ·rw[all_bad HJ.out hok]at h;cases h
     ·exact below_setRow (bA.trans (hb5.mono bA.size)) (by omega) _
    clear HK Hall HJ hf ho3
    go_wp2_with(first
     |(refine wpList_store_row rfl 37 _ _ rfl _ _ rfl rfl _ _ hm2 (maskSize _) (by simp[mv_size]) (mv_all _) ?_)
     |(refine wpList_load_row rfl 37 _ rfl _ rfl _ _ _ _ hm3 maskType rfl (maskSize _) ?_)
     |(refine wpList_store_row rfl 37 _ _ rfl _ _ rfl rfl _ _ nR3 (maskSize _) (by simp[mv_size]) (mv_all _) ?_))
    exact rmean_post (w.heap.size+1) f false rfl rfl rfl (setRow_heap _ _ _ _ _ _ nR3) HO.out
   |true=>
    have ef:=hf hok;subst ef;have Hok:=hid5 hok;clear hf hok;have hb6:=hb5.alloc hb5.size (.cells (mv (F k)) 37);have hx6:=heap_alloc_new w4 (.cells (mv (F k)) 37);have ho6:=owns_keep (w':=w4.alloc (.cells (mv (F k)) 37)) ho3 fun b hb=>Below.heap_alloc _ _ _ (ho3.lt b hb).2;have s6:(w4.alloc (.cells (mv (F k)) 37)).heap.size=w4.heap.size+1:=(by simp);have Hs6:=hid5 s6;clear s6;clear ho3 hb5
    go_wp2_with(first
     |(refine wpList_store_row rfl 37 _ _ rfl _ _ rfl rfl _ _ hm2 (maskSize _) (by simp[mv_size]) (mv_all _) ?_)
     |(refine wpList_load_row rfl 37 _ rfl _ rfl _ _ _ _ hm3 maskType rfl (maskSize _) ?_)
     |(refine wpList_bslice_mask rfl _ rfl (F k) rfl ?_)
     |(at_builtin;refine wpList_append_own _ rfl _ _ 32 rfl wA.heap.size 37 i0 _ 23 184 masksType6 hi Hzi.out hz1 hz2 rfl (by decide) u12 j (mcl F (ks.take j)) rfl ho6 ⟨w4.heap.size,0,none⟩ 1 1 (mv (F k)).toList rfl (by rw[Array.length_toList,mv_size]) ?c1 ?c2 ?c3 ?c4 ?c5 ?_))
    case c1=>
     intro k' u' hk';rw[show(Addr.add ⟨w4.heap.size,0,none⟩ k')=⟨w4.heap.size,k',none⟩ by simp[Addr.add];exact fun h=>h.symm,cell_of_row _ _ _ _ _ _ hx6,←Array.getElem?_toList];exact hk'
    case c2=>exact fun u hu=>(Array.all_eq_true_iff_forall_mem.1 (mv_all (F k))) u (by simpa using hu)
    case c3=>unfold maxLen;omega
    case c4=>omega
    case c5=>have:=hb6.size;omega
    intro v' w7 hown' hgrow _;have hlo:=ho6.lt;have hb7:Below wA.heap.size wA w7:=hb6.grown hgrow hb6.size (fun q hq=>(hlo q hq).1)
    have HN:Hid (RmRel wA ks ok F v' (.int .i64 ((j+1:Nat):Int)) w7):=by
     refine⟨j+1,rfl,by omega,all_take HJ.out Hall.out Hok.out,?_,hb7⟩;rw[mcl_next HJ.out];exact hown'
    clear hown' hgrow ho6 hx6 hb6 hb7 hlo hm2 hm3 hw3 hw4 s3 Hall HJ Hok HK;go_wp2_with fail;go_roundw
    case rel=>first
     |exact HN.out
     |exact⟨_,_,_,_,_,HN.out,rfl,rfl,rfl,rfl,rfl⟩
    case measure=>simp[intOf];omega
  ·have ej:j=ks.length:=(by omega);have hlt': ¬(j:Int)<(ks.length:Int):=(by omega);subst ej;rw[List.take_length]at hall hown;have n5:=heap_alloc_new wr (.cells (mv fun _=>false) 37);have hb5:=below_setRow (hbr.alloc hbr.size (.cells (mv fun _=>false) 37)) hbr.size (mv fun _=>false);have n6:=setRow_heap _ _ _ (mv fun _=>false) _ _ n5;have ho6:=owns_keep (w':=(wr.alloc (.cells (mv fun _=>false) 37)).setRow wr.heap.size (mv fun _=>false)) hown fun b hb=>(setRow_other _ _ _ _ (by have:=(hown.lt b hb).2;omega)).trans (Below.heap_alloc _ _ _ (hown.lt b hb).2);have nE6:=(hb5.block _ (lt_of_block nE)).trans nE;have nR6:=(hb5.block _ (lt_of_block nR)).trans nR;have Hw6:=hid5 (bA.trans (hb5.mono bA.size));generalize hw5:wr.alloc (.cells (mv fun _=>false) 37)=w5 at*;generalize hw6:w5.setRow wr.heap.size (mv fun _=>false)=w6 at*;have zk:=(cell_of_row _ _ 0 _ _ _ nE6).trans rfl;have Hall:=hid5 hall;clear hown hbr HK hall nE nR hb5 hlt hlt' hj;have HO:Hid (∀(f:Nat→Bool) (W:World),f=(fun _=>false)→Below w.heap.size w W→OutMn (ks.all ok) ((fun _=>false)) w (.returned (.tuple #[.agg (mv f),.bool true])) W):=fun f W hf hW=>⟨⟨f,by rw[Hall.out],fun _=>hf⟩,hW⟩
   clear ho6 nE6;go_wp2_with(first|(refine wpList_store_row rfl 37 _ _ rfl _ _ rfl rfl _ _ n5 (maskSize _) (by simp[mv_size]) (mv_all _) ?_)|(refine wpList_load_row rfl 37 _ rfl _ rfl _ _ _ _ n6 maskType rfl (maskSize _) ?_)|(refine wpList_store_row rfl 37 _ _ rfl _ _ rfl rfl _ _ nR6 (maskSize _) (by simp[mv_size]) (mv_all _) ?_))
   exact rmean_post (w.heap.size+1) (fun _=>false) true rfl rfl rfl (setRow_heap _ _ _ _ _ _ nR6) (HO.out _ _ (rfl) (below_setRow Hw6.out (show w.heap.size≤w.heap.size+1 by omega) _))
set_option maxRecDepth 100000 in
set_option maxHeartbeats 4000000 in
theorem rmean_2 {w:World}{a b day:Int}{nm:List UInt8}{pe pv pk pm:Option Addr}{ks:List Ex}{ce n cv nk ck nq cq:Nat}{ok:Ex→Bool}{F:Ex→Nat→Bool}(hlk:ks.length≤2)(hkk:RKids w (.slice pv n cv) day (.slice pk nk ck) (.slice pm nq cq) pe ks ok F):
  Calls Tryd.prog 73 #[.agg #[.int .i64 2,.int .i64 a,.int .i64 b,.string ⟨nm.toArray⟩,.slice pe ks.length ce],.slice pv n cv,.int .i64 day,.slice pk nk ck,.slice pm nq cq] w (OutMn (ks.all ok) (fun i=>decide (i<1440)) w):=by
 have hz:=mv_lit;have HK:=hid5 hkk;have bA:Below w.heap.size w ((w.alloc (.cells #[.int .i64 2,.int .i64 a,.int .i64 b,.string ⟨nm.toArray⟩,.slice pe ks.length ce] 50)).alloc (.cells (mv fun _=>false) 37)):=((Below.refl _ _).alloc (Nat.le_refl _) _).alloc (by simp) _;have nE:((w.alloc (.cells #[.int .i64 2,.int .i64 a,.int .i64 b,.string ⟨nm.toArray⟩,.slice pe ks.length ce] 50)).alloc (.cells (mv fun _=>false) 37)).heap[w.heap.size]? =some (.cells #[.int .i64 2,.int .i64 a,.int .i64 b,.string ⟨nm.toArray⟩,.slice pe ks.length ce] 50 (0,0)):=by (repeat (first | refine blk_old _ _ _ (by simp only [size_alloc]; omega) ?_ | exact blk_new _ _ _ (by first | rfl | simp only [size_alloc])))
 have nR:((w.alloc (.cells #[.int .i64 2,.int .i64 a,.int .i64 b,.string ⟨nm.toArray⟩,.slice pe ks.length ce] 50)).alloc (.cells (mv fun _=>false) 37)).heap[w.heap.size+1]? =some (.cells (mv fun _=>false) 37 (0,0)):=by (repeat (first | refine blk_old _ _ _ (by simp only [size_alloc]; omega) ?_ | exact blk_new _ _ _ (by first | rfl | simp only [size_alloc])))
 have sA:((w.alloc (.cells #[.int .i64 2,.int .i64 a,.int .i64 b,.string ⟨nm.toArray⟩,.slice pe ks.length ce] 50)).alloc (.cells (mv fun _=>false) 37)).heap.size=w.heap.size+1+1:=by simp
 generalize hwA:(w.alloc (.cells #[.int .i64 2,.int .i64 a,.int .i64 b,.string ⟨nm.toArray⟩,.slice pe ks.length ce] 50)).alloc (.cells (mv fun _=>false) 37)=wA at*;have k4:=(cell_of_row _ _ 4 _ _ _ nE).trans rfl;have hlkI:(ks.length:Int)≤2:=by omega
 have HsA:=hid5 sA;obtain⟨i0,hi,hzz⟩:=Option.map_eq_some_iff.1 maskInfo6;simp only[Prod.mk.injEq]at hzz;obtain⟨hz0,hz1,hz2⟩:=hzz;have Hzi:=hid5 hz0;clear hkk sA hz0;go_enter Tryd.func73,Tryd.ntmps73;go_wp2_with fail;clear k4 hwA;go_loopw [12,14,15,16,22] (fun q _ _ _ t wr=>RmRel wA ks ok F q t wr) (fun _ _ _ _ t _=>ks.length-(intOf t).toNat);case atStart=>exact⟨0,rfl,by omega,rfl,World.ownsRow_nil _ _ _ _,Below.refl _ _⟩
 case round=>
  obtain⟨j,rfl,hj,hall,hown,hbr⟩:=hrel;have hj0:(0:Int)≤(j:Int):=(by omega);by_cases hlt:j<ks.length
  ·have hlt':(j:Int)<(ks.length:Int):=(by omega);obtain⟨k,hjk⟩: ∃k,ks[j]? =some k:=⟨ks[j],List.getElem?_eq_getElem hlt⟩
   obtain⟨g,o,ps,cs,hpe,c0,c1,c2,c3,c4,cK⟩:=HK.out j k hjk;subst hpe;have hbw:=bA.trans (hbr.mono bA.size);have d0:=(hbw.cell (block_lt_of_cell c0)).trans c0;have d1:=(hbw.cell (block_lt_of_cell c1)).trans c1;have d2:=(hbw.cell (block_lt_of_cell c2)).trans c2;have d3:=(hbw.cell (block_lt_of_cell c3)).trans c3;have d4:=(hbw.cell (block_lt_of_cell c4)).trans c4;have hbA:=hbr.alloc hbr.size (.cells #[.int .i64 k.kind,.int .i64 k.a,.int .i64 k.b,.string ⟨k.name.toArray⟩,.slice ps k.kids.length cs] 50);have hxB:=heap_alloc_new wr (.cells #[.int .i64 k.kind,.int .i64 k.a,.int .i64 k.b,.string ⟨k.name.toArray⟩,.slice ps k.kids.length cs] 50);have ho1:=owns_keep (w':=wr.alloc (.cells #[.int .i64 k.kind,.int .i64 k.a,.int .i64 k.b,.string ⟨k.name.toArray⟩,.slice ps k.kids.length cs] 50)) hown fun b hb=>Below.heap_alloc _ _ _ (hown.lt b hb).2;have cR:=cK _ (bA.trans (hbA.mono bA.size));have HJ:=hid5 hjk;have Hall:=hid5 hall;clear c0 c1 c2 c3 c4 cK hjk hall hbr hbw hown;generalize hwB:wr.alloc (.cells #[.int .i64 k.kind,.int .i64 k.a,.int .i64 k.b,.string ⟨k.name.toArray⟩,.slice ps k.kids.length cs] 50)=wB at*;go_wp2_with(refine wpList_load_row rfl 50 _ rfl _ rfl _ _ _ _ hxB exprType5 rfl (by kernel_rfl) ?_)
   refine cR.mono ?_;rintro r w2 ⟨⟨f,rfl,hf⟩,hb2⟩;have hm2:=heap_alloc_new w2 (.cells (mv fun _=>false) 37);have hb3:=hbA.trans (hb2.mono hbA.size);have hb4:=hb3.alloc hb3.size (.cells (mv fun _=>false) 37);have ho2:=owns_below ho1 hb2;have ho3:=owns_keep (w':=(w2.alloc (.cells (mv fun _=>false) 37)).setRow w2.heap.size (mv f)) ho2 fun b hb=>(setRow_other _ _ _ _ (by have:=(ho2.lt b hb).2;omega)).trans (Below.heap_alloc _ _ _ (ho2.lt b hb).2);have hb5:=below_setRow hb4 hb3.size (mv f);have hm3:=setRow_heap _ _ _ (mv f) _ _ hm2;have s3:w2.heap.size<((w2.alloc (.cells (mv fun _=>false) 37)).setRow w2.heap.size (mv f)).heap.size:=lt_of_block hm3;clear cR hxB hwB d0 d1 d2 d3 d4 ho1 ho2 hb2 hbA hb4 hb3;generalize hw3:w2.alloc (.cells (mv fun _=>false) 37)=w3 at*;generalize hw4:w3.setRow w2.heap.size (mv f)=w4 at*;cases hok:ok k with
   |false=>
    have nR3:=(hb5.block _ (lt_of_block nR)).trans nR
    have HO:Hid (OutMn (ks.all ok) (fun i=>decide (i<1440)) w (.returned (.tuple #[.agg (mv f),.bool false])) (w4.setRow (w.heap.size+1) (mv f))):=by
     refine⟨⟨f,?_,fun h=> ?_⟩,?_⟩
     ·rw[all_bad HJ.out hok]
     ·rw[all_bad HJ.out hok]at h;cases h
     ·exact below_setRow (bA.trans (hb5.mono bA.size)) (by omega) _
    clear HK Hall HJ hf ho3
    go_wp2_with(first
     |(refine wpList_store_row rfl 37 _ _ rfl _ _ rfl rfl _ _ hm2 (maskSize _) (by simp[mv_size]) (mv_all _) ?_)
     |(refine wpList_load_row rfl 37 _ rfl _ rfl _ _ _ _ hm3 maskType rfl (maskSize _) ?_)
     |(refine wpList_store_row rfl 37 _ _ rfl _ _ rfl rfl _ _ nR3 (maskSize _) (by simp[mv_size]) (mv_all _) ?_))
    exact rmean_post (w.heap.size+1) f false rfl rfl rfl (setRow_heap _ _ _ _ _ _ nR3) HO.out
   |true=>
    have ef:=hf hok;subst ef;have Hok:=hid5 hok;clear hf hok;have hb6:=hb5.alloc hb5.size (.cells (mv (F k)) 37);have hx6:=heap_alloc_new w4 (.cells (mv (F k)) 37);have ho6:=owns_keep (w':=w4.alloc (.cells (mv (F k)) 37)) ho3 fun b hb=>Below.heap_alloc _ _ _ (ho3.lt b hb).2;have s6:(w4.alloc (.cells (mv (F k)) 37)).heap.size=w4.heap.size+1:=(by simp);have Hs6:=hid5 s6;clear s6;clear ho3 hb5
    go_wp2_with(first
     |(refine wpList_store_row rfl 37 _ _ rfl _ _ rfl rfl _ _ hm2 (maskSize _) (by simp[mv_size]) (mv_all _) ?_)
     |(refine wpList_load_row rfl 37 _ rfl _ rfl _ _ _ _ hm3 maskType rfl (maskSize _) ?_)
     |(refine wpList_bslice_mask rfl _ rfl (F k) rfl ?_)
     |(at_builtin;refine wpList_append_own _ rfl _ _ 32 rfl wA.heap.size 37 i0 _ 23 184 masksType6 hi Hzi.out hz1 hz2 rfl (by decide) u12 j (mcl F (ks.take j)) rfl ho6 ⟨w4.heap.size,0,none⟩ 1 1 (mv (F k)).toList rfl (by rw[Array.length_toList,mv_size]) ?c1 ?c2 ?c3 ?c4 ?c5 ?_))
    case c1=>
     intro k' u' hk';rw[show(Addr.add ⟨w4.heap.size,0,none⟩ k')=⟨w4.heap.size,k',none⟩ by simp[Addr.add];exact fun h=>h.symm,cell_of_row _ _ _ _ _ _ hx6,←Array.getElem?_toList];exact hk'
    case c2=>exact fun u hu=>(Array.all_eq_true_iff_forall_mem.1 (mv_all (F k))) u (by simpa using hu)
    case c3=>unfold maxLen;omega
    case c4=>omega
    case c5=>have:=hb6.size;omega
    intro v' w7 hown' hgrow _;have hlo:=ho6.lt;have hb7:Below wA.heap.size wA w7:=hb6.grown hgrow hb6.size (fun q hq=>(hlo q hq).1)
    have HN:Hid (RmRel wA ks ok F v' (.int .i64 ((j+1:Nat):Int)) w7):=by
     refine⟨j+1,rfl,by omega,all_take HJ.out Hall.out Hok.out,?_,hb7⟩;rw[mcl_next HJ.out];exact hown'
    clear hown' hgrow ho6 hx6 hb6 hb7 hlo hm2 hm3 hw3 hw4 s3 Hall HJ Hok HK;go_wp2_with fail;go_roundw
    case rel=>first
     |exact HN.out
     |exact⟨_,_,_,_,_,HN.out,rfl,rfl,rfl,rfl,rfl⟩
    case measure=>simp[intOf];omega
  ·have ej:j=ks.length:=(by omega);have hlt': ¬(j:Int)<(ks.length:Int):=(by omega);subst ej;rw[List.take_length]at hall hown;have n5:=heap_alloc_new wr (.cells (mv fun _=>false) 37);have hb5:=below_setRow (hbr.alloc hbr.size (.cells (mv fun _=>false) 37)) hbr.size (mv fun _=>false);have n6:=setRow_heap _ _ _ (mv fun _=>false) _ _ n5;have ho6:=owns_keep (w':=(wr.alloc (.cells (mv fun _=>false) 37)).setRow wr.heap.size (mv fun _=>false)) hown fun b hb=>(setRow_other _ _ _ _ (by have:=(hown.lt b hb).2;omega)).trans (Below.heap_alloc _ _ _ (hown.lt b hb).2);have nE6:=(hb5.block _ (lt_of_block nE)).trans nE;have nR6:=(hb5.block _ (lt_of_block nR)).trans nR;have Hw6:=hid5 (bA.trans (hb5.mono bA.size));generalize hw5:wr.alloc (.cells (mv fun _=>false) 37)=w5 at*;generalize hw6:w5.setRow wr.heap.size (mv fun _=>false)=w6 at*;have zk:=(cell_of_row _ _ 0 _ _ _ nE6).trans rfl;have Hall:=hid5 hall;clear hown hbr HK hall nE nR hb5 hlt hlt' hj;have HO:Hid (∀(f:Nat→Bool) (W:World),f=(fun i=>decide (i<1440))→Below w.heap.size w W→OutMn (ks.all ok) ((fun i=>decide (i<1440))) w (.returned (.tuple #[.agg (mv f),.bool true])) W):=fun f W hf hW=>⟨⟨f,by rw[Hall.out],fun _=>hf⟩,hW⟩
   have cM:=make_ref (fun _=>true) 97 #[] w6 (fun _ _=>by simp[go_sem]) (fun i W _ hb=>rmk1 _ W);have hmf:=hmkf;clear ho6 nE6;go_wp2_with(refine wpList_store_row rfl 37 _ _ rfl _ _ rfl rfl _ _ n5 (maskSize _) (by simp[mv_size]) (mv_all _) ?_)
   refine cM.mono ?_;rintro r w7 ⟨rfl,hb7⟩;have nR7:=(hb7.block _ (lt_of_block nR6)).trans nR6;have Hw7:=hid5 (Hw6.out.trans (hb7.mono Hw6.out.size));clear cM hmf n6 nR6 hb7 n5 hw5 hw6;go_wp2_with(refine wpList_store_row rfl 37 _ _ rfl _ _ rfl rfl _ _ nR7 (maskSize _) (by simp[mv_size]) (mv_all _) ?_)
   exact rmean_post (w.heap.size+1) (fun i=>(fun _=>true) i&&decide (i<1440)) true rfl rfl rfl (setRow_heap _ _ _ _ _ _ nR7) (HO.out _ _ (by funext i;simp) (below_setRow Hw7.out (show w.heap.size≤w.heap.size+1 by omega) _))
set_option maxRecDepth 100000 in
set_option maxHeartbeats 4000000 in
theorem rmean_3 {w:World}{a b day:Int}{nm:List UInt8}{pe pv pk pm:Option Addr}{ks:List Ex}{ce n cv nk ck nq cq:Nat}{ok:Ex→Bool}{F:Ex→Nat→Bool}(hlk:ks.length≤2)(hkk:RKids w (.slice pv n cv) day (.slice pk nk ck) (.slice pm nq cq) pe ks ok F):
  Calls Tryd.prog 73 #[.agg #[.int .i64 3,.int .i64 a,.int .i64 b,.string ⟨nm.toArray⟩,.slice pe ks.length ce],.slice pv n cv,.int .i64 day,.slice pk nk ck,.slice pm nq cq] w (OutMn (ks.all ok) (fun i:Nat=>(decide (a≤(i:Int))&&decide ((i:Int)<b))&&decide (i<1440)) w):=by
 have hz:=mv_lit;have HK:=hid5 hkk;have bA:Below w.heap.size w ((w.alloc (.cells #[.int .i64 3,.int .i64 a,.int .i64 b,.string ⟨nm.toArray⟩,.slice pe ks.length ce] 50)).alloc (.cells (mv fun _=>false) 37)):=((Below.refl _ _).alloc (Nat.le_refl _) _).alloc (by simp) _;have nE:((w.alloc (.cells #[.int .i64 3,.int .i64 a,.int .i64 b,.string ⟨nm.toArray⟩,.slice pe ks.length ce] 50)).alloc (.cells (mv fun _=>false) 37)).heap[w.heap.size]? =some (.cells #[.int .i64 3,.int .i64 a,.int .i64 b,.string ⟨nm.toArray⟩,.slice pe ks.length ce] 50 (0,0)):=by (repeat (first | refine blk_old _ _ _ (by simp only [size_alloc]; omega) ?_ | exact blk_new _ _ _ (by first | rfl | simp only [size_alloc])))
 have nR:((w.alloc (.cells #[.int .i64 3,.int .i64 a,.int .i64 b,.string ⟨nm.toArray⟩,.slice pe ks.length ce] 50)).alloc (.cells (mv fun _=>false) 37)).heap[w.heap.size+1]? =some (.cells (mv fun _=>false) 37 (0,0)):=by (repeat (first | refine blk_old _ _ _ (by simp only [size_alloc]; omega) ?_ | exact blk_new _ _ _ (by first | rfl | simp only [size_alloc])))
 have sA:((w.alloc (.cells #[.int .i64 3,.int .i64 a,.int .i64 b,.string ⟨nm.toArray⟩,.slice pe ks.length ce] 50)).alloc (.cells (mv fun _=>false) 37)).heap.size=w.heap.size+1+1:=by simp
 generalize hwA:(w.alloc (.cells #[.int .i64 3,.int .i64 a,.int .i64 b,.string ⟨nm.toArray⟩,.slice pe ks.length ce] 50)).alloc (.cells (mv fun _=>false) 37)=wA at*;have k4:=(cell_of_row _ _ 4 _ _ _ nE).trans rfl;have hlkI:(ks.length:Int)≤2:=by omega
 have HsA:=hid5 sA;obtain⟨i0,hi,hzz⟩:=Option.map_eq_some_iff.1 maskInfo6;simp only[Prod.mk.injEq]at hzz;obtain⟨hz0,hz1,hz2⟩:=hzz;have Hzi:=hid5 hz0;clear hkk sA hz0;go_enter Tryd.func73,Tryd.ntmps73;go_wp2_with fail;clear k4 hwA;go_loopw [12,14,15,16,22] (fun q _ _ _ t wr=>RmRel wA ks ok F q t wr) (fun _ _ _ _ t _=>ks.length-(intOf t).toNat);case atStart=>exact⟨0,rfl,by omega,rfl,World.ownsRow_nil _ _ _ _,Below.refl _ _⟩
 case round=>
  obtain⟨j,rfl,hj,hall,hown,hbr⟩:=hrel;have hj0:(0:Int)≤(j:Int):=(by omega);by_cases hlt:j<ks.length
  ·have hlt':(j:Int)<(ks.length:Int):=(by omega);obtain⟨k,hjk⟩: ∃k,ks[j]? =some k:=⟨ks[j],List.getElem?_eq_getElem hlt⟩
   obtain⟨g,o,ps,cs,hpe,c0,c1,c2,c3,c4,cK⟩:=HK.out j k hjk;subst hpe;have hbw:=bA.trans (hbr.mono bA.size);have d0:=(hbw.cell (block_lt_of_cell c0)).trans c0;have d1:=(hbw.cell (block_lt_of_cell c1)).trans c1;have d2:=(hbw.cell (block_lt_of_cell c2)).trans c2;have d3:=(hbw.cell (block_lt_of_cell c3)).trans c3;have d4:=(hbw.cell (block_lt_of_cell c4)).trans c4;have hbA:=hbr.alloc hbr.size (.cells #[.int .i64 k.kind,.int .i64 k.a,.int .i64 k.b,.string ⟨k.name.toArray⟩,.slice ps k.kids.length cs] 50);have hxB:=heap_alloc_new wr (.cells #[.int .i64 k.kind,.int .i64 k.a,.int .i64 k.b,.string ⟨k.name.toArray⟩,.slice ps k.kids.length cs] 50);have ho1:=owns_keep (w':=wr.alloc (.cells #[.int .i64 k.kind,.int .i64 k.a,.int .i64 k.b,.string ⟨k.name.toArray⟩,.slice ps k.kids.length cs] 50)) hown fun b hb=>Below.heap_alloc _ _ _ (hown.lt b hb).2;have cR:=cK _ (bA.trans (hbA.mono bA.size));have HJ:=hid5 hjk;have Hall:=hid5 hall;clear c0 c1 c2 c3 c4 cK hjk hall hbr hbw hown;generalize hwB:wr.alloc (.cells #[.int .i64 k.kind,.int .i64 k.a,.int .i64 k.b,.string ⟨k.name.toArray⟩,.slice ps k.kids.length cs] 50)=wB at*;go_wp2_with(refine wpList_load_row rfl 50 _ rfl _ rfl _ _ _ _ hxB exprType5 rfl (by kernel_rfl) ?_)
   refine cR.mono ?_;rintro r w2 ⟨⟨f,rfl,hf⟩,hb2⟩;have hm2:=heap_alloc_new w2 (.cells (mv fun _=>false) 37);have hb3:=hbA.trans (hb2.mono hbA.size);have hb4:=hb3.alloc hb3.size (.cells (mv fun _=>false) 37);have ho2:=owns_below ho1 hb2;have ho3:=owns_keep (w':=(w2.alloc (.cells (mv fun _=>false) 37)).setRow w2.heap.size (mv f)) ho2 fun b hb=>(setRow_other _ _ _ _ (by have:=(ho2.lt b hb).2;omega)).trans (Below.heap_alloc _ _ _ (ho2.lt b hb).2);have hb5:=below_setRow hb4 hb3.size (mv f);have hm3:=setRow_heap _ _ _ (mv f) _ _ hm2;have s3:w2.heap.size<((w2.alloc (.cells (mv fun _=>false) 37)).setRow w2.heap.size (mv f)).heap.size:=lt_of_block hm3;clear cR hxB hwB d0 d1 d2 d3 d4 ho1 ho2 hb2 hbA hb4 hb3;generalize hw3:w2.alloc (.cells (mv fun _=>false) 37)=w3 at*;generalize hw4:w3.setRow w2.heap.size (mv f)=w4 at*;cases hok:ok k with
   |false=>
    have nR3:=(hb5.block _ (lt_of_block nR)).trans nR
    have HO:Hid (OutMn (ks.all ok) (fun i:Nat=>(decide (a≤(i:Int))&&decide ((i:Int)<b))&&decide (i<1440)) w (.returned (.tuple #[.agg (mv f),.bool false])) (w4.setRow (w.heap.size+1) (mv f))):=by
     refine⟨⟨f,?_,fun h=> ?_⟩,?_⟩
     ·rw[all_bad HJ.out hok]
     ·rw[all_bad HJ.out hok]at h;cases h
     ·exact below_setRow (bA.trans (hb5.mono bA.size)) (by omega) _
    clear HK Hall HJ hf ho3
    go_wp2_with(first
     |(refine wpList_store_row rfl 37 _ _ rfl _ _ rfl rfl _ _ hm2 (maskSize _) (by simp[mv_size]) (mv_all _) ?_)
     |(refine wpList_load_row rfl 37 _ rfl _ rfl _ _ _ _ hm3 maskType rfl (maskSize _) ?_)
     |(refine wpList_store_row rfl 37 _ _ rfl _ _ rfl rfl _ _ nR3 (maskSize _) (by simp[mv_size]) (mv_all _) ?_))
    exact rmean_post (w.heap.size+1) f false rfl rfl rfl (setRow_heap _ _ _ _ _ _ nR3) HO.out
   |true=>
    have ef:=hf hok;subst ef;have Hok:=hid5 hok;clear hf hok;have hb6:=hb5.alloc hb5.size (.cells (mv (F k)) 37);have hx6:=heap_alloc_new w4 (.cells (mv (F k)) 37);have ho6:=owns_keep (w':=w4.alloc (.cells (mv (F k)) 37)) ho3 fun b hb=>Below.heap_alloc _ _ _ (ho3.lt b hb).2;have s6:(w4.alloc (.cells (mv (F k)) 37)).heap.size=w4.heap.size+1:=(by simp);have Hs6:=hid5 s6;clear s6;clear ho3 hb5
    go_wp2_with(first
     |(refine wpList_store_row rfl 37 _ _ rfl _ _ rfl rfl _ _ hm2 (maskSize _) (by simp[mv_size]) (mv_all _) ?_)
     |(refine wpList_load_row rfl 37 _ rfl _ rfl _ _ _ _ hm3 maskType rfl (maskSize _) ?_)
     |(refine wpList_bslice_mask rfl _ rfl (F k) rfl ?_)
     |(at_builtin;refine wpList_append_own _ rfl _ _ 32 rfl wA.heap.size 37 i0 _ 23 184 masksType6 hi Hzi.out hz1 hz2 rfl (by decide) u12 j (mcl F (ks.take j)) rfl ho6 ⟨w4.heap.size,0,none⟩ 1 1 (mv (F k)).toList rfl (by rw[Array.length_toList,mv_size]) ?c1 ?c2 ?c3 ?c4 ?c5 ?_))
    case c1=>
     intro k' u' hk';rw[show(Addr.add ⟨w4.heap.size,0,none⟩ k')=⟨w4.heap.size,k',none⟩ by simp[Addr.add];exact fun h=>h.symm,cell_of_row _ _ _ _ _ _ hx6,←Array.getElem?_toList];exact hk'
    case c2=>exact fun u hu=>(Array.all_eq_true_iff_forall_mem.1 (mv_all (F k))) u (by simpa using hu)
    case c3=>unfold maxLen;omega
    case c4=>omega
    case c5=>have:=hb6.size;omega
    intro v' w7 hown' hgrow _;have hlo:=ho6.lt;have hb7:Below wA.heap.size wA w7:=hb6.grown hgrow hb6.size (fun q hq=>(hlo q hq).1)
    have HN:Hid (RmRel wA ks ok F v' (.int .i64 ((j+1:Nat):Int)) w7):=by
     refine⟨j+1,rfl,by omega,all_take HJ.out Hall.out Hok.out,?_,hb7⟩;rw[mcl_next HJ.out];exact hown'
    clear hown' hgrow ho6 hx6 hb6 hb7 hlo hm2 hm3 hw3 hw4 s3 Hall HJ Hok HK;go_wp2_with fail;go_roundw
    case rel=>first
     |exact HN.out
     |exact⟨_,_,_,_,_,HN.out,rfl,rfl,rfl,rfl,rfl⟩
    case measure=>simp[intOf];omega
  ·have ej:j=ks.length:=(by omega);have hlt': ¬(j:Int)<(ks.length:Int):=(by omega);subst ej;rw[List.take_length]at hall hown;have n5:=heap_alloc_new wr (.cells (mv fun _=>false) 37);have hb5:=below_setRow (hbr.alloc hbr.size (.cells (mv fun _=>false) 37)) hbr.size (mv fun _=>false);have n6:=setRow_heap _ _ _ (mv fun _=>false) _ _ n5;have ho6:=owns_keep (w':=(wr.alloc (.cells (mv fun _=>false) 37)).setRow wr.heap.size (mv fun _=>false)) hown fun b hb=>(setRow_other _ _ _ _ (by have:=(hown.lt b hb).2;omega)).trans (Below.heap_alloc _ _ _ (hown.lt b hb).2);have nE6:=(hb5.block _ (lt_of_block nE)).trans nE;have nR6:=(hb5.block _ (lt_of_block nR)).trans nR;have Hw6:=hid5 (bA.trans (hb5.mono bA.size));generalize hw5:wr.alloc (.cells (mv fun _=>false) 37)=w5 at*;generalize hw6:w5.setRow wr.heap.size (mv fun _=>false)=w6 at*;have zk:=(cell_of_row _ _ 0 _ _ _ nE6).trans rfl;have Hall:=hid5 hall;clear hown hbr HK hall nE nR hb5 hlt hlt' hj;have HO:Hid (∀(f:Nat→Bool) (W:World),f=(fun i:Nat=>(decide (a≤(i:Int))&&decide ((i:Int)<b))&&decide (i<1440))→Below w.heap.size w W→OutMn (ks.all ok) ((fun i:Nat=>(decide (a≤(i:Int))&&decide ((i:Int)<b))&&decide (i<1440))) w (.returned (.tuple #[.agg (mv f),.bool true])) W):=fun f W hf hW=>⟨⟨f,by rw[Hall.out],fun _=>hf⟩,hW⟩
   have cM:=make_ref (fun i:Nat=>decide (a≤(i:Int))&&decide ((i:Int)<b)) 98 #[.pointer (some ⟨w.heap.size,0,none⟩)] w6 (fun _ _=>by simp[go_sem]) (fun i W _ hb=>rmk2 i a b (nm:=nm) W ((hb.block _ (lt_of_block nE6)).trans nE6));have hmf:=hmkf;clear ho6 nE6;go_wp2_with(refine wpList_store_row rfl 37 _ _ rfl _ _ rfl rfl _ _ n5 (maskSize _) (by simp[mv_size]) (mv_all _) ?_)
   refine cM.mono ?_;rintro r w7 ⟨rfl,hb7⟩;have nR7:=(hb7.block _ (lt_of_block nR6)).trans nR6;have Hw7:=hid5 (Hw6.out.trans (hb7.mono Hw6.out.size));clear cM hmf n6 nR6 hb7 n5 hw5 hw6;go_wp2_with(refine wpList_store_row rfl 37 _ _ rfl _ _ rfl rfl _ _ nR7 (maskSize _) (by simp[mv_size]) (mv_all _) ?_)
   exact rmean_post (w.heap.size+1) (fun i=>(fun i:Nat=>decide (a≤(i:Int))&&decide ((i:Int)<b)) i&&decide (i<1440)) true rfl rfl rfl (setRow_heap _ _ _ _ _ _ nR7) (HO.out _ _ (rfl) (below_setRow Hw7.out (show w.heap.size≤w.heap.size+1 by omega) _))
end Go.Proofs.YtpmobjgnmidolaaDoor
