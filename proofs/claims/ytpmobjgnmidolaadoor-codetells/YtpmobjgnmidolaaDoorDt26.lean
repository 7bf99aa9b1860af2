/- The document's Mean, kind by kind. Written by genrm.py. -/
import Derived.Test.YtpmobjgnmidolaaDoorDt25
import Derived.Test.YtpmobjgnmidolaaDoorDt11
import Derived.Test.YtpmobjgnmidolaaDoorDt24
import Derived.Test.YtpmobjgnmidolaaDoorDt18
import Derived.Test.YtpmobjgnmidolaaDoorDt05
import Derived.Deep.CutRange
namespace Go.Proofs.YtpmobjgnmidolaaDoor
open Go.RowKit Lx Msk
set_option maxRecDepth 100000 in
set_option maxHeartbeats 4000000 in
theorem rmean_9 {w:World}{a b day:Int}{nm:List UInt8}{pe pv pk pm:Option Addr}{ks:List Ex}{ce n cv nk ck nq cq:Nat}{ok:Ex→Bool}{F:Ex→Nat→Bool}(hlk:ks.length≤2)(hkk:RKids w (.slice pv n cv) day (.slice pk nk ck) (.slice pm nq cq) pe ks ok F)(k0:Ex)(h0:ks[0]? =some k0):
  Calls Tryd.prog 73 #[.agg #[.int .i64 9,.int .i64 a,.int .i64 b,.string ⟨nm.toArray⟩,.slice pe ks.length ce],.slice pv n cv,.int .i64 day,.slice pk nk ck,.slice pm nq cq] w (OutMn (ks.all ok) (shf (F k0) a) w):=by
 have hz:=mv_lit;have HK:=hid5 hkk;have bA:Below w.heap.size w ((w.alloc (.cells #[.int .i64 9,.int .i64 a,.int .i64 b,.string ⟨nm.toArray⟩,.slice pe ks.length ce] 50)).alloc (.cells (mv fun _=>false) 37)):=((Below.refl _ _).alloc (Nat.le_refl _) _).alloc (by simp) _;have nE:((w.alloc (.cells #[.int .i64 9,.int .i64 a,.int .i64 b,.string ⟨nm.toArray⟩,.slice pe ks.length ce] 50)).alloc (.cells (mv fun _=>false) 37)).heap[w.heap.size]? =some (.cells #[.int .i64 9,.int .i64 a,.int .i64 b,.string ⟨nm.toArray⟩,.slice pe ks.length ce] 50 (0,0)):=by (repeat (first | refine blk_old _ _ _ (by simp only [size_alloc]; omega) ?_ | exact blk_new _ _ _ (by first | rfl | simp only [size_alloc])))
 have nR:((w.alloc (.cells #[.int .i64 9,.int .i64 a,.int .i64 b,.string ⟨nm.toArray⟩,.slice pe ks.length ce] 50)).alloc (.cells (mv fun _=>false) 37)).heap[w.heap.size+1]? =some (.cells (mv fun _=>false) 37 (0,0)):=by (repeat (first | refine blk_old _ _ _ (by simp only [size_alloc]; omega) ?_ | exact blk_new _ _ _ (by first | rfl | simp only [size_alloc])))
 have sA:((w.alloc (.cells #[.int .i64 9,.int .i64 a,.int .i64 b,.string ⟨nm.toArray⟩,.slice pe ks.length ce] 50)).alloc (.cells (mv fun _=>false) 37)).heap.size=w.heap.size+1+1:=by simp
 generalize hwA:(w.alloc (.cells #[.int .i64 9,.int .i64 a,.int .i64 b,.string ⟨nm.toArray⟩,.slice pe ks.length ce] 50)).alloc (.cells (mv fun _=>false) 37)=wA at*;have k4:=(cell_of_row _ _ 4 _ _ _ nE).trans rfl;have hlkI:(ks.length:Int)≤2:=by omega
 have HsA:=hid5 sA;obtain⟨i0,hi,hzz⟩:=Option.map_eq_some_iff.1 maskInfo6;simp only[Prod.mk.injEq]at hzz;obtain⟨hz0,hz1,hz2⟩:=hzz;have Hzi:=hid5 hz0;clear hkk sA hz0;go_enter Tryd.func73,Tryd.ntmps73;go_wp2_with fail;clear k4 hwA;go_loopw [12,14,15,16,22] (fun q _ _ _ t wr=>RmRel wA ks ok F q t wr) (fun _ _ _ _ t _=>ks.length-(intOf t).toNat);case atStart=>exact⟨0,rfl,by omega,rfl,World.ownsRow_nil _ _ _ _,Below.refl _ _⟩
 case round=>
  obtain⟨j,rfl,hj,hall,hown,hbr⟩:=hrel;have hj0:(0:Int)≤(j:Int):=(by omega);by_cases hlt:j<ks.length
  ·have hlt':(j:Int)<(ks.length:Int):=(by omega);obtain⟨k,hjk⟩: ∃k,ks[j]? =some k:=⟨ks[j],List.getElem?_eq_getElem hlt⟩
   obtain⟨g,o,ps,cs,hpe,c0,c1,c2,c3,c4,cK⟩:=HK.out j k hjk;subst hpe;have hbw:=bA.trans (hbr.mono bA.size);have d0:=(hbw.cell (block_lt_of_cell c0)).trans c0;have d1:=(hbw.cell (block_lt_of_cell c1)).trans c1;have d2:=(hbw.cell (block_lt_of_cell c2)).trans c2;have d3:=(hbw.cell (block_lt_of_cell c3)).trans c3;have d4:=(hbw.cell (block_lt_of_cell c4)).trans c4;have hbA:=hbr.alloc hbr.size (.cells #[.int .i64 k.kind,.int .i64 k.a,.int .i64 k.b,.string ⟨k.name.toArray⟩,.slice ps k.kids.length cs] 50);have hxB:=heap_alloc_new wr (.cells #[.int .i64 k.kind,.int .i64 k.a,.int .i64 k.b,.string ⟨k.name.toArray⟩,.slice ps k.kids.length cs] 50);have ho1:=owns_keep (w':=wr.alloc (.cells #[.int .i64 k.kind,.int .i64 k.a,.int .i64 k.b,.string ⟨k.name.toArray⟩,.slice ps k.kids.length cs] 50)) hown fun b hb=>Below.heap_alloc _ _ _ (hown.lt b hb).2;have cR:=cK _ (bA.trans (hbA.mono bA.size));have HJ:=hid5 hjk;have Hall:=hid5 hall;clear c0 c1 c2 c3 c4 cK hjk hall hbr hbw hown;generalize hwB:wr.alloc (.cells #[.int .i64 k.kind,.int .i64 k.a,.int .i64 k.b,.string ⟨k.name.toArray⟩,.slice ps k.kids.length cs] 50)=wB at*;go_wp2_with(refine wpList_load_row rfl 50 _ rfl _ rfl _ _ _ _ hxB exprType5 rfl (by kernel_rfl) ?_)
   refine cR.mono ?_;rintro r w2 ⟨⟨f,rfl,hf⟩,hb2⟩;have hm2:=heap_alloc_new w2 (.cells (mv fun _=>false) 37);have hb3:=hbA.trans (hb2.mono hbA.size);have hb4:=hb3.alloc hb3.size (.cells (mv fun _=>false) 37);have ho2:=owns_below ho1 hb2;have ho3:=owns_keep (w':=(w2.alloc (.cells (mv fun _=>false) 37)).setRow w2.heap.size (mv f)) ho2 fun b hb=>(setRow_other _ _ _ _ (by have:=(ho2.lt b hb).2;omega)).trans (Below.heap_alloc _ _ _ (ho2.lt b hb).2);have hb5:=below_setRow hb4 hb3.size (mv f);have hm3:=setRow_heap _ _ _ (mv f) _ _ hm2;have s3:w2.heap.size<((w2.alloc (.cells (mv fun _=>false) 37)).setRow w2.heap.size (mv f)).heap.size:=lt_of_block hm3;clear cR hxB hwB d0 d1 d2 d3 d4 ho1 ho2 hb2 hbA hb4 hb3;generalize hw3:w2.alloc (.cells (mv fun _=>false) 37)=w3 at*;generalize hw4:w3.setRow w2.heap.size (mv f)=w4 at*;cases hok:ok k with
   |false=>
    have nR3:=(hb5.block _ (lt_of_block nR)).trans nR
    have HO:Hid (OutMn (ks.all ok) (shf (F k0) a) w (.returned (.tuple #[.agg (mv f),.bool false])) (w4.setRow (w.heap.size+1) (mv f))):=by
     refine⟨⟨f,?_,fun h=> ?_⟩,?_⟩
     ·rw[all_bad HJ.out hok]
     ·rw[all_bad HJ.out hok]at h;cases h
     ·exact below_setRow (bA.trans (hb5.mono bA.size)) (by omega) _
    clear HK Hall HJ hf ho3
    go_wp2_with(first
     |(refine wpList_store_row rfl 37 _ _ rfl _ _ rfl rfl _ _ hm2 (maskSize _) (by simp[mv_size]) (mv_all _) ?_)
     |(refine wpList_load_row rfl 37 _ rfl _ rfl _ _ _ _ hm3 maskType rfl (maskSize _) ?_)
     |(refine wpList_store_row rfl 37 _ _ rfl _ _ rfl rfl _ _ nR3 (maskSize _) (by simp[mv_size]) (mv_all _) ?_))
    exact rmean_post (w.heap.size+1) f false rfl rfl rfl (setRow_heap _ _ _ _ _ _ nR3) HO.out
   |true=>
    have ef:=hf hok;subst ef;have Hok:=hid5 hok;clear hf hok;have hb6:=hb5.alloc hb5.size (.cells (mv (F k)) 37);have hx6:=heap_alloc_new w4 (.cells (mv (F k)) 37);have ho6:=owns_keep (w':=w4.alloc (.cells (mv (F k)) 37)) ho3 fun b hb=>Below.heap_alloc _ _ _ (ho3.lt b hb).2;have s6:(w4.alloc (.cells (mv (F k)) 37)).heap.size=w4.heap.size+1:=(by simp);have Hs6:=hid5 s6;clear s6;clear ho3 hb5
    go_wp2_with(first
     |(refine wpList_store_row rfl 37 _ _ rfl _ _ rfl rfl _ _ hm2 (maskSize _) (by simp[mv_size]) (mv_all _) ?_)
     |(refine wpList_load_row rfl 37 _ rfl _ rfl _ _ _ _ hm3 maskType rfl (maskSize _) ?_)
     |(refine wpList_bslice_mask rfl _ rfl (F k) rfl ?_)
     |(at_builtin;refine wpList_append_own _ rfl _ _ 32 rfl wA.heap.size 37 i0 _ 23 184 masksType6 hi Hzi.out hz1 hz2 rfl (by decide) u12 j (mcl F (ks.take j)) rfl ho6 ⟨w4.heap.size,0,none⟩ 1 1 (mv (F k)).toList rfl (by rw[Array.length_toList,mv_size]) ?c1 ?c2 ?c3 ?c4 ?c5 ?_))
    case c1=>
     intro k' u' hk';rw[show(Addr.add ⟨w4.heap.size,0,none⟩ k')=⟨w4.heap.size,k',none⟩ by simp[Addr.add];exact fun h=>h.symm,cell_of_row _ _ _ _ _ _ hx6,←Array.getElem?_toList];exact hk'
    case c2=>exact fun u hu=>(Array.all_eq_true_iff_forall_mem.1 (mv_all (F k))) u (by simpa using hu)
    case c3=>unfold maxLen;omega
    case c4=>omega
    case c5=>have:=hb6.size;omega
    intro v' w7 hown' hgrow _;have hlo:=ho6.lt;have hb7:Below wA.heap.size wA w7:=hb6.grown hgrow hb6.size (fun q hq=>(hlo q hq).1)
    have HN:Hid (RmRel wA ks ok F v' (.int .i64 ((j+1:Nat):Int)) w7):=by
     refine⟨j+1,rfl,by omega,all_take HJ.out Hall.out Hok.out,?_,hb7⟩;rw[mcl_next HJ.out];exact hown'
    clear hown' hgrow ho6 hx6 hb6 hb7 hlo hm2 hm3 hw3 hw4 s3 Hall HJ Hok HK;go_wp2_with fail;go_roundw
    case rel=>first
     |exact HN.out
     |exact⟨_,_,_,_,_,HN.out,rfl,rfl,rfl,rfl,rfl⟩
    case measure=>simp[intOf];omega
  ·have ej:j=ks.length:=(by omega);have hlt': ¬(j:Int)<(ks.length:Int):=(by omega);subst ej;rw[List.take_length]at hall hown;have n5:=heap_alloc_new wr (.cells (mv fun _=>false) 37);have hb5:=below_setRow (hbr.alloc hbr.size (.cells (mv fun _=>false) 37)) hbr.size (mv fun _=>false);have n6:=setRow_heap _ _ _ (mv fun _=>false) _ _ n5;have ho6:=owns_keep (w':=(wr.alloc (.cells (mv fun _=>false) 37)).setRow wr.heap.size (mv fun _=>false)) hown fun b hb=>(setRow_other _ _ _ _ (by have:=(hown.lt b hb).2;omega)).trans (Below.heap_alloc _ _ _ (hown.lt b hb).2);have nE6:=(hb5.block _ (lt_of_block nE)).trans nE;have nR6:=(hb5.block _ (lt_of_block nR)).trans nR;have Hw6:=hid5 (bA.trans (hb5.mono bA.size));generalize hw5:wr.alloc (.cells (mv fun _=>false) 37)=w5 at*;generalize hw6:w5.setRow wr.heap.size (mv fun _=>false)=w6 at*;have zk:=(cell_of_row _ _ 0 _ _ _ nE6).trans rfl;have Hall:=hid5 hall;clear hown hbr HK hall nE nR hb5 hlt hlt' hj;obtain⟨p,c,hu,_,hrow⟩:=(own_range ho6 rfl).resolve_right (by omega);rw[List.length_map]at hu;obtain⟨g,o,hp,hr0⟩:=hrow 0 (F k0) (by rw[List.getElem?_map,h0];rfl);subst hu hp;rw[Nat.zero_mul,Nat.add_zero]at hr0;have hpN:0<ks.length:=(List.getElem?_eq_some_iff.1 h0).1;have hpos:(0:Int)<(ks.length:Int):=(by omega);have HR0:=hid5 hr0;clear hrow ho6 hr0;have HO:Hid (∀(f:Nat→Bool) (W:World),f=(shf (F k0) a)→Below w.heap.size w W→OutMn (ks.all ok) ((shf (F k0) a)) w (.returned (.tuple #[.agg (mv f),.bool true])) W):=fun f W hf hW=>⟨⟨f,by rw[Hall.out],fun _=>hf⟩,hW⟩
   go_wp2_with(refine wpList_store_row rfl 37 _ _ rfl _ _ rfl rfl _ _ n5 (maskSize _) (by simp[mv_size]) (mv_all _) ?_)
   clear n5 n6 hw5 hw6 zk;refine wp_region_JL (JJ 6 (Below w6.heap.size w6) (fun W=>Below w.heap.size w W∧W.heap[w.heap.size+1]? =some (.cells (mv (shf (F k0) a)) 37 (0,0)))) (fun L hL=>JJ.start (by simp) (Below.refl _ _).drew hL) (by kernel_rfl) (by kernel_rfl) (by kernel_rfl) (by kernel_rfl) [(some 111,.slice (some ⟨g,o,none⟩) ks.length c),(some 112,.pointer (some ⟨g,o,none⟩)),(some 113,.agg (mv (F k0))),(some 114,.pointer (some ⟨w.heap.size,1,none⟩)),(some 115,.int .i64 a),(some 116,.agg (mv (shf (F k0) a))),(none,undef),(some 11,.bool true)] [(111,.slice (some ⟨g,o,none⟩) ks.length c),(112,.pointer (some ⟨g,o,none⟩)),(113,.agg (mv (F k0))),(114,.pointer (some ⟨w.heap.size,1,none⟩)),(115,.int .i64 a),(116,.agg (mv (shf (F k0) a))),(11,.bool true)] (by kernel_rfl) (by kernel_rfl) (by kernel_rfl) ?_ ?_
   ·intro i' d v o' L A W2 ho hv hLi hdep hc hJ hkept hhas;match i',ho,hv,hLi with
    |0,ho,hv,hLi=>
     cases Option.some.inj ho;cases Option.some.inj hv;have hLm:=clos_lt (m:=6) (by kernel_rfl) (by simp) hc (by decide) hLi;have hJb:=hJ.1 hLm;have h12:A.tmps[12]?.getD undef= .slice (some ⟨g,o,none⟩) ks.length c:=(gd A 12).trans (hkept 12 (by kernel_rfl));refine wpOp_step rfl (fun K hK=> ?_);go_simp;exact hK _ _ ⟨rfl,hJ.keep (by decide)⟩
    |1,ho,hv,hLi=>
     cases Option.some.inj ho;cases Option.some.inj hv;have hLm:=clos_lt (m:=6) (by kernel_rfl) (by simp) hc (by decide) hLi;have hJb:=hJ.1 hLm;have h111:A.tmps[111]?.getD undef= .slice (some ⟨g,o,none⟩) ks.length c:=(gd A 111).trans (hhas 0 111 _ rfl (hdep ⟨0,.data⟩ (by simp) rfl));refine wpOp_step rfl (fun K hK=> ?_);go_simp;exact hK _ _ ⟨rfl,hJ.keep (by decide)⟩
    |2,ho,hv,hLi=>
     cases Option.some.inj ho;cases Option.some.inj hv;have hLm:=clos_lt (m:=6) (by kernel_rfl) (by simp) hc (by decide) hLi;have hJb:=hJ.1 hLm;have h112:A.eval (.tmp 112)= .pointer (some ⟨g,o,none⟩):=hhas 1 112 _ rfl (hdep ⟨1,.data⟩ (by simp) rfl);refine wpOp_step rfl (fun K hK=> ?_);show Oper.wp _ _ _ _ _ _;refine wp_load_mask _ rfl g (o) h112 (F k0) (range_later HR0.out hJb) ?_;exact hK _ _ ⟨rfl,hJ.keep (by decide)⟩
    |3,ho,hv,hLi=>
     cases Option.some.inj ho;cases Option.some.inj hv;have hLm:=clos_lt (m:=6) (by kernel_rfl) (by simp) hc (by decide) hLi;have hJb:=hJ.1 hLm;have h5:A.tmps[5]?.getD undef= .pointer (some ⟨w.heap.size,0,none⟩):=(gd A 5).trans (hkept 5 (by kernel_rfl));refine wpOp_step rfl (fun K hK=> ?_);go_simp;exact hK _ _ ⟨rfl,hJ.keep (by decide)⟩
    |4,ho,hv,hLi=>
     cases Option.some.inj ho;cases Option.some.inj hv;have hLm:=clos_lt (m:=6) (by kernel_rfl) (by simp) hc (by decide) hLi;have hJb:=hJ.1 hLm;have h114:A.tmps[114]?.getD undef= .pointer (some ⟨w.heap.size,1,none⟩):=(gd A 114).trans (hhas 3 114 _ rfl (hdep ⟨3,.data⟩ (by simp) rfl));have e1:=(cell_of_row _ _ 1 _ _ _ ((hJb.block _ (lt_of_block nE6)).trans nE6)).trans rfl;refine wpOp_step rfl (fun K hK=> ?_);go_simp;exact hK _ _ ⟨rfl,hJ.keep (by decide)⟩
    |5,ho,hv,hLi=>
     cases Option.some.inj ho;cases Option.some.inj hv;have hLm:=clos_lt (m:=6) (by kernel_rfl) (by simp) hc (by decide) hLi;have hJb:=hJ.1 hLm;have h113:A.tmps[113]?.getD undef= .agg (mv (F k0)):=(gd A 113).trans (hhas 2 113 _ rfl (hdep ⟨2,.data⟩ (by simp) rfl));have h115:A.tmps[115]?.getD undef= .int .i64 a:=(gd A 115).trans (hhas 4 115 _ rfl (hdep ⟨4,.data⟩ (by simp) rfl));refine wpOp_step rfl (fun K hK=> ?_);go_simp;refine(shift_ref (F k0) a W2).mono ?_;rintro e' W' ⟨rfl,hb'⟩;exact hK _ _ ⟨rfl,JJ.low (by decide) hLm (hJb.trans (hb'.mono hJb.size))⟩
    |6,ho,hv,hLi=>
     cases Option.some.inj ho;cases Option.some.inj hv;have hJb:=hJ.1 hLi;have hx:A.eval (.tmp 10)= .pointer (some ⟨w.heap.size+1,0,none⟩):=hkept 10 (by kernel_rfl);have hy:A.eval (.tmp 116)= .agg (mv (shf (F k0) a)):=hhas 5 116 _ rfl (hdep ⟨5,.data⟩ (by simp) rfl);have n2:=(hJb.block _ (lt_of_block nR6)).trans nR6;refine wpOp_step rfl (fun K hK=> ?_);show Oper.wp _ _ _ _ _ _;refine wp_store_row 37 _ _ rfl _ _ hx hy _ _ n2 (maskSize _) (by simp[mv_size]) (mv_all _) ?_;exact hK _ _ ⟨rfl,JJ.done ⟨below_setRow (Hw6.out.trans (hJb.mono Hw6.out.size)) (show w.heap.size≤w.heap.size+1 by omega) _,setRow_heap _ _ _ _ _ _ n2⟩⟩
    |7,ho,hv,hLi=>
     cases Option.some.inj ho;cases Option.some.inj hv;refine wpOp_step rfl (fun K hK=> ?_);go_simp;exact hK _ _ ⟨rfl,hJ.keep (by decide)⟩
    |kk+8,ho,hv,hLi=>simp at hv
   ·intro L W2 hL hJ;obtain⟨hbw,hn⟩:=hJ.2 (hL 6 (by simp));simp only[putAll_cons,putAll_nil,Act.put,List.setIfInBounds_toArray,List.set_cons_succ,List.set_cons_zero];clear hJ hL;go_wp2_with fail;exact rmean_post (w.heap.size+1) (shf (F k0) a) true rfl rfl rfl hn (HO.out _ _ rfl hbw)
end Go.Proofs.YtpmobjgnmidolaaDoor
/- What the document's Steady comes to. -/
namespace Go.Proofs.YtpmobjgnmidolaaDoor
open Go.RowKit Lx Vx Msk
theorem rstd_step {w:World}{e:Ex}{pe:Option Addr}{ce:Nat}(hok:OKE e)(hs:stdE e=true)(hkk:RKids w (.slice none 0 0) 0 (.slice none 0 0) (.slice none 0 0) pe e.kids (fun _=>true) mnE):
  Calls Tryd.prog 73 #[exV e (.slice pe e.kids.length ce),.slice none 0 0,.int .i64 0,.slice none 0 0,.slice none 0 0] w (OutMn true (mnE e) w):=by
 have hv:mnE e=_:=valE_eq (fun _=>false) 0 (fun _=>nev) e;obtain⟨k1,k2,hlen,hr,_⟩:=hok.kinds;have h0:=fun hk=>hok.kid0 hk;have h1:=fun hk=>hok.kid1 hk;obtain⟨s4,s5,s10⟩:=stdE_kind hs;have hall: ∀ks:List Ex,ks.all (fun _=>true)=true:=fun ks=>by simp
 change _=valK _ 0 e.kind e.a e.b _ (e.kids.map mnE) at hv;obtain⟨kd,a,b,nm,ks⟩:=e;unfold exV;dsimp only at*;have hc:kd=1∨kd=2∨kd=3∨kd=6∨kd=7∨kd=8∨kd=9:=by omega
 have hl2:ks.length≤2:=by
  rw[hlen];unfold kidsP;split
  ·omega
  ·split<;>omega
 rw[hv,←hall ks];rcases hc with rfl|rfl|rfl|rfl|rfl|rfl|rfl
 ·rw[valK_1];exact rmean_1 hl2 hkk
 ·rw[valK_2];exact rmean_2 hl2 hkk
 ·rw[valK_3];exact rmean_3 hl2 hkk
 ·obtain⟨k,hk,_⟩:=h0 (by decide);obtain⟨k',hk',_⟩:=h1 (by decide);rw[valK_6,mapD_at hk,mapD_at hk'];exact rmean_6 hl2 hkk k hk k' hk'
 ·obtain⟨k,hk,_⟩:=h0 (by decide);obtain⟨k',hk',_⟩:=h1 (by decide);rw[valK_7,mapD_at hk,mapD_at hk'];exact rmean_7 hl2 hkk k hk k' hk'
 ·obtain⟨k,hk,_⟩:=h0 (by decide);obtain⟨k',hk',_⟩:=h1 (by decide);rw[valK_8,mapD_at hk,mapD_at hk'];exact rmean_8 hl2 hkk k hk k' hk'
 ·obtain⟨k,hk,_⟩:=h0 (by decide);rw[valK_9,mapD_at hk];exact rmean_9 hl2 hkk k hk
theorem rstd_all: ∀(d:Nat) (e:Ex) (sl:Value) (w:World),KidsB (fun k=>k<w.heap.size) d w sl e.kids→OKE e→stdE e=true→
  Calls Tryd.prog 73 #[exV e sl,.slice none 0 0,.int .i64 0,.slice none 0 0,.slice none 0 0] w (OutMn true (mnE e) w):=by
 have none: ∀(e:Ex) (p:Option Addr) (c:Nat) (w:World),e.kids=[]→OKE e→stdE e=true→
   Calls Tryd.prog 73 #[exV e (.slice p 0 c),.slice none 0 0,.int .i64 0,.slice none 0 0,.slice none 0 0] w (OutMn true (mnE e) w):=fun e p c w h0 hok hs=>by
  have:=rstd_step (w:=w) (pe:=p) (ce:=c) (e:=e) hok hs (fun j k hj=>by rw[h0]at hj;simp at hj);rw[show e.kids.length=0 by rw[h0];rfl]at this;exact this
 intro d;induction d with
 |zero=>
  intro e sl w hk hok hs;obtain⟨h0,p,c,rfl⟩:=hk;exact none e p c w h0 hok hs
 |succ d ih=>
  intro e sl w hk hok hs;rcases hk with⟨h0,p,c,rfl⟩|⟨g,o,c,_,rfl,hlk,hkk⟩
  ·exact none e p c w h0 hok hs
  ·refine rstd_step hok hs (fun j k hj=> ?_);obtain⟨_,sk,c0,c1,c2,c3,c4,r⟩:=hkk j k hj;obtain⟨ps,cs,rfl⟩:=r.form;have hmem:k∈e.kids:=List.mem_of_getElem? hj;exact⟨g,o,ps,cs,rfl,c0,c1,c2,c3,c4,fun W hW=>ih k _ W ((r.kept fun g _ hl=>hW.block g hl).mono fun g hg=>Nat.lt_of_lt_of_le hg hW.size) (hok.kid hmem) (stdE_kid hs hmem)⟩
theorem rsteady_post {R:Ending→World→Prop}{a:Act}{w:World}(g:Nat)(f:Nat→Bool)(b:Bool)(hd:a.defers=[])(h2:a.tmps.getD 3 undef= .bool b)(h3:a.tmps.getD 2 undef= .pointer (some ⟨g,0,none⟩))
  (hg:w.heap[g]? =some (.cells (mv f) 37 (0,0))) (hR:R (.returned (.tuple #[.agg (mv f),.bool b])) w):bodyPost Tryd.prog Tryd.f53 R .ret a w:=by
 refine bodyPost_ret (v:= .tuple #[.agg (mv f),.bool b]) ?_ hd hR;have h2':a.tmps[3]?.getD undef= .bool b:=by simpa using h2
 have h3':a.tmps[2]?.getD undef= .pointer (some ⟨g,0,none⟩):=by simpa using h3
 have hv:=run_loadVar_row (P:=Tryd.prog) w g 37 37 _ _ _ hg maskType rfl (maskSize _);simp[results,Tryd.results53,h2',h3',asAddr,hv]
theorem std_drop {ks:List Ex}{j:Nat}{k:Ex}(h:ks[j]? =some k):(ks.drop j).all stdE=(stdE k&&(ks.drop (j+1)).all stdE):=by
 obtain⟨h1,h2⟩:=List.getElem?_eq_some_iff.1 h;rw[List.drop_eq_getElem_cons h1,h2];rfl
set_option maxRecDepth 100000 in
set_option maxHeartbeats 2000000 in
theorem rsteady_step (e:Ex)(pe:Option Addr)(ce:Nat)(w:World)(hlk:(e.kids.length:Int)<9223372036854775808)
  (hm:stdE e=true→ ∀W,Below w.heap.size w W→Calls Tryd.prog 73 #[exV e (.slice pe e.kids.length ce),.slice none 0 0,.int .i64 0,.slice none 0 0,.slice none 0 0] W (OutMn true (mnE e) W))
  (hkk: ∀(j:Nat) (k:Ex),e.kids[j]? =some k→ ∃(g o:Nat) (ps:Option Addr) (cs:Nat),pe=some ⟨g,o,none⟩∧
    w.cell? ⟨g,o+j*5,none⟩=some (.int .i64 k.kind)∧w.cell? ⟨g,o+j*5+1,none⟩=some (.int .i64 k.a)∧w.cell? ⟨g,o+j*5+2,none⟩=some (.int .i64 k.b)∧
    w.cell? ⟨g,o+j*5+3,none⟩=some (.string ⟨k.name.toArray⟩)∧w.cell? ⟨g,o+j*5+4,none⟩=some (.slice ps k.kids.length cs)∧
    ∀W,Below w.heap.size w W→Calls Tryd.prog 53 #[exV k (.slice ps k.kids.length cs)] W (OutMn (stdE k) (mnE k) W)):
  Calls Tryd.prog 53 #[exV e (.slice pe e.kids.length ce)] w (OutMn (stdE e) (mnE e) w):=by
 have hz:=mv_lit;have HK:=hid5 hkk;have HM:=hid5 hm;have bA:Below w.heap.size w ((w.alloc (.cells #[.int .i64 e.kind,.int .i64 e.a,.int .i64 e.b,.string ⟨e.name.toArray⟩,.slice pe e.kids.length ce] 50)).alloc (.cells (mv fun _=>false) 37)):=((Below.refl _ _).alloc (Nat.le_refl _) _).alloc (by simp) _;have nE:((w.alloc (.cells #[.int .i64 e.kind,.int .i64 e.a,.int .i64 e.b,.string ⟨e.name.toArray⟩,.slice pe e.kids.length ce] 50)).alloc (.cells (mv fun _=>false) 37)).heap[w.heap.size]? =some (.cells #[.int .i64 e.kind,.int .i64 e.a,.int .i64 e.b,.string ⟨e.name.toArray⟩,.slice pe e.kids.length ce] 50 (0,0)):=by (repeat (first | refine blk_old _ _ _ (by simp only [size_alloc]; omega) ?_ | exact blk_new _ _ _ (by first | rfl | simp only [size_alloc])))
 have nR:((w.alloc (.cells #[.int .i64 e.kind,.int .i64 e.a,.int .i64 e.b,.string ⟨e.name.toArray⟩,.slice pe e.kids.length ce] 50)).alloc (.cells (mv fun _=>false) 37)).heap[w.heap.size+1]? =some (.cells (mv fun _=>false) 37 (0,0)):=by (repeat (first | refine blk_old _ _ _ (by simp only [size_alloc]; omega) ?_ | exact blk_new _ _ _ (by first | rfl | simp only [size_alloc])))
 have sA:((w.alloc (.cells #[.int .i64 e.kind,.int .i64 e.a,.int .i64 e.b,.string ⟨e.name.toArray⟩,.slice pe e.kids.length ce] 50)).alloc (.cells (mv fun _=>false) 37)).heap.size=w.heap.size+1+1:=by simp
 unfold exV;generalize hwA:(w.alloc (.cells #[.int .i64 e.kind,.int .i64 e.a,.int .i64 e.b,.string ⟨e.name.toArray⟩,.slice pe e.kids.length ce] 50)).alloc (.cells (mv fun _=>false) 37)=wA at*;have k0:=(cell_of_row _ _ 0 _ _ _ nE).trans rfl;have k4:=(cell_of_row _ _ 4 _ _ _ nE).trans rfl;have HsA:=hid5 sA;clear hkk hm sA
 have HN:Hid (stdE e=false→ ∀W:World,Below w.heap.size w W→OutMn (stdE e) (mnE e) w (.returned (.tuple #[.agg (mv fun _=>false),.bool false])) (W.setRow (w.heap.size+1) (mv fun _=>false))):=fun h W hW=>by
  rw[h];exact⟨⟨_,rfl,fun h=>by cases h⟩,below_setRow hW (by omega) _⟩
 have hstd:=stdE_eq e;by_cases kbad:e.kind=4∨e.kind=5∨e.kind=10
 ·have HF:Hid (stdE e=false):=by
   show _=_;rw[hstd];rcases kbad with h|h|h<;>simp[h]
  have HO:=hid5 (HN.out HF.out _ bA);clear hstd HK HM HN
  have hd4:(e.kind==4)=true∨((e.kind==4)=false∧((e.kind==5)=true∨((e.kind==5)=false∧(e.kind==10)=true))):=by
   rcases kbad with h|h|h<;>simp[h]
  clear kbad;rcases hd4 with h4|⟨h4,h5|⟨h5,h10⟩⟩
  all_goals
   go_enter Tryd.func53,Tryd.ntmps53
   go_wp2_with(refine wpList_store_row rfl 37 _ _ rfl _ _ rfl rfl _ _ nR (maskSize _) (by simp[mv_size]) (mv_all _) ?_)
   exact rsteady_post (w.heap.size+1) _ false rfl rfl rfl (setRow_heap _ _ _ _ _ _ nR) HO.out
 have h4:(e.kind==4)=false:=by simpa using fun h=>kbad (.inl h)
 have h5:(e.kind==5)=false:=by simpa using fun h=>kbad (.inr (.inl h))
 have h10:(e.kind==10)=false:=by simpa using fun h=>kbad (.inr (.inr h))
 have HS:Hid (stdE e=(e.kids.drop 0).all stdE):=by
  show _=_;have q4:e.kind≠4:=fun h=>kbad (.inl h);have q5:e.kind≠5:=fun h=>kbad (.inr (.inl h));have q10:e.kind≠10:=fun h=>kbad (.inr (.inr h));rw[hstd];simp[q4,q5,q10]
 clear kbad hstd;go_enter Tryd.func53,Tryd.ntmps53;go_wp2_with fail;clear k0 k4 h4 h5 h10 hwA;go_loopw [5,6,7,25] (fun _ _ _ t wr=> ∃j:Nat,t= .int .i64 (j:Int)∧j≤e.kids.length∧Hid (stdE e=(e.kids.drop j).all stdE)∧Below wA.heap.size wA wr) (fun _ _ _ t _=>e.kids.length-(intOf t).toNat);case atStart=>exact⟨0,rfl,by omega,HS,Below.refl _ _⟩
 case round=>
  obtain⟨j,rfl,hj,HX,hbr⟩:=hrel;have hj0:(0:Int)≤(j:Int):=(by omega);by_cases hlt:j<e.kids.length
  ·have hlt':(j:Int)<(e.kids.length:Int):=(by omega);obtain⟨k,hjk⟩: ∃k,e.kids[j]? =some k:=⟨e.kids[j],List.getElem?_eq_getElem hlt⟩
   obtain⟨g,o,ps,cs,hpe,c0,c1,c2,c3,c4,cK⟩:=HK.out j k hjk;have HD:=hid5 (std_drop hjk);subst hpe;have hbw:=bA.trans (hbr.mono bA.size);have d0:=(hbw.cell (block_lt_of_cell c0)).trans c0;have d1:=(hbw.cell (block_lt_of_cell c1)).trans c1;have d2:=(hbw.cell (block_lt_of_cell c2)).trans c2;have d3:=(hbw.cell (block_lt_of_cell c3)).trans c3;have d4:=(hbw.cell (block_lt_of_cell c4)).trans c4;have hbA:=hbr.alloc hbr.size (.cells #[.int .i64 k.kind,.int .i64 k.a,.int .i64 k.b,.string ⟨k.name.toArray⟩,.slice ps k.kids.length cs] 50);have hxB:=heap_alloc_new wr (.cells #[.int .i64 k.kind,.int .i64 k.a,.int .i64 k.b,.string ⟨k.name.toArray⟩,.slice ps k.kids.length cs] 50);have cR:=cK _ (bA.trans (hbA.mono bA.size));unfold exV at cR;clear c0 c1 c2 c3 c4 cK hjk hbr hbw;generalize hwB:wr.alloc (.cells #[.int .i64 k.kind,.int .i64 k.a,.int .i64 k.b,.string ⟨k.name.toArray⟩,.slice ps k.kids.length cs] 50)=wB at*;go_wp2_with(refine wpList_load_row rfl 50 _ rfl _ rfl _ _ _ _ hxB exprType5 rfl (by kernel_rfl) ?_)
   refine cR.mono ?_;rintro r w2 ⟨⟨f,rfl,hf⟩,hb2⟩;have hm2:=heap_alloc_new w2 (.cells (mv fun _=>false) 37);have hb3:=hbA.trans (hb2.mono hbA.size);have hb4:=hb3.alloc hb3.size (.cells (mv fun _=>false) 37);have hb5:=below_setRow hb4 hb3.size (mv f);clear cR hxB hwB d0 d1 d2 d3 d4 hb2 hbA hb4 hb3 hf;generalize hw3:w2.alloc (.cells (mv fun _=>false) 37)=w3 at*;generalize hw4:w3.setRow w2.heap.size (mv f)=w4 at*;cases hok:stdE k with
   |false=>
    have nR3:=(hb5.block _ (lt_of_block nR)).trans nR
    have HF:Hid (stdE e=false):=by
     show _=_;rw[HX.out,HD.out,hok];rfl
    have HO:=hid5 (HN.out HF.out _ (bA.trans (hb5.mono bA.size)));clear HK HM HN HS HX HD hok
    go_wp2_with(first
     |(refine wpList_store_row rfl 37 _ _ rfl _ _ rfl rfl _ _ hm2 (maskSize _) (by simp[mv_size]) (mv_all _) ?_)
     |(refine wpList_store_row rfl 37 _ _ rfl _ _ rfl rfl _ _ nR3 (maskSize _) (by simp[mv_size]) (mv_all _) ?_))
    exact rsteady_post (w.heap.size+1) _ false rfl rfl rfl (setRow_heap _ _ _ _ _ _ nR3) HO.out
   |true=>
    have HX2:Hid (stdE e=(e.kids.drop (j+1)).all stdE):=by
     show _=_;rw[HX.out,HD.out,hok];rfl
    clear HX HD hok;go_wp2_with(refine wpList_store_row rfl 37 _ _ rfl _ _ rfl rfl _ _ hm2 (maskSize _) (by simp[mv_size]) (mv_all _) ?_)
    go_roundw;case rel=>exact⟨j+1,by go_num,by omega,HX2,hb5⟩
    case measure=>simp[intOf];omega
  ·have hlt': ¬(j:Int)<(e.kids.length:Int):=(by omega)
   have HF:Hid (stdE e=true):=by
    show _=_;rw[HX.out,List.drop_of_length_le (by omega)];rfl
   have cM:=HM.out HF.out wr (bA.trans (hbr.mono bA.size));unfold exV at cM;have nE3:=(hbr.block _ (lt_of_block nE)).trans nE;clear HK HM HN HS HX;go_wp2_with(refine wpList_load_row rfl 50 _ rfl _ rfl _ _ _ _ nE3 exprType5 rfl (by kernel_rfl) ?_)
   refine cM.mono ?_;rintro r w2 ⟨⟨f,rfl,hf⟩,hb2⟩;have hb3:=hbr.trans (hb2.mono hbr.size);have nR3:=(hb3.block _ (lt_of_block nR)).trans nR
   have HO:Hid (OutMn (stdE e) (mnE e) w (.returned (.tuple #[.agg (mv f),.bool true])) (w2.setRow (w.heap.size+1) (mv f))):=by
    rw[HF.out];exact⟨⟨f,rfl,fun _=>hf rfl⟩,below_setRow (bA.trans (hb3.mono bA.size)) (by omega) _⟩
   clear cM hf hb2 nE3 HF;go_wp2_with(refine wpList_store_row rfl 37 _ _ rfl _ _ rfl rfl _ _ nR3 (maskSize _) (by simp[mv_size]) (mv_all _) ?_)
   exact rsteady_post (w.heap.size+1) _ true rfl rfl rfl (setRow_heap _ _ _ _ _ _ nR3) HO.out
theorem rsteady_any: ∀(d:Nat) (e:Ex) (sl:Value) (w:World),KidsB (fun k=>k<w.heap.size) d w sl e.kids→OKE e→Calls Tryd.prog 53 #[exV e sl] w (OutMn (stdE e) (mnE e) w)
 |0,e,sl,w,hk,hok=>by
  have hM:=fun hs W (hW:Below w.heap.size w W)=>rstd_all 0 e sl W hk hok hs;obtain⟨h0,p,c,rfl⟩:=hk;have:=rsteady_step e p c w (by rw[h0];decide) (by rw[h0];exact hM) (fun j k hj=>by rw[h0]at hj;simp at hj);rw[h0]at this;exact this
 |d+1,e,sl,w,hk,hok=>by
  have hM:=fun hs W (hW:Below w.heap.size w W)=>rstd_all (d+1) e sl W ((hk.kept fun q _ hl=>hW.block q hl).mono fun q hq=>Nat.lt_of_lt_of_le hq hW.size) hok hs;obtain⟨pe,ce,hsl⟩:=hk.form;subst hsl
  have hlk:(e.kids.length:Int)<9223372036854775808:=by
   rcases hk with⟨h0,_⟩|⟨_,_,_,_,_,hl,_⟩
   ·rw[h0];decide
   ·omega
  refine rsteady_step e pe ce w hlk hM fun j k hj=> ?_;rcases hk with⟨h0,_⟩|⟨g,o,c,hB,hs,hl,hkk⟩
  ·rw[h0]at hj;simp at hj
  ·obtain⟨_,sk,c0,c1,c2,c3,c4,r⟩:=hkk j k hj;obtain⟨ps,cs,rfl⟩:=r.form;injection hs with e1;exact⟨g,o,ps,cs,e1,c0,c1,c2,c3,c4,fun W hb=>rsteady_any d k _ W ((r.kept fun q _ hl=>hb.block q hl).mono fun q hq=>Nat.lt_of_lt_of_le hq hb.size) (hok.kid (List.mem_of_getElem? hj))⟩
end Go.Proofs.YtpmobjgnmidolaaDoor
/- What code.Compile comes to. -/
namespace Go.Proofs.YtpmobjgnmidolaaDoor
open Go.RowKit Lx Vx Msk
set_option maxRecDepth 100000 in
set_option maxHeartbeats 8000000 in
theorem compile_any (us:List (Ru×Value))(v:Value)(w:World)(h:InR w v us)(hT:Tab w):Calls Tryd.prog 6 #[v] w (OutC (us.map (fun p=>p.1)) w):=by
 obtain⟨l,hl⟩: ∃l,us.map (fun p=>p.1)=l:=⟨_,rfl⟩
 obtain⟨n,hn⟩: ∃n,us.length=n:=⟨_,rfl⟩
 have hll:l.length=n:=by rw[←hl,List.length_map,hn]
 obtain⟨pv,cv,rfl⟩:=h.form;have bA:=(Below.refl w.heap.size w).alloc (Nat.le_refl _) (.cells #[.int .i64 0,.int .i64 0] 26);have n1:=heap_alloc_new w (.cells #[.int .i64 0,.int .i64 0] 26);generalize hwA:w.alloc (.cells #[.int .i64 0,.int .i64 0] 26)=wA at*;have cW:=chk_any us _ wA (h.below bA);rw[hl]at cW;rw[hl,hn];have HL:=hid5 hl;have HLN:=hid5 hn;have HLL:=hid5 hll;have HI0:=hid5 h;have HT0:=hid5 hT;rw[hn]at cW;clear hl hll h hn hT;go_enter Tryd.func6,Tryd.ntmps6;go_wp2_with fail;refine cW.mono ?_;rintro r w1 ⟨rfl,hb1⟩;have m2:=(hb1.block _ (lt_of_block n1)).trans n1;have hb1w:=bA.trans (hb1.mono bA.size);clear cW n1 hb1 bA hwA;by_cases h0:(chkW l).1=0
 ·have h40:=(chk_rt h0).1;rw[HLL.out]at h40;have H0:=hid5 h0;rw[h0];generalize (((chkW l).2:Nat):Int)=at0 at*;have bC:=(Below.refl w1.heap.size w1).alloc (Nat.le_refl _) (.cells #[.int .i64 0,.int .i64 at0] 26);have HBw:=hid5 (hb1w.trans (bC.mono hb1w.size));have HR:=hid5 ((bC.block _ (lt_of_block m2)).trans m2);have m3:=heap_alloc_new w1 (.cells #[.int .i64 0,.int .i64 at0] 26);have Hn40:=hid5 h40;have hI40:(n:Int)≤40:=(by omega);have hI0:(0:Int)≤(n:Int):=(by omega);clear bC hb1w m2 h0;generalize hw2:w1.alloc (.cells #[.int .i64 0,.int .i64 at0] 26)=wB at*;have z0:=(cell_of_row _ _ 0 _ _ _ m3).trans rfl;have cN:=numbers_any us _ wB (HI0.out.below HBw.out);unfold OutNu at cN;rw[HL.out,HLN.out]at cN;clear m3;go_wp2_with fail;refine cN.mono ?_;rintro r w3 ⟨mb,rfl,hmb,hmp,b3⟩;have hB3:=HBw.out.trans (b3.mono HBw.out.size);have r3:=(b3.block _ (lt_of_block HR.out)).trans HR.out;have bM:=(Below.refl w3.heap.size w3).alloc (Nat.le_refl _) (.cells (zcodes n) 42);have nM:=heap_alloc_new w3 (.cells (zcodes n) 42);have hmk:=make_codes n (by omega) w3;have hmpM:=hmp.later (bM.block _ (lt_of_map hmp));have hBM:=hB3.trans (bM.mono hB3.size);have rM:=(bM.block _ (lt_of_block r3)).trans r3;have hmbg:=lt_of_map hmp;have hrg:=lt_of_block r3;obtain⟨go,hgo⟩: ∃q,w3.heap.size=q:=⟨_,rfl⟩
  have hwgo:w.heap.size≤go:=(by rw[←hgo];exact hB3.size);generalize hwM:w3.alloc (.cells (zcodes n) 42)=wM at*;rw[hgo]at nM hmk hmbg hrg;have hszM:w.heap.size≤wM.heap.size:=hBM.size;have HMM:=hid5 (MeSt.made nM);have HMP:=hid5 hmpM;have HBM:=hid5 hBM;have HRM:=hid5 rM;have hgrne:w.heap.size≠go:=(by omega);have hmbne:mb≠go:=(by omega);clear hw2 cN hmp b3 hB3 r3 bM nM hmpM hBM rM HR HBw z0;go_wp2_with fail;clear hmk hwM hgo;go_loopw [7,8,9,25] (fun _ _ _ t wr=> ∃(j:Nat) (sv:Nat→Value) (Ss:Nat→List (In×Value)),t= .int .i64 (j:Int)∧j≤n∧MeSt go n sv (fun _=>0) (fun _=>0) wr∧(∀k,k<j→Laid l wr sv Ss k)∧Kept go wM wr) (fun _ _ _ t _=>n-(intOf t).toNat);case atStart=>exact⟨0,_,fun _=>[],rfl,by omega,HMM.out,fun k hk=>by omega,Kept.refl _ _⟩
  case round=>
   obtain⟨j,sv,Ss,rfl,hj,hms,hld,hkp⟩:=hrel;clear HMM;have hj0:(0:Int)≤(j:Int):=(by omega);have hbr:=below_kept HBM.out hkp hwgo hszM;by_cases hlt:j<n
   ·have hlt':(j:Int)<(n:Int):=(by omega);obtain⟨p,hjp⟩: ∃p,us[j]? =some p:=⟨us[j]'(by have:=HLN.out;omega),List.getElem?_eq_getElem _⟩
    have hinr:=HI0.out.below hbr;have HCL:=hid5 hinr.cells;obtain⟨g,o,hpe,d0,d1,d2,d3,d4,d5⟩:=HCL.out j p hjp;subst hpe;have hpm:=List.mem_of_getElem? hjp;obtain⟨hnl,hel,dd,hkb⟩:=hinr.all p hpm;obtain⟨ps,cs,hps⟩:=hkb.form;have hlj:l[j]? =some p.1:=(by rw[←HL.out,List.getElem?_map,hjp];rfl);have hlm:=List.mem_of_getElem? hlj;obtain⟨⟨nm,e⟩,sk⟩:=p;dsimp only at d0 d1 d2 d3 d4 d5 hel hkb hps hnl hlj hlm;subst hps;have hrt:=(chk_rt H0.out).2 _ hlm;have HLJ:=hid5 hlj;have bR:=(Below.refl wr.heap.size wr).alloc (Nat.le_refl _) (.cells #[.string ⟨nm.toArray⟩,.int .i64 e.kind,.int .i64 e.a,.int .i64 e.b,.string ⟨e.name.toArray⟩,.slice ps e.kids.length cs] 52);have nR:=heap_alloc_new wr (.cells #[.string ⟨nm.toArray⟩,.int .i64 e.kind,.int .i64 e.a,.int .i64 e.b,.string ⟨e.name.toArray⟩,.slice ps e.kids.length cs] 52);generalize hwR:wr.alloc (.cells #[.string ⟨nm.toArray⟩,.int .i64 e.kind,.int .i64 e.a,.int .i64 e.b,.string ⟨e.name.toArray⟩,.slice ps e.kids.length cs] 52)=wR at*;have bZ:=(Below.refl wR.heap.size wR).alloc (Nat.le_refl _) (.cells #[.map none,.slice none 0 0] 54);have nZ:=heap_alloc_new wR (.cells #[.map none,.slice none 0 0] 54);generalize hwZ:wR.alloc (.cells #[.map none,.slice none 0 0] 54)=wZ at*;have bW:=below_setRow bZ (Nat.le_refl _) #[.map (some mb),.slice none 0 0];have nW:=setRow_heap _ _ _ #[.map (some mb),.slice none 0 0] _ _ nZ;have nR2:=(bW.block _ (lt_of_block nR)).trans nR;generalize hwW:wZ.setRow wR.heap.size #[.map (some mb),.slice none 0 0]=wW at*;have hokW:WOk wR wR.heap.size (.map (some mb)) [] wW:=⟨⟨bW,Nat.le_refl _,_,nW,World.ownsRow_nil _ _ _ _⟩,fun u hu=>by cases hu⟩
    have hmpR:MapN wR mb l:=by
     have h1:=HMP.out.later (hkp.block _ (lt_of_map HMP.out) (fun e=>hmbne (Option.some.inj e)));exact h1.later (bR.block _ (lt_of_map h1))
    have hTR:Tab wR:=tab_below (tab_below HT0.out hbr) bR;have hkbR:KidsB (fun k=>k<wR.heap.size) dd wR (.slice ps e.kids.length cs) e.kids:=(hkb.kept fun g _ hl=>bR.block g hl).mono fun g hg=>Nat.lt_of_lt_of_le hg bR.size;have cE:=expr_any wR wR.heap.size mb l hmpR hTR dd e _ hkbR hrt hel (fun x hx=>(chk_nm H0.out hlm hx).1) [] wW hokW (by have:=hrt.nod;simpa using Nat.le_trans this (by omega));unfold exV at cE;have y1:=(cell_of_row _ _ 1 _ _ _ nR2).trans rfl;have y2:=(cell_of_row _ _ 2 _ _ _ nR2).trans rfl;have y3:=(cell_of_row _ _ 3 _ _ _ nR2).trans rfl;have y4:=(cell_of_row _ _ 4 _ _ _ nR2).trans rfl;have y5:=(cell_of_row _ _ 5 _ _ _ nR2).trans rfl;have HMS:=hid5 hms;have HLD:=hid5 hld;have HKP:=hid5 hkp;have HBR:=hid5 bR;have hnod:=hrt.nod;have hcl:=(code_len (atP5 l) _ e (Nat.le_refl _) hrt.ok 0)
    clear hinr HCL hjp hpm hkb hnl hel hlj hlm hms hld hkp hbr bR bW bZ nW hokW hmpR hTR hkbR nR hrt;go_wp2_with(refine wpList_store_row rfl 54 _ _ rfl _ _ rfl rfl _ _ nZ (by kernel_rfl) (by simp) (by simp[Value.oneCell']) ?_;rw[hwW])
    refine cE.mono ?_;rintro r w5 ⟨rfl,S',hS',hok5,_⟩;obtain⟨⟨hb5,_,sv5,n5,own5⟩,hsp5⟩:=hok5;rw[List.nil_append]at own5 hsp5
    have hlS:S'.length=(codeE (atP5 l) e 0).length:=by
     have h1:=congrArg List.length hS';rw[List.length_map]at h1;exact h1
    obtain⟨g5,c5,hv5⟩: ∃g5 c5,sv5= .slice (some ⟨g5,0,none⟩) S'.length c5:=by
     rcases own5.2 with⟨_,e0⟩|⟨g',cap,cur,e0,_⟩
     ·omega
     ·exact⟨g',cap,e0⟩
    subst hv5;have z51:=(cell_of_row _ _ 1 _ _ _ n5).trans rfl;have hbr5:Below wr.heap.size wr w5:=HBR.out.trans (hb5.mono HBR.out.size);have hms5:=HMS.out.below hbr5;have x0:=(hms5.cells hlt).1;have xf:=hms5.frozen (j*3);have hk5:=HKP.out.trans (Kept.of_below hbr5);have hks:=kept_set w5 go (j*3) (.slice (some ⟨g5,0,none⟩) S'.length c5);have HMN:=hid5 (hms5.setV (.slice (some ⟨g5,0,none⟩) S'.length c5) hlt);have HKN:=hid5 (hk5.trans hks);have hq5:InsQ w5 (.slice (some ⟨g5,0,none⟩) S'.length c5) S':=own_zero own5
    have HLN2:Hid (∀k,k<j+1→Laid l (w5.setCell ⟨go,j*3,none⟩ (.slice (some ⟨g5,0,none⟩) S'.length c5)) (upV sv j (.slice (some ⟨g5,0,none⟩) S'.length c5)) (upS Ss j S') k):=fun k hk=>by
     by_cases e1:k=j
     ·subst e1
      have h1:Laid l w5 (upV sv k (.slice (some ⟨g5,0,none⟩) S'.length c5)) (upS Ss k S') k:=by
       unfold Laid;rw[upV_at,upS_at,codeL_at HLJ.out];exact⟨hq5,hS',hsp5⟩
      exact h1.kept hms5 hks
     ·have h1:=HLD.out k (by omega);have h2:Laid l w5 sv Ss k:=⟨h1.1.below hbr5,h1.2.1,fun u hu=>(h1.2.2 u hu).below hbr5⟩
      exact(h2.kept hms5 hks).ext (upV_ne _ _ e1) (upS_ne _ _ e1)
    generalize hw6:w5.setCell ⟨go,j*3,none⟩ (.slice (some ⟨g5,0,none⟩) S'.length c5)=w6 at*;clear hlS cE own5 hsp5 hS' hb5 n5 hbr5 hms5 hk5 hks hq5 y1 y2 y3 y4 y5 nR2 HMS HLD HKP HBR hwW hwZ nZ hwR d0 d1 d2 d3 d4 d5;go_wp2_with fail;go_roundw;case rel=>exact⟨j+1,_,_,by go_num,by omega,HMN.out,HLN2.out,HKN.out⟩
    case measure=>simp[intOf];omega
   ·have hlt': ¬(j:Int)<(n:Int):=(by omega);obtain rfl:n=j:=(by omega);generalize wr=wL at*;have hCn:n=(codeL l).length:=(by rw[codeL_len];exact HLL.out.symm);have hin: ∀k,k<n→k<l.length:=fun k hk=>(by have:=HLL.out;omega)
    have hLd: ∀k,k<n→1≤(Ss k).length∧(Ss k).length≤700:=fun k hk=>by
     have h1:=congrArg List.length (hld k hk).2.1;rw[List.length_map]at h1;have h2:=codeL_bd H0.out (hin k hk);omega
    have HME:=hid5 (fun(w':World) (i:Nat)=>measure_any (codeL l) (muR l) (cmpM l) (code_ranked H0.out) (cmpM_small l) n go n hCn (by omega) sv Ss (fun k hk=>(hld k hk).2.1) hLd (fun k hk u hu=>((hld k hk).2.2 u hu).form) (fun i hi=>cmpM_eq H0.out (hin i hi)) (fun i hi=>cmpM_pos H0.out (hin i hi)) _ i (Nat.le_refl _));have HLD:=hid5 hld;have HMS:=hid5 hms;have HKP:=hid5 hkp;have HLB:=hid5 hLd;have HCN:=hid5 hCn;clear hld hms hkp hLd hin hCn hbr;go_wp2_with fail;go_loopw [10,44] (fun _ t w7=> ∃(i:Nat) (H T:Nat→Int),t= .int .i64 (i:Int)∧i≤n∧MeSt go n sv H T w7∧(∀k,k<n→Okm (cmpM l) H T k)∧(∀k,k<i→Me (cmpM l) H T k)∧Kept go wL w7) (fun _ t _=>n-(intOf t).toNat);case atStart=>exact⟨0,_,_,rfl,by omega,HMS.out,fun k _=> .inl ⟨rfl,rfl⟩,fun k hk=>by omega,Kept.refl _ _⟩
    case round=>
     obtain⟨i,H,T,rfl,hi,hms,hok,hme,hkp⟩:=hrel;have hi0:(0:Int)≤(i:Int):=(by omega);by_cases hil:i<n
     ·have hil':(i:Int)<(n:Int):=(by omega);have cM:=HME.out wr i hil H T wr hms (fun q hq=>((HLD.out q hq).1.kept HMS.out hkp)) (fun q hq _=>hok q hq);obtain⟨ps,cs,hsv,_⟩:=((HLD.out i hil).1.kept HMS.out hkp).form (HLB.out i hil).1;unfold OutM at cM;rw[hsv]at cM;have HOK:=hid5 hok;have HMEE:=hid5 hme;have HKQ:=hid5 hkp;clear hsv hms hok hme hkp;go_wp2_with fail;refine cM.mono ?_;rintro r w8 ⟨rfl,H',T',hms8,hme8,hrs8,hk8⟩
      have HOK8:Hid (∀k,k<n→Okm (cmpM l) H' T' k):=fun k hk=>by
       by_cases e1:k=i
       ·subst e1;exact .inr hme8
       ·have h1:=hrs8 k hk e1;by_cases e2:muR l k≤muR l i
        ·exact(h1.1 e2).1
        ·have h2:=h1.2 (by omega);have h3:=HOK.out k hk;unfold Okm Me at h3⊢;rw[h2.1,h2.2];exact h3
      have HME8:Hid (∀k,k<i+1→Me (cmpM l) H' T' k):=fun k hk=>by
       by_cases e1:k=i
       ·subst e1;exact hme8
       ·have h1:=hrs8 k (by omega) e1;have h3:=HMEE.out k (by omega);by_cases e2:muR l k≤muR l i
        ·exact(h1.1 e2).2 h3
        ·have h2:=h1.2 (by omega);unfold Me at h3⊢;rw[h2.1,h2.2];exact h3
      have HK8:=hid5 (HKQ.out.trans hk8);have HMS8:=hid5 hms8;clear cM hms8 hme8 hrs8 hk8;go_wp2_with fail;go_roundw;case rel=>exact⟨i+1,H',T',by go_num,by omega,HMS8.out,HOK8.out,HME8.out,HK8.out⟩
      case measure=>simp[intOf];omega
     ·have hil': ¬(i:Int)<(n:Int):=(by omega);obtain rfl:n=i:=(by omega);have hms9:MeSt go n sv (fun k=>(cmpM l k).1) (fun k=>(cmpM l k).2) wr:=hms.congr fun k hk=>hme k hk
      have hsv9: ∀k,k<n→ ∃p ln c,sv k= .slice p ln c∧ln≤700:=fun k hk=>by
       obtain⟨g',c',e',_⟩:=(HLD.out k hk).1.form (HLB.out k hk).1;exact⟨_,_,_,e',(HLB.out k hk).2⟩
      have cI:=indexMuch_any n go n sv (cmpM l) wr hms9 hsv9 (by omega)
      have HIV:Hid (∀(W:World) (c xs:Array Value),Below wr.heap.size wr W→W.heap[w.heap.size]? =some (.cells c 26 (0,0))→InV (W.setRow w.heap.size xs) (.slice (some ⟨go,0,none⟩) n n) (cmpL l)):=fun W c xs hW hg=>by
       refine inV_own HCN.out (by omega) ((hms9.below hW).same (setRow_other W w.heap.size go xs (fun e=>hgrne e.symm))) (fun k hk=>(((HLD.out k hk).1.kept HMS.out hkp).below hW).set hg xs) HLB.out (fun k hk u hu=>((((HLD.out k hk).2.2 u hu).kept HMS.out hkp).below hW).set hg xs) (fun k hk=>(HLD.out k hk).2.1)
      have hk9:=HKP.out.trans hkp;have HB9:=hid5 (below_kept HBM.out hk9 hwgo hszM);have HR9:=hid5 ((hk9.block _ (lt_of_block HRM.out) (fun e=>hgrne (Option.some.inj e))).trans HRM.out);obtain⟨fx,hfx⟩: ∃q,fstM (cmpM l) n 0=q:=⟨_,rfl⟩
      rw[hfx]at cI;have HFX:Hid (fstM (cmpM l) l.length 0=fx):=(by show _=_;rw[HLL.out];exact hfx);have hfb: -1≤fx∧fx≤(n:Int):=(by rw[←hfx];exact fst_bd (cmpM l) n 0 n (by omega));clear hms hok hme hkp hms9 hsv9 hk9 hfx HMS HLD HME;go_wp2_with fail;refine cI.mono ?_;rintro r w9 ⟨rfl,b9⟩;have n9:=(b9.block _ (lt_of_block HR9.out)).trans HR9.out;have hb9:=HB9.out.trans (b9.mono HB9.out.size);have HIV9:=hid5 (HIV.out w9 _ #[.int .i64 0,.int .i64 0] b9 n9);have hw9:=lt_of_block n9;clear cI HIV HB9 HR9 b9;by_cases hf0:0≤fx
      ·have HCF:Hid (cflt l=(4,fx)):=by
        show _=_;unfold cflt;rw[if_neg (by simpa using H0.out),HFX.out,if_pos hf0]
       have HO:Hid (OutC l w (.returned (.tuple #[.slice none 0 0,.agg #[.int .i64 4,.int .i64 fx]])) (w9.setRow w.heap.size #[.int .i64 4,.int .i64 fx])):=by
        refine⟨_,by rw[HCF.out],fun e=> ?_,fun _=>rfl,below_setRow hb9 (Nat.le_refl _) _⟩;rw[HCF.out]at e;exact absurd e (by show¬(4:Int)=0;omega)
       have HNN:=hid5 (setRow_heap _ _ _ #[.int .i64 4,.int .i64 fx] _ _ n9);clear HIV9 hb9;go_wp2_with(refine wpList_store_row rfl 26 _ _ rfl _ _ rfl rfl _ _ n9 (by kernel_rfl) (by simp) (by simp[Value.oneCell']) ?_)
       exact comp_post w.heap.size _ 4 fx rfl rfl rfl HNN.out HO.out
      ·have HCF:Hid (cflt l=(0,0)):=by
        show _=_;unfold cflt;rw[if_neg (by simpa using H0.out),HFX.out,if_neg hf0]
       have HO:Hid (OutC l w (.returned (.tuple #[.slice (some ⟨go,0,none⟩) n n,.agg #[.int .i64 0,.int .i64 0]])) (w9.setRow w.heap.size #[.int .i64 0,.int .i64 0])):=by
        refine⟨_,by rw[HCF.out],fun _=> ?_,fun e=> ?_,below_setRow hb9 (Nat.le_refl _) _⟩
        ·exact HIV9.out
        ·rw[HCF.out]at e;exact absurd rfl e
       have HNN:=hid5 (setRow_heap _ _ _ #[.int .i64 0,.int .i64 0] _ _ n9);clear HIV9 hb9;go_wp2_with(refine wpList_store_row rfl 26 _ _ rfl _ _ rfl rfl _ _ n9 (by kernel_rfl) (by simp) (by simp[Value.oneCell']) ?_)
       exact comp_post w.heap.size _ 0 0 rfl rfl rfl HNN.out HO.out
 ·have H0:=hid5 h0
  have HF:Hid (cflt l=((chkW l).1,((chkW l).2:Int))):=by
   show _=_;unfold cflt;rw[if_pos h0]
  have hne:((chkW l).1 !=0)=true:=(by simpa using h0);have bC:=(Below.refl w1.heap.size w1).alloc (Nat.le_refl _) (.cells #[.int .i64 (chkW l).1,.int .i64 ((chkW l).2:Int)] 26);have HBw:=hid5 (hb1w.trans (bC.mono hb1w.size));have n9:=(bC.block _ (lt_of_block m2)).trans m2;have m3:=heap_alloc_new w1 (.cells #[.int .i64 (chkW l).1,.int .i64 ((chkW l).2:Int)] 26);clear bC hb1w m2 h0;generalize hw2:w1.alloc (.cells #[.int .i64 (chkW l).1,.int .i64 ((chkW l).2:Int)] 26)=wB at*
  have HO:Hid (∀W,Below w.heap.size w W→OutC l w (.returned (.tuple #[.slice none 0 0,.agg #[.int .i64 (chkW l).1,.int .i64 ((chkW l).2:Int)]])) W):=fun W hW=>by
   refine⟨_,by rw[HF.out],fun e=> ?_,fun _=>rfl,hW⟩;rw[HF.out]at e;exact absurd e H0.out
  have z0:=(cell_of_row _ _ 0 _ _ _ m3).trans rfl;have z1:=(cell_of_row _ _ 1 _ _ _ m3).trans rfl;have y0:=(cell_of_row _ _ 0 _ _ _ n9).trans rfl;have y1:=(cell_of_row _ _ 1 _ _ _ n9).trans rfl;have x0:=frozen_of_row _ _ 0 _ _ n9;have x1:=frozen_of_row _ _ 1 _ _ n9;have hmm:=heap_setCell_same _ _ 1 _ _ (.int .i64 ((chkW l).2:Int)) (heap_setCell_same _ _ 0 _ _ (.int .i64 (chkW l).1) n9);have HBB:=hid5 ((HBw.out.setCell (p:=⟨w.heap.size,0,none⟩) (Nat.le_refl _) (.int .i64 (chkW l).1)).setCell (p:=⟨w.heap.size,1,none⟩) (Nat.le_refl _) (.int .i64 ((chkW l).2:Int)));have HMM:=hid5 hmm;clear hmm n9 m3;clear HF H0;generalize (chkW l).1=er at*;generalize (((chkW l).2:Nat):Int)=at0 at*;go_wp2_with fail;go_region;go_wp2_with fail;exact comp_post w.heap.size _ er at0 rfl rfl rfl HMM.out (HO.out _ (below_drewN HBB.out 1))
end Go.Proofs.YtpmobjgnmidolaaDoor
/- What the document's Make comes to: what its walks share. Written by genxm.py. -/
namespace Go.Proofs.YtpmobjgnmidolaaDoor
open Go.RowKit Lx Vx Msk
theorem orZ {i k:Nat}{b:Bool}(hne:i≠k):(decide (i=k)||b)=b:=by simp[hne]
theorem partT:Tryd.prog.underlying 62=some (.struct (Tryd.prog.fieldsOf 62)):=by kernel_rfl
theorem map_movP0 (xs:List (In×Value)):xs.map (movP 0)=xs:=by
 have:movP 0=id:=by
  funext f;unfold movP;rw[movI_0];rfl
 rw[this,List.map_id]
theorem owns_lowZ {w:World}{B B':Nat}{e:TypeId}{size:Nat}{v:Value}{n:Nat}{xs:List Value}(h:w.ownsRow B' e size v n xs)(hB:B≤B'):w.ownsRow B e size v n xs:=by
 refine⟨h.1,?_⟩;rcases h.2 with h2|⟨g,cap,cur,h1,h2,h3⟩
 ·exact .inl h2
 ·exact .inr ⟨g,cap,cur,h1,Nat.le_trans hB h2,h3⟩
theorem owns_belowZ {w w':World}{B:Nat}{e:TypeId}{size:Nat}{v:Value}{n:Nat}{xs:List Value}(h:w.ownsRow B e size v n xs)(hb:Below w.heap.size w w'):w'.ownsRow B e size v n xs:=owns_keep h fun b hb'=>hb.block b (h.lt b hb').2
theorem row_formZ {w:World}{base:Nat}{e:TypeId}{size:Nat}{v:Value}{n:Nat}{xs:List Value}(h:w.ownsRow base e size v n xs): ∃p c,v= .slice p n c:=by
 rcases h.2 with⟨h1,h2⟩|⟨g,cap,cur,h1,_⟩
 ·exact⟨none,0,by rw[h1,h2]⟩
 ·exact⟨_,cap,h1⟩
theorem insRow_own {w:World}{base:Nat}{v:Value}{xs:List (In×Value)}(h:w.ownsRow base 66 5 v xs.length (flatI xs))(hl:xs.length<9223372036854775808)(hs: ∀x∈xs,RowV w x.2 x.1.sp):InsRow w v xs:=by
 obtain⟨p,c,rfl⟩:=row_formZ h;refine⟨p,c,rfl,hl,fun j x hj=>⟨hs x (List.mem_of_getElem? hj),?_⟩⟩;rcases h.2 with⟨_,h2⟩|⟨g,cap,cur,h1,_⟩
 ·have:=(List.getElem?_eq_some_iff.1 hj).1;omega
 ·injection h1 with e1;subst e1
  have hc: ∀(k:Nat) (u:Value),(flatI xs)[k]? =some u→w.cell? ⟨g,k,none⟩=some u:=fun k u hu=>by
   have:=h.cells (g:=g) rfl k u hu;rw[show(⟨g,0,none⟩:Addr).add k=⟨g,k,none⟩ by simp[Addr.add];exact fun h=>h.symm]at this;exact this
  have hf: ∀(ys:List (In×Value)) (j:Nat),ys[j]? =some x→ ∀i,i<5→(flatI ys)[j*5+i]? =(iv x)[i]? :=by
   intro ys;induction ys with
   |nil=>intro j hj;simp at hj
   |cons y ys ih=>
    intro j hj i hi;have e:flatI (y::ys)=(iv y).toList++flatI ys:=(by simp[flatI]);rw[e];cases j with
    |zero=>
     have:y=x:=(by simpa using hj);subst this;rw[Nat.zero_mul,Nat.zero_add,List.getElem?_append_left (by show i<5;omega),Array.getElem?_toList]
    |succ j=>
     rw[List.getElem?_append_right (by show 5≤_;omega)];have:=ih j (by simpa using hj) i hi;rw[show(j+1)*5+i-(iv y).toList.length=j*5+i by show(j+1)*5+i-5=_;omega];exact this
  have q:=hf xs j hj;refine⟨g,0,rfl,?_,?_,?_,?_,?_⟩
  ·rw[Nat.zero_add];exact hc _ _ (q 0 (by omega))
  ·rw[Nat.zero_add];exact hc _ _ (q 1 (by omega))
  ·rw[Nat.zero_add];exact hc _ _ (q 2 (by omega))
  ·rw[Nat.zero_add];exact hc _ _ (q 3 (by omega))
  ·rw[Nat.zero_add];exact hc _ _ (q 4 (by omega))
structure InsT (w:World)(v:Value)(xs:List (In×Value)):Prop where
 q:InsQ w v xs
 sp: ∀u∈xs,SpIn w u.2 u.1.sp
theorem InsT.below {w w':World}{v:Value}{xs:List (In×Value)}(h:InsT w v xs)(hb:Below w.heap.size w w'):InsT w' v xs:=⟨h.q.below hb,fun u hu=>(h.sp u hu).below hb⟩
theorem InsT.row {w:World}{v:Value}{xs:List (In×Value)}(h:InsT w v xs)(hl:xs.length<9223372036854775808):InsRow w v xs:=insRow_own h.q hl fun u hu=>(h.sp u hu).row
theorem SpIn.setP {w:World}{v:Value}{l:List (Int×Int)}(h:SpIn w v l){g:Nat}{c:Array Value}(hg:w.heap[g]? =some (.cells c 62 (0,0)))(xs:Array Value):SpIn (w.setRow g xs) v l:=by
 rcases h with h|⟨g',c',cur,h1,h2,h3,h4⟩
 ·exact .inl h
 ·refine .inr ⟨g',c',cur,h1,h2,?_,h4⟩;rw[setRow_other _ _ _ _ (fun e=> ?_)]
  ·exact h3
  ·subst e;rw[hg]at h3;injection h3 with h3;injection h3 with _ h3;exact absurd h3 (by decide)
theorem InsT.setP {w:World}{v:Value}{xs:List (In×Value)}(h:InsT w v xs){g:Nat}{c:Array Value}(hg:w.heap[g]? =some (.cells c 62 (0,0)))(ys:Array Value):InsT (w.setRow g ys) v xs:=
 ⟨owns_keep h.q fun b hb=>setRow_other _ _ _ _ fun e=>own_neI h.q hg (by decide) (by rw[hb,e]),fun u hu=>(h.sp u hu).setP hg ys⟩
def OutMk (cs:List Cd)(num:List UInt8→Int)(e:Ex)(w:World)(r:Ending)(w':World):Prop:= ∃(sl:Value) (xs:List (In×Value)),r= .returned (.agg #[sl,.int .i64 (hsE cs num e).1,.int .i64 (hsE cs num e).2])∧InsT w' sl xs∧xs.map (fun x=>x.1)=codeE num e 0∧Below w.heap.size w w'
structure MkIn (us:List (Ru×Value))(lv dv:Value)(gd n:Nat)(cs:List Cd)(G:Nat→Bool)(w:World):Prop where
 rules:InR w lv us
 form:dv= .slice (some ⟨gd,0,none⟩) n n
 high: ∀k,k<n→G k=true→w.cell? ⟨gd,k*3+1,none⟩=some (.int .i64 (cs.getD k cd0).high)
 steps: ∀k,k<n→G k=true→w.cell? ⟨gd,k*3+2,none⟩=some (.int .i64 (cs.getD k cd0).steps)
theorem MkIn.below {us:List (Ru×Value)}{lv dv:Value}{gd n:Nat}{cs:List Cd}{G:Nat→Bool}{w w':World}(h:MkIn us lv dv gd n cs G w)(hb:Below w.heap.size w w'):MkIn us lv dv gd n cs G w':=
 ⟨h.rules.below hb,h.form,fun k hk hG=>(hb.cell (block_lt_of_cell (h.high k hk hG))).trans (h.high k hk hG),fun k hk hG=>(hb.cell (block_lt_of_cell (h.steps k hk hG))).trans (h.steps k hk hG)⟩
structure MkS (wX:World)(b:Nat)(xs:List (In×Value))(f:In×Value)(hn sn:Int)(L:Nat→Bool)(φ:Nat→Value)(W:World):Prop where
 bel:L 15=false→Below wX.heap.size wX W
 s2:L 2=true→L 7=false→W.ownsRow wX.heap.size 66 5 (φ 92) (xs.length) (flatI xs)
 s6:L 6=true→L 7=false→ ∃g,φ 96= .slice (some ⟨g,0,none⟩) 1 1∧W.heap[g]? =some (.cells (iv f) 66 (0,0))
 s7:L 7=true→L 15=false→W.ownsRow wX.heap.size 66 5 (φ 97) (xs.length+1) (flatI (xs++[f]))
 s14:L 14=true→φ 104= .agg #[φ 97,.int .i64 hn,.int .i64 sn]
 fin:L 15=true→ ∃W0 q,Below wX.heap.size wX W0∧W0.ownsRow wX.heap.size 66 5 q (xs.length+1) (flatI (xs++[f]))∧φ 97=q∧W=W0.setRow b #[q,.int .i64 hn,.int .i64 sn]
theorem ins_cells {w:World}{g:Nat}{f:In×Value}(h:w.heap[g]? =some (.cells (iv f) 66 (0,0)))(j:Nat)(u:Value)(hu:(iv f).toList[j]? =some u):w.cell? ((⟨g,0,none⟩:Addr).add j)=some u:=by
 rw[show(⟨g,0,none⟩:Addr).add j=⟨g,j,none⟩ by simp[Addr.add];exact fun h=>h.symm,cell_of_row _ _ _ _ _ _ h,←Array.getElem?_toList];exact hu
end Go.Proofs.YtpmobjgnmidolaaDoor
