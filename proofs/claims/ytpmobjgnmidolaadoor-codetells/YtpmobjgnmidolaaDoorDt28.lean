/- What the document's Make comes to, of what has dates. Written by genxo.py. -/
import Derived.Test.YtpmobjgnmidolaaDoorDt26
namespace Go.Proofs.YtpmobjgnmidolaaDoor
open Go.RowKit Lx Vx Msk
structure MkG (wX:World)(b:Nat)(xs:List (In×Value))(f:In×Value)(hn sn:Int)(L:Nat→Bool)(φ:Nat→Value)(W:World):Prop where
 bel:L 13=false→Below wX.heap.size wX W
 s1:L 1=true→L 5=false→W.ownsRow wX.heap.size 66 5 (φ 76) (1) ((iv f).toList)
 s4:L 4=true→L 5=false→W.ownsRow wX.heap.size 66 5 (φ 79) (xs.length) (flatI (xs.map (movP 1)))
 s5:L 5=true→L 13=false→W.ownsRow wX.heap.size 66 5 (φ 80) (1+xs.length) ((iv f).toList++flatI (xs.map (movP 1)))
 s12:L 12=true→φ 87= .agg #[φ 80,.int .i64 hn,.int .i64 sn]
 fin:L 13=true→ ∃W0 q,Below wX.heap.size wX W0∧W0.ownsRow wX.heap.size 66 5 q (1+xs.length) ((iv f).toList++flatI (xs.map (movP 1)))∧φ 80=q∧W=W0.setRow b #[q,.int .i64 hn,.int .i64 sn]
theorem owns_lit {w:World}{base g:Nat}{f:In×Value}(h:w.heap[g]? =some (.cells (iv f) 66 (0,0)))(hb:base≤g):w.ownsRow base 66 5 (.slice (some ⟨g,0,none⟩) 1 1) 1 (iv f).toList:=
 ⟨rfl,.inr ⟨g,1,iv f,rfl,hb,h,Nat.le_refl _,by unfold maxLen;omega,rfl,rfl⟩⟩
set_option maxRecDepth 100000 in
set_option maxHeartbeats 8000000 in
theorem mk_dates {cs:List Cd}{num:List UInt8→Int}{e k:Ex}{g o ce ck:Nat}{pk pl pd:Option Addr}{nl cl nd cd:Nat}{w:World}(hkd:e.kind=5)(hkids:e.kids=[k])(hs:stdE e=false)
  (cS: ∀W,Below w.heap.size w W→Calls Tryd.prog 53 #[exV e (.slice (some ⟨g,o,none⟩) e.kids.length ce)] W (OutMn false (mnE e) W))
  (c0:w.cell? ⟨g,o,none⟩=some (.int .i64 k.kind)) (c1:w.cell? ⟨g,o+1,none⟩=some (.int .i64 k.a)) (c2:w.cell? ⟨g,o+2,none⟩=some (.int .i64 k.b)) (c3:w.cell? ⟨g,o+3,none⟩=some (.string ⟨k.name.toArray⟩)) (c4:w.cell? ⟨g,o+4,none⟩=some (.slice pk k.kids.length ck))
  (cK: ∀W,Below w.heap.size w W→Calls Tryd.prog 21 #[exV k (.slice pk k.kids.length ck),.slice pl nl cl,.slice pd nd cd] W (OutMk cs num k W))
  (hok:OKE k) (hbd:0≤(hsE cs num k).1∧(hsE cs num k).1≤1000000∧0≤(hsE cs num k).2∧(hsE cs num k).2≤1000000000) (hlen:1≤(codeE num k 0).length∧(codeE num k 0).length≤600) (hto: ∀x∈codeE num k 0,0≤x.to∧x.to≤100000):
  Calls Tryd.prog 21 #[exV e (.slice (some ⟨g,o,none⟩) e.kids.length ce),.slice pl nl cl,.slice pd nd cd] w (OutMk cs num e w):=by
 have hkl:(0:Int)<(e.kids.length:Int):=by rw[hkids];simp
 have e10:(e.kind==10)=false:=by rw[hkd];rfl
 have e4:(e.kind==4)=false:=by rw[hkd];rfl
 have e5:(e.kind==5)=true:=by rw[hkd];rfl
 have HV:Hid (hsE cs num e=(max 1 (hsE cs num k).1,1+(hsE cs num k).2)):=hs_one hs (.inr (.inl hkd)) hkids
 have HCD:Hid (codeE num e 0=⟨7,e.a,e.b,((codeE num k 0).length:Int)+1,[]⟩::(codeE num k 0).map (movI 1)):=by
  show _=_;rw[code_dates hkd (by rw[hkids];rfl),code_mov num _ k (Nat.le_refl _) hok (0+1),List.length_map];congr 1;congr 1;show((0+1+_:Nat):Int)=_;omega
 clear hkd hkids hs hok;have hz:=mv_lit;have bA:Below w.heap.size w ((w.alloc (.cells #[.int .i64 e.kind,.int .i64 e.a,.int .i64 e.b,.string ⟨e.name.toArray⟩,.slice (some ⟨g,o,none⟩) e.kids.length ce] 50)).alloc (.cells #[.slice none 0 0,.int .i64 0,.int .i64 0] 62)):=((Below.refl _ _).alloc (Nat.le_refl _) _).alloc (by simp) _;have nE:((w.alloc (.cells #[.int .i64 e.kind,.int .i64 e.a,.int .i64 e.b,.string ⟨e.name.toArray⟩,.slice (some ⟨g,o,none⟩) e.kids.length ce] 50)).alloc (.cells #[.slice none 0 0,.int .i64 0,.int .i64 0] 62)).heap[w.heap.size]? =some (.cells #[.int .i64 e.kind,.int .i64 e.a,.int .i64 e.b,.string ⟨e.name.toArray⟩,.slice (some ⟨g,o,none⟩) e.kids.length ce] 50 (0,0)):=by (repeat (first | refine blk_old _ _ _ (by simp only [size_alloc]; omega) ?_ | exact blk_new _ _ _ (by first | rfl | simp only [size_alloc])))
 have nP:((w.alloc (.cells #[.int .i64 e.kind,.int .i64 e.a,.int .i64 e.b,.string ⟨e.name.toArray⟩,.slice (some ⟨g,o,none⟩) e.kids.length ce] 50)).alloc (.cells #[.slice none 0 0,.int .i64 0,.int .i64 0] 62)).heap[w.heap.size+1]? =some (.cells #[.slice none 0 0,.int .i64 0,.int .i64 0] 62 (0,0)):=by (repeat (first | refine blk_old _ _ _ (by simp only [size_alloc]; omega) ?_ | exact blk_new _ _ _ (by first | rfl | simp only [size_alloc])))
 unfold exV;generalize hwA:(w.alloc (.cells #[.int .i64 e.kind,.int .i64 e.a,.int .i64 e.b,.string ⟨e.name.toArray⟩,.slice (some ⟨g,o,none⟩) e.kids.length ce] 50)).alloc (.cells #[.slice none 0 0,.int .i64 0,.int .i64 0] 62)=wA at*;have d1:=cS wA bA;unfold exV at d1;have HK:=hid5 cK;clear cS cK;go_enter Tryd.func21,Tryd.ntmps21;go_wp2_with(refine wpList_load_row rfl 50 _ rfl _ rfl _ _ _ _ nE exprType5 rfl (by kernel_rfl) ?_)
 refine d1.mono ?_;rintro r w1 ⟨⟨fm,rfl,hfm⟩,b1⟩;have ba1:=(Below.refl w1.heap.size w1).alloc (Nat.le_refl _) (.cells (mv fun _=>false) 37);have na1:=heap_alloc_new w1 (.cells (mv fun _=>false) 37);have bm1:=below_setRow ba1 (Nat.le_refl _) (mv fm);have bp:=b1.trans (bm1.mono b1.size);have hbm:=bA.trans (bp.mono bA.size);have nE1:=(bp.block _ (lt_of_block nE)).trans nE;have nP1:=(bp.block _ (lt_of_block nP)).trans nP;clear d1 hfm b1 ba1 bm1 bp nE nP hwA bA;generalize hwa1:w1.alloc (.cells (mv fun _=>false) 37)=w1a at*;generalize hwm1:w1a.setRow w1.heap.size (mv fm)=w1m at*;have z0:=(cell_of_row _ _ 0 _ _ _ nE1).trans rfl;have z1:=(cell_of_row _ _ 1 _ _ _ nE1).trans rfl;have z4:=(cell_of_row _ _ 4 _ _ _ nE1).trans rfl;have f0:=(hbm.cell (block_lt_of_cell c0)).trans c0;have f1:=(hbm.cell (block_lt_of_cell c1)).trans c1;have f2:=(hbm.cell (block_lt_of_cell c2)).trans c2;have f3:=(hbm.cell (block_lt_of_cell c3)).trans c3;have f4:=(hbm.cell (block_lt_of_cell c4)).trans c4;have d2:=HK.out w1m hbm;unfold exV at d2;clear HK c0 c1 c2 c3 c4;go_wp2_with(refine wpList_store_row rfl 37 _ _ rfl _ _ rfl rfl _ _ na1 (maskSize _) (by simp[mv_size]) (mv_all _) ?_)
 refine d2.mono ?_;rintro r w2 ⟨sl,xs,rfl,hrow,hmap,b2⟩;obtain⟨p2,c2,rfl⟩:=row_formZ hrow.q;obtain⟨hk,hhk⟩: ∃q,(hsE cs num k).1=q:=⟨_,rfl⟩
 obtain⟨sk,hsk⟩: ∃q,(hsE cs num k).2=q:=⟨_,rfl⟩
 rw[hhk,hsk];rw[hhk,hsk]at hbd;obtain⟨hb1,hb2,hb3,hb4⟩:=hbd
 have hxl:0<xs.length∧xs.length≤600:=by
  have h1:=congrArg List.length hmap;rw[List.length_map]at h1;omega
 obtain⟨hxp,hxl⟩:=hxl;have bB:=(Below.refl w2.heap.size w2).alloc (Nat.le_refl _) (.cells #[.slice p2 xs.length c2,.int .i64 hk,.int .i64 sk] 62);have n3:=heap_alloc_new w2 (.cells #[.slice p2 xs.length c2,.int .i64 hk,.int .i64 sk] 62);have hbq:=hbm.trans (b2.mono hbm.size);have hbX:=hbq.trans (bB.mono hbq.size);have bb:=b2.trans (bB.mono b2.size);have nE3:=(bb.block _ (lt_of_block nE1)).trans nE1;have n6:=(bb.block _ (lt_of_block nP1)).trans nP1;have hrowX:=hrow.below bB;clear d2 b2 hbq bB bb nE1 nP1 hrow z0 z1 z4 f0 f1 f2 f3 f4 na1 hwa1 hwm1 hbm;generalize hwX:w2.alloc (.cells #[.slice p2 xs.length c2,.int .i64 hk,.int .i64 sk] 62)=wX at*;have ka:=(cell_of_row _ _ 1 _ _ _ nE3).trans rfl;have z0:=(cell_of_row _ _ 0 _ _ _ nE3).trans rfl;have kh:=(cell_of_row _ _ 1 _ _ _ n3).trans rfl;have ks:=(cell_of_row _ _ 2 _ _ _ n3).trans rfl;have kb:=(cell_of_row _ _ 2 _ _ _ nE3).trans rfl;have k30:=(cell_of_row _ _ 0 _ _ _ n3).trans rfl;obtain⟨i0,hi0,hz0,hz1,hz2⟩:=info7 insInfoW;have hto2: ∀f∈xs,0≤f.1.to∧f.1.to≤100000:=fun f hf=>hto f.1 (by rw[←hmap];exact List.mem_map.2 ⟨f,hf,rfl⟩);have HMAP:=hid5 hmap;have HROW:=hid5 hrowX;have HBX:=hid5 hbX;obtain⟨hn,hhn⟩: ∃q,max 1 hk=q:=⟨_,rfl⟩
 obtain⟨sn,hsn⟩: ∃q,1+sk=q:=⟨_,rfl⟩
 have cMo: ∀W,Calls Tryd.prog 55 #[.int .i64 1,.int .i64 hk] W fun r w'=>r= .returned (.int .i64 hn)∧w'=W:=fun W=>by
  rw[←hhn];exact most_any 1 hk W
 have n6o:=n6;have bZ:=(Below.refl wX.heap.size wX).alloc (Nat.le_refl _) (.cells #[.int .i64 0,.int .i64 0,.int .i64 0,.int .i64 0,.slice none 0 0] 66);have nZ:=heap_alloc_new wX (.cells #[.int .i64 0,.int .i64 0,.int .i64 0,.int .i64 0,.slice none 0 0] 66);have bI:=below_setRow bZ (Nat.le_refl _) #[.int .i64 7,.int .i64 e.a,.int .i64 e.b,.int .i64 ((xs.length:Int)+1),.slice none 0 0];have nI:=setRow_heap _ _ _ #[.int .i64 7,.int .i64 e.a,.int .i64 e.b,.int .i64 ((xs.length:Int)+1),.slice none 0 0] _ _ nZ;have n3:=(bI.block _ (lt_of_block n3)).trans n3;have n6:=(bI.block _ (lt_of_block n6)).trans n6;have nE3:=(bI.block _ (lt_of_block nE3)).trans nE3;have HBX:=hid5 (HBX.out.trans (bI.mono HBX.out.size));have HROW:=hid5 (HROW.out.below bI)
 have hge:w.heap.size+2≤wX.heap.size:=by
  have:=lt_of_block n6o;omega
 clear bI bZ;generalize hwZ:wX.alloc (.cells #[.int .i64 0,.int .i64 0,.int .i64 0,.int .i64 0,.slice none 0 0] 66)=wZ at*;generalize hwI:wZ.setRow wX.heap.size #[.int .i64 7,.int .i64 e.a,.int .i64 e.b,.int .i64 ((xs.length:Int)+1),.slice none 0 0]=wI at*;have z0:=(cell_of_row _ _ 0 _ _ _ nE3).trans rfl;have kh:=(cell_of_row _ _ 1 _ _ _ n3).trans rfl;have ks:=(cell_of_row _ _ 2 _ _ _ n3).trans rfl;have hx0:(0:Int)≤(xs.length:Int):=by omega
 have hx1:(xs.length:Int)≤600:=by omega
 have HONE:Hid (∀u∈flatI (xs.map (movP 1)),u.oneCell'=true):=fun u hu=>by
  obtain⟨f,hf,hu⟩:=List.mem_flatMap.1 hu;obtain⟨x,hx,rfl⟩:=List.mem_map.1 hf;obtain⟨p',n',c',es⟩:=(HROW.out.sp x hx).form;unfold movP iv at hu;dsimp only at hu;rw[es]at hu;simp at hu;rcases hu with rfl|rfl|rfl|rfl|rfl<;>rfl
 clear n6o
 have cMv: ∀W,Below wI.heap.size wI W→Calls Tryd.prog 56 #[.agg #[.slice p2 xs.length c2,.int .i64 hk,.int .i64 sk],.int .i64 1] W fun r w'=> ∃v',r= .returned v'∧w'.ownsRow W.heap.size 66 5 v' xs.length (flatI (xs.map (movP 1)))∧Below W.heap.size W w':=fun W hW=>by
  exact moved_any xs _ hk sk 1 W ((HROW.out.below hW).row (by omega)) (by omega) (by omega) hto2
 have hws:IntKind.i64.wrap sn=sn:=by rw[IntKind.wrap_i64];omega
 have HVV:Hid (hsE cs num e=(hn,sn)):=by
  show _=_;rw[HV.out,hhk,hsk,hhn,hsn]
 clear hhk hsk hhn HV hto2 hmap hrowX hbX hto hlen;go_upto_region 15 with(refine wpList_store_row rfl 66 _ _ rfl _ _ rfl rfl _ _ nZ (by kernel_rfl) (by simp) (by simp[Value.oneCell']) ?_)
 refine wp_region_Z (fun L φ W=>MkG wI (w.heap.size+1) xs (⟨7,e.a,e.b,(xs.length:Int)+1,[]⟩,.slice none 0 0) hn sn L φ W) (fun L hL=>⟨(fun _=>(Below.refl _ _).drew),(fun c0 c1=>by rw[hL 1 (by decide)]at c0;cases c0),(fun c0 c1=>by rw[hL 4 (by decide)]at c0;cases c0),(fun c0 c1=>by rw[hL 5 (by decide)]at c0;cases c0),(fun c0=>by rw[hL 12 (by decide)]at c0;cases c0),(fun c0=>by rw[hL 13 (by decide)]at c0;cases c0)⟩) (by kernel_rfl) (by kernel_rfl) (by kernel_rfl) (by kernel_rfl) [(some 75,some (.agg #[.int .i64 7,.int .i64 e.a,.int .i64 e.b,.int .i64 ((xs.length:Int)+1),.slice none 0 0])),(some 76,none),(some 77,some (.func (Fn.func 56) #[] #[])),(some 78,some (.agg #[.slice p2 xs.length c2,.int .i64 hk,.int .i64 sk])),(some 79,none),(some 80,none),(some 81,some (.pointer (some ⟨w2.heap.size,1,none⟩))),(some 82,some (.int .i64 hk)),(some 83,some (.int .i64 hn)),(some 84,some (.pointer (some ⟨w2.heap.size,2,none⟩))),(some 85,some (.int .i64 sk)),(some 86,some (.int .i64 sn)),(some 87,none),(none,none)] (by kernel_rfl) (by kernel_rfl) [75,76,77,78,79,80,81,82,83,84,85,86,87] (by kernel_rfl) ?_ ?_
 ·intro i' d' x' o' L A W2 ho hv hLi hdep hc hJ hkept hhas;match i',ho,hv,hLi with
  |0,ho,hv,hLi=>
   cases Option.some.inj ho;cases Option.some.inj hv
   have h13:L 13=false:=by
    cases hq:L 13 with
    |false=>rfl
    |true=>
     have:=hc 13 _ rfl hq ⟨0,.phase⟩ (by simp) rfl;rw[hLi]at this;cases this
   have h12:A.eval (.tmp 12)= .pointer (some ⟨wX.heap.size,0,none⟩):=hkept 12 (by kernel_rfl);refine wpOp_step rfl (fun K hK=> ?_);show Oper.wp _ _ _ _ _ _;refine wp_load_row 66 _ rfl _ h12 _ _ _ _ (((hJ.bel h13).block _ (lt_of_block nI)).trans nI) insTypeW rfl (by kernel_rfl) ?_;exact hK _ _ ⟨_,rfl,fun u hu=>by cases Option.some.inj hu;rfl,⟨(fun c0=>by rw[orZ (by decide)]at c0;exact hJ.bel c0),(fun c0 c1=>by rw[orZ (by decide)]at c0;rw[orZ (by decide)]at c1;simp only[putF_ne (show 75≠76 by decide)];exact hJ.s1 c0 c1),(fun c0 c1=>by rw[orZ (by decide)]at c0;rw[orZ (by decide)]at c1;simp only[putF_ne (show 75≠79 by decide)];exact hJ.s4 c0 c1),(fun c0 c1=>by rw[orZ (by decide)]at c0;rw[orZ (by decide)]at c1;simp only[putF_ne (show 75≠80 by decide)];exact hJ.s5 c0 c1),(fun c0=>by rw[orZ (by decide)]at c0;simp only[putF_ne (show 75≠87 by decide),putF_ne (show 75≠80 by decide)];exact hJ.s12 c0),(fun c0=>by rw[orZ (by decide),h13]at c0;cases c0)⟩⟩
  |1,ho,hv,hLi=>
   cases Option.some.inj ho;cases Option.some.inj hv
   have h5:L 5=false:=by
    cases hq:L 5 with
    |false=>rfl
    |true=>
     have:=hc 5 _ rfl hq ⟨1,.data⟩ (by simp) rfl;rw[hLi]at this;cases this
   have h12:L 12=false:=by
    cases hq:L 12 with
    |false=>rfl
    |true=>
     have:=hc 12 _ rfl hq ⟨5,.data⟩ (by simp) rfl;rw[h5]at this;cases this
   have h13:L 13=false:=by
    cases hq:L 13 with
    |false=>rfl
    |true=>
     have:=hc 13 _ rfl hq ⟨1,.phase⟩ (by simp) rfl;rw[hLi]at this;cases this
   have h75:A.eval (.tmp 75)= .agg #[.int .i64 7,.int .i64 e.a,.int .i64 e.b,.int .i64 ((xs.length:Int)+1),.slice none 0 0]:=hhas 0 75 _ rfl (hdep ⟨0,.data⟩ (by simp) rfl);have hb':=(Below.refl W2.heap.size W2).alloc (Nat.le_refl _) (.cells (iv (⟨7,e.a,e.b,(xs.length:Int)+1,[]⟩,.slice none 0 0)) 66);have hsX:=(hJ.bel h13).size;refine wpOp_step rfl (fun K hK=> ?_);show Oper.wp _ _ _ _ _ _;refine wp_buildI _ rfl (⟨7,e.a,e.b,(xs.length:Int)+1,[]⟩,.slice none 0 0) ⟨_,_,_,rfl⟩ h75 ?_;exact hK _ _ ⟨_,rfl,fun u hu=>by(cases hu),⟨(fun c0=>by rw[orZ (by decide)]at c0;exact(fun h hb=>h.trans (hb.mono h.size)) (hJ.bel c0) hb'),(fun c0 c1=>by rw[putF_eq];exact owns_lit (heap_alloc_new W2 _) hsX),(fun c0 c1=>by rw[orZ (by decide)]at c0;rw[orZ (by decide)]at c1;simp only[putF_ne (show 76≠79 by decide)];exact owns_belowZ (hJ.s4 c0 c1) hb'),(fun c0 c1=>by rw[orZ (by decide),h5]at c0;cases c0),(fun c0=>by rw[orZ (by decide),h12]at c0;cases c0),(fun c0=>by rw[orZ (by decide),h13]at c0;cases c0)⟩⟩
  |2,ho,hv,hLi=>
   cases Option.some.inj ho;cases Option.some.inj hv;have g11:A.tmps[11]?.getD undef= .func (Fn.func 56) #[] #[]:=(gd A 11).trans (hkept 11 (by kernel_rfl));refine wpOp_step rfl (fun K hK=> ?_);go_simp;exact hK _ _ ⟨_,rfl,fun u hu=>by cases Option.some.inj hu;rfl,⟨(fun c0=>by rw[orZ (by decide)]at c0;exact hJ.bel c0),(fun c0 c1=>by rw[orZ (by decide)]at c0;rw[orZ (by decide)]at c1;simp only[putF_ne (show 77≠76 by decide)];exact hJ.s1 c0 c1),(fun c0 c1=>by rw[orZ (by decide)]at c0;rw[orZ (by decide)]at c1;simp only[putF_ne (show 77≠79 by decide)];exact hJ.s4 c0 c1),(fun c0 c1=>by rw[orZ (by decide)]at c0;rw[orZ (by decide)]at c1;simp only[putF_ne (show 77≠80 by decide)];exact hJ.s5 c0 c1),(fun c0=>by rw[orZ (by decide)]at c0;simp only[putF_ne (show 77≠87 by decide),putF_ne (show 77≠80 by decide)];exact hJ.s12 c0),(fun c0=>by rw[orZ (by decide)]at c0;simp only[putF_ne (show 77≠80 by decide)];exact hJ.fin c0)⟩⟩
  |3,ho,hv,hLi=>
   cases Option.some.inj ho;cases Option.some.inj hv
   have h13:L 13=false:=by
    cases hq:L 13 with
    |false=>rfl
    |true=>
     have:=hc 13 _ rfl hq ⟨3,.phase⟩ (by simp) rfl;rw[hLi]at this;cases this
   have h10:A.eval (.tmp 10)= .pointer (some ⟨w2.heap.size,0,none⟩):=hkept 10 (by kernel_rfl);refine wpOp_step rfl (fun K hK=> ?_);show Oper.wp _ _ _ _ _ _;refine wp_load_row 62 _ rfl _ h10 _ _ _ _ (((hJ.bel h13).block _ (lt_of_block n3)).trans n3) partT rfl (by kernel_rfl) ?_;exact hK _ _ ⟨_,rfl,fun u hu=>by cases Option.some.inj hu;rfl,⟨(fun c0=>by rw[orZ (by decide)]at c0;exact hJ.bel c0),(fun c0 c1=>by rw[orZ (by decide)]at c0;rw[orZ (by decide)]at c1;simp only[putF_ne (show 78≠76 by decide)];exact hJ.s1 c0 c1),(fun c0 c1=>by rw[orZ (by decide)]at c0;rw[orZ (by decide)]at c1;simp only[putF_ne (show 78≠79 by decide)];exact hJ.s4 c0 c1),(fun c0 c1=>by rw[orZ (by decide)]at c0;rw[orZ (by decide)]at c1;simp only[putF_ne (show 78≠80 by decide)];exact hJ.s5 c0 c1),(fun c0=>by rw[orZ (by decide)]at c0;simp only[putF_ne (show 78≠87 by decide),putF_ne (show 78≠80 by decide)];exact hJ.s12 c0),(fun c0=>by rw[orZ (by decide),h13]at c0;cases c0)⟩⟩
  |4,ho,hv,hLi=>
   cases Option.some.inj ho;cases Option.some.inj hv
   have h5:L 5=false:=by
    cases hq:L 5 with
    |false=>rfl
    |true=>
     have:=hc 5 _ rfl hq ⟨4,.data⟩ (by simp) rfl;rw[hLi]at this;cases this
   have h12:L 12=false:=by
    cases hq:L 12 with
    |false=>rfl
    |true=>
     have:=hc 12 _ rfl hq ⟨5,.data⟩ (by simp) rfl;rw[h5]at this;cases this
   have h13:L 13=false:=by
    cases hq:L 13 with
    |false=>rfl
    |true=>
     have:=hc 13 _ rfl hq ⟨4,.phase⟩ (by simp) rfl;rw[hLi]at this;cases this
   have g77:A.tmps[77]?.getD undef= .func (Fn.func 56) #[] #[]:=(gd A 77).trans (hhas 2 77 _ rfl (hdep ⟨2,.data⟩ (by simp) rfl));have g78:A.tmps[78]?.getD undef= .agg #[.slice p2 xs.length c2,.int .i64 hk,.int .i64 sk]:=(gd A 78).trans (hhas 3 78 _ rfl (hdep ⟨3,.data⟩ (by simp) rfl));refine wpOp_step rfl (fun K hK=> ?_);go_simp;refine(cMv W2 (hJ.bel h13)).mono ?_;rintro r' W' ⟨v',rfl,hv',hb'⟩;exact hK _ _ ⟨_,rfl,fun u hu=>by(cases hu),⟨(fun c0=>by rw[orZ (by decide)]at c0;exact(fun h hb=>h.trans (hb.mono h.size)) (hJ.bel c0) hb'),(fun c0 c1=>by rw[orZ (by decide)]at c0;rw[orZ (by decide)]at c1;simp only[putF_ne (show 79≠76 by decide)];exact owns_belowZ (hJ.s1 c0 c1) hb'),(fun c0 c1=>by rw[putF_eq];exact owns_lowZ hv' (hJ.bel h13).size),(fun c0 c1=>by rw[orZ (by decide),h5]at c0;cases c0),(fun c0=>by rw[orZ (by decide),h12]at c0;cases c0),(fun c0=>by rw[orZ (by decide),h13]at c0;cases c0)⟩⟩
  |5,ho,hv,hLi=>
   cases Option.some.inj ho;cases Option.some.inj hv
   have h12:L 12=false:=by
    cases hq:L 12 with
    |false=>rfl
    |true=>
     have:=hc 12 _ rfl hq ⟨5,.data⟩ (by simp) rfl;rw[hLi]at this;cases this
   have h13:L 13=false:=by
    cases hq:L 13 with
    |false=>rfl
    |true=>
     have:=hc 13 _ rfl hq ⟨5,.phase⟩ (by simp) rfl;rw[hLi]at this;cases this
   have o76:=hJ.s1 (hdep ⟨1,.data⟩ (by simp) rfl) hLi;have o79:=hJ.s4 (hdep ⟨4,.data⟩ (by simp) rfl) hLi;obtain⟨gn,cn,e79,hcn⟩:=own_slice o79 hxp;have hbX:=(hJ.bel h13)
   have h76:A.eval (.tmp 76)=slotsOf A 76:=rfl;have h79:A.eval (.tmp 79)= .slice (some ⟨gn,0,none⟩) xs.length cn:=e79;have hlo:=o76.lt;have hsX:=hbX.size;refine wpOp_step rfl (fun K hK=> ?_);show Oper.wp _ _ _ _ _ _;refine wp_append_own W2 (.tmp 76) (.tmp 79) 40 rfl wI.heap.size 66 i0 (.agg #[.int .i64 0,.int .i64 0,.int .i64 0,.int .i64 0,.slice none 0 0]) 5 56 inssTypeW hi0 hz0 hz1 hz2 rfl (by decide) (slotsOf A 76) 1 (iv (⟨7,e.a,e.b,(xs.length:Int)+1,[]⟩,.slice none 0 0)).toList h76 o76 ⟨gn,0,none⟩ xs.length cn (flatI (xs.map (movP 1))) h79 (by rw[flatI_len,List.length_map]) (fun jj u hj=> ?y1) (fun u hu=> ?y2) (by unfold maxLen;omega) (by omega) hsX ?_
   case y1=>
    rw[show(⟨gn,0,none⟩:Addr).add jj=⟨gn,jj,none⟩ by simp[Addr.add];exact fun h=>h.symm];exact hcn jj u hj
   case y2=>exact HONE.out u hu
   intro v' W' hown' hgrow _;exact hK _ _ ⟨_,rfl,fun u hu=>by(cases hu),⟨(fun c0=>hbX.grown hgrow hsX (fun q hq=>(hlo q hq).1)),(fun c0 c1=>by simp at c1),(fun c0 c1=>by simp at c1),(fun c0 c1=>by rw[putF_eq];exact hown'),(fun c0=>by rw[orZ (by decide),h12]at c0;cases c0),(fun c0=>by rw[orZ (by decide),h13]at c0;cases c0)⟩⟩
  |6,ho,hv,hLi=>
   cases Option.some.inj ho;cases Option.some.inj hv;have g10:A.tmps[10]?.getD undef= .pointer (some ⟨w2.heap.size,0,none⟩):=(gd A 10).trans (hkept 10 (by kernel_rfl));refine wpOp_step rfl (fun K hK=> ?_);go_simp;exact hK _ _ ⟨_,rfl,fun u hu=>by cases Option.some.inj hu;rfl,⟨(fun c0=>by rw[orZ (by decide)]at c0;exact hJ.bel c0),(fun c0 c1=>by rw[orZ (by decide)]at c0;rw[orZ (by decide)]at c1;simp only[putF_ne (show 81≠76 by decide)];exact hJ.s1 c0 c1),(fun c0 c1=>by rw[orZ (by decide)]at c0;rw[orZ (by decide)]at c1;simp only[putF_ne (show 81≠79 by decide)];exact hJ.s4 c0 c1),(fun c0 c1=>by rw[orZ (by decide)]at c0;rw[orZ (by decide)]at c1;simp only[putF_ne (show 81≠80 by decide)];exact hJ.s5 c0 c1),(fun c0=>by rw[orZ (by decide)]at c0;simp only[putF_ne (show 81≠87 by decide),putF_ne (show 81≠80 by decide)];exact hJ.s12 c0),(fun c0=>by rw[orZ (by decide)]at c0;simp only[putF_ne (show 81≠80 by decide)];exact hJ.fin c0)⟩⟩
  |7,ho,hv,hLi=>
   cases Option.some.inj ho;cases Option.some.inj hv
   have h13:L 13=false:=by
    cases hq:L 13 with
    |false=>rfl
    |true=>
     have:=hc 13 _ rfl hq ⟨7,.phase⟩ (by simp) rfl;rw[hLi]at this;cases this
   have g81:A.tmps[81]?.getD undef= .pointer (some ⟨w2.heap.size,1,none⟩):=(gd A 81).trans (hhas 6 81 _ rfl (hdep ⟨6,.data⟩ (by simp) rfl));have z:=((hJ.bel h13).cell (block_lt_of_cell kh)).trans kh;refine wpOp_step rfl (fun K hK=> ?_);go_simp;exact hK _ _ ⟨_,rfl,fun u hu=>by cases Option.some.inj hu;rfl,⟨(fun c0=>by rw[orZ (by decide)]at c0;exact hJ.bel c0),(fun c0 c1=>by rw[orZ (by decide)]at c0;rw[orZ (by decide)]at c1;simp only[putF_ne (show 82≠76 by decide)];exact hJ.s1 c0 c1),(fun c0 c1=>by rw[orZ (by decide)]at c0;rw[orZ (by decide)]at c1;simp only[putF_ne (show 82≠79 by decide)];exact hJ.s4 c0 c1),(fun c0 c1=>by rw[orZ (by decide)]at c0;rw[orZ (by decide)]at c1;simp only[putF_ne (show 82≠80 by decide)];exact hJ.s5 c0 c1),(fun c0=>by rw[orZ (by decide)]at c0;simp only[putF_ne (show 82≠87 by decide),putF_ne (show 82≠80 by decide)];exact hJ.s12 c0),(fun c0=>by rw[orZ (by decide),h13]at c0;cases c0)⟩⟩
  |8,ho,hv,hLi=>
   cases Option.some.inj ho;cases Option.some.inj hv;have g82:A.tmps[82]?.getD undef= .int .i64 hk:=(gd A 82).trans (hhas 7 82 _ rfl (hdep ⟨7,.data⟩ (by simp) rfl));refine wpOp_step rfl (fun K hK=> ?_);go_simp;refine(cMo W2).mono ?_;rintro r' W' ⟨rfl,rfl⟩;exact hK _ _ ⟨_,rfl,fun u hu=>by cases Option.some.inj hu;rfl,⟨(fun c0=>by rw[orZ (by decide)]at c0;exact hJ.bel c0),(fun c0 c1=>by rw[orZ (by decide)]at c0;rw[orZ (by decide)]at c1;simp only[putF_ne (show 83≠76 by decide)];exact hJ.s1 c0 c1),(fun c0 c1=>by rw[orZ (by decide)]at c0;rw[orZ (by decide)]at c1;simp only[putF_ne (show 83≠79 by decide)];exact hJ.s4 c0 c1),(fun c0 c1=>by rw[orZ (by decide)]at c0;rw[orZ (by decide)]at c1;simp only[putF_ne (show 83≠80 by decide)];exact hJ.s5 c0 c1),(fun c0=>by rw[orZ (by decide)]at c0;simp only[putF_ne (show 83≠87 by decide),putF_ne (show 83≠80 by decide)];exact hJ.s12 c0),(fun c0=>by rw[orZ (by decide)]at c0;simp only[putF_ne (show 83≠80 by decide)];exact hJ.fin c0)⟩⟩
  |9,ho,hv,hLi=>
   cases Option.some.inj ho;cases Option.some.inj hv;have g10:A.tmps[10]?.getD undef= .pointer (some ⟨w2.heap.size,0,none⟩):=(gd A 10).trans (hkept 10 (by kernel_rfl));refine wpOp_step rfl (fun K hK=> ?_);go_simp;exact hK _ _ ⟨_,rfl,fun u hu=>by cases Option.some.inj hu;rfl,⟨(fun c0=>by rw[orZ (by decide)]at c0;exact hJ.bel c0),(fun c0 c1=>by rw[orZ (by decide)]at c0;rw[orZ (by decide)]at c1;simp only[putF_ne (show 84≠76 by decide)];exact hJ.s1 c0 c1),(fun c0 c1=>by rw[orZ (by decide)]at c0;rw[orZ (by decide)]at c1;simp only[putF_ne (show 84≠79 by decide)];exact hJ.s4 c0 c1),(fun c0 c1=>by rw[orZ (by decide)]at c0;rw[orZ (by decide)]at c1;simp only[putF_ne (show 84≠80 by decide)];exact hJ.s5 c0 c1),(fun c0=>by rw[orZ (by decide)]at c0;simp only[putF_ne (show 84≠87 by decide),putF_ne (show 84≠80 by decide)];exact hJ.s12 c0),(fun c0=>by rw[orZ (by decide)]at c0;simp only[putF_ne (show 84≠80 by decide)];exact hJ.fin c0)⟩⟩
  |10,ho,hv,hLi=>
   cases Option.some.inj ho;cases Option.some.inj hv
   have h13:L 13=false:=by
    cases hq:L 13 with
    |false=>rfl
    |true=>
     have:=hc 13 _ rfl hq ⟨10,.phase⟩ (by simp) rfl;rw[hLi]at this;cases this
   have g84:A.tmps[84]?.getD undef= .pointer (some ⟨w2.heap.size,2,none⟩):=(gd A 84).trans (hhas 9 84 _ rfl (hdep ⟨9,.data⟩ (by simp) rfl));have z:=((hJ.bel h13).cell (block_lt_of_cell ks)).trans ks;refine wpOp_step rfl (fun K hK=> ?_);go_simp;exact hK _ _ ⟨_,rfl,fun u hu=>by cases Option.some.inj hu;rfl,⟨(fun c0=>by rw[orZ (by decide)]at c0;exact hJ.bel c0),(fun c0 c1=>by rw[orZ (by decide)]at c0;rw[orZ (by decide)]at c1;simp only[putF_ne (show 85≠76 by decide)];exact hJ.s1 c0 c1),(fun c0 c1=>by rw[orZ (by decide)]at c0;rw[orZ (by decide)]at c1;simp only[putF_ne (show 85≠79 by decide)];exact hJ.s4 c0 c1),(fun c0 c1=>by rw[orZ (by decide)]at c0;rw[orZ (by decide)]at c1;simp only[putF_ne (show 85≠80 by decide)];exact hJ.s5 c0 c1),(fun c0=>by rw[orZ (by decide)]at c0;simp only[putF_ne (show 85≠87 by decide),putF_ne (show 85≠80 by decide)];exact hJ.s12 c0),(fun c0=>by rw[orZ (by decide),h13]at c0;cases c0)⟩⟩
  |11,ho,hv,hLi=>
   cases Option.some.inj ho;cases Option.some.inj hv;have g85:A.tmps[85]?.getD undef= .int .i64 sk:=(gd A 85).trans (hhas 10 85 _ rfl (hdep ⟨10,.data⟩ (by simp) rfl));refine wpOp_step rfl (fun K hK=> ?_);go_simp;exact hK _ _ ⟨_,rfl,fun u hu=>by cases Option.some.inj hu;rfl,⟨(fun c0=>by rw[orZ (by decide)]at c0;exact hJ.bel c0),(fun c0 c1=>by rw[orZ (by decide)]at c0;rw[orZ (by decide)]at c1;simp only[putF_ne (show 86≠76 by decide)];exact hJ.s1 c0 c1),(fun c0 c1=>by rw[orZ (by decide)]at c0;rw[orZ (by decide)]at c1;simp only[putF_ne (show 86≠79 by decide)];exact hJ.s4 c0 c1),(fun c0 c1=>by rw[orZ (by decide)]at c0;rw[orZ (by decide)]at c1;simp only[putF_ne (show 86≠80 by decide)];exact hJ.s5 c0 c1),(fun c0=>by rw[orZ (by decide)]at c0;simp only[putF_ne (show 86≠87 by decide),putF_ne (show 86≠80 by decide)];exact hJ.s12 c0),(fun c0=>by rw[orZ (by decide)]at c0;simp only[putF_ne (show 86≠80 by decide)];exact hJ.fin c0)⟩⟩
  |12,ho,hv,hLi=>
   cases Option.some.inj ho;cases Option.some.inj hv
   have h13:L 13=false:=by
    cases hq:L 13 with
    |false=>rfl
    |true=>
     have:=hc 13 _ rfl hq ⟨12,.phase⟩ (by simp) rfl;rw[hLi]at this;cases this
   have g83:A.tmps[83]?.getD undef= .int .i64 hn:=(gd A 83).trans (hhas 8 83 _ rfl (hdep ⟨8,.data⟩ (by simp) rfl));have g86:A.tmps[86]?.getD undef= .int .i64 sn:=(gd A 86).trans (hhas 11 86 _ rfl (hdep ⟨11,.data⟩ (by simp) rfl));obtain⟨p80,c80,e80⟩:=row_formZ (hJ.s5 (hdep ⟨5,.data⟩ (by simp) rfl) h13);have g80:A.tmps[80]?.getD undef=_:=(gd A 80).trans e80;refine wpOp_step rfl (fun K hK=> ?_);go_simp;exact hK _ _ ⟨_,rfl,fun u hu=>by(cases hu),⟨(fun c0=>by rw[orZ (by decide)]at c0;exact hJ.bel c0),(fun c0 c1=>by rw[orZ (by decide)]at c0;rw[orZ (by decide)]at c1;simp only[putF_ne (show 87≠76 by decide)];exact hJ.s1 c0 c1),(fun c0 c1=>by rw[orZ (by decide)]at c0;rw[orZ (by decide)]at c1;simp only[putF_ne (show 87≠79 by decide)];exact hJ.s4 c0 c1),(fun c0 c1=>by rw[orZ (by decide)]at c0;rw[orZ (by decide)]at c1;simp only[putF_ne (show 87≠80 by decide)];exact hJ.s5 c0 c1),(fun c0=>by rw[putF_eq,putF_ne (by decide),e80]),(fun c0=>by rw[orZ (by decide),h13]at c0;cases c0)⟩⟩
  |13,ho,hv,hLi=>
   cases Option.some.inj ho;cases Option.some.inj hv;have d12:L 12=true:=hdep ⟨12,.data⟩ (by simp) rfl;have d5:L 5=true:=hc 12 _ rfl d12 ⟨5,.data⟩ (by simp) rfl;have o80:=hJ.s5 d5 hLi;obtain⟨p80,c80,e80⟩:=row_formZ o80;have h87:A.eval (.tmp 87)= .agg #[slotsOf A 80,.int .i64 hn,.int .i64 sn]:=hJ.s12 d12;rw[e80]at h87;have h6:A.eval (.tmp 6)= .pointer (some ⟨w.heap.size+1,0,none⟩):=hkept 6 (by kernel_rfl);have hbX:=hJ.bel hLi;have hbk:=(hbX.block _ (lt_of_block n6)).trans n6;refine wpOp_step rfl (fun K hK=> ?_);show Oper.wp _ _ _ _ _ _;refine wp_store_row 62 _ _ rfl _ _ h6 h87 _ _ hbk (by kernel_rfl) (by simp) (by simp[Value.oneCell']) ?_;exact hK _ _ ⟨undef,rfl,fun u hu=>by(cases hu),⟨(fun c0=>by simp at c0),(fun c0 c1=>by rw[orZ (by decide),d5]at c1;cases c1),(fun c0 c1=>by rw[orZ (by decide),d5]at c1;cases c1),(fun c0 c1=>by simp at c1),(fun c0=>by rw[orZ (by decide)]at c0;rw[putF_none];exact hJ.s12 c0),(fun c0=>by rw[putF_none];exact⟨W2,_,hbX,o80,rfl,by rw[e80]⟩)⟩⟩
  |kk+14,ho,hv,hLi=>simp at hv
 ·intro L A W2 hL hJ hhas hput;obtain⟨W0,q,hb0,hoq,eq80,rfl⟩:=hJ.fin (hL 13 (by decide));have e87:=hJ.s12 (hL 12 (by decide));rw[eq80]at e87;obtain⟨q76,e76⟩: ∃q,A.tmps.getD 76 undef=q:=⟨_,rfl⟩
  obtain⟨q79,e79⟩: ∃q,A.tmps.getD 79 undef=q:=⟨_,rfl⟩
  have hA:=hput [(75,.agg #[.int .i64 7,.int .i64 e.a,.int .i64 e.b,.int .i64 ((xs.length:Int)+1),.slice none 0 0]),(76,q76),(77,.func (Fn.func 56) #[] #[]),(78,.agg #[.slice p2 xs.length c2,.int .i64 hk,.int .i64 sk]),(79,q79),(80,q),(81,.pointer (some ⟨w2.heap.size,1,none⟩)),(82,.int .i64 hk),(83,.int .i64 hn),(84,.pointer (some ⟨w2.heap.size,2,none⟩)),(85,.int .i64 sk),(86,.int .i64 sn),(87,.agg #[q,.int .i64 hn,.int .i64 sn])] rfl (fun jj s u hj=>match jj,hj with
   |0,hj=>by cases Option.some.inj hj;exact hhas 0 75 _ rfl
   |1,hj=>by cases Option.some.inj hj;exact e76
   |2,hj=>by cases Option.some.inj hj;exact hhas 2 77 _ rfl
   |3,hj=>by cases Option.some.inj hj;exact hhas 3 78 _ rfl
   |4,hj=>by cases Option.some.inj hj;exact e79
   |5,hj=>by cases Option.some.inj hj;exact eq80
   |6,hj=>by cases Option.some.inj hj;exact hhas 6 81 _ rfl
   |7,hj=>by cases Option.some.inj hj;exact hhas 7 82 _ rfl
   |8,hj=>by cases Option.some.inj hj;exact hhas 8 83 _ rfl
   |9,hj=>by cases Option.some.inj hj;exact hhas 9 84 _ rfl
   |10,hj=>by cases Option.some.inj hj;exact hhas 10 85 _ rfl
   |11,hj=>by cases Option.some.inj hj;exact hhas 11 86 _ rfl
   |12,hj=>by cases Option.some.inj hj;exact e87
   |kk+13,hj=>by simp at hj)
  try change Exit.then _ _ Exit.normal _ _
  subst hA;simp only[putAll_cons,putAll_nil,Act.put,List.setIfInBounds_toArray,List.set_cons_succ,List.set_cons_zero]
  have HO:Hid (OutMk cs num e w (.returned (.agg #[q,.int .i64 hn,.int .i64 sn])) (W0.setRow (w.heap.size+1) #[q,.int .i64 hn,.int .i64 sn])):=by
   have hbk:=(hb0.block _ (lt_of_block n6)).trans n6;refine⟨q,(⟨7,e.a,e.b,(xs.length:Int)+1,[]⟩,.slice none 0 0)::xs.map (movP 1),by rw[HVV.out],InsT.setP ⟨?_,fun u hu=> ?_⟩ hbk _,?_,below_setRow (HBX.out.trans (hb0.mono HBX.out.size)) (by omega) _⟩
   ·show W0.ownsRow 0 _ _ _ _ _;rw[List.length_cons,List.length_map,Nat.add_comm];exact owns_lowZ hoq (Nat.zero_le _)
   ·rcases List.mem_cons.1 hu with rfl|hu
    ·exact SpIn.nil _ _ _
    ·obtain⟨x,hx,rfl⟩:=List.mem_map.1 hu;have:=(HROW.out.sp x hx).below hb0;unfold movP;rw[show(movI 1 x.1).sp=x.1.sp by unfold movI;split<;>rfl];exact this
   ·rw[HCD.out,List.map_cons,List.map_map,←HMAP.out,List.map_map,List.length_map];congr 1
  have HF:=hid5 (setRow_heap _ _ _ #[q,.int .i64 hn,.int .i64 sn] _ _ ((hb0.block _ (lt_of_block n6)).trans n6));obtain⟨pq,cq,rfl⟩:=row_formZ hoq;clear hJ hput hhas hL hb0 hoq eq80 e87 e76 e79 HBX HROW HMAP HCD HVV n6;generalize hwF:W0.setRow (w.heap.size+1) #[.slice pq (1+xs.length) cq,.int .i64 hn,.int .i64 sn]=wF at*;go_wp2_with fail;refine bodyPost_ret (v:= .agg #[.slice pq (1+xs.length) cq,.int .i64 hn,.int .i64 sn]) ?_ rfl HO.out;exact results_cell_row rfl _ _ (w.heap.size+1) _ _ _ _ rfl HF.out partT rfl (by kernel_rfl)
end Go.Proofs.YtpmobjgnmidolaaDoor
