/- What the document's Make comes to, of what is shifted. Written by genxm.py. -/
import Derived.Test.YtpmobjgnmidolaaDoorDt26
namespace Go.Proofs.YtpmobjgnmidolaaDoor
open Go.RowKit Lx Vx Msk
set_option maxRecDepth 100000 in
set_option maxHeartbeats 8000000 in
theorem mk_shift {cs:List Cd}{num:List UInt8→Int}{e k:Ex}{g o ce ck:Nat}{pk pl pd:Option Addr}{nl cl nd cd:Nat}{w:World}(hkd:e.kind=9)(hkids:e.kids=[k])(hs:stdE e=false)
  (cS: ∀W,Below w.heap.size w W→Calls Tryd.prog 53 #[exV e (.slice (some ⟨g,o,none⟩) e.kids.length ce)] W (OutMn false (mnE e) W))
  (c0:w.cell? ⟨g,o,none⟩=some (.int .i64 k.kind)) (c1:w.cell? ⟨g,o+1,none⟩=some (.int .i64 k.a)) (c2:w.cell? ⟨g,o+2,none⟩=some (.int .i64 k.b)) (c3:w.cell? ⟨g,o+3,none⟩=some (.string ⟨k.name.toArray⟩)) (c4:w.cell? ⟨g,o+4,none⟩=some (.slice pk k.kids.length ck))
  (cK: ∀W,Below w.heap.size w W→Calls Tryd.prog 21 #[exV k (.slice pk k.kids.length ck),.slice pl nl cl,.slice pd nd cd] W (OutMk cs num k W))
  (hbd:0≤(hsE cs num k).1∧(hsE cs num k).1≤1000000∧0≤(hsE cs num k).2∧(hsE cs num k).2≤1000000000) (hlen:(codeE num k 0).length≤600) (hto: ∀x∈codeE num k 0,0≤x.to∧x.to≤100000):
  Calls Tryd.prog 21 #[exV e (.slice (some ⟨g,o,none⟩) e.kids.length ce),.slice pl nl cl,.slice pd nd cd] w (OutMk cs num e w):=by
 have hkl:(0:Int)<(e.kids.length:Int):=by rw[hkids];simp
 have e10:(e.kind==10)=false:=by rw[hkd];rfl
 have e4:(e.kind==4)=false:=by rw[hkd];rfl
 have e5:(e.kind==5)=false:=by rw[hkd];rfl
 have e9:(e.kind==9)=true:=by rw[hkd];rfl
 have HV:Hid (hsE cs num e=(max 1 (hsE cs num k).1,1+(hsE cs num k).2)):=hs_one hs (.inr (.inr hkd)) hkids;have HCD:Hid (codeE num e 0=codeE num k 0++[⟨5,e.a,0,0,[]⟩]):=code_shift hs hkd hkids 0;clear hkd hkids hs;have hz:=mv_lit;have bA:Below w.heap.size w ((w.alloc (.cells #[.int .i64 e.kind,.int .i64 e.a,.int .i64 e.b,.string ⟨e.name.toArray⟩,.slice (some ⟨g,o,none⟩) e.kids.length ce] 50)).alloc (.cells #[.slice none 0 0,.int .i64 0,.int .i64 0] 62)):=((Below.refl _ _).alloc (Nat.le_refl _) _).alloc (by simp) _;have nE:((w.alloc (.cells #[.int .i64 e.kind,.int .i64 e.a,.int .i64 e.b,.string ⟨e.name.toArray⟩,.slice (some ⟨g,o,none⟩) e.kids.length ce] 50)).alloc (.cells #[.slice none 0 0,.int .i64 0,.int .i64 0] 62)).heap[w.heap.size]? =some (.cells #[.int .i64 e.kind,.int .i64 e.a,.int .i64 e.b,.string ⟨e.name.toArray⟩,.slice (some ⟨g,o,none⟩) e.kids.length ce] 50 (0,0)):=by (repeat (first | refine blk_old _ _ _ (by simp only [size_alloc]; omega) ?_ | exact blk_new _ _ _ (by first | rfl | simp only [size_alloc])))
 have nP:((w.alloc (.cells #[.int .i64 e.kind,.int .i64 e.a,.int .i64 e.b,.string ⟨e.name.toArray⟩,.slice (some ⟨g,o,none⟩) e.kids.length ce] 50)).alloc (.cells #[.slice none 0 0,.int .i64 0,.int .i64 0] 62)).heap[w.heap.size+1]? =some (.cells #[.slice none 0 0,.int .i64 0,.int .i64 0] 62 (0,0)):=by (repeat (first | refine blk_old _ _ _ (by simp only [size_alloc]; omega) ?_ | exact blk_new _ _ _ (by first | rfl | simp only [size_alloc])))
 unfold exV;generalize hwA:(w.alloc (.cells #[.int .i64 e.kind,.int .i64 e.a,.int .i64 e.b,.string ⟨e.name.toArray⟩,.slice (some ⟨g,o,none⟩) e.kids.length ce] 50)).alloc (.cells #[.slice none 0 0,.int .i64 0,.int .i64 0] 62)=wA at*;have d1:=cS wA bA;unfold exV at d1;have HK:=hid5 cK;clear cS cK;go_enter Tryd.func21,Tryd.ntmps21;go_wp2_with(refine wpList_load_row rfl 50 _ rfl _ rfl _ _ _ _ nE exprType5 rfl (by kernel_rfl) ?_)
 refine d1.mono ?_;rintro r w1 ⟨⟨fm,rfl,hfm⟩,b1⟩;have ba1:=(Below.refl w1.heap.size w1).alloc (Nat.le_refl _) (.cells (mv fun _=>false) 37);have na1:=heap_alloc_new w1 (.cells (mv fun _=>false) 37);have bm1:=below_setRow ba1 (Nat.le_refl _) (mv fm);have bp:=b1.trans (bm1.mono b1.size);have hbm:=bA.trans (bp.mono bA.size);have nE1:=(bp.block _ (lt_of_block nE)).trans nE;have nP1:=(bp.block _ (lt_of_block nP)).trans nP;clear d1 hfm b1 ba1 bm1 bp nE nP hwA bA;generalize hwa1:w1.alloc (.cells (mv fun _=>false) 37)=w1a at*;generalize hwm1:w1a.setRow w1.heap.size (mv fm)=w1m at*;have z0:=(cell_of_row _ _ 0 _ _ _ nE1).trans rfl;have z1:=(cell_of_row _ _ 1 _ _ _ nE1).trans rfl;have z4:=(cell_of_row _ _ 4 _ _ _ nE1).trans rfl;have f0:=(hbm.cell (block_lt_of_cell c0)).trans c0;have f1:=(hbm.cell (block_lt_of_cell c1)).trans c1;have f2:=(hbm.cell (block_lt_of_cell c2)).trans c2;have f3:=(hbm.cell (block_lt_of_cell c3)).trans c3;have f4:=(hbm.cell (block_lt_of_cell c4)).trans c4;have d2:=HK.out w1m hbm;unfold exV at d2;clear HK c0 c1 c2 c3 c4;go_wp2_with(refine wpList_store_row rfl 37 _ _ rfl _ _ rfl rfl _ _ na1 (maskSize _) (by simp[mv_size]) (mv_all _) ?_)
 refine d2.mono ?_;rintro r w2 ⟨sl,xs,rfl,hrow,hmap,b2⟩;obtain⟨p2,c2,rfl⟩:=row_formZ hrow.q;obtain⟨hk,hhk⟩: ∃q,(hsE cs num k).1=q:=⟨_,rfl⟩
 obtain⟨sk,hsk⟩: ∃q,(hsE cs num k).2=q:=⟨_,rfl⟩
 rw[hhk,hsk];rw[hhk,hsk]at hbd;obtain⟨hb1,hb2,hb3,hb4⟩:=hbd
 have hxl:xs.length≤600:=by
  have h1:=congrArg List.length hmap;rw[List.length_map]at h1;omega
 have bB:=(Below.refl w2.heap.size w2).alloc (Nat.le_refl _) (.cells #[.slice p2 xs.length c2,.int .i64 hk,.int .i64 sk] 62);have n3:=heap_alloc_new w2 (.cells #[.slice p2 xs.length c2,.int .i64 hk,.int .i64 sk] 62);have hbq:=hbm.trans (b2.mono hbm.size);have hbX:=hbq.trans (bB.mono hbq.size);have bb:=b2.trans (bB.mono b2.size);have nE3:=(bb.block _ (lt_of_block nE1)).trans nE1;have n6:=(bb.block _ (lt_of_block nP1)).trans nP1;have hrowX:=hrow.below bB;clear d2 b2 hbq bB bb nE1 nP1 hrow z0 z1 z4 f0 f1 f2 f3 f4 na1 hwa1 hwm1 hbm;generalize hwX:w2.alloc (.cells #[.slice p2 xs.length c2,.int .i64 hk,.int .i64 sk] 62)=wX at*;have ka:=(cell_of_row _ _ 1 _ _ _ nE3).trans rfl;have z0:=(cell_of_row _ _ 0 _ _ _ nE3).trans rfl;have kh:=(cell_of_row _ _ 1 _ _ _ n3).trans rfl;have ks:=(cell_of_row _ _ 2 _ _ _ n3).trans rfl;obtain⟨i0,hi0,hz0,hz1,hz2⟩:=info7 insInfoW;have hto2: ∀f∈xs,0≤f.1.to∧f.1.to≤100000:=fun f hf=>hto f.1 (by rw[←hmap];exact List.mem_map.2 ⟨f,hf,rfl⟩);have HMAP:=hid5 hmap;have HROW:=hid5 hrowX;have HBX:=hid5 hbX;obtain⟨hn,hhn⟩: ∃q,max 1 hk=q:=⟨_,rfl⟩
 obtain⟨sn,hsn⟩: ∃q,1+sk=q:=⟨_,rfl⟩
 have cMo: ∀W,Calls Tryd.prog 55 #[.int .i64 1,.int .i64 hk] W fun r w'=>r= .returned (.int .i64 hn)∧w'=W:=fun W=>by
  rw[←hhn];exact most_any 1 hk W
 have cMv: ∀W,Below wX.heap.size wX W→Calls Tryd.prog 56 #[.agg #[.slice p2 xs.length c2,.int .i64 hk,.int .i64 sk],.int .i64 0] W fun r w'=> ∃v',r= .returned v'∧w'.ownsRow W.heap.size 66 5 v' xs.length (flatI xs)∧Below W.heap.size W w':=fun W hW=>by
  have:=moved_any xs _ hk sk 0 W ((HROW.out.below hW).row (by omega)) (by omega) (by omega) hto2;rw[map_movP0]at this;exact this
 have hws:IntKind.i64.wrap sn=sn:=by rw[IntKind.wrap_i64];omega
 have HVV:Hid (hsE cs num e=(hn,sn)):=by
  show _=_;rw[HV.out,hhk,hsk,hhn,hsn]
 clear hhk hsk hhn HV hto2 hmap hrowX hbX hto hlen;go_upto_region 17 with fail;refine wp_region_Z (fun L φ W=>MkS wX (w.heap.size+1) xs (⟨5,e.a,0,0,[]⟩,.slice none 0 0) hn sn L φ W) (fun L hL=>⟨(fun _=>(Below.refl _ _).drew),(fun c0 c1=>by rw[hL 2 (by decide)]at c0;cases c0),(fun c0 c1=>by rw[hL 6 (by decide)]at c0;cases c0),(fun c0 c1=>by rw[hL 7 (by decide)]at c0;cases c0),(fun c0=>by rw[hL 14 (by decide)]at c0;cases c0),(fun c0=>by rw[hL 15 (by decide)]at c0;cases c0)⟩) (by kernel_rfl) (by kernel_rfl) (by kernel_rfl) (by kernel_rfl) [(some 90,some (.func (Fn.func 56) #[] #[])),(some 91,some (.agg #[.slice p2 xs.length c2,.int .i64 hk,.int .i64 sk])),(some 92,none),(some 93,some (.pointer (some ⟨w.heap.size,1,none⟩))),(some 94,some (.int .i64 e.a)),(some 95,some (.agg #[.int .i64 5,.int .i64 e.a,.int .i64 0,.int .i64 0,.slice none 0 0])),(some 96,none),(some 97,none),(some 98,some (.pointer (some ⟨w2.heap.size,1,none⟩))),(some 99,some (.int .i64 hk)),(some 100,some (.int .i64 hn)),(some 101,some (.pointer (some ⟨w2.heap.size,2,none⟩))),(some 102,some (.int .i64 sk)),(some 103,some (.int .i64 sn)),(some 104,none),(none,none)] (by kernel_rfl) (by kernel_rfl) [90,91,92,93,94,95,96,97,98,99,100,101,102,103,104] (by kernel_rfl) ?_ ?_
 ·intro i' d' x' o' L A W2 ho hv hLi hdep hc hJ hkept hhas;match i',ho,hv,hLi with
  |0,ho,hv,hLi=>
   cases Option.some.inj ho;cases Option.some.inj hv;have g11:A.tmps[11]?.getD undef= .func (Fn.func 56) #[] #[]:=(gd A 11).trans (hkept 11 (by kernel_rfl));refine wpOp_step rfl (fun K hK=> ?_);go_simp;exact hK _ _ ⟨_,rfl,fun u hu=>by cases Option.some.inj hu;rfl,⟨(fun c0=>by rw[orZ (by decide)]at c0;exact hJ.bel c0),(fun c0 c1=>by rw[orZ (by decide)]at c0;rw[orZ (by decide)]at c1;simp only[putF_ne (show 90≠92 by decide)];exact hJ.s2 c0 c1),(fun c0 c1=>by rw[orZ (by decide)]at c0;rw[orZ (by decide)]at c1;simp only[putF_ne (show 90≠96 by decide)];exact hJ.s6 c0 c1),(fun c0 c1=>by rw[orZ (by decide)]at c0;rw[orZ (by decide)]at c1;simp only[putF_ne (show 90≠97 by decide)];exact hJ.s7 c0 c1),(fun c0=>by rw[orZ (by decide)]at c0;simp only[putF_ne (show 90≠104 by decide),putF_ne (show 90≠97 by decide)];exact hJ.s14 c0),(fun c0=>by rw[orZ (by decide)]at c0;simp only[putF_ne (show 90≠97 by decide)];exact hJ.fin c0)⟩⟩
  |1,ho,hv,hLi=>
   cases Option.some.inj ho;cases Option.some.inj hv
   have h15:L 15=false:=by
    cases hq:L 15 with
    |false=>rfl
    |true=>
     have:=hc 15 _ rfl hq ⟨1,.phase⟩ (by simp) rfl;rw[hLi]at this;cases this
   have h10:A.eval (.tmp 10)= .pointer (some ⟨w2.heap.size,0,none⟩):=hkept 10 (by kernel_rfl);refine wpOp_step rfl (fun K hK=> ?_);show Oper.wp _ _ _ _ _ _;refine wp_load_row 62 _ rfl _ h10 _ _ _ _ (((hJ.bel h15).block _ (lt_of_block n3)).trans n3) partT rfl (by kernel_rfl) ?_;exact hK _ _ ⟨_,rfl,fun u hu=>by cases Option.some.inj hu;rfl,⟨(fun c0=>by rw[orZ (by decide)]at c0;exact hJ.bel c0),(fun c0 c1=>by rw[orZ (by decide)]at c0;rw[orZ (by decide)]at c1;simp only[putF_ne (show 91≠92 by decide)];exact hJ.s2 c0 c1),(fun c0 c1=>by rw[orZ (by decide)]at c0;rw[orZ (by decide)]at c1;simp only[putF_ne (show 91≠96 by decide)];exact hJ.s6 c0 c1),(fun c0 c1=>by rw[orZ (by decide)]at c0;rw[orZ (by decide)]at c1;simp only[putF_ne (show 91≠97 by decide)];exact hJ.s7 c0 c1),(fun c0=>by rw[orZ (by decide)]at c0;simp only[putF_ne (show 91≠104 by decide),putF_ne (show 91≠97 by decide)];exact hJ.s14 c0),(fun c0=>by rw[orZ (by decide),h15]at c0;cases c0)⟩⟩
  |2,ho,hv,hLi=>
   cases Option.some.inj ho;cases Option.some.inj hv
   have h7:L 7=false:=by
    cases hq:L 7 with
    |false=>rfl
    |true=>
     have:=hc 7 _ rfl hq ⟨2,.data⟩ (by simp) rfl;rw[hLi]at this;cases this
   have h14:L 14=false:=by
    cases hq:L 14 with
    |false=>rfl
    |true=>
     have:=hc 14 _ rfl hq ⟨7,.data⟩ (by simp) rfl;rw[h7]at this;cases this
   have h15:L 15=false:=by
    cases hq:L 15 with
    |false=>rfl
    |true=>
     have:=hc 15 _ rfl hq ⟨2,.phase⟩ (by simp) rfl;rw[hLi]at this;cases this
   have g90:A.tmps[90]?.getD undef= .func (Fn.func 56) #[] #[]:=(gd A 90).trans (hhas 0 90 _ rfl (hdep ⟨0,.data⟩ (by simp) rfl));have g91:A.tmps[91]?.getD undef= .agg #[.slice p2 xs.length c2,.int .i64 hk,.int .i64 sk]:=(gd A 91).trans (hhas 1 91 _ rfl (hdep ⟨1,.data⟩ (by simp) rfl));refine wpOp_step rfl (fun K hK=> ?_);go_simp;refine(cMv W2 (hJ.bel h15)).mono ?_;rintro r' W' ⟨v',rfl,hv',hb'⟩;exact hK _ _ ⟨_,rfl,fun u hu=>by(cases hu),⟨(fun c0=>by rw[orZ (by decide)]at c0;exact(fun h hb=>h.trans (hb.mono h.size)) (hJ.bel c0) hb'),(fun c0 c1=>by rw[putF_eq];exact owns_lowZ hv' (hJ.bel h15).size),(fun c0 c1=>by rw[orZ (by decide)]at c0;rw[orZ (by decide)]at c1;simp only[putF_ne (show 92≠96 by decide)];exact(fun h hb=>h.imp fun _ q=>⟨q.1,(hb.block _ (lt_of_block q.2)).trans q.2⟩) (hJ.s6 c0 c1) hb'),(fun c0 c1=>by rw[orZ (by decide),h7]at c0;cases c0),(fun c0=>by rw[orZ (by decide),h14]at c0;cases c0),(fun c0=>by rw[orZ (by decide),h15]at c0;cases c0)⟩⟩
  |3,ho,hv,hLi=>
   cases Option.some.inj ho;cases Option.some.inj hv;have g3:A.tmps[3]?.getD undef= .pointer (some ⟨w.heap.size,0,none⟩):=(gd A 3).trans (hkept 3 (by kernel_rfl));refine wpOp_step rfl (fun K hK=> ?_);go_simp;exact hK _ _ ⟨_,rfl,fun u hu=>by cases Option.some.inj hu;rfl,⟨(fun c0=>by rw[orZ (by decide)]at c0;exact hJ.bel c0),(fun c0 c1=>by rw[orZ (by decide)]at c0;rw[orZ (by decide)]at c1;simp only[putF_ne (show 93≠92 by decide)];exact hJ.s2 c0 c1),(fun c0 c1=>by rw[orZ (by decide)]at c0;rw[orZ (by decide)]at c1;simp only[putF_ne (show 93≠96 by decide)];exact hJ.s6 c0 c1),(fun c0 c1=>by rw[orZ (by decide)]at c0;rw[orZ (by decide)]at c1;simp only[putF_ne (show 93≠97 by decide)];exact hJ.s7 c0 c1),(fun c0=>by rw[orZ (by decide)]at c0;simp only[putF_ne (show 93≠104 by decide),putF_ne (show 93≠97 by decide)];exact hJ.s14 c0),(fun c0=>by rw[orZ (by decide)]at c0;simp only[putF_ne (show 93≠97 by decide)];exact hJ.fin c0)⟩⟩
  |4,ho,hv,hLi=>
   cases Option.some.inj ho;cases Option.some.inj hv
   have h15:L 15=false:=by
    cases hq:L 15 with
    |false=>rfl
    |true=>
     have:=hc 15 _ rfl hq ⟨4,.phase⟩ (by simp) rfl;rw[hLi]at this;cases this
   have g93:A.tmps[93]?.getD undef= .pointer (some ⟨w.heap.size,1,none⟩):=(gd A 93).trans (hhas 3 93 _ rfl (hdep ⟨3,.data⟩ (by simp) rfl));have z:=((hJ.bel h15).cell (block_lt_of_cell ka)).trans ka;refine wpOp_step rfl (fun K hK=> ?_);go_simp;exact hK _ _ ⟨_,rfl,fun u hu=>by cases Option.some.inj hu;rfl,⟨(fun c0=>by rw[orZ (by decide)]at c0;exact hJ.bel c0),(fun c0 c1=>by rw[orZ (by decide)]at c0;rw[orZ (by decide)]at c1;simp only[putF_ne (show 94≠92 by decide)];exact hJ.s2 c0 c1),(fun c0 c1=>by rw[orZ (by decide)]at c0;rw[orZ (by decide)]at c1;simp only[putF_ne (show 94≠96 by decide)];exact hJ.s6 c0 c1),(fun c0 c1=>by rw[orZ (by decide)]at c0;rw[orZ (by decide)]at c1;simp only[putF_ne (show 94≠97 by decide)];exact hJ.s7 c0 c1),(fun c0=>by rw[orZ (by decide)]at c0;simp only[putF_ne (show 94≠104 by decide),putF_ne (show 94≠97 by decide)];exact hJ.s14 c0),(fun c0=>by rw[orZ (by decide),h15]at c0;cases c0)⟩⟩
  |5,ho,hv,hLi=>
   cases Option.some.inj ho;cases Option.some.inj hv;have g94:A.tmps[94]?.getD undef= .int .i64 e.a:=(gd A 94).trans (hhas 4 94 _ rfl (hdep ⟨4,.data⟩ (by simp) rfl));refine wpOp_step rfl (fun K hK=> ?_);go_simp;exact hK _ _ ⟨_,rfl,fun u hu=>by cases Option.some.inj hu;rfl,⟨(fun c0=>by rw[orZ (by decide)]at c0;exact hJ.bel c0),(fun c0 c1=>by rw[orZ (by decide)]at c0;rw[orZ (by decide)]at c1;simp only[putF_ne (show 95≠92 by decide)];exact hJ.s2 c0 c1),(fun c0 c1=>by rw[orZ (by decide)]at c0;rw[orZ (by decide)]at c1;simp only[putF_ne (show 95≠96 by decide)];exact hJ.s6 c0 c1),(fun c0 c1=>by rw[orZ (by decide)]at c0;rw[orZ (by decide)]at c1;simp only[putF_ne (show 95≠97 by decide)];exact hJ.s7 c0 c1),(fun c0=>by rw[orZ (by decide)]at c0;simp only[putF_ne (show 95≠104 by decide),putF_ne (show 95≠97 by decide)];exact hJ.s14 c0),(fun c0=>by rw[orZ (by decide)]at c0;simp only[putF_ne (show 95≠97 by decide)];exact hJ.fin c0)⟩⟩
  |6,ho,hv,hLi=>
   cases Option.some.inj ho;cases Option.some.inj hv
   have h7:L 7=false:=by
    cases hq:L 7 with
    |false=>rfl
    |true=>
     have:=hc 7 _ rfl hq ⟨6,.data⟩ (by simp) rfl;rw[hLi]at this;cases this
   have h14:L 14=false:=by
    cases hq:L 14 with
    |false=>rfl
    |true=>
     have:=hc 14 _ rfl hq ⟨7,.data⟩ (by simp) rfl;rw[h7]at this;cases this
   have h15:L 15=false:=by
    cases hq:L 15 with
    |false=>rfl
    |true=>
     have:=hc 15 _ rfl hq ⟨6,.phase⟩ (by simp) rfl;rw[hLi]at this;cases this
   have h95:A.eval (.tmp 95)= .agg #[.int .i64 5,.int .i64 e.a,.int .i64 0,.int .i64 0,.slice none 0 0]:=hhas 5 95 _ rfl (hdep ⟨5,.data⟩ (by simp) rfl);have hb':=(Below.refl W2.heap.size W2).alloc (Nat.le_refl _) (.cells (iv (⟨5,e.a,0,0,[]⟩,.slice none 0 0)) 66);refine wpOp_step rfl (fun K hK=> ?_);show Oper.wp _ _ _ _ _ _;refine wp_buildI _ rfl (⟨5,e.a,0,0,[]⟩,.slice none 0 0) ⟨_,_,_,rfl⟩ h95 ?_;exact hK _ _ ⟨_,rfl,fun u hu=>by(cases hu),⟨(fun c0=>by rw[orZ (by decide)]at c0;exact(fun h hb=>h.trans (hb.mono h.size)) (hJ.bel c0) hb'),(fun c0 c1=>by rw[orZ (by decide)]at c0;rw[orZ (by decide)]at c1;simp only[putF_ne (show 96≠92 by decide)];exact owns_belowZ (hJ.s2 c0 c1) hb'),(fun c0 c1=>⟨W2.heap.size,putF_eq,heap_alloc_new W2 _⟩),(fun c0 c1=>by rw[orZ (by decide),h7]at c0;cases c0),(fun c0=>by rw[orZ (by decide),h14]at c0;cases c0),(fun c0=>by rw[orZ (by decide),h15]at c0;cases c0)⟩⟩
  |7,ho,hv,hLi=>
   cases Option.some.inj ho;cases Option.some.inj hv
   have h14:L 14=false:=by
    cases hq:L 14 with
    |false=>rfl
    |true=>
     have:=hc 14 _ rfl hq ⟨7,.data⟩ (by simp) rfl;rw[hLi]at this;cases this
   have h15:L 15=false:=by
    cases hq:L 15 with
    |false=>rfl
    |true=>
     have:=hc 15 _ rfl hq ⟨7,.phase⟩ (by simp) rfl;rw[hLi]at this;cases this
   have o92:=hJ.s2 (hdep ⟨2,.data⟩ (by simp) rfl) hLi;obtain⟨gn,e96,hgn⟩:=hJ.s6 (hdep ⟨6,.data⟩ (by simp) rfl) hLi;have hbX:=(hJ.bel h15)
   have h92:A.eval (.tmp 92)=slotsOf A 92:=rfl;have h96:A.eval (.tmp 96)= .slice (some ⟨gn,0,none⟩) 1 1:=e96;have hlo:=o92.lt;have hsX:=hbX.size;refine wpOp_step rfl (fun K hK=> ?_);show Oper.wp _ _ _ _ _ _;refine wp_append_own W2 (.tmp 92) (.tmp 96) 40 rfl wX.heap.size 66 i0 (.agg #[.int .i64 0,.int .i64 0,.int .i64 0,.int .i64 0,.slice none 0 0]) 5 56 inssTypeW hi0 hz0 hz1 hz2 rfl (by decide) (slotsOf A 92) xs.length (flatI xs) h92 o92 ⟨gn,0,none⟩ 1 1 (iv (⟨5,e.a,0,0,[]⟩,.slice none 0 0)).toList h96 rfl (fun jj u hj=> ?y1) (fun u hu=> ?y2) (by unfold maxLen;omega) (by omega) hsX ?_;case y1=>exact ins_cells hgn jj u hj
   case y2=>simp[iv]at hu;rcases hu with rfl|rfl|rfl|rfl|rfl<;>rfl
   intro v' W' hown' hgrow _;exact hK _ _ ⟨_,rfl,fun u hu=>by(cases hu),⟨(fun c0=>hbX.grown hgrow hsX (fun q hq=>(hlo q hq).1)),(fun c0 c1=>by simp at c1),(fun c0 c1=>by simp at c1),(fun c0 c1=>by rw[putF_eq,flatI_snoc];exact hown'),(fun c0=>by rw[orZ (by decide),h14]at c0;cases c0),(fun c0=>by rw[orZ (by decide),h15]at c0;cases c0)⟩⟩
  |8,ho,hv,hLi=>
   cases Option.some.inj ho;cases Option.some.inj hv;have g10:A.tmps[10]?.getD undef= .pointer (some ⟨w2.heap.size,0,none⟩):=(gd A 10).trans (hkept 10 (by kernel_rfl));refine wpOp_step rfl (fun K hK=> ?_);go_simp;exact hK _ _ ⟨_,rfl,fun u hu=>by cases Option.some.inj hu;rfl,⟨(fun c0=>by rw[orZ (by decide)]at c0;exact hJ.bel c0),(fun c0 c1=>by rw[orZ (by decide)]at c0;rw[orZ (by decide)]at c1;simp only[putF_ne (show 98≠92 by decide)];exact hJ.s2 c0 c1),(fun c0 c1=>by rw[orZ (by decide)]at c0;rw[orZ (by decide)]at c1;simp only[putF_ne (show 98≠96 by decide)];exact hJ.s6 c0 c1),(fun c0 c1=>by rw[orZ (by decide)]at c0;rw[orZ (by decide)]at c1;simp only[putF_ne (show 98≠97 by decide)];exact hJ.s7 c0 c1),(fun c0=>by rw[orZ (by decide)]at c0;simp only[putF_ne (show 98≠104 by decide),putF_ne (show 98≠97 by decide)];exact hJ.s14 c0),(fun c0=>by rw[orZ (by decide)]at c0;simp only[putF_ne (show 98≠97 by decide)];exact hJ.fin c0)⟩⟩
  |9,ho,hv,hLi=>
   cases Option.some.inj ho;cases Option.some.inj hv
   have h15:L 15=false:=by
    cases hq:L 15 with
    |false=>rfl
    |true=>
     have:=hc 15 _ rfl hq ⟨9,.phase⟩ (by simp) rfl;rw[hLi]at this;cases this
   have g98:A.tmps[98]?.getD undef= .pointer (some ⟨w2.heap.size,1,none⟩):=(gd A 98).trans (hhas 8 98 _ rfl (hdep ⟨8,.data⟩ (by simp) rfl));have z:=((hJ.bel h15).cell (block_lt_of_cell kh)).trans kh;refine wpOp_step rfl (fun K hK=> ?_);go_simp;exact hK _ _ ⟨_,rfl,fun u hu=>by cases Option.some.inj hu;rfl,⟨(fun c0=>by rw[orZ (by decide)]at c0;exact hJ.bel c0),(fun c0 c1=>by rw[orZ (by decide)]at c0;rw[orZ (by decide)]at c1;simp only[putF_ne (show 99≠92 by decide)];exact hJ.s2 c0 c1),(fun c0 c1=>by rw[orZ (by decide)]at c0;rw[orZ (by decide)]at c1;simp only[putF_ne (show 99≠96 by decide)];exact hJ.s6 c0 c1),(fun c0 c1=>by rw[orZ (by decide)]at c0;rw[orZ (by decide)]at c1;simp only[putF_ne (show 99≠97 by decide)];exact hJ.s7 c0 c1),(fun c0=>by rw[orZ (by decide)]at c0;simp only[putF_ne (show 99≠104 by decide),putF_ne (show 99≠97 by decide)];exact hJ.s14 c0),(fun c0=>by rw[orZ (by decide),h15]at c0;cases c0)⟩⟩
  |10,ho,hv,hLi=>
   cases Option.some.inj ho;cases Option.some.inj hv;have g99:A.tmps[99]?.getD undef= .int .i64 hk:=(gd A 99).trans (hhas 9 99 _ rfl (hdep ⟨9,.data⟩ (by simp) rfl));refine wpOp_step rfl (fun K hK=> ?_);go_simp;refine(cMo W2).mono ?_;rintro r' W' ⟨rfl,rfl⟩;exact hK _ _ ⟨_,rfl,fun u hu=>by cases Option.some.inj hu;rfl,⟨(fun c0=>by rw[orZ (by decide)]at c0;exact hJ.bel c0),(fun c0 c1=>by rw[orZ (by decide)]at c0;rw[orZ (by decide)]at c1;simp only[putF_ne (show 100≠92 by decide)];exact hJ.s2 c0 c1),(fun c0 c1=>by rw[orZ (by decide)]at c0;rw[orZ (by decide)]at c1;simp only[putF_ne (show 100≠96 by decide)];exact hJ.s6 c0 c1),(fun c0 c1=>by rw[orZ (by decide)]at c0;rw[orZ (by decide)]at c1;simp only[putF_ne (show 100≠97 by decide)];exact hJ.s7 c0 c1),(fun c0=>by rw[orZ (by decide)]at c0;simp only[putF_ne (show 100≠104 by decide),putF_ne (show 100≠97 by decide)];exact hJ.s14 c0),(fun c0=>by rw[orZ (by decide)]at c0;simp only[putF_ne (show 100≠97 by decide)];exact hJ.fin c0)⟩⟩
  |11,ho,hv,hLi=>
   cases Option.some.inj ho;cases Option.some.inj hv;have g10:A.tmps[10]?.getD undef= .pointer (some ⟨w2.heap.size,0,none⟩):=(gd A 10).trans (hkept 10 (by kernel_rfl));refine wpOp_step rfl (fun K hK=> ?_);go_simp;exact hK _ _ ⟨_,rfl,fun u hu=>by cases Option.some.inj hu;rfl,⟨(fun c0=>by rw[orZ (by decide)]at c0;exact hJ.bel c0),(fun c0 c1=>by rw[orZ (by decide)]at c0;rw[orZ (by decide)]at c1;simp only[putF_ne (show 101≠92 by decide)];exact hJ.s2 c0 c1),(fun c0 c1=>by rw[orZ (by decide)]at c0;rw[orZ (by decide)]at c1;simp only[putF_ne (show 101≠96 by decide)];exact hJ.s6 c0 c1),(fun c0 c1=>by rw[orZ (by decide)]at c0;rw[orZ (by decide)]at c1;simp only[putF_ne (show 101≠97 by decide)];exact hJ.s7 c0 c1),(fun c0=>by rw[orZ (by decide)]at c0;simp only[putF_ne (show 101≠104 by decide),putF_ne (show 101≠97 by decide)];exact hJ.s14 c0),(fun c0=>by rw[orZ (by decide)]at c0;simp only[putF_ne (show 101≠97 by decide)];exact hJ.fin c0)⟩⟩
  |12,ho,hv,hLi=>
   cases Option.some.inj ho;cases Option.some.inj hv
   have h15:L 15=false:=by
    cases hq:L 15 with
    |false=>rfl
    |true=>
     have:=hc 15 _ rfl hq ⟨12,.phase⟩ (by simp) rfl;rw[hLi]at this;cases this
   have g101:A.tmps[101]?.getD undef= .pointer (some ⟨w2.heap.size,2,none⟩):=(gd A 101).trans (hhas 11 101 _ rfl (hdep ⟨11,.data⟩ (by simp) rfl));have z:=((hJ.bel h15).cell (block_lt_of_cell ks)).trans ks;refine wpOp_step rfl (fun K hK=> ?_);go_simp;exact hK _ _ ⟨_,rfl,fun u hu=>by cases Option.some.inj hu;rfl,⟨(fun c0=>by rw[orZ (by decide)]at c0;exact hJ.bel c0),(fun c0 c1=>by rw[orZ (by decide)]at c0;rw[orZ (by decide)]at c1;simp only[putF_ne (show 102≠92 by decide)];exact hJ.s2 c0 c1),(fun c0 c1=>by rw[orZ (by decide)]at c0;rw[orZ (by decide)]at c1;simp only[putF_ne (show 102≠96 by decide)];exact hJ.s6 c0 c1),(fun c0 c1=>by rw[orZ (by decide)]at c0;rw[orZ (by decide)]at c1;simp only[putF_ne (show 102≠97 by decide)];exact hJ.s7 c0 c1),(fun c0=>by rw[orZ (by decide)]at c0;simp only[putF_ne (show 102≠104 by decide),putF_ne (show 102≠97 by decide)];exact hJ.s14 c0),(fun c0=>by rw[orZ (by decide),h15]at c0;cases c0)⟩⟩
  |13,ho,hv,hLi=>
   cases Option.some.inj ho;cases Option.some.inj hv;have g102:A.tmps[102]?.getD undef= .int .i64 sk:=(gd A 102).trans (hhas 12 102 _ rfl (hdep ⟨12,.data⟩ (by simp) rfl));refine wpOp_step rfl (fun K hK=> ?_);go_simp;exact hK _ _ ⟨_,rfl,fun u hu=>by cases Option.some.inj hu;rfl,⟨(fun c0=>by rw[orZ (by decide)]at c0;exact hJ.bel c0),(fun c0 c1=>by rw[orZ (by decide)]at c0;rw[orZ (by decide)]at c1;simp only[putF_ne (show 103≠92 by decide)];exact hJ.s2 c0 c1),(fun c0 c1=>by rw[orZ (by decide)]at c0;rw[orZ (by decide)]at c1;simp only[putF_ne (show 103≠96 by decide)];exact hJ.s6 c0 c1),(fun c0 c1=>by rw[orZ (by decide)]at c0;rw[orZ (by decide)]at c1;simp only[putF_ne (show 103≠97 by decide)];exact hJ.s7 c0 c1),(fun c0=>by rw[orZ (by decide)]at c0;simp only[putF_ne (show 103≠104 by decide),putF_ne (show 103≠97 by decide)];exact hJ.s14 c0),(fun c0=>by rw[orZ (by decide)]at c0;simp only[putF_ne (show 103≠97 by decide)];exact hJ.fin c0)⟩⟩
  |14,ho,hv,hLi=>
   cases Option.some.inj ho;cases Option.some.inj hv
   have h15:L 15=false:=by
    cases hq:L 15 with
    |false=>rfl
    |true=>
     have:=hc 15 _ rfl hq ⟨14,.phase⟩ (by simp) rfl;rw[hLi]at this;cases this
   have g100:A.tmps[100]?.getD undef= .int .i64 hn:=(gd A 100).trans (hhas 10 100 _ rfl (hdep ⟨10,.data⟩ (by simp) rfl));have g103:A.tmps[103]?.getD undef= .int .i64 sn:=(gd A 103).trans (hhas 13 103 _ rfl (hdep ⟨13,.data⟩ (by simp) rfl));obtain⟨p97,c97,e97⟩:=row_formZ (hJ.s7 (hdep ⟨7,.data⟩ (by simp) rfl) h15);have g97:A.tmps[97]?.getD undef=_:=(gd A 97).trans e97;refine wpOp_step rfl (fun K hK=> ?_);go_simp;exact hK _ _ ⟨_,rfl,fun u hu=>by(cases hu),⟨(fun c0=>by rw[orZ (by decide)]at c0;exact hJ.bel c0),(fun c0 c1=>by rw[orZ (by decide)]at c0;rw[orZ (by decide)]at c1;simp only[putF_ne (show 104≠92 by decide)];exact hJ.s2 c0 c1),(fun c0 c1=>by rw[orZ (by decide)]at c0;rw[orZ (by decide)]at c1;simp only[putF_ne (show 104≠96 by decide)];exact hJ.s6 c0 c1),(fun c0 c1=>by rw[orZ (by decide)]at c0;rw[orZ (by decide)]at c1;simp only[putF_ne (show 104≠97 by decide)];exact hJ.s7 c0 c1),(fun c0=>by rw[putF_eq,putF_ne (by decide),e97]),(fun c0=>by rw[orZ (by decide),h15]at c0;cases c0)⟩⟩
  |15,ho,hv,hLi=>
   cases Option.some.inj ho;cases Option.some.inj hv;have d14:L 14=true:=hdep ⟨14,.data⟩ (by simp) rfl;have d7:L 7=true:=hc 14 _ rfl d14 ⟨7,.data⟩ (by simp) rfl;have o97:=hJ.s7 d7 hLi;obtain⟨p97,c97,e97⟩:=row_formZ o97;have h104:A.eval (.tmp 104)= .agg #[slotsOf A 97,.int .i64 hn,.int .i64 sn]:=hJ.s14 d14;rw[e97]at h104;have h6:A.eval (.tmp 6)= .pointer (some ⟨w.heap.size+1,0,none⟩):=hkept 6 (by kernel_rfl);have hbX:=hJ.bel hLi;have hbk:=(hbX.block _ (lt_of_block n6)).trans n6;refine wpOp_step rfl (fun K hK=> ?_);show Oper.wp _ _ _ _ _ _;refine wp_store_row 62 _ _ rfl _ _ h6 h104 _ _ hbk (by kernel_rfl) (by simp) (by simp[Value.oneCell']) ?_;exact hK _ _ ⟨undef,rfl,fun u hu=>by(cases hu),⟨(fun c0=>by simp at c0),(fun c0 c1=>by rw[orZ (by decide),d7]at c1;cases c1),(fun c0 c1=>by rw[orZ (by decide),d7]at c1;cases c1),(fun c0 c1=>by simp at c1),(fun c0=>by rw[orZ (by decide)]at c0;rw[putF_none];exact hJ.s14 c0),(fun c0=>by rw[putF_none];exact⟨W2,_,hbX,o97,rfl,by rw[e97]⟩)⟩⟩
  |kk+16,ho,hv,hLi=>simp at hv
 ·intro L A W2 hL hJ hhas hput;obtain⟨W0,q,hb0,hoq,eq97,rfl⟩:=hJ.fin (hL 15 (by decide));have e104:=hJ.s14 (hL 14 (by decide));rw[eq97]at e104;obtain⟨q92,e92⟩: ∃q,A.tmps.getD 92 undef=q:=⟨_,rfl⟩
  obtain⟨q96,e96⟩: ∃q,A.tmps.getD 96 undef=q:=⟨_,rfl⟩
  have hA:=hput [(90,.func (Fn.func 56) #[] #[]),(91,.agg #[.slice p2 xs.length c2,.int .i64 hk,.int .i64 sk]),(92,q92),(93,.pointer (some ⟨w.heap.size,1,none⟩)),(94,.int .i64 e.a),(95,.agg #[.int .i64 5,.int .i64 e.a,.int .i64 0,.int .i64 0,.slice none 0 0]),(96,q96),(97,q),(98,.pointer (some ⟨w2.heap.size,1,none⟩)),(99,.int .i64 hk),(100,.int .i64 hn),(101,.pointer (some ⟨w2.heap.size,2,none⟩)),(102,.int .i64 sk),(103,.int .i64 sn),(104,.agg #[q,.int .i64 hn,.int .i64 sn])] rfl (fun jj s u hj=>match jj,hj with
   |0,hj=>by cases Option.some.inj hj;exact hhas 0 90 _ rfl
   |1,hj=>by cases Option.some.inj hj;exact hhas 1 91 _ rfl
   |2,hj=>by cases Option.some.inj hj;exact e92
   |3,hj=>by cases Option.some.inj hj;exact hhas 3 93 _ rfl
   |4,hj=>by cases Option.some.inj hj;exact hhas 4 94 _ rfl
   |5,hj=>by cases Option.some.inj hj;exact hhas 5 95 _ rfl
   |6,hj=>by cases Option.some.inj hj;exact e96
   |7,hj=>by cases Option.some.inj hj;exact eq97
   |8,hj=>by cases Option.some.inj hj;exact hhas 8 98 _ rfl
   |9,hj=>by cases Option.some.inj hj;exact hhas 9 99 _ rfl
   |10,hj=>by cases Option.some.inj hj;exact hhas 10 100 _ rfl
   |11,hj=>by cases Option.some.inj hj;exact hhas 11 101 _ rfl
   |12,hj=>by cases Option.some.inj hj;exact hhas 12 102 _ rfl
   |13,hj=>by cases Option.some.inj hj;exact hhas 13 103 _ rfl
   |14,hj=>by cases Option.some.inj hj;exact e104
   |kk+15,hj=>by simp at hj)
  try change Exit.then _ _ Exit.normal _ _
  subst hA;simp only[putAll_cons,putAll_nil,Act.put,List.setIfInBounds_toArray,List.set_cons_succ,List.set_cons_zero]
  have HO:Hid (OutMk cs num e w (.returned (.agg #[q,.int .i64 hn,.int .i64 sn])) (W0.setRow (w.heap.size+1) #[q,.int .i64 hn,.int .i64 sn])):=by
   have hbk:=(hb0.block _ (lt_of_block n6)).trans n6;refine⟨q,xs++[(⟨5,e.a,0,0,[]⟩,.slice none 0 0)],by rw[HVV.out],InsT.setP ⟨?_,fun u hu=> ?_⟩ hbk _,?_,below_setRow (HBX.out.trans (hb0.mono HBX.out.size)) (by omega) _⟩
   ·show W0.ownsRow 0 _ _ _ _ _;rw[List.length_append];exact owns_lowZ hoq (Nat.zero_le _)
   ·rcases List.mem_append.1 hu with hu|hu
    ·exact(HROW.out.sp u hu).below hb0
    ·have eu:u=(⟨5,e.a,0,0,[]⟩,.slice none 0 0):=(by simpa using hu);subst eu;exact SpIn.nil _ _ _
   ·rw[List.map_append,HMAP.out,HCD.out];rfl
  have HF:=hid5 (setRow_heap _ _ _ #[q,.int .i64 hn,.int .i64 sn] _ _ ((hb0.block _ (lt_of_block n6)).trans n6));obtain⟨pq,cq,rfl⟩:=row_formZ hoq;clear hJ hput hhas hL hb0 hoq eq97 e104 e92 e96 HBX HROW HMAP HCD HVV n6;generalize hwF:W0.setRow (w.heap.size+1) #[.slice pq (xs.length+1) cq,.int .i64 hn,.int .i64 sn]=wF at*;go_wp2_with fail;refine bodyPost_ret (v:= .agg #[.slice pq (xs.length+1) cq,.int .i64 hn,.int .i64 sn]) ?_ rfl HO.out;exact results_cell_row rfl _ _ (w.heap.size+1) _ _ _ _ rfl HF.out partT rfl (by kernel_rfl)
end Go.Proofs.YtpmobjgnmidolaaDoor
