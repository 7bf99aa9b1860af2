/- What the document's Make comes to, of a pair. Written by genxs.py. -/
import Derived.Test.YtpmobjgnmidolaaDoorDt28
namespace Go.Proofs.YtpmobjgnmidolaaDoor
open Go.RowKit Lx Vx Msk
theorem flatI_cat (a b:List (In×Value)):flatI (a++b)=flatI a++flatI b:=by
 unfold flatI;rw[List.flatMap_append]
structure MkP (wX:World)(b:Nat)(xs ys:List (In×Value))(f:In×Value)(hn sn:Int)(L:Nat→Bool)(φ:Nat→Value)(W:World):Prop where
 bel:L 28=false→Below wX.heap.size wX W
 s2:L 2=true→L 9=false→W.ownsRow wX.heap.size 66 5 (φ 120) (xs.length) (flatI xs)
 s8:L 8=true→L 9=false→W.ownsRow wX.heap.size 66 5 (φ 126) (ys.length) (flatI (ys.map (movP (xs.length:Int))))
 s9:L 9=true→L 13=false→W.ownsRow wX.heap.size 66 5 (φ 127) (xs.length+ys.length) (flatI xs++flatI (ys.map (movP (xs.length:Int))))
 s12:L 12=true→L 13=false→ ∃g,φ 130= .slice (some ⟨g,0,none⟩) 1 1∧W.heap[g]? =some (.cells (iv f) 66 (0,0))
 dd:L 2=true→L 12=true→L 9=false→ ∀g,φ 130= .slice (some ⟨g,0,none⟩) 1 1→(φ 120).ownBlock≠some g
 s13:L 13=true→L 28=false→W.ownsRow wX.heap.size 66 5 (φ 131) (xs.length+ys.length+1) ((flatI xs++flatI (ys.map (movP (xs.length:Int))))++(iv f).toList)
 s27:L 27=true→φ 145= .agg #[φ 131,.int .i64 hn,.int .i64 sn]
 fin:L 28=true→ ∃W0 q,Below wX.heap.size wX W0∧W0.ownsRow wX.heap.size 66 5 q (xs.length+ys.length+1) ((flatI xs++flatI (ys.map (movP (xs.length:Int))))++(iv f).toList)∧φ 131=q∧W=W0.setRow b #[q,.int .i64 hn,.int .i64 sn]
set_option maxRecDepth 100000 in
set_option maxHeartbeats 16000000 in
theorem mk_pair {cs:List Cd}{num:List UInt8→Int}{e k m:Ex}{g o ce ck cm:Nat}{pk pm pl pd:Option Addr}{nl cl nd cd:Nat}{w:World}(hkd:e.kind=6∨e.kind=7∨e.kind=8)(hkids:e.kids=[k,m])(hs:stdE e=false)(hokm:OKE m)
  (cS: ∀W,Below w.heap.size w W→Calls Tryd.prog 53 #[exV e (.slice (some ⟨g,o,none⟩) e.kids.length ce)] W (OutMn false (mnE e) W))
  (c0:w.cell? ⟨g,o,none⟩=some (.int .i64 k.kind)) (c1:w.cell? ⟨g,o+1,none⟩=some (.int .i64 k.a)) (c2:w.cell? ⟨g,o+2,none⟩=some (.int .i64 k.b)) (c3:w.cell? ⟨g,o+3,none⟩=some (.string ⟨k.name.toArray⟩)) (c4:w.cell? ⟨g,o+4,none⟩=some (.slice pk k.kids.length ck))
  (e0:w.cell? ⟨g,o+5,none⟩=some (.int .i64 m.kind)) (e1:w.cell? ⟨g,o+6,none⟩=some (.int .i64 m.a)) (e2:w.cell? ⟨g,o+7,none⟩=some (.int .i64 m.b)) (e3:w.cell? ⟨g,o+8,none⟩=some (.string ⟨m.name.toArray⟩)) (e4:w.cell? ⟨g,o+9,none⟩=some (.slice pm m.kids.length cm))
  (cK: ∀W,Below w.heap.size w W→Calls Tryd.prog 21 #[exV k (.slice pk k.kids.length ck),.slice pl nl cl,.slice pd nd cd] W (OutMk cs num k W)) (cM: ∀W,Below w.heap.size w W→Calls Tryd.prog 21 #[exV m (.slice pm m.kids.length cm),.slice pl nl cl,.slice pd nd cd] W (OutMk cs num m W))
  (hbd:0≤(hsE cs num k).1∧(hsE cs num k).1≤1000000∧0≤(hsE cs num k).2∧(hsE cs num k).2≤1000000000) (hbm4:0≤(hsE cs num m).1∧(hsE cs num m).1≤1000000∧0≤(hsE cs num m).2∧(hsE cs num m).2≤1000000000) (hlen:(codeE num k 0).length≤600) (hlen4:1≤(codeE num m 0).length∧(codeE num m 0).length≤600) (hto: ∀x∈codeE num k 0,0≤x.to∧x.to≤100000) (hto4: ∀x∈codeE num m 0,0≤x.to∧x.to≤100000):
  Calls Tryd.prog 21 #[exV e (.slice (some ⟨g,o,none⟩) e.kids.length ce),.slice pl nl cl,.slice pd nd cd] w (OutMk cs num e w):=by
 have hkl:(0:Int)<(e.kids.length:Int):=by rw[hkids];simp
 have hkl1:(1:Int)<(e.kids.length:Int):=by rw[hkids];simp
 have e10:(e.kind==10)=false:=by simp;omega
 have e4k:(e.kind==4)=false:=by simp;omega
 have e5:(e.kind==5)=false:=by simp;omega
 have e9:(e.kind==9)=false:=by simp;omega
 have HV:Hid (hsE cs num e=(max 2 (max (hsE cs num k).1 (1+(hsE cs num m).1)),1+(hsE cs num k).2+(hsE cs num m).2)):=hs_two hs hkd hkids;obtain⟨op,hop⟩: ∃q,opK e.kind=q:=⟨_,rfl⟩
 have HCD:Hid (codeE num e 0=(codeE num k 0++(codeE num m 0).map (movI ((codeE num k 0).length:Int)))++[⟨op,0,0,0,[]⟩]):=by
  show _=_;rw[code_pair hs hkd hkids,code_mov num _ m (Nat.le_refl _) hokm (0+_),hop,Nat.zero_add]
 have HKD:Hid (e.kind=6∨e.kind=7∨e.kind=8):=hkd;have HOP:=hid5 hop;have HM:=hid5 cM;clear hkd hkids hs hokm hop cM;have hz:=mv_lit;have bA:Below w.heap.size w ((w.alloc (.cells #[.int .i64 e.kind,.int .i64 e.a,.int .i64 e.b,.string ⟨e.name.toArray⟩,.slice (some ⟨g,o,none⟩) e.kids.length ce] 50)).alloc (.cells #[.slice none 0 0,.int .i64 0,.int .i64 0] 62)):=((Below.refl _ _).alloc (Nat.le_refl _) _).alloc (by simp) _;have nE:((w.alloc (.cells #[.int .i64 e.kind,.int .i64 e.a,.int .i64 e.b,.string ⟨e.name.toArray⟩,.slice (some ⟨g,o,none⟩) e.kids.length ce] 50)).alloc (.cells #[.slice none 0 0,.int .i64 0,.int .i64 0] 62)).heap[w.heap.size]? =some (.cells #[.int .i64 e.kind,.int .i64 e.a,.int .i64 e.b,.string ⟨e.name.toArray⟩,.slice (some ⟨g,o,none⟩) e.kids.length ce] 50 (0,0)):=by (repeat (first | refine blk_old _ _ _ (by simp only [size_alloc]; omega) ?_ | exact blk_new _ _ _ (by first | rfl | simp only [size_alloc])))
 have nP:((w.alloc (.cells #[.int .i64 e.kind,.int .i64 e.a,.int .i64 e.b,.string ⟨e.name.toArray⟩,.slice (some ⟨g,o,none⟩) e.kids.length ce] 50)).alloc (.cells #[.slice none 0 0,.int .i64 0,.int .i64 0] 62)).heap[w.heap.size+1]? =some (.cells #[.slice none 0 0,.int .i64 0,.int .i64 0] 62 (0,0)):=by (repeat (first | refine blk_old _ _ _ (by simp only [size_alloc]; omega) ?_ | exact blk_new _ _ _ (by first | rfl | simp only [size_alloc])))
 unfold exV;generalize hwA:(w.alloc (.cells #[.int .i64 e.kind,.int .i64 e.a,.int .i64 e.b,.string ⟨e.name.toArray⟩,.slice (some ⟨g,o,none⟩) e.kids.length ce] 50)).alloc (.cells #[.slice none 0 0,.int .i64 0,.int .i64 0] 62)=wA at*;have d1:=cS wA bA;unfold exV at d1;have HK:=hid5 cK;clear cS cK;go_enter Tryd.func21,Tryd.ntmps21;go_wp2_with(refine wpList_load_row rfl 50 _ rfl _ rfl _ _ _ _ nE exprType5 rfl (by kernel_rfl) ?_)
 refine d1.mono ?_;rintro r w1 ⟨⟨fm,rfl,hfm⟩,b1⟩;have ba1:=(Below.refl w1.heap.size w1).alloc (Nat.le_refl _) (.cells (mv fun _=>false) 37);have na1:=heap_alloc_new w1 (.cells (mv fun _=>false) 37);have bm1:=below_setRow ba1 (Nat.le_refl _) (mv fm);have bp:=b1.trans (bm1.mono b1.size);have hbm:=bA.trans (bp.mono bA.size);have nE1:=(bp.block _ (lt_of_block nE)).trans nE;have nP1:=(bp.block _ (lt_of_block nP)).trans nP;clear d1 hfm b1 ba1 bm1 bp nE nP hwA bA;generalize hwa1:w1.alloc (.cells (mv fun _=>false) 37)=w1a at*;generalize hwm1:w1a.setRow w1.heap.size (mv fm)=w1m at*;have z0:=(cell_of_row _ _ 0 _ _ _ nE1).trans rfl;have z1:=(cell_of_row _ _ 1 _ _ _ nE1).trans rfl;have z4:=(cell_of_row _ _ 4 _ _ _ nE1).trans rfl;have f0:=(hbm.cell (block_lt_of_cell c0)).trans c0;have f1:=(hbm.cell (block_lt_of_cell c1)).trans c1;have f2:=(hbm.cell (block_lt_of_cell c2)).trans c2;have f3:=(hbm.cell (block_lt_of_cell c3)).trans c3;have f4:=(hbm.cell (block_lt_of_cell c4)).trans c4;have d2:=HK.out w1m hbm;unfold exV at d2;clear HK c0 c1 c2 c3 c4;go_wp2_with(refine wpList_store_row rfl 37 _ _ rfl _ _ rfl rfl _ _ na1 (maskSize _) (by simp[mv_size]) (mv_all _) ?_)
 refine d2.mono ?_;rintro r w2 ⟨sl,xs,rfl,hrow,hmap,b2⟩;obtain⟨p2,c2,rfl⟩:=row_formZ hrow.q;obtain⟨hk,hhk⟩: ∃q,(hsE cs num k).1=q:=⟨_,rfl⟩
 obtain⟨sk,hsk⟩: ∃q,(hsE cs num k).2=q:=⟨_,rfl⟩
 rw[hhk,hsk];rw[hhk,hsk]at hbd;obtain⟨hb1,hb2,hb3,hb4⟩:=hbd
 have hxl:xs.length≤600:=by
  have h1:=congrArg List.length hmap;rw[List.length_map]at h1;omega
 have bB:=(Below.refl w2.heap.size w2).alloc (Nat.le_refl _) (.cells #[.slice p2 xs.length c2,.int .i64 hk,.int .i64 sk] 62);have n3:=heap_alloc_new w2 (.cells #[.slice p2 xs.length c2,.int .i64 hk,.int .i64 sk] 62);have hbq:=hbm.trans (b2.mono hbm.size);have hbX:=hbq.trans (bB.mono hbq.size);have bb:=b2.trans (bB.mono b2.size);have nE3:=(bb.block _ (lt_of_block nE1)).trans nE1;have n6:=(bb.block _ (lt_of_block nP1)).trans nP1;have hrowX:=hrow.below bB;clear d2 b2 hbq bB bb nE1 nP1 hrow z0 z1 z4 f0 f1 f2 f3 f4 na1 hwa1 hwm1 hbm;generalize hwX:w2.alloc (.cells #[.slice p2 xs.length c2,.int .i64 hk,.int .i64 sk] 62)=wX at*;have ka:=(cell_of_row _ _ 1 _ _ _ nE3).trans rfl;have z0:=(cell_of_row _ _ 0 _ _ _ nE3).trans rfl;have kh:=(cell_of_row _ _ 1 _ _ _ n3).trans rfl;have ks:=(cell_of_row _ _ 2 _ _ _ n3).trans rfl;obtain⟨i0,hi0,hz0,hz1,hz2⟩:=info7 insInfoW;have hto2: ∀f∈xs,0≤f.1.to∧f.1.to≤100000:=fun f hf=>hto f.1 (by rw[←hmap];exact List.mem_map.2 ⟨f,hf,rfl⟩);have HMAP:=hid5 hmap;have HROW:=hid5 hrowX;have HBX:=hid5 hbX;have HE:Hid (True):=trivial;have z4:=(cell_of_row _ _ 4 _ _ _ nE3).trans rfl;have u0:=(hbX.cell (block_lt_of_cell e0)).trans e0;have u1:=(hbX.cell (block_lt_of_cell e1)).trans e1;have u2:=(hbX.cell (block_lt_of_cell e2)).trans e2;have u3:=(hbX.cell (block_lt_of_cell e3)).trans e3;have u4:=(hbX.cell (block_lt_of_cell e4)).trans e4;have d3:=HM.out wX hbX;unfold exV at d3;clear HE HM e0 e1 e2 e3 e4 ka;go_wp2_with fail;refine d3.mono ?_;rintro r w4 ⟨sl4,ys,rfl,hrow4,hmap4,b4⟩;obtain⟨p4,c4,rfl⟩:=row_formZ hrow4.q;obtain⟨hm,hhm⟩: ∃q,(hsE cs num m).1=q:=⟨_,rfl⟩
 obtain⟨sm,hsm⟩: ∃q,(hsE cs num m).2=q:=⟨_,rfl⟩
 rw[hhm,hsm];rw[hhm,hsm]at hbm4;obtain⟨hm1,hm2,hm3,hm4⟩:=hbm4
 have hyl:0<ys.length∧ys.length≤600:=by
  have h1:=congrArg List.length hmap4;rw[List.length_map]at h1;omega
 obtain⟨hyp,hyl⟩:=hyl;have bB:=(Below.refl w4.heap.size w4).alloc (Nat.le_refl _) (.cells #[.slice p4 ys.length c4,.int .i64 hm,.int .i64 sm] 62);have n5:=heap_alloc_new w4 (.cells #[.slice p4 ys.length c4,.int .i64 hm,.int .i64 sm] 62);have bb:=b4.trans (bB.mono b4.size);have nE5:=(bb.block _ (lt_of_block nE3)).trans nE3;have n3:=(bb.block _ (lt_of_block n3)).trans n3;have n6:=(bb.block _ (lt_of_block n6)).trans n6;have HBX:=hid5 (HBX.out.trans (bb.mono HBX.out.size));have HROW:=hid5 (HROW.out.below bb);have HROW4:=hid5 (hrow4.below bB);have HMAP4:=hid5 hmap4;clear d3 b4 bB bb hrow4 z4 u0 u1 u2 u3 u4 hbX hrowX;generalize hwY:w4.alloc (.cells #[.slice p4 ys.length c4,.int .i64 hm,.int .i64 sm] 62)=wY at*;have z0:=(cell_of_row _ _ 0 _ _ _ nE5).trans rfl;have ki:=(cell_of_row _ _ 0 _ _ _ n3).trans rfl;have kh:=(cell_of_row _ _ 1 _ _ _ n3).trans rfl;have ks:=(cell_of_row _ _ 2 _ _ _ n3).trans rfl;have mh:=(cell_of_row _ _ 1 _ _ _ n5).trans rfl;have ms:=(cell_of_row _ _ 2 _ _ _ n5).trans rfl;have hto5: ∀f∈ys,0≤f.1.to∧f.1.to≤100000:=fun f hf=>hto4 f.1 (by rw[←hmap4];exact List.mem_map.2 ⟨f,hf,rfl⟩);obtain⟨h1,hh1⟩: ∃q,1+hm=q:=⟨_,rfl⟩
 obtain⟨h2,hh2⟩: ∃q,max hk h1=q:=⟨_,rfl⟩
 obtain⟨hn,hhn⟩: ∃q,max 2 h2=q:=⟨_,rfl⟩
 obtain⟨s1,hs1⟩: ∃q,1+sk=q:=⟨_,rfl⟩
 obtain⟨sn,hsn⟩: ∃q,s1+sm=q:=⟨_,rfl⟩
 have cMo: ∀W,Calls Tryd.prog 55 #[.int .i64 hk,.int .i64 h1] W fun r w'=>r= .returned (.int .i64 h2)∧w'=W:=fun W=>by
  rw[←hh2];exact most_any hk h1 W
 have cMq: ∀W,Calls Tryd.prog 55 #[.int .i64 2,.int .i64 h2] W fun r w'=>r= .returned (.int .i64 hn)∧w'=W:=fun W=>by
  rw[←hhn];exact most_any 2 h2 W
 have cMa: ∀W,Below wY.heap.size wY W→Calls Tryd.prog 56 #[.agg #[.slice p2 xs.length c2,.int .i64 hk,.int .i64 sk],.int .i64 0] W fun r w'=> ∃v',r= .returned v'∧w'.ownsRow W.heap.size 66 5 v' xs.length (flatI xs)∧Below W.heap.size W w':=fun W hW=>by
  have:=moved_any xs _ hk sk 0 W ((HROW.out.below hW).row (by omega)) (by omega) (by omega) hto2;rw[map_movP0]at this;exact this
 have cMb: ∀W,Below wY.heap.size wY W→Calls Tryd.prog 56 #[.agg #[.slice p4 ys.length c4,.int .i64 hm,.int .i64 sm],.int .i64 (xs.length:Int)] W fun r w'=> ∃v',r= .returned v'∧w'.ownsRow W.heap.size 66 5 v' ys.length (flatI (ys.map (movP (xs.length:Int))))∧Below W.heap.size W w':=fun W hW=>
  moved_any ys _ hm sm (xs.length:Int) W ((HROW4.out.below hW).row (by omega)) (by omega) (by omega) hto5
 have HONE:Hid (∀u∈flatI (ys.map (movP (xs.length:Int))),u.oneCell'=true):=fun u hu=>by
  obtain⟨f,hf,hu⟩:=List.mem_flatMap.1 hu;obtain⟨x,hx,rfl⟩:=List.mem_map.1 hf;obtain⟨p',n',c',es⟩:=(HROW4.out.sp x hx).form;unfold movP iv at hu;dsimp only at hu;rw[es]at hu;simp at hu;rcases hu with rfl|rfl|rfl|rfl|rfl<;>rfl
 have hw1:IntKind.i64.wrap h1=h1:=by rw[IntKind.wrap_i64];omega
 have hw2:IntKind.i64.wrap s1=s1:=by rw[IntKind.wrap_i64];omega
 have hw3:IntKind.i64.wrap sn=sn:=by rw[IntKind.wrap_i64];omega
 have HVV:Hid (hsE cs num e=(hn,sn)):=by
  show _=_;rw[HV.out,hhk,hsk,hhm,hsm,hh1,hh2,hhn,hs1,hsn]
 clear hhk hsk hhm hsm hh2 hhn HV hto hto2 hto4 hto5 hmap hmap4 hlen hlen4;obtain⟨o7,ho7⟩: ∃q:Int,(if e.kind=7 then 3 else 2)=q:=⟨_,rfl⟩
 have HO7:=hid5 ho7;clear ho7;go_upto_if 114 with fail;go_cut [14] from 112 to 114 (fun v wr=>v= .int .i64 o7∧wr=wY)
 case first=>
  by_cases h7:e.kind=7
  ·have b7:(e.kind==7)=true:=(by rw[h7];rfl)
   have E7:Hid ((3:Int)=o7):=by
    show _=_;rw[←HO7.out,if_pos h7]
   clear h7;go_wp2_with fail;go_meet;case rel=>exact⟨by rw[E7.out],rfl⟩
  ·have b7:(e.kind==7)=false:=(by simpa using h7)
   have E7:Hid ((2:Int)=o7):=by
    show _=_;rw[←HO7.out,if_neg h7]
   clear h7;go_wp2_with fail;go_meet;case rel=>exact⟨by rw[E7.out],rfl⟩
 case rest=>
 obtain⟨rfl,rfl⟩:=hcut;go_upto_if 117 with fail;go_cut [14] from 115 to 117 (fun v wr=>v= .int .i64 op∧wr=wc)
 case first=>
  by_cases h8:e.kind=8
  ·have b8:(e.kind==8)=true:=(by rw[h8];rfl)
   have E8:Hid ((4:Int)=op):=by
    show _=_;rw[←HOP.out,h8];rfl
   clear h8;go_wp2_with fail;go_meet;case rel=>exact⟨by rw[E8.out],rfl⟩
  ·have b8:(e.kind==8)=false:=(by simpa using h8)
   have E8:Hid (o7=op):=by
    show _=_;rw[←HOP.out,←HO7.out];rcases HKD.out with q|q|q
    ·rw[q];rfl
    ·rw[q];rfl
    ·exact absurd q h8
   clear h8;go_wp2_with fail;go_meet;case rel=>exact⟨by rw[E8.out],rfl⟩
 case rest=>
 obtain⟨rfl,rfl⟩:=hcut;go_upto_region 24 with fail;refine wp_region_Z (fun L φ W=>MkP wc (w.heap.size+1) xs ys (⟨op,0,0,0,[]⟩,.slice none 0 0) hn sn L φ W) (fun L hL=>⟨(fun _=>(Below.refl _ _).drew),(fun c0 c1=>by rw[hL 2 (by decide)]at c0;cases c0),(fun c0 c1=>by rw[hL 8 (by decide)]at c0;cases c0),(fun c0 c1=>by rw[hL 9 (by decide)]at c0;cases c0),(fun c0 c1=>by rw[hL 12 (by decide)]at c0;cases c0),(fun c0 c1 c2=>by rw[hL 2 (by decide)]at c0;cases c0),(fun c0 c1=>by rw[hL 13 (by decide)]at c0;cases c0),(fun c0=>by rw[hL 27 (by decide)]at c0;cases c0),(fun c0=>by rw[hL 28 (by decide)]at c0;cases c0)⟩) (by kernel_rfl) (by kernel_rfl) (by kernel_rfl) (by kernel_rfl) [(some 118,some (.func (Fn.func 56) #[] #[])),(some 119,some (.agg #[.slice p2 xs.length c2,.int .i64 hk,.int .i64 sk])),(some 120,none),(some 121,some (.func (Fn.func 56) #[] #[])),(some 122,some (.agg #[.slice p4 ys.length c4,.int .i64 hm,.int .i64 sm])),(some 123,some (.pointer (some ⟨w2.heap.size,0,none⟩))),(some 124,some (.slice p2 xs.length c2)),(some 125,some (.int .i64 (xs.length:Int))),(some 126,none),(some 127,none),(some 128,some (.int .i64 op)),(some 129,some (.agg #[.int .i64 op,.int .i64 0,.int .i64 0,.int .i64 0,.slice none 0 0])),(some 130,none),(some 131,none),(some 132,some (.pointer (some ⟨w2.heap.size,1,none⟩))),(some 133,some (.int .i64 hk)),(some 134,some (.pointer (some ⟨w4.heap.size,1,none⟩))),(some 135,some (.int .i64 hm)),(some 136,some (.int .i64 h1)),(some 137,some (.int .i64 h2)),(some 138,some (.int .i64 hn)),(some 139,some (.pointer (some ⟨w2.heap.size,2,none⟩))),(some 140,some (.int .i64 sk)),(some 141,some (.int .i64 s1)),(some 142,some (.pointer (some ⟨w4.heap.size,2,none⟩))),(some 143,some (.int .i64 sm)),(some 144,some (.int .i64 sn)),(some 145,none),(none,none)] (by kernel_rfl) (by kernel_rfl) [118,119,120,121,122,123,124,125,126,127,128,129,130,131,132,133,134,135,136,137,138,139,140,141,142,143,144,145] (by kernel_rfl) ?_ ?_
 ·intro i' d' x' o' L A W2 ho hv hLi hdep hc hJ hkept hhas;match i',ho,hv,hLi with
  |0,ho,hv,hLi=>
   cases Option.some.inj ho;cases Option.some.inj hv;have g11:A.tmps[11]?.getD undef= .func (Fn.func 56) #[] #[]:=(gd A 11).trans (hkept 11 (by kernel_rfl));refine wpOp_step rfl (fun K hK=> ?_);go_simp;exact hK _ _ ⟨_,rfl,fun u hu=>by cases Option.some.inj hu;rfl,⟨(fun c0=>by rw[orZ (by decide)]at c0;exact hJ.bel c0),(fun c0 c1=>by rw[orZ (by decide)]at c0;rw[orZ (by decide)]at c1;simp only[putF_ne (show 118≠120 by decide)];exact hJ.s2 c0 c1),(fun c0 c1=>by rw[orZ (by decide)]at c0;rw[orZ (by decide)]at c1;simp only[putF_ne (show 118≠126 by decide)];exact hJ.s8 c0 c1),(fun c0 c1=>by rw[orZ (by decide)]at c0;rw[orZ (by decide)]at c1;simp only[putF_ne (show 118≠127 by decide)];exact hJ.s9 c0 c1),(fun c0 c1=>by rw[orZ (by decide)]at c0;rw[orZ (by decide)]at c1;simp only[putF_ne (show 118≠130 by decide)];exact hJ.s12 c0 c1),(fun c0 c1 c2=>by rw[orZ (by decide)]at c0;rw[orZ (by decide)]at c1;rw[orZ (by decide)]at c2;simp only[putF_ne (show 118≠130 by decide),putF_ne (show 118≠120 by decide)];exact hJ.dd c0 c1 c2),(fun c0 c1=>by rw[orZ (by decide)]at c0;rw[orZ (by decide)]at c1;simp only[putF_ne (show 118≠131 by decide)];exact hJ.s13 c0 c1),(fun c0=>by rw[orZ (by decide)]at c0;simp only[putF_ne (show 118≠145 by decide),putF_ne (show 118≠131 by decide)];exact hJ.s27 c0),(fun c0=>by rw[orZ (by decide)]at c0;simp only[putF_ne (show 118≠131 by decide)];exact hJ.fin c0)⟩⟩
  |1,ho,hv,hLi=>
   cases Option.some.inj ho;cases Option.some.inj hv
   have h28:L 28=false:=by
    cases hq:L 28 with
    |false=>rfl
    |true=>
     have:=hc 28 _ rfl hq ⟨1,.phase⟩ (by simp) rfl;rw[hLi]at this;cases this
   have h10:A.eval (.tmp 10)= .pointer (some ⟨w2.heap.size,0,none⟩):=hkept 10 (by kernel_rfl);refine wpOp_step rfl (fun K hK=> ?_);show Oper.wp _ _ _ _ _ _;refine wp_load_row 62 _ rfl _ h10 _ _ _ _ (((hJ.bel h28).block _ (lt_of_block n3)).trans n3) partT rfl (by kernel_rfl) ?_;exact hK _ _ ⟨_,rfl,fun u hu=>by cases Option.some.inj hu;rfl,⟨(fun c0=>by rw[orZ (by decide)]at c0;exact hJ.bel c0),(fun c0 c1=>by rw[orZ (by decide)]at c0;rw[orZ (by decide)]at c1;simp only[putF_ne (show 119≠120 by decide)];exact hJ.s2 c0 c1),(fun c0 c1=>by rw[orZ (by decide)]at c0;rw[orZ (by decide)]at c1;simp only[putF_ne (show 119≠126 by decide)];exact hJ.s8 c0 c1),(fun c0 c1=>by rw[orZ (by decide)]at c0;rw[orZ (by decide)]at c1;simp only[putF_ne (show 119≠127 by decide)];exact hJ.s9 c0 c1),(fun c0 c1=>by rw[orZ (by decide)]at c0;rw[orZ (by decide)]at c1;simp only[putF_ne (show 119≠130 by decide)];exact hJ.s12 c0 c1),(fun c0 c1 c2=>by rw[orZ (by decide)]at c0;rw[orZ (by decide)]at c1;rw[orZ (by decide)]at c2;simp only[putF_ne (show 119≠130 by decide),putF_ne (show 119≠120 by decide)];exact hJ.dd c0 c1 c2),(fun c0 c1=>by rw[orZ (by decide)]at c0;rw[orZ (by decide)]at c1;simp only[putF_ne (show 119≠131 by decide)];exact hJ.s13 c0 c1),(fun c0=>by rw[orZ (by decide)]at c0;simp only[putF_ne (show 119≠145 by decide),putF_ne (show 119≠131 by decide)];exact hJ.s27 c0),(fun c0=>by rw[orZ (by decide),h28]at c0;cases c0)⟩⟩
  |2,ho,hv,hLi=>
   cases Option.some.inj ho;cases Option.some.inj hv
   have h9:L 9=false:=by
    cases hq:L 9 with
    |false=>rfl
    |true=>
     have:=hc 9 _ rfl hq ⟨2,.data⟩ (by simp) rfl;rw[hLi]at this;cases this
   have h13:L 13=false:=by
    cases hq:L 13 with
    |false=>rfl
    |true=>
     have:=hc 13 _ rfl hq ⟨9,.data⟩ (by simp) rfl;rw[h9]at this;cases this
   have h27:L 27=false:=by
    cases hq:L 27 with
    |false=>rfl
    |true=>
     have:=hc 27 _ rfl hq ⟨13,.data⟩ (by simp) rfl;rw[h13]at this;cases this
   have h28:L 28=false:=by
    cases hq:L 28 with
    |false=>rfl
    |true=>
     have:=hc 28 _ rfl hq ⟨2,.phase⟩ (by simp) rfl;rw[hLi]at this;cases this
   have g118:A.tmps[118]?.getD undef= .func (Fn.func 56) #[] #[]:=(gd A 118).trans (hhas 0 118 _ rfl (hdep ⟨0,.data⟩ (by simp) rfl));have g119:A.tmps[119]?.getD undef= .agg #[.slice p2 xs.length c2,.int .i64 hk,.int .i64 sk]:=(gd A 119).trans (hhas 1 119 _ rfl (hdep ⟨1,.data⟩ (by simp) rfl));refine wpOp_step rfl (fun K hK=> ?_);go_simp;refine(cMa W2 (hJ.bel h28)).mono ?_;rintro r' W' ⟨v',rfl,hv',hb'⟩
   exact hK _ _ ⟨_,rfl,fun u hu=>by(cases hu),⟨(fun c0=>by rw[orZ (by decide)]at c0;exact(fun h hb=>h.trans (hb.mono h.size)) (hJ.bel c0) hb'),(fun c0 c1=>by rw[putF_eq];exact owns_lowZ hv' (hJ.bel h28).size),(fun c0 c1=>by rw[orZ (by decide)]at c0;rw[orZ (by decide)]at c1;simp only[putF_ne (show 120≠126 by decide)];exact owns_belowZ (hJ.s8 c0 c1) hb'),(fun c0 c1=>by rw[orZ (by decide),h9]at c0;cases c0),(fun c0 c1=>by rw[orZ (by decide)]at c0;rw[orZ (by decide)]at c1;simp only[putF_ne (show 120≠130 by decide)];exact(fun h hb=>h.imp fun _ q=>⟨q.1,(hb.block _ (lt_of_block q.2)).trans q.2⟩) (hJ.s12 c0 c1) hb'),(fun c0 c1 c2=>by
    intro gg hgg ee;rw[putF_eq]at ee;rw[putF_ne (by decide)]at hgg;rw[orZ (by decide)]at c1;obtain⟨g',e1,e2⟩:=hJ.s12 c1 h13;rw[e1]at hgg;injection hgg with q1;injection q1 with q1;injection q1 with q1;subst q1;have a1:=(hv'.lt _ ee).1;have a2:=lt_of_block e2;omega),(fun c0 c1=>by rw[orZ (by decide),h13]at c0;cases c0),(fun c0=>by rw[orZ (by decide),h27]at c0;cases c0),(fun c0=>by rw[orZ (by decide),h28]at c0;cases c0)⟩⟩
  |3,ho,hv,hLi=>
   cases Option.some.inj ho;cases Option.some.inj hv;have g11:A.tmps[11]?.getD undef= .func (Fn.func 56) #[] #[]:=(gd A 11).trans (hkept 11 (by kernel_rfl));refine wpOp_step rfl (fun K hK=> ?_);go_simp;exact hK _ _ ⟨_,rfl,fun u hu=>by cases Option.some.inj hu;rfl,⟨(fun c0=>by rw[orZ (by decide)]at c0;exact hJ.bel c0),(fun c0 c1=>by rw[orZ (by decide)]at c0;rw[orZ (by decide)]at c1;simp only[putF_ne (show 121≠120 by decide)];exact hJ.s2 c0 c1),(fun c0 c1=>by rw[orZ (by decide)]at c0;rw[orZ (by decide)]at c1;simp only[putF_ne (show 121≠126 by decide)];exact hJ.s8 c0 c1),(fun c0 c1=>by rw[orZ (by decide)]at c0;rw[orZ (by decide)]at c1;simp only[putF_ne (show 121≠127 by decide)];exact hJ.s9 c0 c1),(fun c0 c1=>by rw[orZ (by decide)]at c0;rw[orZ (by decide)]at c1;simp only[putF_ne (show 121≠130 by decide)];exact hJ.s12 c0 c1),(fun c0 c1 c2=>by rw[orZ (by decide)]at c0;rw[orZ (by decide)]at c1;rw[orZ (by decide)]at c2;simp only[putF_ne (show 121≠130 by decide),putF_ne (show 121≠120 by decide)];exact hJ.dd c0 c1 c2),(fun c0 c1=>by rw[orZ (by decide)]at c0;rw[orZ (by decide)]at c1;simp only[putF_ne (show 121≠131 by decide)];exact hJ.s13 c0 c1),(fun c0=>by rw[orZ (by decide)]at c0;simp only[putF_ne (show 121≠145 by decide),putF_ne (show 121≠131 by decide)];exact hJ.s27 c0),(fun c0=>by rw[orZ (by decide)]at c0;simp only[putF_ne (show 121≠131 by decide)];exact hJ.fin c0)⟩⟩
  |4,ho,hv,hLi=>
   cases Option.some.inj ho;cases Option.some.inj hv
   have h28:L 28=false:=by
    cases hq:L 28 with
    |false=>rfl
    |true=>
     have:=hc 28 _ rfl hq ⟨4,.phase⟩ (by simp) rfl;rw[hLi]at this;cases this
   have h13:A.eval (.tmp 13)= .pointer (some ⟨w4.heap.size,0,none⟩):=hkept 13 (by kernel_rfl);refine wpOp_step rfl (fun K hK=> ?_);show Oper.wp _ _ _ _ _ _;refine wp_load_row 62 _ rfl _ h13 _ _ _ _ (((hJ.bel h28).block _ (lt_of_block n5)).trans n5) partT rfl (by kernel_rfl) ?_;exact hK _ _ ⟨_,rfl,fun u hu=>by cases Option.some.inj hu;rfl,⟨(fun c0=>by rw[orZ (by decide)]at c0;exact hJ.bel c0),(fun c0 c1=>by rw[orZ (by decide)]at c0;rw[orZ (by decide)]at c1;simp only[putF_ne (show 122≠120 by decide)];exact hJ.s2 c0 c1),(fun c0 c1=>by rw[orZ (by decide)]at c0;rw[orZ (by decide)]at c1;simp only[putF_ne (show 122≠126 by decide)];exact hJ.s8 c0 c1),(fun c0 c1=>by rw[orZ (by decide)]at c0;rw[orZ (by decide)]at c1;simp only[putF_ne (show 122≠127 by decide)];exact hJ.s9 c0 c1),(fun c0 c1=>by rw[orZ (by decide)]at c0;rw[orZ (by decide)]at c1;simp only[putF_ne (show 122≠130 by decide)];exact hJ.s12 c0 c1),(fun c0 c1 c2=>by rw[orZ (by decide)]at c0;rw[orZ (by decide)]at c1;rw[orZ (by decide)]at c2;simp only[putF_ne (show 122≠130 by decide),putF_ne (show 122≠120 by decide)];exact hJ.dd c0 c1 c2),(fun c0 c1=>by rw[orZ (by decide)]at c0;rw[orZ (by decide)]at c1;simp only[putF_ne (show 122≠131 by decide)];exact hJ.s13 c0 c1),(fun c0=>by rw[orZ (by decide)]at c0;simp only[putF_ne (show 122≠145 by decide),putF_ne (show 122≠131 by decide)];exact hJ.s27 c0),(fun c0=>by rw[orZ (by decide),h28]at c0;cases c0)⟩⟩
  |5,ho,hv,hLi=>
   cases Option.some.inj ho;cases Option.some.inj hv;have g10:A.tmps[10]?.getD undef= .pointer (some ⟨w2.heap.size,0,none⟩):=(gd A 10).trans (hkept 10 (by kernel_rfl));refine wpOp_step rfl (fun K hK=> ?_);go_simp;exact hK _ _ ⟨_,rfl,fun u hu=>by cases Option.some.inj hu;rfl,⟨(fun c0=>by rw[orZ (by decide)]at c0;exact hJ.bel c0),(fun c0 c1=>by rw[orZ (by decide)]at c0;rw[orZ (by decide)]at c1;simp only[putF_ne (show 123≠120 by decide)];exact hJ.s2 c0 c1),(fun c0 c1=>by rw[orZ (by decide)]at c0;rw[orZ (by decide)]at c1;simp only[putF_ne (show 123≠126 by decide)];exact hJ.s8 c0 c1),(fun c0 c1=>by rw[orZ (by decide)]at c0;rw[orZ (by decide)]at c1;simp only[putF_ne (show 123≠127 by decide)];exact hJ.s9 c0 c1),(fun c0 c1=>by rw[orZ (by decide)]at c0;rw[orZ (by decide)]at c1;simp only[putF_ne (show 123≠130 by decide)];exact hJ.s12 c0 c1),(fun c0 c1 c2=>by rw[orZ (by decide)]at c0;rw[orZ (by decide)]at c1;rw[orZ (by decide)]at c2;simp only[putF_ne (show 123≠130 by decide),putF_ne (show 123≠120 by decide)];exact hJ.dd c0 c1 c2),(fun c0 c1=>by rw[orZ (by decide)]at c0;rw[orZ (by decide)]at c1;simp only[putF_ne (show 123≠131 by decide)];exact hJ.s13 c0 c1),(fun c0=>by rw[orZ (by decide)]at c0;simp only[putF_ne (show 123≠145 by decide),putF_ne (show 123≠131 by decide)];exact hJ.s27 c0),(fun c0=>by rw[orZ (by decide)]at c0;simp only[putF_ne (show 123≠131 by decide)];exact hJ.fin c0)⟩⟩
  |6,ho,hv,hLi=>
   cases Option.some.inj ho;cases Option.some.inj hv
   have h28:L 28=false:=by
    cases hq:L 28 with
    |false=>rfl
    |true=>
     have:=hc 28 _ rfl hq ⟨6,.phase⟩ (by simp) rfl;rw[hLi]at this;cases this
   have g123:A.tmps[123]?.getD undef= .pointer (some ⟨w2.heap.size,0,none⟩):=(gd A 123).trans (hhas 5 123 _ rfl (hdep ⟨5,.data⟩ (by simp) rfl));have z:=((hJ.bel h28).cell (block_lt_of_cell ki)).trans ki;refine wpOp_step rfl (fun K hK=> ?_);go_simp;exact hK _ _ ⟨_,rfl,fun u hu=>by cases Option.some.inj hu;rfl,⟨(fun c0=>by rw[orZ (by decide)]at c0;exact hJ.bel c0),(fun c0 c1=>by rw[orZ (by decide)]at c0;rw[orZ (by decide)]at c1;simp only[putF_ne (show 124≠120 by decide)];exact hJ.s2 c0 c1),(fun c0 c1=>by rw[orZ (by decide)]at c0;rw[orZ (by decide)]at c1;simp only[putF_ne (show 124≠126 by decide)];exact hJ.s8 c0 c1),(fun c0 c1=>by rw[orZ (by decide)]at c0;rw[orZ (by decide)]at c1;simp only[putF_ne (show 124≠127 by decide)];exact hJ.s9 c0 c1),(fun c0 c1=>by rw[orZ (by decide)]at c0;rw[orZ (by decide)]at c1;simp only[putF_ne (show 124≠130 by decide)];exact hJ.s12 c0 c1),(fun c0 c1 c2=>by rw[orZ (by decide)]at c0;rw[orZ (by decide)]at c1;rw[orZ (by decide)]at c2;simp only[putF_ne (show 124≠130 by decide),putF_ne (show 124≠120 by decide)];exact hJ.dd c0 c1 c2),(fun c0 c1=>by rw[orZ (by decide)]at c0;rw[orZ (by decide)]at c1;simp only[putF_ne (show 124≠131 by decide)];exact hJ.s13 c0 c1),(fun c0=>by rw[orZ (by decide)]at c0;simp only[putF_ne (show 124≠145 by decide),putF_ne (show 124≠131 by decide)];exact hJ.s27 c0),(fun c0=>by rw[orZ (by decide),h28]at c0;cases c0)⟩⟩
  |7,ho,hv,hLi=>
   cases Option.some.inj ho;cases Option.some.inj hv;have g124:A.tmps[124]?.getD undef= .slice p2 xs.length c2:=(gd A 124).trans (hhas 6 124 _ rfl (hdep ⟨6,.data⟩ (by simp) rfl));refine wpOp_step rfl (fun K hK=> ?_);go_simp;exact hK _ _ ⟨_,rfl,fun u hu=>by cases Option.some.inj hu;rfl,⟨(fun c0=>by rw[orZ (by decide)]at c0;exact hJ.bel c0),(fun c0 c1=>by rw[orZ (by decide)]at c0;rw[orZ (by decide)]at c1;simp only[putF_ne (show 125≠120 by decide)];exact hJ.s2 c0 c1),(fun c0 c1=>by rw[orZ (by decide)]at c0;rw[orZ (by decide)]at c1;simp only[putF_ne (show 125≠126 by decide)];exact hJ.s8 c0 c1),(fun c0 c1=>by rw[orZ (by decide)]at c0;rw[orZ (by decide)]at c1;simp only[putF_ne (show 125≠127 by decide)];exact hJ.s9 c0 c1),(fun c0 c1=>by rw[orZ (by decide)]at c0;rw[orZ (by decide)]at c1;simp only[putF_ne (show 125≠130 by decide)];exact hJ.s12 c0 c1),(fun c0 c1 c2=>by rw[orZ (by decide)]at c0;rw[orZ (by decide)]at c1;rw[orZ (by decide)]at c2;simp only[putF_ne (show 125≠130 by decide),putF_ne (show 125≠120 by decide)];exact hJ.dd c0 c1 c2),(fun c0 c1=>by rw[orZ (by decide)]at c0;rw[orZ (by decide)]at c1;simp only[putF_ne (show 125≠131 by decide)];exact hJ.s13 c0 c1),(fun c0=>by rw[orZ (by decide)]at c0;simp only[putF_ne (show 125≠145 by decide),putF_ne (show 125≠131 by decide)];exact hJ.s27 c0),(fun c0=>by rw[orZ (by decide)]at c0;simp only[putF_ne (show 125≠131 by decide)];exact hJ.fin c0)⟩⟩
  |8,ho,hv,hLi=>
   cases Option.some.inj ho;cases Option.some.inj hv
   have h9:L 9=false:=by
    cases hq:L 9 with
    |false=>rfl
    |true=>
     have:=hc 9 _ rfl hq ⟨8,.data⟩ (by simp) rfl;rw[hLi]at this;cases this
   have h13:L 13=false:=by
    cases hq:L 13 with
    |false=>rfl
    |true=>
     have:=hc 13 _ rfl hq ⟨9,.data⟩ (by simp) rfl;rw[h9]at this;cases this
   have h27:L 27=false:=by
    cases hq:L 27 with
    |false=>rfl
    |true=>
     have:=hc 27 _ rfl hq ⟨13,.data⟩ (by simp) rfl;rw[h13]at this;cases this
   have h28:L 28=false:=by
    cases hq:L 28 with
    |false=>rfl
    |true=>
     have:=hc 28 _ rfl hq ⟨8,.phase⟩ (by simp) rfl;rw[hLi]at this;cases this
   have g121:A.tmps[121]?.getD undef= .func (Fn.func 56) #[] #[]:=(gd A 121).trans (hhas 3 121 _ rfl (hdep ⟨3,.data⟩ (by simp) rfl));have g122:A.tmps[122]?.getD undef= .agg #[.slice p4 ys.length c4,.int .i64 hm,.int .i64 sm]:=(gd A 122).trans (hhas 4 122 _ rfl (hdep ⟨4,.data⟩ (by simp) rfl));have g125:A.tmps[125]?.getD undef= .int .i64 (xs.length:Int):=(gd A 125).trans (hhas 7 125 _ rfl (hdep ⟨7,.data⟩ (by simp) rfl));refine wpOp_step rfl (fun K hK=> ?_);go_simp;refine(cMb W2 (hJ.bel h28)).mono ?_;rintro r' W' ⟨v',rfl,hv',hb'⟩;exact hK _ _ ⟨_,rfl,fun u hu=>by(cases hu),⟨(fun c0=>by rw[orZ (by decide)]at c0;exact(fun h hb=>h.trans (hb.mono h.size)) (hJ.bel c0) hb'),(fun c0 c1=>by rw[orZ (by decide)]at c0;rw[orZ (by decide)]at c1;simp only[putF_ne (show 126≠120 by decide)];exact owns_belowZ (hJ.s2 c0 c1) hb'),(fun c0 c1=>by rw[putF_eq];exact owns_lowZ hv' (hJ.bel h28).size),(fun c0 c1=>by rw[orZ (by decide),h9]at c0;cases c0),(fun c0 c1=>by rw[orZ (by decide)]at c0;rw[orZ (by decide)]at c1;simp only[putF_ne (show 126≠130 by decide)];exact(fun h hb=>h.imp fun _ q=>⟨q.1,(hb.block _ (lt_of_block q.2)).trans q.2⟩) (hJ.s12 c0 c1) hb'),(fun c0 c1 c2=>by rw[orZ (by decide)]at c0;rw[orZ (by decide)]at c1;rw[orZ (by decide)]at c2;simp only[putF_ne (show 126≠130 by decide),putF_ne (show 126≠120 by decide)];exact hJ.dd c0 c1 c2),(fun c0 c1=>by rw[orZ (by decide),h13]at c0;cases c0),(fun c0=>by rw[orZ (by decide),h27]at c0;cases c0),(fun c0=>by rw[orZ (by decide),h28]at c0;cases c0)⟩⟩
  |9,ho,hv,hLi=>
   cases Option.some.inj ho;cases Option.some.inj hv
   have h13:L 13=false:=by
    cases hq:L 13 with
    |false=>rfl
    |true=>
     have:=hc 13 _ rfl hq ⟨9,.data⟩ (by simp) rfl;rw[hLi]at this;cases this
   have h27:L 27=false:=by
    cases hq:L 27 with
    |false=>rfl
    |true=>
     have:=hc 27 _ rfl hq ⟨13,.data⟩ (by simp) rfl;rw[h13]at this;cases this
   have h28:L 28=false:=by
    cases hq:L 28 with
    |false=>rfl
    |true=>
     have:=hc 28 _ rfl hq ⟨9,.phase⟩ (by simp) rfl;rw[hLi]at this;cases this
   have d2:L 2=true:=hdep ⟨2,.data⟩ (by simp) rfl;have o120:=hJ.s2 d2 hLi;have o126:=hJ.s8 (hdep ⟨8,.data⟩ (by simp) rfl) hLi;obtain⟨gn,cn,e126,hcn⟩:=own_slice o126 hyp;have hbX:=(hJ.bel h28)
   have h120:A.eval (.tmp 120)=slotsOf A 120:=rfl;have h126:A.eval (.tmp 126)= .slice (some ⟨gn,0,none⟩) ys.length cn:=e126;have hlo:=o120.lt;have hsX:=hbX.size;refine wpOp_step rfl (fun K hK=> ?_);show Oper.wp _ _ _ _ _ _;refine wp_append_own W2 (.tmp 120) (.tmp 126) 40 rfl wc.heap.size 66 i0 (.agg #[.int .i64 0,.int .i64 0,.int .i64 0,.int .i64 0,.slice none 0 0]) 5 56 inssTypeW hi0 hz0 hz1 hz2 rfl (by decide) (slotsOf A 120) (xs.length) (flatI xs) h120 o120 ⟨gn,0,none⟩ ys.length cn (flatI (ys.map (movP (xs.length:Int)))) h126 (by rw[flatI_len,List.length_map]) (fun jj u hj=> ?y120) (fun u hu=> ?v120) (by unfold maxLen;omega) (by omega) hsX ?_
   case y120=>
    rw[show(⟨gn,0,none⟩:Addr).add jj=⟨gn,jj,none⟩ by simp[Addr.add];exact fun h=>h.symm];exact hcn jj u hj
   case v120=>exact HONE.out u hu
   intro v' W' hown' hgrow _
   exact hK _ _ ⟨_,rfl,fun u hu=>by(cases hu),⟨(fun c0=>hbX.grown hgrow hsX (fun q hq=>(hlo q hq).1)),(fun c0 c1=>by simp at c1),(fun c0 c1=>by simp at c1),(fun c0 c1=>by rw[putF_eq];exact hown'),(fun c0 c1=>by
    rw[orZ (by decide)]at c0;obtain⟨gg,e1,e2⟩:=hJ.s12 c0 h13;refine⟨gg,by rw[putF_ne (by decide)];exact e1,(hgrow.block gg (lt_of_block e2) fun ee=> ?_).trans e2⟩;exact hJ.dd d2 c0 hLi gg e1 ee.symm),(fun c0 c1 c2=>by simp at c2),(fun c0 c1=>by rw[orZ (by decide),h13]at c0;cases c0),(fun c0=>by rw[orZ (by decide),h27]at c0;cases c0),(fun c0=>by rw[orZ (by decide),h28]at c0;cases c0)⟩⟩
  |10,ho,hv,hLi=>
   cases Option.some.inj ho;cases Option.some.inj hv;have g14:A.tmps[14]?.getD undef= .int .i64 op:=(gd A 14).trans (hkept 14 (by kernel_rfl));refine wpOp_step rfl (fun K hK=> ?_);go_simp;exact hK _ _ ⟨_,rfl,fun u hu=>by cases Option.some.inj hu;rfl,⟨(fun c0=>by rw[orZ (by decide)]at c0;exact hJ.bel c0),(fun c0 c1=>by rw[orZ (by decide)]at c0;rw[orZ (by decide)]at c1;simp only[putF_ne (show 128≠120 by decide)];exact hJ.s2 c0 c1),(fun c0 c1=>by rw[orZ (by decide)]at c0;rw[orZ (by decide)]at c1;simp only[putF_ne (show 128≠126 by decide)];exact hJ.s8 c0 c1),(fun c0 c1=>by rw[orZ (by decide)]at c0;rw[orZ (by decide)]at c1;simp only[putF_ne (show 128≠127 by decide)];exact hJ.s9 c0 c1),(fun c0 c1=>by rw[orZ (by decide)]at c0;rw[orZ (by decide)]at c1;simp only[putF_ne (show 128≠130 by decide)];exact hJ.s12 c0 c1),(fun c0 c1 c2=>by rw[orZ (by decide)]at c0;rw[orZ (by decide)]at c1;rw[orZ (by decide)]at c2;simp only[putF_ne (show 128≠130 by decide),putF_ne (show 128≠120 by decide)];exact hJ.dd c0 c1 c2),(fun c0 c1=>by rw[orZ (by decide)]at c0;rw[orZ (by decide)]at c1;simp only[putF_ne (show 128≠131 by decide)];exact hJ.s13 c0 c1),(fun c0=>by rw[orZ (by decide)]at c0;simp only[putF_ne (show 128≠145 by decide),putF_ne (show 128≠131 by decide)];exact hJ.s27 c0),(fun c0=>by rw[orZ (by decide)]at c0;simp only[putF_ne (show 128≠131 by decide)];exact hJ.fin c0)⟩⟩
  |11,ho,hv,hLi=>
   cases Option.some.inj ho;cases Option.some.inj hv;have g128:A.tmps[128]?.getD undef= .int .i64 op:=(gd A 128).trans (hhas 10 128 _ rfl (hdep ⟨10,.data⟩ (by simp) rfl));refine wpOp_step rfl (fun K hK=> ?_);go_simp;exact hK _ _ ⟨_,rfl,fun u hu=>by cases Option.some.inj hu;rfl,⟨(fun c0=>by rw[orZ (by decide)]at c0;exact hJ.bel c0),(fun c0 c1=>by rw[orZ (by decide)]at c0;rw[orZ (by decide)]at c1;simp only[putF_ne (show 129≠120 by decide)];exact hJ.s2 c0 c1),(fun c0 c1=>by rw[orZ (by decide)]at c0;rw[orZ (by decide)]at c1;simp only[putF_ne (show 129≠126 by decide)];exact hJ.s8 c0 c1),(fun c0 c1=>by rw[orZ (by decide)]at c0;rw[orZ (by decide)]at c1;simp only[putF_ne (show 129≠127 by decide)];exact hJ.s9 c0 c1),(fun c0 c1=>by rw[orZ (by decide)]at c0;rw[orZ (by decide)]at c1;simp only[putF_ne (show 129≠130 by decide)];exact hJ.s12 c0 c1),(fun c0 c1 c2=>by rw[orZ (by decide)]at c0;rw[orZ (by decide)]at c1;rw[orZ (by decide)]at c2;simp only[putF_ne (show 129≠130 by decide),putF_ne (show 129≠120 by decide)];exact hJ.dd c0 c1 c2),(fun c0 c1=>by rw[orZ (by decide)]at c0;rw[orZ (by decide)]at c1;simp only[putF_ne (show 129≠131 by decide)];exact hJ.s13 c0 c1),(fun c0=>by rw[orZ (by decide)]at c0;simp only[putF_ne (show 129≠145 by decide),putF_ne (show 129≠131 by decide)];exact hJ.s27 c0),(fun c0=>by rw[orZ (by decide)]at c0;simp only[putF_ne (show 129≠131 by decide)];exact hJ.fin c0)⟩⟩
  |12,ho,hv,hLi=>
   cases Option.some.inj ho;cases Option.some.inj hv
   have h13:L 13=false:=by
    cases hq:L 13 with
    |false=>rfl
    |true=>
     have:=hc 13 _ rfl hq ⟨12,.data⟩ (by simp) rfl;rw[hLi]at this;cases this
   have h27:L 27=false:=by
    cases hq:L 27 with
    |false=>rfl
    |true=>
     have:=hc 27 _ rfl hq ⟨13,.data⟩ (by simp) rfl;rw[h13]at this;cases this
   have h28:L 28=false:=by
    cases hq:L 28 with
    |false=>rfl
    |true=>
     have:=hc 28 _ rfl hq ⟨12,.phase⟩ (by simp) rfl;rw[hLi]at this;cases this
   have h129:A.eval (.tmp 129)= .agg #[.int .i64 op,.int .i64 0,.int .i64 0,.int .i64 0,.slice none 0 0]:=hhas 11 129 _ rfl (hdep ⟨11,.data⟩ (by simp) rfl);have hb':=(Below.refl W2.heap.size W2).alloc (Nat.le_refl _) (.cells (iv (⟨op,0,0,0,[]⟩,.slice none 0 0)) 66);refine wpOp_step rfl (fun K hK=> ?_);show Oper.wp _ _ _ _ _ _;refine wp_buildI _ rfl (⟨op,0,0,0,[]⟩,.slice none 0 0) ⟨_,_,_,rfl⟩ h129 ?_
   exact hK _ _ ⟨_,rfl,fun u hu=>by(cases hu),⟨(fun c0=>by rw[orZ (by decide)]at c0;exact(fun h hb=>h.trans (hb.mono h.size)) (hJ.bel c0) hb'),(fun c0 c1=>by rw[orZ (by decide)]at c0;rw[orZ (by decide)]at c1;simp only[putF_ne (show 130≠120 by decide)];exact owns_belowZ (hJ.s2 c0 c1) hb'),(fun c0 c1=>by rw[orZ (by decide)]at c0;rw[orZ (by decide)]at c1;simp only[putF_ne (show 130≠126 by decide)];exact owns_belowZ (hJ.s8 c0 c1) hb'),(fun c0 c1=>by rw[orZ (by decide)]at c0;rw[orZ (by decide)]at c1;simp only[putF_ne (show 130≠127 by decide)];exact owns_belowZ (hJ.s9 c0 c1) hb'),(fun c0 c1=>⟨W2.heap.size,putF_eq,heap_alloc_new W2 _⟩),(fun c0 c1 c2=>by
    intro gg hgg ee;rw[putF_eq]at hgg;rw[putF_ne (by decide)]at ee;rw[orZ (by decide)]at c0 c2;injection hgg with q1;injection q1 with q1;injection q1 with q1;have a1:=((hJ.s2 c0 c2).lt _ ee).2;omega),(fun c0 c1=>by rw[orZ (by decide),h13]at c0;cases c0),(fun c0=>by rw[orZ (by decide),h27]at c0;cases c0),(fun c0=>by rw[orZ (by decide),h28]at c0;cases c0)⟩⟩
  |13,ho,hv,hLi=>
   cases Option.some.inj ho;cases Option.some.inj hv
   have h27:L 27=false:=by
    cases hq:L 27 with
    |false=>rfl
    |true=>
     have:=hc 27 _ rfl hq ⟨13,.data⟩ (by simp) rfl;rw[hLi]at this;cases this
   have h28:L 28=false:=by
    cases hq:L 28 with
    |false=>rfl
    |true=>
     have:=hc 28 _ rfl hq ⟨13,.phase⟩ (by simp) rfl;rw[hLi]at this;cases this
   have d9:L 9=true:=hdep ⟨9,.data⟩ (by simp) rfl;have o127:=hJ.s9 d9 hLi;obtain⟨gn,e130,hgn⟩:=hJ.s12 (hdep ⟨12,.data⟩ (by simp) rfl) hLi;have hbX:=(hJ.bel h28)
   have h127:A.eval (.tmp 127)=slotsOf A 127:=rfl;have h130:A.eval (.tmp 130)= .slice (some ⟨gn,0,none⟩) 1 1:=e130;have hlo:=o127.lt;have hsX:=hbX.size;refine wpOp_step rfl (fun K hK=> ?_);show Oper.wp _ _ _ _ _ _;refine wp_append_own W2 (.tmp 127) (.tmp 130) 40 rfl wc.heap.size 66 i0 (.agg #[.int .i64 0,.int .i64 0,.int .i64 0,.int .i64 0,.slice none 0 0]) 5 56 inssTypeW hi0 hz0 hz1 hz2 rfl (by decide) (slotsOf A 127) (xs.length+ys.length) (flatI xs++flatI (ys.map (movP (xs.length:Int)))) h127 o127 ⟨gn,0,none⟩ 1 1 ((iv (⟨op,0,0,0,[]⟩,.slice none 0 0)).toList) h130 (by rw[ivl_len]) (fun jj u hj=> ?y127) (fun u hu=> ?v127) (by unfold maxLen;omega) (by omega) hsX ?_;case y127=>exact ins_cells hgn jj u hj
   case v127=>simp[iv]at hu;rcases hu with rfl|rfl|rfl|rfl|rfl<;>rfl
   intro v' W' hown' hgrow _;exact hK _ _ ⟨_,rfl,fun u hu=>by(cases hu),⟨(fun c0=>hbX.grown hgrow hsX (fun q hq=>(hlo q hq).1)),(fun c0 c1=>by rw[orZ (by decide),d9]at c1;cases c1),(fun c0 c1=>by rw[orZ (by decide),d9]at c1;cases c1),(fun c0 c1=>by simp at c1),(fun c0 c1=>by simp at c1),(fun c0 c1 c2=>by rw[orZ (by decide),d9]at c2;cases c2),(fun c0 c1=>by rw[putF_eq];exact hown'),(fun c0=>by rw[orZ (by decide),h27]at c0;cases c0),(fun c0=>by rw[orZ (by decide),h28]at c0;cases c0)⟩⟩
  |14,ho,hv,hLi=>
   cases Option.some.inj ho;cases Option.some.inj hv;have g10:A.tmps[10]?.getD undef= .pointer (some ⟨w2.heap.size,0,none⟩):=(gd A 10).trans (hkept 10 (by kernel_rfl));refine wpOp_step rfl (fun K hK=> ?_);go_simp;exact hK _ _ ⟨_,rfl,fun u hu=>by cases Option.some.inj hu;rfl,⟨(fun c0=>by rw[orZ (by decide)]at c0;exact hJ.bel c0),(fun c0 c1=>by rw[orZ (by decide)]at c0;rw[orZ (by decide)]at c1;simp only[putF_ne (show 132≠120 by decide)];exact hJ.s2 c0 c1),(fun c0 c1=>by rw[orZ (by decide)]at c0;rw[orZ (by decide)]at c1;simp only[putF_ne (show 132≠126 by decide)];exact hJ.s8 c0 c1),(fun c0 c1=>by rw[orZ (by decide)]at c0;rw[orZ (by decide)]at c1;simp only[putF_ne (show 132≠127 by decide)];exact hJ.s9 c0 c1),(fun c0 c1=>by rw[orZ (by decide)]at c0;rw[orZ (by decide)]at c1;simp only[putF_ne (show 132≠130 by decide)];exact hJ.s12 c0 c1),(fun c0 c1 c2=>by rw[orZ (by decide)]at c0;rw[orZ (by decide)]at c1;rw[orZ (by decide)]at c2;simp only[putF_ne (show 132≠130 by decide),putF_ne (show 132≠120 by decide)];exact hJ.dd c0 c1 c2),(fun c0 c1=>by rw[orZ (by decide)]at c0;rw[orZ (by decide)]at c1;simp only[putF_ne (show 132≠131 by decide)];exact hJ.s13 c0 c1),(fun c0=>by rw[orZ (by decide)]at c0;simp only[putF_ne (show 132≠145 by decide),putF_ne (show 132≠131 by decide)];exact hJ.s27 c0),(fun c0=>by rw[orZ (by decide)]at c0;simp only[putF_ne (show 132≠131 by decide)];exact hJ.fin c0)⟩⟩
  |15,ho,hv,hLi=>
   cases Option.some.inj ho;cases Option.some.inj hv
   have h28:L 28=false:=by
    cases hq:L 28 with
    |false=>rfl
    |true=>
     have:=hc 28 _ rfl hq ⟨15,.phase⟩ (by simp) rfl;rw[hLi]at this;cases this
   have g132:A.tmps[132]?.getD undef= .pointer (some ⟨w2.heap.size,1,none⟩):=(gd A 132).trans (hhas 14 132 _ rfl (hdep ⟨14,.data⟩ (by simp) rfl));have z:=((hJ.bel h28).cell (block_lt_of_cell kh)).trans kh;refine wpOp_step rfl (fun K hK=> ?_);go_simp;exact hK _ _ ⟨_,rfl,fun u hu=>by cases Option.some.inj hu;rfl,⟨(fun c0=>by rw[orZ (by decide)]at c0;exact hJ.bel c0),(fun c0 c1=>by rw[orZ (by decide)]at c0;rw[orZ (by decide)]at c1;simp only[putF_ne (show 133≠120 by decide)];exact hJ.s2 c0 c1),(fun c0 c1=>by rw[orZ (by decide)]at c0;rw[orZ (by decide)]at c1;simp only[putF_ne (show 133≠126 by decide)];exact hJ.s8 c0 c1),(fun c0 c1=>by rw[orZ (by decide)]at c0;rw[orZ (by decide)]at c1;simp only[putF_ne (show 133≠127 by decide)];exact hJ.s9 c0 c1),(fun c0 c1=>by rw[orZ (by decide)]at c0;rw[orZ (by decide)]at c1;simp only[putF_ne (show 133≠130 by decide)];exact hJ.s12 c0 c1),(fun c0 c1 c2=>by rw[orZ (by decide)]at c0;rw[orZ (by decide)]at c1;rw[orZ (by decide)]at c2;simp only[putF_ne (show 133≠130 by decide),putF_ne (show 133≠120 by decide)];exact hJ.dd c0 c1 c2),(fun c0 c1=>by rw[orZ (by decide)]at c0;rw[orZ (by decide)]at c1;simp only[putF_ne (show 133≠131 by decide)];exact hJ.s13 c0 c1),(fun c0=>by rw[orZ (by decide)]at c0;simp only[putF_ne (show 133≠145 by decide),putF_ne (show 133≠131 by decide)];exact hJ.s27 c0),(fun c0=>by rw[orZ (by decide),h28]at c0;cases c0)⟩⟩
  |16,ho,hv,hLi=>
   cases Option.some.inj ho;cases Option.some.inj hv;have g13:A.tmps[13]?.getD undef= .pointer (some ⟨w4.heap.size,0,none⟩):=(gd A 13).trans (hkept 13 (by kernel_rfl));refine wpOp_step rfl (fun K hK=> ?_);go_simp;exact hK _ _ ⟨_,rfl,fun u hu=>by cases Option.some.inj hu;rfl,⟨(fun c0=>by rw[orZ (by decide)]at c0;exact hJ.bel c0),(fun c0 c1=>by rw[orZ (by decide)]at c0;rw[orZ (by decide)]at c1;simp only[putF_ne (show 134≠120 by decide)];exact hJ.s2 c0 c1),(fun c0 c1=>by rw[orZ (by decide)]at c0;rw[orZ (by decide)]at c1;simp only[putF_ne (show 134≠126 by decide)];exact hJ.s8 c0 c1),(fun c0 c1=>by rw[orZ (by decide)]at c0;rw[orZ (by decide)]at c1;simp only[putF_ne (show 134≠127 by decide)];exact hJ.s9 c0 c1),(fun c0 c1=>by rw[orZ (by decide)]at c0;rw[orZ (by decide)]at c1;simp only[putF_ne (show 134≠130 by decide)];exact hJ.s12 c0 c1),(fun c0 c1 c2=>by rw[orZ (by decide)]at c0;rw[orZ (by decide)]at c1;rw[orZ (by decide)]at c2;simp only[putF_ne (show 134≠130 by decide),putF_ne (show 134≠120 by decide)];exact hJ.dd c0 c1 c2),(fun c0 c1=>by rw[orZ (by decide)]at c0;rw[orZ (by decide)]at c1;simp only[putF_ne (show 134≠131 by decide)];exact hJ.s13 c0 c1),(fun c0=>by rw[orZ (by decide)]at c0;simp only[putF_ne (show 134≠145 by decide),putF_ne (show 134≠131 by decide)];exact hJ.s27 c0),(fun c0=>by rw[orZ (by decide)]at c0;simp only[putF_ne (show 134≠131 by decide)];exact hJ.fin c0)⟩⟩
  |17,ho,hv,hLi=>
   cases Option.some.inj ho;cases Option.some.inj hv
   have h28:L 28=false:=by
    cases hq:L 28 with
    |false=>rfl
    |true=>
     have:=hc 28 _ rfl hq ⟨17,.phase⟩ (by simp) rfl;rw[hLi]at this;cases this
   have g134:A.tmps[134]?.getD undef= .pointer (some ⟨w4.heap.size,1,none⟩):=(gd A 134).trans (hhas 16 134 _ rfl (hdep ⟨16,.data⟩ (by simp) rfl));have z:=((hJ.bel h28).cell (block_lt_of_cell mh)).trans mh;refine wpOp_step rfl (fun K hK=> ?_);go_simp;exact hK _ _ ⟨_,rfl,fun u hu=>by cases Option.some.inj hu;rfl,⟨(fun c0=>by rw[orZ (by decide)]at c0;exact hJ.bel c0),(fun c0 c1=>by rw[orZ (by decide)]at c0;rw[orZ (by decide)]at c1;simp only[putF_ne (show 135≠120 by decide)];exact hJ.s2 c0 c1),(fun c0 c1=>by rw[orZ (by decide)]at c0;rw[orZ (by decide)]at c1;simp only[putF_ne (show 135≠126 by decide)];exact hJ.s8 c0 c1),(fun c0 c1=>by rw[orZ (by decide)]at c0;rw[orZ (by decide)]at c1;simp only[putF_ne (show 135≠127 by decide)];exact hJ.s9 c0 c1),(fun c0 c1=>by rw[orZ (by decide)]at c0;rw[orZ (by decide)]at c1;simp only[putF_ne (show 135≠130 by decide)];exact hJ.s12 c0 c1),(fun c0 c1 c2=>by rw[orZ (by decide)]at c0;rw[orZ (by decide)]at c1;rw[orZ (by decide)]at c2;simp only[putF_ne (show 135≠130 by decide),putF_ne (show 135≠120 by decide)];exact hJ.dd c0 c1 c2),(fun c0 c1=>by rw[orZ (by decide)]at c0;rw[orZ (by decide)]at c1;simp only[putF_ne (show 135≠131 by decide)];exact hJ.s13 c0 c1),(fun c0=>by rw[orZ (by decide)]at c0;simp only[putF_ne (show 135≠145 by decide),putF_ne (show 135≠131 by decide)];exact hJ.s27 c0),(fun c0=>by rw[orZ (by decide),h28]at c0;cases c0)⟩⟩
  |18,ho,hv,hLi=>
   cases Option.some.inj ho;cases Option.some.inj hv;have g135:A.tmps[135]?.getD undef= .int .i64 hm:=(gd A 135).trans (hhas 17 135 _ rfl (hdep ⟨17,.data⟩ (by simp) rfl));refine wpOp_step rfl (fun K hK=> ?_);go_simp;exact hK _ _ ⟨_,rfl,fun u hu=>by cases Option.some.inj hu;rfl,⟨(fun c0=>by rw[orZ (by decide)]at c0;exact hJ.bel c0),(fun c0 c1=>by rw[orZ (by decide)]at c0;rw[orZ (by decide)]at c1;simp only[putF_ne (show 136≠120 by decide)];exact hJ.s2 c0 c1),(fun c0 c1=>by rw[orZ (by decide)]at c0;rw[orZ (by decide)]at c1;simp only[putF_ne (show 136≠126 by decide)];exact hJ.s8 c0 c1),(fun c0 c1=>by rw[orZ (by decide)]at c0;rw[orZ (by decide)]at c1;simp only[putF_ne (show 136≠127 by decide)];exact hJ.s9 c0 c1),(fun c0 c1=>by rw[orZ (by decide)]at c0;rw[orZ (by decide)]at c1;simp only[putF_ne (show 136≠130 by decide)];exact hJ.s12 c0 c1),(fun c0 c1 c2=>by rw[orZ (by decide)]at c0;rw[orZ (by decide)]at c1;rw[orZ (by decide)]at c2;simp only[putF_ne (show 136≠130 by decide),putF_ne (show 136≠120 by decide)];exact hJ.dd c0 c1 c2),(fun c0 c1=>by rw[orZ (by decide)]at c0;rw[orZ (by decide)]at c1;simp only[putF_ne (show 136≠131 by decide)];exact hJ.s13 c0 c1),(fun c0=>by rw[orZ (by decide)]at c0;simp only[putF_ne (show 136≠145 by decide),putF_ne (show 136≠131 by decide)];exact hJ.s27 c0),(fun c0=>by rw[orZ (by decide)]at c0;simp only[putF_ne (show 136≠131 by decide)];exact hJ.fin c0)⟩⟩
  |19,ho,hv,hLi=>
   cases Option.some.inj ho;cases Option.some.inj hv;have g133:A.tmps[133]?.getD undef= .int .i64 hk:=(gd A 133).trans (hhas 15 133 _ rfl (hdep ⟨15,.data⟩ (by simp) rfl));have g136:A.tmps[136]?.getD undef= .int .i64 h1:=(gd A 136).trans (hhas 18 136 _ rfl (hdep ⟨18,.data⟩ (by simp) rfl));refine wpOp_step rfl (fun K hK=> ?_);go_simp;refine(cMo W2).mono ?_;rintro r' W' ⟨rfl,rfl⟩;exact hK _ _ ⟨_,rfl,fun u hu=>by cases Option.some.inj hu;rfl,⟨(fun c0=>by rw[orZ (by decide)]at c0;exact hJ.bel c0),(fun c0 c1=>by rw[orZ (by decide)]at c0;rw[orZ (by decide)]at c1;simp only[putF_ne (show 137≠120 by decide)];exact hJ.s2 c0 c1),(fun c0 c1=>by rw[orZ (by decide)]at c0;rw[orZ (by decide)]at c1;simp only[putF_ne (show 137≠126 by decide)];exact hJ.s8 c0 c1),(fun c0 c1=>by rw[orZ (by decide)]at c0;rw[orZ (by decide)]at c1;simp only[putF_ne (show 137≠127 by decide)];exact hJ.s9 c0 c1),(fun c0 c1=>by rw[orZ (by decide)]at c0;rw[orZ (by decide)]at c1;simp only[putF_ne (show 137≠130 by decide)];exact hJ.s12 c0 c1),(fun c0 c1 c2=>by rw[orZ (by decide)]at c0;rw[orZ (by decide)]at c1;rw[orZ (by decide)]at c2;simp only[putF_ne (show 137≠130 by decide),putF_ne (show 137≠120 by decide)];exact hJ.dd c0 c1 c2),(fun c0 c1=>by rw[orZ (by decide)]at c0;rw[orZ (by decide)]at c1;simp only[putF_ne (show 137≠131 by decide)];exact hJ.s13 c0 c1),(fun c0=>by rw[orZ (by decide)]at c0;simp only[putF_ne (show 137≠145 by decide),putF_ne (show 137≠131 by decide)];exact hJ.s27 c0),(fun c0=>by rw[orZ (by decide)]at c0;simp only[putF_ne (show 137≠131 by decide)];exact hJ.fin c0)⟩⟩
  |20,ho,hv,hLi=>
   cases Option.some.inj ho;cases Option.some.inj hv;have g137:A.tmps[137]?.getD undef= .int .i64 h2:=(gd A 137).trans (hhas 19 137 _ rfl (hdep ⟨19,.data⟩ (by simp) rfl));refine wpOp_step rfl (fun K hK=> ?_);go_simp;refine(cMq W2).mono ?_;rintro r' W' ⟨rfl,rfl⟩;exact hK _ _ ⟨_,rfl,fun u hu=>by cases Option.some.inj hu;rfl,⟨(fun c0=>by rw[orZ (by decide)]at c0;exact hJ.bel c0),(fun c0 c1=>by rw[orZ (by decide)]at c0;rw[orZ (by decide)]at c1;simp only[putF_ne (show 138≠120 by decide)];exact hJ.s2 c0 c1),(fun c0 c1=>by rw[orZ (by decide)]at c0;rw[orZ (by decide)]at c1;simp only[putF_ne (show 138≠126 by decide)];exact hJ.s8 c0 c1),(fun c0 c1=>by rw[orZ (by decide)]at c0;rw[orZ (by decide)]at c1;simp only[putF_ne (show 138≠127 by decide)];exact hJ.s9 c0 c1),(fun c0 c1=>by rw[orZ (by decide)]at c0;rw[orZ (by decide)]at c1;simp only[putF_ne (show 138≠130 by decide)];exact hJ.s12 c0 c1),(fun c0 c1 c2=>by rw[orZ (by decide)]at c0;rw[orZ (by decide)]at c1;rw[orZ (by decide)]at c2;simp only[putF_ne (show 138≠130 by decide),putF_ne (show 138≠120 by decide)];exact hJ.dd c0 c1 c2),(fun c0 c1=>by rw[orZ (by decide)]at c0;rw[orZ (by decide)]at c1;simp only[putF_ne (show 138≠131 by decide)];exact hJ.s13 c0 c1),(fun c0=>by rw[orZ (by decide)]at c0;simp only[putF_ne (show 138≠145 by decide),putF_ne (show 138≠131 by decide)];exact hJ.s27 c0),(fun c0=>by rw[orZ (by decide)]at c0;simp only[putF_ne (show 138≠131 by decide)];exact hJ.fin c0)⟩⟩
  |21,ho,hv,hLi=>
   cases Option.some.inj ho;cases Option.some.inj hv;have g10:A.tmps[10]?.getD undef= .pointer (some ⟨w2.heap.size,0,none⟩):=(gd A 10).trans (hkept 10 (by kernel_rfl));refine wpOp_step rfl (fun K hK=> ?_);go_simp;exact hK _ _ ⟨_,rfl,fun u hu=>by cases Option.some.inj hu;rfl,⟨(fun c0=>by rw[orZ (by decide)]at c0;exact hJ.bel c0),(fun c0 c1=>by rw[orZ (by decide)]at c0;rw[orZ (by decide)]at c1;simp only[putF_ne (show 139≠120 by decide)];exact hJ.s2 c0 c1),(fun c0 c1=>by rw[orZ (by decide)]at c0;rw[orZ (by decide)]at c1;simp only[putF_ne (show 139≠126 by decide)];exact hJ.s8 c0 c1),(fun c0 c1=>by rw[orZ (by decide)]at c0;rw[orZ (by decide)]at c1;simp only[putF_ne (show 139≠127 by decide)];exact hJ.s9 c0 c1),(fun c0 c1=>by rw[orZ (by decide)]at c0;rw[orZ (by decide)]at c1;simp only[putF_ne (show 139≠130 by decide)];exact hJ.s12 c0 c1),(fun c0 c1 c2=>by rw[orZ (by decide)]at c0;rw[orZ (by decide)]at c1;rw[orZ (by decide)]at c2;simp only[putF_ne (show 139≠130 by decide),putF_ne (show 139≠120 by decide)];exact hJ.dd c0 c1 c2),(fun c0 c1=>by rw[orZ (by decide)]at c0;rw[orZ (by decide)]at c1;simp only[putF_ne (show 139≠131 by decide)];exact hJ.s13 c0 c1),(fun c0=>by rw[orZ (by decide)]at c0;simp only[putF_ne (show 139≠145 by decide),putF_ne (show 139≠131 by decide)];exact hJ.s27 c0),(fun c0=>by rw[orZ (by decide)]at c0;simp only[putF_ne (show 139≠131 by decide)];exact hJ.fin c0)⟩⟩
  |22,ho,hv,hLi=>
   cases Option.some.inj ho;cases Option.some.inj hv
   have h28:L 28=false:=by
    cases hq:L 28 with
    |false=>rfl
    |true=>
     have:=hc 28 _ rfl hq ⟨22,.phase⟩ (by simp) rfl;rw[hLi]at this;cases this
   have g139:A.tmps[139]?.getD undef= .pointer (some ⟨w2.heap.size,2,none⟩):=(gd A 139).trans (hhas 21 139 _ rfl (hdep ⟨21,.data⟩ (by simp) rfl));have z:=((hJ.bel h28).cell (block_lt_of_cell ks)).trans ks;refine wpOp_step rfl (fun K hK=> ?_);go_simp;exact hK _ _ ⟨_,rfl,fun u hu=>by cases Option.some.inj hu;rfl,⟨(fun c0=>by rw[orZ (by decide)]at c0;exact hJ.bel c0),(fun c0 c1=>by rw[orZ (by decide)]at c0;rw[orZ (by decide)]at c1;simp only[putF_ne (show 140≠120 by decide)];exact hJ.s2 c0 c1),(fun c0 c1=>by rw[orZ (by decide)]at c0;rw[orZ (by decide)]at c1;simp only[putF_ne (show 140≠126 by decide)];exact hJ.s8 c0 c1),(fun c0 c1=>by rw[orZ (by decide)]at c0;rw[orZ (by decide)]at c1;simp only[putF_ne (show 140≠127 by decide)];exact hJ.s9 c0 c1),(fun c0 c1=>by rw[orZ (by decide)]at c0;rw[orZ (by decide)]at c1;simp only[putF_ne (show 140≠130 by decide)];exact hJ.s12 c0 c1),(fun c0 c1 c2=>by rw[orZ (by decide)]at c0;rw[orZ (by decide)]at c1;rw[orZ (by decide)]at c2;simp only[putF_ne (show 140≠130 by decide),putF_ne (show 140≠120 by decide)];exact hJ.dd c0 c1 c2),(fun c0 c1=>by rw[orZ (by decide)]at c0;rw[orZ (by decide)]at c1;simp only[putF_ne (show 140≠131 by decide)];exact hJ.s13 c0 c1),(fun c0=>by rw[orZ (by decide)]at c0;simp only[putF_ne (show 140≠145 by decide),putF_ne (show 140≠131 by decide)];exact hJ.s27 c0),(fun c0=>by rw[orZ (by decide),h28]at c0;cases c0)⟩⟩
  |23,ho,hv,hLi=>
   cases Option.some.inj ho;cases Option.some.inj hv;have g140:A.tmps[140]?.getD undef= .int .i64 sk:=(gd A 140).trans (hhas 22 140 _ rfl (hdep ⟨22,.data⟩ (by simp) rfl));refine wpOp_step rfl (fun K hK=> ?_);go_simp;exact hK _ _ ⟨_,rfl,fun u hu=>by cases Option.some.inj hu;rfl,⟨(fun c0=>by rw[orZ (by decide)]at c0;exact hJ.bel c0),(fun c0 c1=>by rw[orZ (by decide)]at c0;rw[orZ (by decide)]at c1;simp only[putF_ne (show 141≠120 by decide)];exact hJ.s2 c0 c1),(fun c0 c1=>by rw[orZ (by decide)]at c0;rw[orZ (by decide)]at c1;simp only[putF_ne (show 141≠126 by decide)];exact hJ.s8 c0 c1),(fun c0 c1=>by rw[orZ (by decide)]at c0;rw[orZ (by decide)]at c1;simp only[putF_ne (show 141≠127 by decide)];exact hJ.s9 c0 c1),(fun c0 c1=>by rw[orZ (by decide)]at c0;rw[orZ (by decide)]at c1;simp only[putF_ne (show 141≠130 by decide)];exact hJ.s12 c0 c1),(fun c0 c1 c2=>by rw[orZ (by decide)]at c0;rw[orZ (by decide)]at c1;rw[orZ (by decide)]at c2;simp only[putF_ne (show 141≠130 by decide),putF_ne (show 141≠120 by decide)];exact hJ.dd c0 c1 c2),(fun c0 c1=>by rw[orZ (by decide)]at c0;rw[orZ (by decide)]at c1;simp only[putF_ne (show 141≠131 by decide)];exact hJ.s13 c0 c1),(fun c0=>by rw[orZ (by decide)]at c0;simp only[putF_ne (show 141≠145 by decide),putF_ne (show 141≠131 by decide)];exact hJ.s27 c0),(fun c0=>by rw[orZ (by decide)]at c0;simp only[putF_ne (show 141≠131 by decide)];exact hJ.fin c0)⟩⟩
  |24,ho,hv,hLi=>
   cases Option.some.inj ho;cases Option.some.inj hv;have g13:A.tmps[13]?.getD undef= .pointer (some ⟨w4.heap.size,0,none⟩):=(gd A 13).trans (hkept 13 (by kernel_rfl));refine wpOp_step rfl (fun K hK=> ?_);go_simp;exact hK _ _ ⟨_,rfl,fun u hu=>by cases Option.some.inj hu;rfl,⟨(fun c0=>by rw[orZ (by decide)]at c0;exact hJ.bel c0),(fun c0 c1=>by rw[orZ (by decide)]at c0;rw[orZ (by decide)]at c1;simp only[putF_ne (show 142≠120 by decide)];exact hJ.s2 c0 c1),(fun c0 c1=>by rw[orZ (by decide)]at c0;rw[orZ (by decide)]at c1;simp only[putF_ne (show 142≠126 by decide)];exact hJ.s8 c0 c1),(fun c0 c1=>by rw[orZ (by decide)]at c0;rw[orZ (by decide)]at c1;simp only[putF_ne (show 142≠127 by decide)];exact hJ.s9 c0 c1),(fun c0 c1=>by rw[orZ (by decide)]at c0;rw[orZ (by decide)]at c1;simp only[putF_ne (show 142≠130 by decide)];exact hJ.s12 c0 c1),(fun c0 c1 c2=>by rw[orZ (by decide)]at c0;rw[orZ (by decide)]at c1;rw[orZ (by decide)]at c2;simp only[putF_ne (show 142≠130 by decide),putF_ne (show 142≠120 by decide)];exact hJ.dd c0 c1 c2),(fun c0 c1=>by rw[orZ (by decide)]at c0;rw[orZ (by decide)]at c1;simp only[putF_ne (show 142≠131 by decide)];exact hJ.s13 c0 c1),(fun c0=>by rw[orZ (by decide)]at c0;simp only[putF_ne (show 142≠145 by decide),putF_ne (show 142≠131 by decide)];exact hJ.s27 c0),(fun c0=>by rw[orZ (by decide)]at c0;simp only[putF_ne (show 142≠131 by decide)];exact hJ.fin c0)⟩⟩
  |25,ho,hv,hLi=>
   cases Option.some.inj ho;cases Option.some.inj hv
   have h28:L 28=false:=by
    cases hq:L 28 with
    |false=>rfl
    |true=>
     have:=hc 28 _ rfl hq ⟨25,.phase⟩ (by simp) rfl;rw[hLi]at this;cases this
   have g142:A.tmps[142]?.getD undef= .pointer (some ⟨w4.heap.size,2,none⟩):=(gd A 142).trans (hhas 24 142 _ rfl (hdep ⟨24,.data⟩ (by simp) rfl));have z:=((hJ.bel h28).cell (block_lt_of_cell ms)).trans ms;refine wpOp_step rfl (fun K hK=> ?_);go_simp;exact hK _ _ ⟨_,rfl,fun u hu=>by cases Option.some.inj hu;rfl,⟨(fun c0=>by rw[orZ (by decide)]at c0;exact hJ.bel c0),(fun c0 c1=>by rw[orZ (by decide)]at c0;rw[orZ (by decide)]at c1;simp only[putF_ne (show 143≠120 by decide)];exact hJ.s2 c0 c1),(fun c0 c1=>by rw[orZ (by decide)]at c0;rw[orZ (by decide)]at c1;simp only[putF_ne (show 143≠126 by decide)];exact hJ.s8 c0 c1),(fun c0 c1=>by rw[orZ (by decide)]at c0;rw[orZ (by decide)]at c1;simp only[putF_ne (show 143≠127 by decide)];exact hJ.s9 c0 c1),(fun c0 c1=>by rw[orZ (by decide)]at c0;rw[orZ (by decide)]at c1;simp only[putF_ne (show 143≠130 by decide)];exact hJ.s12 c0 c1),(fun c0 c1 c2=>by rw[orZ (by decide)]at c0;rw[orZ (by decide)]at c1;rw[orZ (by decide)]at c2;simp only[putF_ne (show 143≠130 by decide),putF_ne (show 143≠120 by decide)];exact hJ.dd c0 c1 c2),(fun c0 c1=>by rw[orZ (by decide)]at c0;rw[orZ (by decide)]at c1;simp only[putF_ne (show 143≠131 by decide)];exact hJ.s13 c0 c1),(fun c0=>by rw[orZ (by decide)]at c0;simp only[putF_ne (show 143≠145 by decide),putF_ne (show 143≠131 by decide)];exact hJ.s27 c0),(fun c0=>by rw[orZ (by decide),h28]at c0;cases c0)⟩⟩
  |26,ho,hv,hLi=>
   cases Option.some.inj ho;cases Option.some.inj hv;have g141:A.tmps[141]?.getD undef= .int .i64 s1:=(gd A 141).trans (hhas 23 141 _ rfl (hdep ⟨23,.data⟩ (by simp) rfl));have g143:A.tmps[143]?.getD undef= .int .i64 sm:=(gd A 143).trans (hhas 25 143 _ rfl (hdep ⟨25,.data⟩ (by simp) rfl));refine wpOp_step rfl (fun K hK=> ?_);go_simp;exact hK _ _ ⟨_,rfl,fun u hu=>by cases Option.some.inj hu;rfl,⟨(fun c0=>by rw[orZ (by decide)]at c0;exact hJ.bel c0),(fun c0 c1=>by rw[orZ (by decide)]at c0;rw[orZ (by decide)]at c1;simp only[putF_ne (show 144≠120 by decide)];exact hJ.s2 c0 c1),(fun c0 c1=>by rw[orZ (by decide)]at c0;rw[orZ (by decide)]at c1;simp only[putF_ne (show 144≠126 by decide)];exact hJ.s8 c0 c1),(fun c0 c1=>by rw[orZ (by decide)]at c0;rw[orZ (by decide)]at c1;simp only[putF_ne (show 144≠127 by decide)];exact hJ.s9 c0 c1),(fun c0 c1=>by rw[orZ (by decide)]at c0;rw[orZ (by decide)]at c1;simp only[putF_ne (show 144≠130 by decide)];exact hJ.s12 c0 c1),(fun c0 c1 c2=>by rw[orZ (by decide)]at c0;rw[orZ (by decide)]at c1;rw[orZ (by decide)]at c2;simp only[putF_ne (show 144≠130 by decide),putF_ne (show 144≠120 by decide)];exact hJ.dd c0 c1 c2),(fun c0 c1=>by rw[orZ (by decide)]at c0;rw[orZ (by decide)]at c1;simp only[putF_ne (show 144≠131 by decide)];exact hJ.s13 c0 c1),(fun c0=>by rw[orZ (by decide)]at c0;simp only[putF_ne (show 144≠145 by decide),putF_ne (show 144≠131 by decide)];exact hJ.s27 c0),(fun c0=>by rw[orZ (by decide)]at c0;simp only[putF_ne (show 144≠131 by decide)];exact hJ.fin c0)⟩⟩
  |27,ho,hv,hLi=>
   cases Option.some.inj ho;cases Option.some.inj hv
   have h28:L 28=false:=by
    cases hq:L 28 with
    |false=>rfl
    |true=>
     have:=hc 28 _ rfl hq ⟨27,.phase⟩ (by simp) rfl;rw[hLi]at this;cases this
   have g138:A.tmps[138]?.getD undef= .int .i64 hn:=(gd A 138).trans (hhas 20 138 _ rfl (hdep ⟨20,.data⟩ (by simp) rfl));have g144:A.tmps[144]?.getD undef= .int .i64 sn:=(gd A 144).trans (hhas 26 144 _ rfl (hdep ⟨26,.data⟩ (by simp) rfl));obtain⟨p131,c131,e131⟩:=row_formZ (hJ.s13 (hdep ⟨13,.data⟩ (by simp) rfl) h28);have g131:A.tmps[131]?.getD undef=_:=(gd A 131).trans e131;refine wpOp_step rfl (fun K hK=> ?_);go_simp;exact hK _ _ ⟨_,rfl,fun u hu=>by(cases hu),⟨(fun c0=>by rw[orZ (by decide)]at c0;exact hJ.bel c0),(fun c0 c1=>by rw[orZ (by decide)]at c0;rw[orZ (by decide)]at c1;simp only[putF_ne (show 145≠120 by decide)];exact hJ.s2 c0 c1),(fun c0 c1=>by rw[orZ (by decide)]at c0;rw[orZ (by decide)]at c1;simp only[putF_ne (show 145≠126 by decide)];exact hJ.s8 c0 c1),(fun c0 c1=>by rw[orZ (by decide)]at c0;rw[orZ (by decide)]at c1;simp only[putF_ne (show 145≠127 by decide)];exact hJ.s9 c0 c1),(fun c0 c1=>by rw[orZ (by decide)]at c0;rw[orZ (by decide)]at c1;simp only[putF_ne (show 145≠130 by decide)];exact hJ.s12 c0 c1),(fun c0 c1 c2=>by rw[orZ (by decide)]at c0;rw[orZ (by decide)]at c1;rw[orZ (by decide)]at c2;simp only[putF_ne (show 145≠130 by decide),putF_ne (show 145≠120 by decide)];exact hJ.dd c0 c1 c2),(fun c0 c1=>by rw[orZ (by decide)]at c0;rw[orZ (by decide)]at c1;simp only[putF_ne (show 145≠131 by decide)];exact hJ.s13 c0 c1),(fun c0=>by rw[putF_eq,putF_ne (by decide),e131]),(fun c0=>by rw[orZ (by decide),h28]at c0;cases c0)⟩⟩
  |28,ho,hv,hLi=>
   cases Option.some.inj ho;cases Option.some.inj hv;have d27:L 27=true:=hdep ⟨27,.data⟩ (by simp) rfl;have d13:L 13=true:=hc 27 _ rfl d27 ⟨13,.data⟩ (by simp) rfl;have d9:L 9=true:=hc 13 _ rfl d13 ⟨9,.data⟩ (by simp) rfl;have o131:=hJ.s13 d13 hLi;obtain⟨p131,c131,e131⟩:=row_formZ o131;have h145:A.eval (.tmp 145)= .agg #[slotsOf A 131,.int .i64 hn,.int .i64 sn]:=hJ.s27 d27;rw[e131]at h145;have h6:A.eval (.tmp 6)= .pointer (some ⟨w.heap.size+1,0,none⟩):=hkept 6 (by kernel_rfl);have hbX:=hJ.bel hLi;have hbk:=(hbX.block _ (lt_of_block n6)).trans n6;refine wpOp_step rfl (fun K hK=> ?_);show Oper.wp _ _ _ _ _ _;refine wp_store_row 62 _ _ rfl _ _ h6 h145 _ _ hbk (by kernel_rfl) (by simp) (by simp[Value.oneCell']) ?_;exact hK _ _ ⟨undef,rfl,fun u hu=>by(cases hu),⟨(fun c0=>by simp at c0),(fun c0 c1=>by rw[orZ (by decide),d9]at c1;cases c1),(fun c0 c1=>by rw[orZ (by decide),d9]at c1;cases c1),(fun c0 c1=>by rw[orZ (by decide),d13]at c1;cases c1),(fun c0 c1=>by rw[orZ (by decide),d13]at c1;cases c1),(fun c0 c1 c2=>by rw[orZ (by decide),d9]at c2;cases c2),(fun c0 c1=>by simp at c1),(fun c0=>by rw[orZ (by decide)]at c0;rw[putF_none];exact hJ.s27 c0),(fun c0=>by rw[putF_none];exact⟨W2,_,hbX,o131,rfl,by rw[e131]⟩)⟩⟩
  |kk+29,ho,hv,hLi=>simp at hv
 ·intro L A W2 hL hJ hhas hput;obtain⟨W0,q,hb0,hoq,eq131,rfl⟩:=hJ.fin (hL 28 (by decide));have e145:=hJ.s27 (hL 27 (by decide));rw[eq131]at e145;obtain⟨q120,e120⟩: ∃q,A.tmps.getD 120 undef=q:=⟨_,rfl⟩
  obtain⟨q126,e126⟩: ∃q,A.tmps.getD 126 undef=q:=⟨_,rfl⟩
  obtain⟨q127,e127⟩: ∃q,A.tmps.getD 127 undef=q:=⟨_,rfl⟩
  obtain⟨q130,e130⟩: ∃q,A.tmps.getD 130 undef=q:=⟨_,rfl⟩
  have hA:=hput [(118,.func (Fn.func 56) #[] #[]),(119,.agg #[.slice p2 xs.length c2,.int .i64 hk,.int .i64 sk]),(120,q120),(121,.func (Fn.func 56) #[] #[]),(122,.agg #[.slice p4 ys.length c4,.int .i64 hm,.int .i64 sm]),(123,.pointer (some ⟨w2.heap.size,0,none⟩)),(124,.slice p2 xs.length c2),(125,.int .i64 (xs.length:Int)),(126,q126),(127,q127),(128,.int .i64 op),(129,.agg #[.int .i64 op,.int .i64 0,.int .i64 0,.int .i64 0,.slice none 0 0]),(130,q130),(131,q),(132,.pointer (some ⟨w2.heap.size,1,none⟩)),(133,.int .i64 hk),(134,.pointer (some ⟨w4.heap.size,1,none⟩)),(135,.int .i64 hm),(136,.int .i64 h1),(137,.int .i64 h2),(138,.int .i64 hn),(139,.pointer (some ⟨w2.heap.size,2,none⟩)),(140,.int .i64 sk),(141,.int .i64 s1),(142,.pointer (some ⟨w4.heap.size,2,none⟩)),(143,.int .i64 sm),(144,.int .i64 sn),(145,.agg #[q,.int .i64 hn,.int .i64 sn])] rfl (fun jj s u hj=>match jj,hj with
   |0,hj=>by cases Option.some.inj hj;exact hhas 0 118 _ rfl
   |1,hj=>by cases Option.some.inj hj;exact hhas 1 119 _ rfl
   |2,hj=>by cases Option.some.inj hj;exact e120
   |3,hj=>by cases Option.some.inj hj;exact hhas 3 121 _ rfl
   |4,hj=>by cases Option.some.inj hj;exact hhas 4 122 _ rfl
   |5,hj=>by cases Option.some.inj hj;exact hhas 5 123 _ rfl
   |6,hj=>by cases Option.some.inj hj;exact hhas 6 124 _ rfl
   |7,hj=>by cases Option.some.inj hj;exact hhas 7 125 _ rfl
   |8,hj=>by cases Option.some.inj hj;exact e126
   |9,hj=>by cases Option.some.inj hj;exact e127
   |10,hj=>by cases Option.some.inj hj;exact hhas 10 128 _ rfl
   |11,hj=>by cases Option.some.inj hj;exact hhas 11 129 _ rfl
   |12,hj=>by cases Option.some.inj hj;exact e130
   |13,hj=>by cases Option.some.inj hj;exact eq131
   |14,hj=>by cases Option.some.inj hj;exact hhas 14 132 _ rfl
   |15,hj=>by cases Option.some.inj hj;exact hhas 15 133 _ rfl
   |16,hj=>by cases Option.some.inj hj;exact hhas 16 134 _ rfl
   |17,hj=>by cases Option.some.inj hj;exact hhas 17 135 _ rfl
   |18,hj=>by cases Option.some.inj hj;exact hhas 18 136 _ rfl
   |19,hj=>by cases Option.some.inj hj;exact hhas 19 137 _ rfl
   |20,hj=>by cases Option.some.inj hj;exact hhas 20 138 _ rfl
   |21,hj=>by cases Option.some.inj hj;exact hhas 21 139 _ rfl
   |22,hj=>by cases Option.some.inj hj;exact hhas 22 140 _ rfl
   |23,hj=>by cases Option.some.inj hj;exact hhas 23 141 _ rfl
   |24,hj=>by cases Option.some.inj hj;exact hhas 24 142 _ rfl
   |25,hj=>by cases Option.some.inj hj;exact hhas 25 143 _ rfl
   |26,hj=>by cases Option.some.inj hj;exact hhas 26 144 _ rfl
   |27,hj=>by cases Option.some.inj hj;exact e145
   |kk+28,hj=>by simp at hj)
  try change Exit.then _ _ Exit.normal _ _
  subst hA;simp only[putAll_cons,putAll_nil,Act.put,List.setIfInBounds_toArray,List.set_cons_succ,List.set_cons_zero]
  have HO:Hid (OutMk cs num e w (.returned (.agg #[q,.int .i64 hn,.int .i64 sn])) (W0.setRow (w.heap.size+1) #[q,.int .i64 hn,.int .i64 sn])):=by
   have hbk:=(hb0.block _ (lt_of_block n6)).trans n6;refine⟨q,(xs++ys.map (movP (xs.length:Int)))++[(⟨op,0,0,0,[]⟩,.slice none 0 0)],by rw[HVV.out],InsT.setP ⟨?_,fun u hu=> ?_⟩ hbk _,?_,below_setRow (HBX.out.trans (hb0.mono HBX.out.size)) (by omega) _⟩
   ·show W0.ownsRow 0 _ _ _ _ _;rw[flatI_snoc,flatI_cat,List.length_append,List.length_append,List.length_map];exact owns_lowZ hoq (Nat.zero_le _)
   ·rcases List.mem_append.1 hu with hu|hu
    ·rcases List.mem_append.1 hu with hu|hu
     ·exact(HROW.out.sp u hu).below hb0
     ·obtain⟨x,hx,rfl⟩:=List.mem_map.1 hu;have:=(HROW4.out.sp x hx).below hb0;unfold movP;rw[show(movI (xs.length:Int) x.1).sp=x.1.sp by unfold movI;split<;>rfl];exact this
    ·have eu:u=(⟨op,0,0,0,[]⟩,.slice none 0 0):=(by simpa using hu);subst eu;exact SpIn.nil _ _ _
   ·rw[HCD.out,List.map_append,List.map_append,List.map_map,HMAP.out,←HMAP4.out,List.map_map,←HMAP.out,List.length_map];rfl
  have HF:=hid5 (setRow_heap _ _ _ #[q,.int .i64 hn,.int .i64 sn] _ _ ((hb0.block _ (lt_of_block n6)).trans n6));obtain⟨pq,cq,rfl⟩:=row_formZ hoq;clear hJ hput hhas hL hb0 hoq eq131 e145 e120 e126 e127 e130 HBX HROW HROW4 HMAP HMAP4 HCD HVV n6;generalize hwF:W0.setRow (w.heap.size+1) #[.slice pq (xs.length+ys.length+1) cq,.int .i64 hn,.int .i64 sn]=wF at*;go_wp2_with fail;refine bodyPost_ret (v:= .agg #[.slice pq (xs.length+ys.length+1) cq,.int .i64 hn,.int .i64 sn]) ?_ rfl HO.out;exact results_cell_row rfl _ _ (w.heap.size+1) _ _ _ _ rfl HF.out partT rfl (by kernel_rfl)
end Go.Proofs.YtpmobjgnmidolaaDoor
