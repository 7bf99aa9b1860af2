/- What the document's Make comes to, of a name. Written by genxr.py. -/
import Derived.Test.YtpmobjgnmidolaaDoorDt28
import Derived.Test.YtpmobjgnmidolaaDoorDt08
namespace Go.Proofs.YtpmobjgnmidolaaDoor
open Go.RowKit Lx Vx Msk
structure MkN (wX:World)(b:Nat)(f:In×Value)(hn sn:Int)(L:Nat→Bool)(φ:Nat→Value)(W:World):Prop where
 bel:L 16=false→Below wX.heap.size wX W
 s2:L 2=true→L 16=false→W.ownsRow wX.heap.size 66 5 (φ 35) (1) ((iv f).toList)
 s15:L 15=true→φ 48= .agg #[φ 35,.int .i64 hn,.int .i64 sn]
 fin:L 16=true→ ∃W0 q,Below wX.heap.size wX W0∧W0.ownsRow wX.heap.size 66 5 q 1 (iv f).toList∧φ 35=q∧W=W0.setRow b #[q,.int .i64 hn,.int .i64 sn]
set_option maxRecDepth 100000 in
set_option maxHeartbeats 8000000 in
theorem mk_name {us:List (Ru×Value)}{l:List Ru}{cs:List Cd}{num:List UInt8→Int}{e:Ex}{ce gq n:Nat}{pe pl:Option Addr}{nl cl ix:Nat}{w:World}(hkd:e.kind=10)(hnum:num=atP5 l)(hl:us.map (fun p=>p.1)=l)(hix:atP5 l e.name=(ix:Int))(hixn:ix<n)(_:n≤1000)
  (cS: ∀W,Below w.heap.size w W→Calls Tryd.prog 53 #[exV e (.slice pe e.kids.length ce)] W (OutMn false (mnE e) W))
  {G:Nat→Bool} (hG:G ix=true) (hin:MkIn us (.slice pl nl cl) (.slice (some ⟨gq,0,none⟩) n n) gq n cs G w) (hbd: -1000000≤(cs.getD ix cd0).high∧(cs.getD ix cd0).high≤1000000∧0≤(cs.getD ix cd0).steps∧(cs.getD ix cd0).steps≤1000000000):
  Calls Tryd.prog 21 #[exV e (.slice pe e.kids.length ce),.slice pl nl cl,.slice (some ⟨gq,0,none⟩) n n] w (OutMk cs num e w):=by
 have e10:(e.kind==10)=true:=by rw[hkd];rfl
 have eix:(num e.name).toNat=ix:=by rw[hnum,hix,Int.toNat_natCast]
 have HV:Hid (hsE cs num e=(max (cs.getD ix cd0).high 0,1+(cs.getD ix cd0).steps)):=by
  show _=_;rw[hs_name hkd,eix]
 have HCD:Hid (codeE num e 0=[⟨8,(ix:Int),0,0,[]⟩]):=by
  show _=_;rw[code_name hkd,hnum,hix]
 have HIN:=hid5 hin;have HG:=hid5 hG;have HL:=hid5 hl;have HIX:=hid5 hix;have hi0:(0:Int)≤(ix:Int):=by omega
 have hi1:(ix:Int)<(n:Int):=by omega
 clear hkd hnum eix hin hl hix hG;have hz:=mv_lit;have bA:Below w.heap.size w ((w.alloc (.cells #[.int .i64 e.kind,.int .i64 e.a,.int .i64 e.b,.string ⟨e.name.toArray⟩,.slice pe e.kids.length ce] 50)).alloc (.cells #[.slice none 0 0,.int .i64 0,.int .i64 0] 62)):=((Below.refl _ _).alloc (Nat.le_refl _) _).alloc (by simp) _;have nE:((w.alloc (.cells #[.int .i64 e.kind,.int .i64 e.a,.int .i64 e.b,.string ⟨e.name.toArray⟩,.slice pe e.kids.length ce] 50)).alloc (.cells #[.slice none 0 0,.int .i64 0,.int .i64 0] 62)).heap[w.heap.size]? =some (.cells #[.int .i64 e.kind,.int .i64 e.a,.int .i64 e.b,.string ⟨e.name.toArray⟩,.slice pe e.kids.length ce] 50 (0,0)):=by (repeat (first | refine blk_old _ _ _ (by simp only [size_alloc]; omega) ?_ | exact blk_new _ _ _ (by first | rfl | simp only [size_alloc])))
 have nP:((w.alloc (.cells #[.int .i64 e.kind,.int .i64 e.a,.int .i64 e.b,.string ⟨e.name.toArray⟩,.slice pe e.kids.length ce] 50)).alloc (.cells #[.slice none 0 0,.int .i64 0,.int .i64 0] 62)).heap[w.heap.size+1]? =some (.cells #[.slice none 0 0,.int .i64 0,.int .i64 0] 62 (0,0)):=by (repeat (first | refine blk_old _ _ _ (by simp only [size_alloc]; omega) ?_ | exact blk_new _ _ _ (by first | rfl | simp only [size_alloc])))
 unfold exV;generalize hwA:(w.alloc (.cells #[.int .i64 e.kind,.int .i64 e.a,.int .i64 e.b,.string ⟨e.name.toArray⟩,.slice pe e.kids.length ce] 50)).alloc (.cells #[.slice none 0 0,.int .i64 0,.int .i64 0] 62)=wA at*;have d1:=cS wA bA;unfold exV at d1;clear cS;go_enter Tryd.func21,Tryd.ntmps21;go_wp2_with(refine wpList_load_row rfl 50 _ rfl _ rfl _ _ _ _ nE exprType5 rfl (by kernel_rfl) ?_)
 refine d1.mono ?_;rintro r w1 ⟨⟨fm,rfl,hfm⟩,b1⟩;have ba1:=(Below.refl w1.heap.size w1).alloc (Nat.le_refl _) (.cells (mv fun _=>false) 37);have na1:=heap_alloc_new w1 (.cells (mv fun _=>false) 37);have bm1:=below_setRow ba1 (Nat.le_refl _) (mv fm);have bp:=b1.trans (bm1.mono b1.size);have hbm:=bA.trans (bp.mono bA.size);have nE1:=(bp.block _ (lt_of_block nE)).trans nE;have nP1:=(bp.block _ (lt_of_block nP)).trans nP;clear d1 hfm b1 ba1 bm1 bp nE nP hwA bA;generalize hwa1:w1.alloc (.cells (mv fun _=>false) 37)=w1a at*;generalize hwm1:w1a.setRow w1.heap.size (mv fm)=w1m at*;have z0:=(cell_of_row _ _ 0 _ _ _ nE1).trans rfl;have z3:=(cell_of_row _ _ 3 _ _ _ nE1).trans rfl;have cA:=at_any us _ e.name w1m (HIN.out.below hbm).rules;rw[HL.out,HIX.out]at cA;go_wp2_with(refine wpList_store_row rfl 37 _ _ rfl _ _ rfl rfl _ _ na1 (maskSize _) (by simp[mv_size]) (mv_all _) ?_)
 refine cA.mono ?_;rintro r w2 ⟨rfl,b2⟩;have n6:=(b2.block _ (lt_of_block nP1)).trans nP1;have hbX:=hbm.trans (b2.mono hbm.size);have kh:=(HIN.out.below hbX).high ix hixn HG.out;have ks:=(HIN.out.below hbX).steps ix hixn HG.out;obtain⟨hk,hhk⟩: ∃q,(cs.getD ix cd0).high=q:=⟨_,rfl⟩
 obtain⟨sk,hsk⟩: ∃q,(cs.getD ix cd0).steps=q:=⟨_,rfl⟩
 have HVX:=HV.out;rw[hhk,hsk]at hbd HVX;rw[hhk]at kh;rw[hsk]at ks;obtain⟨hb1,hb2,hb3,hb4⟩:=hbd;obtain⟨hn,hhn⟩: ∃q,max hk 0=q:=⟨_,rfl⟩
 obtain⟨sn,hsn⟩: ∃q,1+sk=q:=⟨_,rfl⟩
 rw[hhn,hsn]at HVX;have HVV:=hid5 HVX
 have cMo: ∀W,Calls Tryd.prog 55 #[.int .i64 hk,.int .i64 0] W fun r w'=>r= .returned (.int .i64 hn)∧w'=W:=fun W=>by
  rw[←hhn];exact most_any hk 0 W
 have hws:IntKind.i64.wrap sn=sn:=by rw[IntKind.wrap_i64];omega
 have HBX:=hid5 hbX;clear cA b2 hbm nE1 nP1 z0 z3 na1 hwa1 hwm1 hhk hsk hhn HV HVX hbX HIN HL HIX;go_upto_region 6 with fail;refine wp_region_Z (fun L φ W=>MkN w2 (w.heap.size+1) (⟨8,(ix:Int),0,0,[]⟩,.slice none 0 0) hn sn L φ W) (fun L hL=>⟨(fun _=>(Below.refl _ _).drew),(fun c0 c1=>by rw[hL 2 (by decide)]at c0;cases c0),(fun c0=>by rw[hL 15 (by decide)]at c0;cases c0),(fun c0=>by rw[hL 16 (by decide)]at c0;cases c0)⟩) (by kernel_rfl) (by kernel_rfl) (by kernel_rfl) (by kernel_rfl) [(some 33,some (.int .i64 (ix:Int))),(some 34,some (.agg #[.int .i64 8,.int .i64 (ix:Int),.int .i64 0,.int .i64 0,.slice none 0 0])),(some 35,none),(some 36,some (.slice (some ⟨gq,0,none⟩) n n)),(some 37,some (.int .i64 (ix:Int))),(some 38,some (.pointer (some ⟨gq,ix*3,none⟩))),(some 39,some (.pointer (some ⟨gq,ix*3+1,none⟩))),(some 40,some (.int .i64 hk)),(some 41,some (.int .i64 hn)),(some 42,some (.slice (some ⟨gq,0,none⟩) n n)),(some 43,some (.int .i64 (ix:Int))),(some 44,some (.pointer (some ⟨gq,ix*3,none⟩))),(some 45,some (.pointer (some ⟨gq,ix*3+2,none⟩))),(some 46,some (.int .i64 sk)),(some 47,some (.int .i64 sn)),(some 48,none),(none,none)] (by kernel_rfl) (by kernel_rfl) [33,34,35,36,37,38,39,40,41,42,43,44,45,46,47,48] (by kernel_rfl) ?_ ?_
 ·intro i' d' x' o' L A W2 ho hv hLi hdep hc hJ hkept hhas;match i',ho,hv,hLi with
  |0,ho,hv,hLi=>
   cases Option.some.inj ho;cases Option.some.inj hv;have g9:A.tmps[9]?.getD undef= .int .i64 (ix:Int):=(gd A 9).trans (hkept 9 (by kernel_rfl));refine wpOp_step rfl (fun K hK=> ?_);go_simp;exact hK _ _ ⟨_,rfl,fun u hu=>by cases Option.some.inj hu;rfl,⟨(fun c0=>by rw[orZ (by decide)]at c0;exact hJ.bel c0),(fun c0 c1=>by rw[orZ (by decide)]at c0;rw[orZ (by decide)]at c1;simp only[putF_ne (show 33≠35 by decide)];exact hJ.s2 c0 c1),(fun c0=>by rw[orZ (by decide)]at c0;simp only[putF_ne (show 33≠48 by decide),putF_ne (show 33≠35 by decide)];exact hJ.s15 c0),(fun c0=>by rw[orZ (by decide)]at c0;simp only[putF_ne (show 33≠35 by decide)];exact hJ.fin c0)⟩⟩
  |1,ho,hv,hLi=>
   cases Option.some.inj ho;cases Option.some.inj hv;have g33:A.tmps[33]?.getD undef= .int .i64 (ix:Int):=(gd A 33).trans (hhas 0 33 _ rfl (hdep ⟨0,.data⟩ (by simp) rfl));refine wpOp_step rfl (fun K hK=> ?_);go_simp;exact hK _ _ ⟨_,rfl,fun u hu=>by cases Option.some.inj hu;rfl,⟨(fun c0=>by rw[orZ (by decide)]at c0;exact hJ.bel c0),(fun c0 c1=>by rw[orZ (by decide)]at c0;rw[orZ (by decide)]at c1;simp only[putF_ne (show 34≠35 by decide)];exact hJ.s2 c0 c1),(fun c0=>by rw[orZ (by decide)]at c0;simp only[putF_ne (show 34≠48 by decide),putF_ne (show 34≠35 by decide)];exact hJ.s15 c0),(fun c0=>by rw[orZ (by decide)]at c0;simp only[putF_ne (show 34≠35 by decide)];exact hJ.fin c0)⟩⟩
  |2,ho,hv,hLi=>
   cases Option.some.inj ho;cases Option.some.inj hv
   have h15:L 15=false:=by
    cases hq:L 15 with
    |false=>rfl
    |true=>
     have:=hc 15 _ rfl hq ⟨2,.data⟩ (by simp) rfl;rw[hLi]at this;cases this
   have h16:L 16=false:=by
    cases hq:L 16 with
    |false=>rfl
    |true=>
     have:=hc 16 _ rfl hq ⟨2,.phase⟩ (by simp) rfl;rw[hLi]at this;cases this
   have h34:A.eval (.tmp 34)= .agg #[.int .i64 8,.int .i64 (ix:Int),.int .i64 0,.int .i64 0,.slice none 0 0]:=hhas 1 34 _ rfl (hdep ⟨1,.data⟩ (by simp) rfl);have hb':=(Below.refl W2.heap.size W2).alloc (Nat.le_refl _) (.cells (iv (⟨8,(ix:Int),0,0,[]⟩,.slice none 0 0)) 66);have hsX:=(hJ.bel h16).size;refine wpOp_step rfl (fun K hK=> ?_);show Oper.wp _ _ _ _ _ _;refine wp_buildI _ rfl (⟨8,(ix:Int),0,0,[]⟩,.slice none 0 0) ⟨_,_,_,rfl⟩ h34 ?_;exact hK _ _ ⟨_,rfl,fun u hu=>by(cases hu),⟨(fun c0=>by rw[orZ (by decide)]at c0;exact(fun h hb=>h.trans (hb.mono h.size)) (hJ.bel c0) hb'),(fun c0 c1=>by rw[putF_eq];exact owns_lit (heap_alloc_new W2 _) hsX),(fun c0=>by rw[orZ (by decide),h15]at c0;cases c0),(fun c0=>by rw[orZ (by decide),h16]at c0;cases c0)⟩⟩
  |3,ho,hv,hLi=>
   cases Option.some.inj ho;cases Option.some.inj hv;have g2:A.tmps[2]?.getD undef= .slice (some ⟨gq,0,none⟩) n n:=(gd A 2).trans (hkept 2 (by kernel_rfl));refine wpOp_step rfl (fun K hK=> ?_);go_simp;exact hK _ _ ⟨_,rfl,fun u hu=>by cases Option.some.inj hu;rfl,⟨(fun c0=>by rw[orZ (by decide)]at c0;exact hJ.bel c0),(fun c0 c1=>by rw[orZ (by decide)]at c0;rw[orZ (by decide)]at c1;simp only[putF_ne (show 36≠35 by decide)];exact hJ.s2 c0 c1),(fun c0=>by rw[orZ (by decide)]at c0;simp only[putF_ne (show 36≠48 by decide),putF_ne (show 36≠35 by decide)];exact hJ.s15 c0),(fun c0=>by rw[orZ (by decide)]at c0;simp only[putF_ne (show 36≠35 by decide)];exact hJ.fin c0)⟩⟩
  |4,ho,hv,hLi=>
   cases Option.some.inj ho;cases Option.some.inj hv;have g9:A.tmps[9]?.getD undef= .int .i64 (ix:Int):=(gd A 9).trans (hkept 9 (by kernel_rfl));refine wpOp_step rfl (fun K hK=> ?_);go_simp;exact hK _ _ ⟨_,rfl,fun u hu=>by cases Option.some.inj hu;rfl,⟨(fun c0=>by rw[orZ (by decide)]at c0;exact hJ.bel c0),(fun c0 c1=>by rw[orZ (by decide)]at c0;rw[orZ (by decide)]at c1;simp only[putF_ne (show 37≠35 by decide)];exact hJ.s2 c0 c1),(fun c0=>by rw[orZ (by decide)]at c0;simp only[putF_ne (show 37≠48 by decide),putF_ne (show 37≠35 by decide)];exact hJ.s15 c0),(fun c0=>by rw[orZ (by decide)]at c0;simp only[putF_ne (show 37≠35 by decide)];exact hJ.fin c0)⟩⟩
  |5,ho,hv,hLi=>
   cases Option.some.inj ho;cases Option.some.inj hv;have g36:A.tmps[36]?.getD undef= .slice (some ⟨gq,0,none⟩) n n:=(gd A 36).trans (hhas 3 36 _ rfl (hdep ⟨3,.data⟩ (by simp) rfl));have g37:A.tmps[37]?.getD undef= .int .i64 (ix:Int):=(gd A 37).trans (hhas 4 37 _ rfl (hdep ⟨4,.data⟩ (by simp) rfl));refine wpOp_step rfl (fun K hK=> ?_);go_simp;exact hK _ _ ⟨_,rfl,fun u hu=>by cases Option.some.inj hu;rfl,⟨(fun c0=>by rw[orZ (by decide)]at c0;exact hJ.bel c0),(fun c0 c1=>by rw[orZ (by decide)]at c0;rw[orZ (by decide)]at c1;simp only[putF_ne (show 38≠35 by decide)];exact hJ.s2 c0 c1),(fun c0=>by rw[orZ (by decide)]at c0;simp only[putF_ne (show 38≠48 by decide),putF_ne (show 38≠35 by decide)];exact hJ.s15 c0),(fun c0=>by rw[orZ (by decide)]at c0;simp only[putF_ne (show 38≠35 by decide)];exact hJ.fin c0)⟩⟩
  |6,ho,hv,hLi=>
   cases Option.some.inj ho;cases Option.some.inj hv;have g38:A.tmps[38]?.getD undef= .pointer (some ⟨gq,ix*3,none⟩):=(gd A 38).trans (hhas 5 38 _ rfl (hdep ⟨5,.data⟩ (by simp) rfl));refine wpOp_step rfl (fun K hK=> ?_);go_simp;exact hK _ _ ⟨_,rfl,fun u hu=>by cases Option.some.inj hu;rfl,⟨(fun c0=>by rw[orZ (by decide)]at c0;exact hJ.bel c0),(fun c0 c1=>by rw[orZ (by decide)]at c0;rw[orZ (by decide)]at c1;simp only[putF_ne (show 39≠35 by decide)];exact hJ.s2 c0 c1),(fun c0=>by rw[orZ (by decide)]at c0;simp only[putF_ne (show 39≠48 by decide),putF_ne (show 39≠35 by decide)];exact hJ.s15 c0),(fun c0=>by rw[orZ (by decide)]at c0;simp only[putF_ne (show 39≠35 by decide)];exact hJ.fin c0)⟩⟩
  |7,ho,hv,hLi=>
   cases Option.some.inj ho;cases Option.some.inj hv
   have h16:L 16=false:=by
    cases hq:L 16 with
    |false=>rfl
    |true=>
     have:=hc 16 _ rfl hq ⟨7,.phase⟩ (by simp) rfl;rw[hLi]at this;cases this
   have g39:A.tmps[39]?.getD undef= .pointer (some ⟨gq,ix*3+1,none⟩):=(gd A 39).trans (hhas 6 39 _ rfl (hdep ⟨6,.data⟩ (by simp) rfl));have z:=((hJ.bel h16).cell (block_lt_of_cell kh)).trans kh;refine wpOp_step rfl (fun K hK=> ?_);go_simp;exact hK _ _ ⟨_,rfl,fun u hu=>by cases Option.some.inj hu;rfl,⟨(fun c0=>by rw[orZ (by decide)]at c0;exact hJ.bel c0),(fun c0 c1=>by rw[orZ (by decide)]at c0;rw[orZ (by decide)]at c1;simp only[putF_ne (show 40≠35 by decide)];exact hJ.s2 c0 c1),(fun c0=>by rw[orZ (by decide)]at c0;simp only[putF_ne (show 40≠48 by decide),putF_ne (show 40≠35 by decide)];exact hJ.s15 c0),(fun c0=>by rw[orZ (by decide),h16]at c0;cases c0)⟩⟩
  |8,ho,hv,hLi=>
   cases Option.some.inj ho;cases Option.some.inj hv;have g40:A.tmps[40]?.getD undef= .int .i64 hk:=(gd A 40).trans (hhas 7 40 _ rfl (hdep ⟨7,.data⟩ (by simp) rfl));refine wpOp_step rfl (fun K hK=> ?_);go_simp;refine(cMo W2).mono ?_;rintro r' W' ⟨rfl,rfl⟩;exact hK _ _ ⟨_,rfl,fun u hu=>by cases Option.some.inj hu;rfl,⟨(fun c0=>by rw[orZ (by decide)]at c0;exact hJ.bel c0),(fun c0 c1=>by rw[orZ (by decide)]at c0;rw[orZ (by decide)]at c1;simp only[putF_ne (show 41≠35 by decide)];exact hJ.s2 c0 c1),(fun c0=>by rw[orZ (by decide)]at c0;simp only[putF_ne (show 41≠48 by decide),putF_ne (show 41≠35 by decide)];exact hJ.s15 c0),(fun c0=>by rw[orZ (by decide)]at c0;simp only[putF_ne (show 41≠35 by decide)];exact hJ.fin c0)⟩⟩
  |9,ho,hv,hLi=>
   cases Option.some.inj ho;cases Option.some.inj hv;have g2:A.tmps[2]?.getD undef= .slice (some ⟨gq,0,none⟩) n n:=(gd A 2).trans (hkept 2 (by kernel_rfl));refine wpOp_step rfl (fun K hK=> ?_);go_simp;exact hK _ _ ⟨_,rfl,fun u hu=>by cases Option.some.inj hu;rfl,⟨(fun c0=>by rw[orZ (by decide)]at c0;exact hJ.bel c0),(fun c0 c1=>by rw[orZ (by decide)]at c0;rw[orZ (by decide)]at c1;simp only[putF_ne (show 42≠35 by decide)];exact hJ.s2 c0 c1),(fun c0=>by rw[orZ (by decide)]at c0;simp only[putF_ne (show 42≠48 by decide),putF_ne (show 42≠35 by decide)];exact hJ.s15 c0),(fun c0=>by rw[orZ (by decide)]at c0;simp only[putF_ne (show 42≠35 by decide)];exact hJ.fin c0)⟩⟩
  |10,ho,hv,hLi=>
   cases Option.some.inj ho;cases Option.some.inj hv;have g9:A.tmps[9]?.getD undef= .int .i64 (ix:Int):=(gd A 9).trans (hkept 9 (by kernel_rfl));refine wpOp_step rfl (fun K hK=> ?_);go_simp;exact hK _ _ ⟨_,rfl,fun u hu=>by cases Option.some.inj hu;rfl,⟨(fun c0=>by rw[orZ (by decide)]at c0;exact hJ.bel c0),(fun c0 c1=>by rw[orZ (by decide)]at c0;rw[orZ (by decide)]at c1;simp only[putF_ne (show 43≠35 by decide)];exact hJ.s2 c0 c1),(fun c0=>by rw[orZ (by decide)]at c0;simp only[putF_ne (show 43≠48 by decide),putF_ne (show 43≠35 by decide)];exact hJ.s15 c0),(fun c0=>by rw[orZ (by decide)]at c0;simp only[putF_ne (show 43≠35 by decide)];exact hJ.fin c0)⟩⟩
  |11,ho,hv,hLi=>
   cases Option.some.inj ho;cases Option.some.inj hv;have g42:A.tmps[42]?.getD undef= .slice (some ⟨gq,0,none⟩) n n:=(gd A 42).trans (hhas 9 42 _ rfl (hdep ⟨9,.data⟩ (by simp) rfl));have g43:A.tmps[43]?.getD undef= .int .i64 (ix:Int):=(gd A 43).trans (hhas 10 43 _ rfl (hdep ⟨10,.data⟩ (by simp) rfl));refine wpOp_step rfl (fun K hK=> ?_);go_simp;exact hK _ _ ⟨_,rfl,fun u hu=>by cases Option.some.inj hu;rfl,⟨(fun c0=>by rw[orZ (by decide)]at c0;exact hJ.bel c0),(fun c0 c1=>by rw[orZ (by decide)]at c0;rw[orZ (by decide)]at c1;simp only[putF_ne (show 44≠35 by decide)];exact hJ.s2 c0 c1),(fun c0=>by rw[orZ (by decide)]at c0;simp only[putF_ne (show 44≠48 by decide),putF_ne (show 44≠35 by decide)];exact hJ.s15 c0),(fun c0=>by rw[orZ (by decide)]at c0;simp only[putF_ne (show 44≠35 by decide)];exact hJ.fin c0)⟩⟩
  |12,ho,hv,hLi=>
   cases Option.some.inj ho;cases Option.some.inj hv;have g44:A.tmps[44]?.getD undef= .pointer (some ⟨gq,ix*3,none⟩):=(gd A 44).trans (hhas 11 44 _ rfl (hdep ⟨11,.data⟩ (by simp) rfl));refine wpOp_step rfl (fun K hK=> ?_);go_simp;exact hK _ _ ⟨_,rfl,fun u hu=>by cases Option.some.inj hu;rfl,⟨(fun c0=>by rw[orZ (by decide)]at c0;exact hJ.bel c0),(fun c0 c1=>by rw[orZ (by decide)]at c0;rw[orZ (by decide)]at c1;simp only[putF_ne (show 45≠35 by decide)];exact hJ.s2 c0 c1),(fun c0=>by rw[orZ (by decide)]at c0;simp only[putF_ne (show 45≠48 by decide),putF_ne (show 45≠35 by decide)];exact hJ.s15 c0),(fun c0=>by rw[orZ (by decide)]at c0;simp only[putF_ne (show 45≠35 by decide)];exact hJ.fin c0)⟩⟩
  |13,ho,hv,hLi=>
   cases Option.some.inj ho;cases Option.some.inj hv
   have h16:L 16=false:=by
    cases hq:L 16 with
    |false=>rfl
    |true=>
     have:=hc 16 _ rfl hq ⟨13,.phase⟩ (by simp) rfl;rw[hLi]at this;cases this
   have g45:A.tmps[45]?.getD undef= .pointer (some ⟨gq,ix*3+2,none⟩):=(gd A 45).trans (hhas 12 45 _ rfl (hdep ⟨12,.data⟩ (by simp) rfl));have z:=((hJ.bel h16).cell (block_lt_of_cell ks)).trans ks;refine wpOp_step rfl (fun K hK=> ?_);go_simp;exact hK _ _ ⟨_,rfl,fun u hu=>by cases Option.some.inj hu;rfl,⟨(fun c0=>by rw[orZ (by decide)]at c0;exact hJ.bel c0),(fun c0 c1=>by rw[orZ (by decide)]at c0;rw[orZ (by decide)]at c1;simp only[putF_ne (show 46≠35 by decide)];exact hJ.s2 c0 c1),(fun c0=>by rw[orZ (by decide)]at c0;simp only[putF_ne (show 46≠48 by decide),putF_ne (show 46≠35 by decide)];exact hJ.s15 c0),(fun c0=>by rw[orZ (by decide),h16]at c0;cases c0)⟩⟩
  |14,ho,hv,hLi=>
   cases Option.some.inj ho;cases Option.some.inj hv;have g46:A.tmps[46]?.getD undef= .int .i64 sk:=(gd A 46).trans (hhas 13 46 _ rfl (hdep ⟨13,.data⟩ (by simp) rfl));refine wpOp_step rfl (fun K hK=> ?_);go_simp;exact hK _ _ ⟨_,rfl,fun u hu=>by cases Option.some.inj hu;rfl,⟨(fun c0=>by rw[orZ (by decide)]at c0;exact hJ.bel c0),(fun c0 c1=>by rw[orZ (by decide)]at c0;rw[orZ (by decide)]at c1;simp only[putF_ne (show 47≠35 by decide)];exact hJ.s2 c0 c1),(fun c0=>by rw[orZ (by decide)]at c0;simp only[putF_ne (show 47≠48 by decide),putF_ne (show 47≠35 by decide)];exact hJ.s15 c0),(fun c0=>by rw[orZ (by decide)]at c0;simp only[putF_ne (show 47≠35 by decide)];exact hJ.fin c0)⟩⟩
  |15,ho,hv,hLi=>
   cases Option.some.inj ho;cases Option.some.inj hv
   have h16:L 16=false:=by
    cases hq:L 16 with
    |false=>rfl
    |true=>
     have:=hc 16 _ rfl hq ⟨15,.phase⟩ (by simp) rfl;rw[hLi]at this;cases this
   have g41:A.tmps[41]?.getD undef= .int .i64 hn:=(gd A 41).trans (hhas 8 41 _ rfl (hdep ⟨8,.data⟩ (by simp) rfl));have g47:A.tmps[47]?.getD undef= .int .i64 sn:=(gd A 47).trans (hhas 14 47 _ rfl (hdep ⟨14,.data⟩ (by simp) rfl));obtain⟨p35,c35,e35⟩:=row_formZ (hJ.s2 (hdep ⟨2,.data⟩ (by simp) rfl) h16);have g35:A.tmps[35]?.getD undef=_:=(gd A 35).trans e35;refine wpOp_step rfl (fun K hK=> ?_);go_simp;exact hK _ _ ⟨_,rfl,fun u hu=>by(cases hu),⟨(fun c0=>by rw[orZ (by decide)]at c0;exact hJ.bel c0),(fun c0 c1=>by rw[orZ (by decide)]at c0;rw[orZ (by decide)]at c1;simp only[putF_ne (show 48≠35 by decide)];exact hJ.s2 c0 c1),(fun c0=>by rw[putF_eq,putF_ne (by decide),e35]),(fun c0=>by rw[orZ (by decide),h16]at c0;cases c0)⟩⟩
  |16,ho,hv,hLi=>
   cases Option.some.inj ho;cases Option.some.inj hv;have d15:L 15=true:=hdep ⟨15,.data⟩ (by simp) rfl;have d2:L 2=true:=hc 15 _ rfl d15 ⟨2,.data⟩ (by simp) rfl;have o35:=hJ.s2 d2 hLi;obtain⟨p35,c35,e35⟩:=row_formZ o35;have h48:A.eval (.tmp 48)= .agg #[slotsOf A 35,.int .i64 hn,.int .i64 sn]:=hJ.s15 d15;rw[e35]at h48;have h6:A.eval (.tmp 6)= .pointer (some ⟨w.heap.size+1,0,none⟩):=hkept 6 (by kernel_rfl);have hbX:=hJ.bel hLi;have hbk:=(hbX.block _ (lt_of_block n6)).trans n6;refine wpOp_step rfl (fun K hK=> ?_);show Oper.wp _ _ _ _ _ _;refine wp_store_row 62 _ _ rfl _ _ h6 h48 _ _ hbk (by kernel_rfl) (by simp) (by simp[Value.oneCell']) ?_;exact hK _ _ ⟨undef,rfl,fun u hu=>by(cases hu),⟨(fun c0=>by simp at c0),(fun c0 c1=>by simp at c1),(fun c0=>by rw[orZ (by decide)]at c0;rw[putF_none];exact hJ.s15 c0),(fun c0=>by rw[putF_none];exact⟨W2,_,hbX,o35,rfl,by rw[e35]⟩)⟩⟩
  |kk+17,ho,hv,hLi=>simp at hv
 ·intro L A W2 hL hJ hhas hput;obtain⟨W0,q,hb0,hoq,eq35,rfl⟩:=hJ.fin (hL 16 (by decide));have e48:=hJ.s15 (hL 15 (by decide));rw[eq35]at e48
  have hA:=hput [(33,.int .i64 (ix:Int)),(34,.agg #[.int .i64 8,.int .i64 (ix:Int),.int .i64 0,.int .i64 0,.slice none 0 0]),(35,q),(36,.slice (some ⟨gq,0,none⟩) n n),(37,.int .i64 (ix:Int)),(38,.pointer (some ⟨gq,ix*3,none⟩)),(39,.pointer (some ⟨gq,ix*3+1,none⟩)),(40,.int .i64 hk),(41,.int .i64 hn),(42,.slice (some ⟨gq,0,none⟩) n n),(43,.int .i64 (ix:Int)),(44,.pointer (some ⟨gq,ix*3,none⟩)),(45,.pointer (some ⟨gq,ix*3+2,none⟩)),(46,.int .i64 sk),(47,.int .i64 sn),(48,.agg #[q,.int .i64 hn,.int .i64 sn])] rfl (fun jj s u hj=>match jj,hj with
   |0,hj=>by cases Option.some.inj hj;exact hhas 0 33 _ rfl
   |1,hj=>by cases Option.some.inj hj;exact hhas 1 34 _ rfl
   |2,hj=>by cases Option.some.inj hj;exact eq35
   |3,hj=>by cases Option.some.inj hj;exact hhas 3 36 _ rfl
   |4,hj=>by cases Option.some.inj hj;exact hhas 4 37 _ rfl
   |5,hj=>by cases Option.some.inj hj;exact hhas 5 38 _ rfl
   |6,hj=>by cases Option.some.inj hj;exact hhas 6 39 _ rfl
   |7,hj=>by cases Option.some.inj hj;exact hhas 7 40 _ rfl
   |8,hj=>by cases Option.some.inj hj;exact hhas 8 41 _ rfl
   |9,hj=>by cases Option.some.inj hj;exact hhas 9 42 _ rfl
   |10,hj=>by cases Option.some.inj hj;exact hhas 10 43 _ rfl
   |11,hj=>by cases Option.some.inj hj;exact hhas 11 44 _ rfl
   |12,hj=>by cases Option.some.inj hj;exact hhas 12 45 _ rfl
   |13,hj=>by cases Option.some.inj hj;exact hhas 13 46 _ rfl
   |14,hj=>by cases Option.some.inj hj;exact hhas 14 47 _ rfl
   |15,hj=>by cases Option.some.inj hj;exact e48
   |kk+16,hj=>by simp at hj)
  try change Exit.then _ _ Exit.normal _ _
  subst hA;simp only[putAll_cons,putAll_nil,Act.put,List.setIfInBounds_toArray,List.set_cons_succ,List.set_cons_zero]
  have HO:Hid (OutMk cs num e w (.returned (.agg #[q,.int .i64 hn,.int .i64 sn])) (W0.setRow (w.heap.size+1) #[q,.int .i64 hn,.int .i64 sn])):=by
   have hbk:=(hb0.block _ (lt_of_block n6)).trans n6;refine⟨q,[(⟨8,(ix:Int),0,0,[]⟩,.slice none 0 0)],by rw[HVV.out],InsT.setP ⟨?_,fun u hu=> ?_⟩ hbk _,?_,below_setRow (HBX.out.trans (hb0.mono HBX.out.size)) (by omega) _⟩
   ·show W0.ownsRow 0 _ _ _ _ _;exact owns_lowZ hoq (Nat.zero_le _)
   ·have eu:u=(⟨8,(ix:Int),0,0,[]⟩,.slice none 0 0):=(by simpa using hu);subst eu;exact SpIn.nil _ _ _
   ·rw[HCD.out];rfl
  have HF:=hid5 (setRow_heap _ _ _ #[q,.int .i64 hn,.int .i64 sn] _ _ ((hb0.block _ (lt_of_block n6)).trans n6));obtain⟨pq,cq,rfl⟩:=row_formZ hoq;clear hJ hput hhas hL hb0 hoq eq35 e48 HBX HCD HVV n6;generalize hwF:W0.setRow (w.heap.size+1) #[.slice pq 1 cq,.int .i64 hn,.int .i64 sn]=wF at*;go_wp2_with fail;refine bodyPost_ret (v:= .agg #[.slice pq 1 cq,.int .i64 hn,.int .i64 sn]) ?_ rfl HO.out;exact results_cell_row rfl _ _ (w.heap.size+1) _ _ _ _ rfl HF.out partT rfl (by kernel_rfl)
end Go.Proofs.YtpmobjgnmidolaaDoor
