/- Texts of the proof. -/
import Derived.Test.YtjkilacmkbmmbaaGreatDoorPt09
set_option maxRecDepth 100000
set_option maxHeartbeats 8000000
namespace Go.Proofs.YtjkilacmkbmmbaaGreatDoor
open Go.Proofs.Tryz Go.RowKit Lx Vx Mx Msk
def jg (cs:List Cd)(rule day:Int):Int×Nat:=if(jH cs).1≠0 then jH cs else if¬(0<=rule/\rule<cs.length) then(6,0) else if¬(0<=day/\day<146097) then(3,0) else(0,0)
def pP (cs:List Cd)(rule day:Int):M:=if(jg cs rule day).1=0 then(evV (eD day) day cs (cs.length+1) rule.toNat).1 else fun _=>false
def ws (cs:List Cd)(rule day:Int):Nat:=if(jg cs rule day).1=0 then(evV (eD day) day cs (cs.length+1) rule.toNat).2 else 0
def Gn (f:M)(n er at_:Int)(w:World)(e:Ending)(w':World):Prop:=e= .returned (.tuple #[.agg (mv f),ag n,.agg #[ag er,ag at_]])/\ao w w'
theorem wt {R:Ending->World->Prop}{a:Act}{w:World}(g g':Nat)(f:M)(n er at_:Int)(hd:a.defers=[])(h6:a.tmps.getD 6 undef=ab g 0)(h7:a.tmps.getD 7 undef=ag n)(h8:a.tmps.getD 8 undef=ab g' 0)
  (hg:w.heap[g]? =ah (mv f) 61) (hg':w.heap[g']? =ah #[ag er,ag at_] 47) (hR:R (.returned (.tuple #[.agg (mv f),ag n,.agg #[ag er,ag at_]])) w):bodyPost prog f187 R .ret a w:=by
 refine aV (v:= .tuple #[.agg (mv f),ag n,.agg #[ag er,ag at_]]) ?_ hd hR;have h6':a.tmps[6]?.getD undef=ab g 0:=by simpa using h6
 have h7':a.tmps[7]?.getD undef=ag n:=by simpa using h7
 have h8':a.tmps[8]?.getD undef=ab g' 0:=by simpa using h8
 have hv:=eo (P:=prog) w g 61 61 _ _ _ hg bQ rfl (a7 _);have hv':=eo (P:=prog) w g' 47 47 _ _ _ hg' me rfl (by kernel_rfl);simp[results,results187,h6',h7',h8',asAddr,hv,hv']
structure FtJ (w:World)(rr rf:Nat)(er at_:Int)(M:Nat->Bool)(W:World):Prop where
 bel:ao w W
 msk:W.heap[rr]? =ah (mv fun _=>false) 61
 src:W.heap[rf]? =ah #[ag er,ag at_] 47
 flt: ∃a b,W.heap[rr+1]? =ah #[ag a,ag b] 47/\(M 4=true->a=er/\b=at_)
structure RnJ (w w0:World)(gm:Nat)(lv:Value)(day k:Int)(f:Vx.M)(rr:Nat)(M:Nat->Bool)(W:World):Prop where
 bel:ao w W
 mach: ∃sv,W.heap[gm]? =ah #[lv,ag day,sv,ag k] 256
 ahead:M 0=false->VSt w0 gm lv day [f] k W
 m0:M 4=false->W.heap[rr]? =ah (mv fun _=>false) 61
 m1:M 4=true->W.heap[rr]? =ah (mv f) 61
 flt:W.heap[rr+1]? =ah #[ag 0,ag 0] 47
theorem CO (cs:List Cd)(lv:Value)(rule day:Int)(w:World)(h:InV w lv cs):
  Calls prog 187 #[lv,ag rule,ag day] w (Gn (pP cs rule day) (ws cs rule day:Int) (jg cs rule day).1 ((jg cs rule day).2:Int) w):=by
 obtain⟨p,cp,elv,hlen,hcc⟩:=h.form;have hz:=eC;have bA:ao w ((w.alloc (.cells (mv fun _=>false) 61)).alloc (.cells #[ag 0,ag 0] 47)):=(am _ _).alloc (by simp) _;have nM0:((w.alloc (.cells (mv fun _=>false) 61)).alloc (.cells #[ag 0,ag 0] 47)).heap[w.heap.size]? =ah (mv fun _=>false) 61:=by(repeat (first|refine dc _ _ _ (by simp only[aP];omega) ?_|exact dr _ _ _ (by first|rfl|simp only[aP])))
 have nF0:((w.alloc (.cells (mv fun _=>false) 61)).alloc (.cells #[ag 0,ag 0] 47)).heap[w.heap.size+1]? =ah #[ag 0,ag 0] 47:=by(repeat (first|refine dc _ _ _ (by simp only[aP];omega) ?_|exact dr _ _ _ (by first|rfl|simp only[aP])))
 generalize hwA:(w.alloc (.cells (mv fun _=>false) 61)).alloc (.cells #[ag 0,ag 0] 47)=wA at*;have cW:=Gl cs lv wA (h.below bA);have hn0:(0:Int)<=(cs.length:Int):=by omega
 by_cases he:(jH cs).1=0
 ·have hR:=D2 he
  have hw2:jH cs=(0,0):=by
   unfold jH at he⊢;by_cases h1:40<cs.length
   ·rw[ax h1]at he;simp at he
   ·rw[aw h1]at he⊢;by_cases h2:(gI (fun i=>aloneE (cs.getD i cd0) cs.length) cs.length 0).1≠0
    ·rw[ax h2]at he;exact absurd he h2
    ·rw[aw h2]at he⊢;exact(pD _ _ he).1
  rw[hw2]at cW;have c2:=fun W=>qJ rule (cs.length:Int) W;have c3:=fun W=>qJ day 146097 W;have hE:jg cs rule day=if¬(0<=rule/\rule<cs.length) then(6,0) else if¬(0<=day/\day<146097) then(3,0) else(0,0):=aw (fun e=>e he);have HIN:=aY h;have HRT:=aY hR;have HE:=aY hE;obtain⟨f0,hf0⟩:=aq (pP cs rule day);obtain⟨k0,hk0⟩:=aq (ws cs rule day:Int);obtain⟨X,hX⟩:=aq (jg cs rule day);rw[hf0,hk0,hX];have HF0:=aY hf0;have HK0:=aY hk0;have HX:=aY hX;clear he hw2 hcc hR h hE hf0 hk0 hX;subst elv;go_enter func187,ntmps187;go_wp2_with fail;refine cW.mono ?_;rintro e w1 ⟨rfl,hb1⟩;dsimp only;have b1:=au bA hb1;have nM1:=ai hb1 nM0;have nF1:=ai hb1 nF0;have bF0:=am w1 (.cells #[ag 0,ag 0] 47);have nG0:=aB w1 (.cells #[ag 0,ag 0] 47);generalize hw1:w1.alloc (.cells #[ag 0,ag 0] 47)=w1a at*;have bF:=below_setRow bF0 (aA _) #[ag 0,ag 0];have nG:=aL _ _ _ #[ag 0,ag 0] _ _ nG0;have nM2:=ai bF nM1;have nF2:=ai bF nF1;have b2:=au b1 bF;generalize hw2:w1a.setRow w1.heap.size #[ag 0,ag 0]=w2 at*;have zG:=ak 0 nG;have d2:=c2 w2;have d3:=c3 w2;clear cW hb1 nM1 nF1 bF nM0 nF0 hwA bA b1 bF0 c2 c3;go_wp2_with(refine az rfl 47 _ _ rfl _ _ rfl rfl _ _ nG0 (by kernel_rfl) (by simp) (by simp[Value.oneCell']) ?_)
  refine d2.mono ?_;rintro e w3 ⟨rfl,rfl⟩;clear d2 zG nG nG0 hw1 hw2;by_cases hr:0<=rule/\rule<cs.length
  case' neg=>
   have hX6:X=(6,0):=HX.o.symm.trans (HE.o.trans (ax hr));rw[bh hr];clear d3 hr
  case' pos=>
   rw[a6 hr];go_wp2_with fail;refine d3.mono ?_;rintro e w3 ⟨rfl,rfl⟩;clear d3;by_cases hd:0<=day/\day<146097
   case' neg=>
    have hX6:X=(3,0):=HX.o.symm.trans (HE.o.trans ((aw fun e=>e hr).trans (ax hd)));rw[bh hd];clear hr hd
   case pos=>
    have hE:jg cs rule day=(0,0):=HE.o.trans ((aw fun e=>e hr).trans (aw fun e=>e hd));have e1:pP cs rule day=(evV (eD day) day cs (cs.length+1) rule.toNat).1:=ax (by rw[hE]);have e2:ws cs rule day=(evV (eD day) day cs (cs.length+1) rule.toNat).2:=ax (by rw[hE]);rw[a6 hd];obtain⟨lv,elv⟩:=aq (Value.slice p cs.length cp);rw[elv]at HIN;obtain⟨rn,rfl⟩: ∃rn:Nat,rule=(rn:Int):=⟨rule.toNat,by omega⟩
    have hrn:rn<cs.length:=(by omega);rw[cj]at e1 e2;obtain⟨hd0,hd1⟩:=hd;obtain⟨fM,hfM⟩:=aq (evV (eD day) day cs (cs.length+1) rn)
    have HRA:RJ (∀(w0:World) (gm:Nat) (W:World),ao w w0->VSt w0 gm lv day [] 0 W->Calls prog 202 #[ab gm 0,ag (rn:Int)] W fun e W'=>e= .returned (.tuple #[])/\VSt w0 gm lv day [fM.1] (fM.2:Int) W'):=fun w0 gm W hb hM=>by
     have hu:cs[rn]? =some cs[rn]:=ay hrn;have ha:=(jr (HRT.o.alone rn _ hu)).2.1;have:=EW cs lv w0 gm day HRT.o (HIN.o.below hb) hd0 hd1 (cs.length+1) rn [] 0 W hrn (by have:=Qu (gg cs) cs.length rn;omega) hM (by rw[i8 hu];simp;omega) (by omega) (by rw[i8 hu];omega);rw[hfM]at this;refine this.mono ?_;rintro e W' ⟨rfl,h'⟩;exact⟨rfl,gX h' (by simp) (by simp)⟩
    rw[hfM]at e1 e2;obtain⟨f,k⟩:=fM;rw[HF0.o]at e1;have e2':k0=(k:Int):=(by rw[<-HK0.o,e2]);have e3:X=(0,0):=HX.o.symm.trans hE;replace e1:=e1.symm;subst e1 e2' e3;dsimp only at HRA⊢;clear hr hE e2 hfM HIN HRT hd0 hd1 HE HX HF0 HK0;subst elv;have bX:=am w3 (.cells #[af,ag 0,af,ag 0] 256);have nX:=aB w3 (.cells #[af,ag 0,af,ag 0] 256);generalize hwX:w3.alloc (.cells #[af,ag 0,af,ag 0] 256)=wX at*;have bY:=below_setRow bX (aA _) #[.slice p cs.length cp,ag day,af,ag 0];have nY:=aL _ _ _ #[.slice p cs.length cp,ag day,af,ag 0] _ _ nX;generalize hwY:wX.setRow w3.heap.size #[.slice p cs.length cp,ag day,af,ag 0]=wY at*;have hMY:VSt w3 w3.heap.size (.slice p cs.length cp) day [] 0 wY:=⟨bY,aA _,_,nY,da _ _ _ _⟩
    have cR:=HRA.o w3 w3.heap.size wY b2 hMY;clear HRA hMY bX bY nY;go_wp2_with(refine az rfl 256 _ _ rfl _ _ rfl rfl _ _ nX (by kernel_rfl) (by simp) (by simp[Value.oneCell']) ?_)
    refine cR.mono ?_;rintro e w4 ⟨rfl,hM4⟩;clear cR nX hwX hwY;go_wp2_with fail;obtain⟨lv,hlv⟩:=aq (Value.slice p cs.length cp);rw[hlv]at hM4;have l1:=aG nM2;have l2:=aG nF2;have hgt:w.heap.size+1<w3.heap.size:=l2;obtain⟨gm,hgm⟩:=aq w3.heap.size;rw[hgm]at hM4 hgt;simp only[hgm];clear hgm hlv;refine dz (fun M _=>RnJ w w3 gm lv day (k:Int) f w.heap.size M) [dk 35 (.agg (mv f)),kn 36 (ab gm 3),kn 37 (ag (k:Int)),kn 38 (.agg #[ag 0,ag 0]),nk,dk 7 (ag (k:Int)),nk] (fun _=> ?_) (fun _ _ _ _ hb h=>⟨au h.bel hb,h.mach.imp fun _ q=>ai hb q,fun e=>(h.ahead e).below hb,fun e=>(hb.block _ (aG (h.m0 e))).trans (h.m0 e),fun e=>(hb.block _ (aG (h.m1 e))).trans (h.m1 e),ai hb h.flt⟩) (by kernel_rfl) (fun M φ W2 hJ hcl F l hl hF=> ?_) (fun M φ W5 hM hJ=> ?_)
    ·obtain⟨q1,q2,sv,q3,q4⟩:=hM4.below (aH _ _).drew;exact⟨au b2 q1,⟨sv,q3⟩,fun _=>⟨q1,q2,sv,q3,q4⟩,fun _=>(q1.block _ l1).trans nM2,(fun e=>by cases e),(q1.block _ l2).trans nF2⟩
    ·simp only[kn,dk,nk,dX,aT,aZ,Act.put,aC,aK,aJ]at hl;subst hl;simp only[dm,Nat.reduceAdd]at hF;obtain⟨s0,nM⟩:=hJ.mach;have zz:=ak 3 nM;dsimp only[kn,dk,nk,dJ,eZ,eh,Act.put];and_intros;all_goals first|exact trivial|intro hw hn hm K hK
     ·go_simp;refine(sM w3 gm lv day (k:Int) [] f W2 (hJ.ahead hm) (by simp)).mono ?_;rintro e' W' ⟨rfl,hM,hfr⟩;have n4:=hn 4 _ rfl (by kernel_rfl);obtain⟨q1,q2,sv,q3,q4⟩:=hM;exact hK _ _ ⟨rfl,au b2 q1,⟨sv,q3⟩,(fun e=>by simp at e),fun _=>(hfr _ (aG (hJ.m0 n4)) (by omega)).trans (hJ.m0 n4),(fun e=>by simp[n4]at e),(hfr _ (aG hJ.flt) (by omega)).trans hJ.flt⟩
     ·go_simp;exact hK _ _ ⟨rfl,aH _ _⟩
     ·go_simp;exact hK _ _ ⟨rfl,aH _ _⟩
     ·go_simp;exact hK _ _ ⟨rfl,aH _ _⟩
     ·have q0:=hw ⟨0,.data⟩ (by simp) rfl rfl;refine eA 61 _ _ rfl _ (mv f) (by simp[Act.eval,hF]) (by simp[Act.eval,hF]) _ _ (hJ.m0 hm) (a7 _) (by simp[bP]) (dN _) ?_;exact hK undef _ ⟨trivial,below_setRow hJ.bel (aA _) _,⟨_,(aU _ _ _ _ (by omega)).trans nM⟩,(fun e=>by simp[q0]at e),(fun e=>by simp at e),fun _=>aL _ _ _ _ _ _ (hJ.m0 hm),(aU _ _ _ _ (by omega)).trans hJ.flt⟩
     ·go_simp;exact hK _ _ ⟨rfl,hJ.bel,hJ.mach,fun e=>hJ.ahead (by simpa using e),fun e=>hJ.m0 (by simpa using e),fun e=>hJ.m1 (by simpa using e),hJ.flt⟩
     ·have q5:=hw ⟨5,.chain⟩ (by simp) rfl rfl;have q0:=hcl 5 _ rfl q5 ⟨0,.phase⟩ (by simp) rfl rfl;have q4:=hcl 5 _ rfl q5 ⟨4,.chain⟩ (by simp) rfl rfl;refine eA 47 _ _ rfl _ #[ag 0,ag 0] (by simp[Act.eval,hF]) (by simp[Act.eval,hF]) _ _ hJ.flt (by kernel_rfl) (by simp) (by simp[Value.oneCell']) ?_;exact hK undef _ ⟨trivial,below_setRow hJ.bel (Nat.le_succ _) _,⟨_,(aU _ _ _ _ (by omega)).trans nM⟩,(fun e=>by simp[q0]at e),(fun e=>by simp[q4]at e),fun _=>(aU _ _ _ _ (by omega)).trans (hJ.m1 q4),aL _ _ _ _ _ _ hJ.flt⟩
    ·have h1:=hJ.m1 (hM 4 (by decide) rfl);have h2:=hJ.flt;have HB:=aY hJ.bel;simp only[kn,dk,nk,ef,aT,aZ,Act.put,aC,aK,aJ];clear hM hJ;go_wp2_with fail;exact wt w.heap.size (w.heap.size+1) f (k:Int) 0 0 rfl rfl rfl rfl h1 h2 ⟨rfl,HB.o⟩
  all_goals
   have hX0:(jg cs rule day).1≠0:=by rw[HX.o,hX6];decide
   have e1:f0=fun _=>false:=HF0.o.symm.trans (aw hX0)
   have e2:k0=0:=by rw[<-HK0.o,show ws cs rule day=0 from aw hX0];rfl
   subst e1 e2 hX6
   clear HIN HRT HE HX HF0 HK0 hX0
   have nM3:=aL _ _ _ (mv fun _=>false) _ _ nM2
   have nF3:=(aU _ w.heap.size (w.heap.size+1) (mv fun _=>false) (by omega)).trans nF2
   have b3:=below_setRow b2 (aA _) (mv fun _=>false)
   have HB:=aY fun c=>below_setRow b3 (by omega:w.heap.size<=w.heap.size+1) c
   have HM:=aY fun c=>(aU _ (w.heap.size+1) w.heap.size c (by omega)).trans nM3
   have HS:=aY fun c=>aL _ _ _ c _ _ nF3
   clear b2 b3 nM3
   go_wp2_with(first
    |(refine az rfl 61 _ _ rfl _ _ rfl rfl _ _ nM2 (a7 _) (by simp[bP]) (dN _) ?_)
    |(refine az rfl 47 _ _ rfl _ _ rfl rfl _ _ nF3 (by kernel_rfl) (by simp) (by simp[Value.oneCell']) ?_))
   exact wt w.heap.size (w.heap.size+1) (fun _=>false) 0 _ 0 rfl rfl rfl rfl (HM.o _) (HS.o _) ⟨rfl,HB.o _⟩
 ·have hE:jg cs rule day=jH cs:=ax he;have e1:pP cs rule day=fun _=>false:=aw (by rw[hE];exact he);have e2:ws cs rule day=0:=aw (by rw[hE];exact he);rw[hE,e1,e2];obtain⟨X,hX⟩:=aq (jH cs);rw[hX]at he cW⊢;obtain⟨er,at0⟩:=X;dsimp only at he cW⊢;obtain⟨at_,hat⟩: ∃q:Int,(at0:Int)=q:=⟨_,rfl⟩
  rw[hat]at cW⊢;have hb0:(er==0)=false:=ba.2 he;have hbn:(er !=0)=true:=(by simpa using he);clear he h hcc hX hE e1 e2 hat;subst elv;go_enter func187,ntmps187;go_wp2_with fail;refine cW.mono ?_;rintro e w1 ⟨rfl,hb1⟩;have b1:=au bA hb1;have nM1:=ai hb1 nM0;have nF1:=ai hb1 nF0;have bF:=am w1 (.cells #[ag er,ag at_] 47);have nG:=aB w1 (.cells #[ag er,ag at_] 47);have nM2:=ai bF nM1;have nF2:=ai bF nF1;have b2:=au b1 bF;have hl1:=aG nM1;have hl2:=aG nF1;generalize hw2:w1.alloc (.cells #[ag er,ag at_] 47)=w2 at*;have zG:=ak 0 nG;clear cW hb1 nM1 nF1 bF nM0 nF0 hwA bA b1;go_wp2_with fail;clear hw2;refine dz (fun M _=>FtJ w w.heap.size w1.heap.size er at_ M) [kn 16 (.agg (mv fun _=>false)),kn 17 (.agg #[ag er,ag at_]),nk,kn 7 (ag 0),nk] (fun _=>⟨b2.trans ((aH w2.heap.size w2).drew.mono b2.size),nM2,nG,_,_,nF2,(fun e=>by cases e)⟩) (fun _ _ _ _ hb h=>⟨au h.bel hb,ai hb h.msk,ai hb h.src,h.flt.imp fun _ q=>q.imp fun _ q=>⟨ai hb q.1,q.2⟩⟩) (by kernel_rfl) (fun M φ W2 hJ hcl F l hl hF=> ?_) (fun M φ W5 hM hJ=> ?_)
  ·simp only[kn,nk,dX,aT,aZ,Act.put,aC,aK,aJ]at hl;subst hl;simp only[dm,Nat.reduceAdd]at hF;obtain⟨xa,xb,nf,hf⟩:=hJ.flt;dsimp only[kn,nk,dJ,eZ,eh,Act.put];and_intros;all_goals first|exact trivial|intro hw hn hm K hK
   ·go_simp;exact hK _ _ ⟨rfl,aH _ _⟩
   ·refine eP 47 _ rfl _ (by simp[Act.eval,hF]) _ _ _ _ hJ.src me rfl (by kernel_rfl) ?_;exact hK _ _ ⟨rfl,aH _ _⟩
   ·refine eA 61 _ _ rfl _ (mv fun _=>false) (by simp[Act.eval,hF]) (by simp[Act.eval,hF]) _ _ hJ.msk (a7 _) (by simp[bP]) (dN _) ?_;exact hK undef _ ⟨trivial,below_setRow hJ.bel (aA _) _,aL _ _ _ _ _ _ hJ.msk,(aU _ _ _ _ (by omega)).trans hJ.src,_,_,(aU _ _ _ _ (by omega)).trans nf,fun e=>hf (by simpa using e)⟩
   ·go_simp;exact hK _ _ ⟨rfl,aH _ _⟩
   ·refine eA 47 _ _ rfl _ #[ag er,ag at_] (by simp[Act.eval,hF]) (by simp[Act.eval,hF]) _ _ nf (by kernel_rfl) (by simp) (by simp[Value.oneCell']) ?_;exact hK undef _ ⟨trivial,below_setRow hJ.bel (Nat.le_succ _) _,(aU _ _ _ _ (by omega)).trans hJ.msk,(aU _ _ _ _ (by omega)).trans hJ.src,_,_,aL _ _ _ _ _ _ nf,fun _=>⟨rfl,rfl⟩⟩
  ·have h1:=hJ.msk;obtain⟨xa,xb,h2,hf⟩:=hJ.flt;obtain⟨rfl,rfl⟩:=hf (hM 4 (by decide) rfl);have HB:=aY hJ.bel;simp only[kn,nk,ef,aT,aZ,Act.put,aC,aK,aJ];clear hM hJ;go_wp2_with fail;exact wt w.heap.size (w.heap.size+1) (fun _=>false) 0 _ _ rfl rfl rfl rfl h1 h2 ⟨rfl,HB.o⟩
end Go.Proofs.YtjkilacmkbmmbaaGreatDoor
