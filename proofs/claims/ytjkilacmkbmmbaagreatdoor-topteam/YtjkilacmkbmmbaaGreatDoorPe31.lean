/- Texts of the proof. -/
import Derived.Test.YtjkilacmkbmmbaaGreatDoorPe30
set_option maxRecDepth 100000
set_option maxHeartbeats 8000000
namespace Go.Proofs.YtjkilacmkbmmbaaGreatDoor
open Go.Proofs.Tryz Go.RowKit Lx Vx Mx Msk
section
theorem svI:(prog.info? 35).map (fun i=>(i.zero,i.size,i.bytes))=some (some (.agg #[ag 0,ag 0,ag 0,af]),4,48):=by kernel_rfl
theorem PQ:prog.underlying 66=some (.slice 35):=by kernel_rfl
theorem vu {s:Sv}{n:Int}(h:dW s n=0):s.roles.length<=1000/\ ∀l∈s.roles,l.length<=1000:=by
 unfold dW at h;split at h
 ·cases h
 ·split at h
  ·cases h
  ·refine⟨by omega,?_⟩
   have: ∀l:List (List Int),jf n l=0-> ∀p∈l,p.length<=1000:=fun l=>by
    induction l with
    |nil=>intro _ p hp;cases hp
    |cons q l ih=>
     intro h p hp;unfold jf at h;by_cases hq:gG q n=0
     ·rw[aw (by simpa using hq)]at h;rcases bh.1 hp with rfl|hp
      ·unfold gG at hq;split at hq
       ·cases hq
       ·omega
      ·exact ih h p hp
     ·rw[ay hq]at h;exact absurd h hq
   exact this _ h
def qB (wX:World)(B T size n:Nat)(v:Value)(xs:List Value)(c:Array Value)(v':Value)(W0 W:World):Prop:=ao wX W0/\W0.grownBy W v.ownBlock/\(v'.ownBlock=v.ownBlock\/v'.ownBlock=some W0.heap.size)/\W.ownsRow B T size v' (n+1) (xs++c.toList)
structure SvJ (wX:World)(B gD:Nat)(s:Sv)(v:Value)(ns:Nat)(ss:List (Sv×Value))(M:Nat->Bool)(φ:Nat->Value)(W:World):Prop where
 bel:M 9=false->ao wX W
 cop:M 7=true->M 9=false-> ∃p k,φ 33= .agg (svC (s,.slice p s.roles.length k))/\Rob (fun q=>wX.heap.size<=q) (fun u=>fo u (.slice p s.roles.length k) s.roles) W
 one:M 8=true->M 9=false-> ∃g c x,φ 34= .slice (some (ae g 0)) 1 c/\φ 33= .agg x/\W.heap[g]? =ah x 35
 app:M 9=true->M 13=false-> ∃g c p k W0,φ 35= .slice (some (ae g 0)) (ns+1) c/\qB wX B 35 4 ns v (svF ss) (svC (s,.slice p s.roles.length k)) (φ 35) W0 W/\Rob (fun q=>wX.heap.size<=q/\q<W0.heap.size) (fun u=>fo u (.slice p s.roles.length k) s.roles) W
 sto:M 13=true-> ∃g c p k W0 W1,φ 35= .slice (some (ae g 0)) (ns+1) c/\qB wX B 35 4 ns v (svF ss) (svC (s,.slice p s.roles.length k)) (φ 35) W0 W1/\Below W1.heap.size (W1.setCell ⟨gD,2,none⟩ (φ 35)) W/\Rob (fun q=>wX.heap.size<=q/\q<W0.heap.size) (fun u=>fo u (.slice p s.roles.length k) s.roles) W
theorem qB.below {wX:World}{B T size n:Nat}{v:Value}{xs:List Value}{c:Array Value}{v':Value}{W0 W W':World}(h:qB wX B T size n v xs c v' W0 W)(hb:ao W W'):qB wX B T size n v xs c v' W0 W':=⟨h.1,⟨hb.os.trans h.2.1.os,hb.tape.trans h.2.1.tape,hb.output.trans h.2.1.output,a6 h.2.1.size hb.size,fun k hk hn=>(hb.block k (aO hk h.2.1.size)).trans (h.2.1.block k hk hn)⟩,h.2.2.1,bp h.2.2.2 fun b hq=>hb.block b (h.2.2.2.lt b hq).2⟩
theorem KB (ss:List (Sv×Value))(p:Sv×Value):svF (ss++[p])=svF ss++(svC p).toList:=by simp[svF]
theorem DkM.addSv {B gD:Nat}{d:Dk}{t:Tr}{rv cv vv kv:Value}{ss:List (Sv×Value)}{aa:List (Ap×Value)}{wX W0 W1 W:World}{s:Sv}{v v':Value}(hm:DkM B gD d t rv cv vv kv ss aa wX)(hG:qB wX B 35 4 ss.length t.sv (svF ss) (svC (s,v)) v' W0 W1)(hb:Below W1.heap.size (W1.setCell ⟨gD,2,none⟩ v') W)(hrob:Rob (fun q=>wX.heap.size<=q/\q<W0.heap.size) (fun u=>fo u v s.roles) W):
  DkM B gD {d with svs:=d.svs++[s]} {t with sv:=v'} rv cv vv kv (ss++[(s,v)]) aa W/\Kd gD t {t with sv:=v'} wX W:=by
 obtain⟨hb0,hgr,hv,hown⟩:=hG;have hm0:=hm.below hb0;have hlt:=aF hm.blk;have hkd:=Cc (t':={t with sv:=v'}) (k:=2) hm0 (.inr (.inl rfl)) hgr hv (.inr (.inl ⟨rfl,rfl⟩));have blk2:=(hgr.block gD (aF hm0.blk) fun e=>iu hm0.svs hm0.blk (by decide) e.symm).trans hm0.blk;have hne: ∀b,v'.ownBlock=some b->b≠gD:=fun b hb' e=>iu hown blk2 (by decide) (by rw[hb',e]);have hbW:Below (W1.setCell ⟨gD,2,none⟩ v').heap.size (W1.setCell ⟨gD,2,none⟩ v') W:=hb.mono (by simp);have hkW:=hkd.trans (Kd.of hbW);have keep: ∀{e s n:Nat} {u:Value} {xs:List Value},(W1.setCell ⟨gD,2,none⟩ v').ownsRow B e s u n xs->W.ownsRow B e s u n xs:=fun hr=>bp hr fun b hq=>hbW.block b (hr.lt b hq).2;refine⟨hm0.turn hkW (bt hbW (aX W1 gD 2 _ _ v' blk2)) rfl rfl rfl (keep (pO ⟨_,hm0.blk⟩ hm0.res hm0.svs (by decide) (by decide) hgr)) (keep (bp ?_ fun b hq=>aN W1 ⟨gD,2,none⟩ b v' (hne b hq))) (keep (pO ⟨_,hm0.blk⟩ hm0.aps hm0.svs (by decide) (by decide) hgr)) (by simp[hm0.sve]) hm0.ape (fun p hp=> ?_) (fun p hp=> .inl ⟨p.1,hp,rfl⟩),(Kd.of hb0).trans hkW⟩
 ·rw[aL,KB];exact hown
 ·rcases bJ.1 hp with hp|hp
  ·exact .inl hp
  ·rw[bv.1 hp];refine .inr (hrob.move (aA _) (fun _ _ _=>rfl) fun q hl hq=>⟨⟨by omega,lG hm.res (.inr hq.1),fun e=> ?_,lG hm.aps (.inr hq.1)⟩,fun hx=>by have:=(hm.nx q hx).1;omega⟩);rcases hv with e'|e'
   ·have:=(hm0.svs.lt q (by rw[<-e',<-e])).2;have:=(hm.svs.lt q (by rw[<-e',<-e])).2;omega
   ·have:q=W0.heap.size:=aK (e.trans e');omega
section
variable {B gD:Nat} {d:Dk} {t:Tr}
theorem FG (s:Sv)(p:Option Addr)(c:Nat)(w:World)(h:dE B gD d t w)(hr:fo w (.slice p s.roles.length c) s.roles):Calls prog 49 #[ab gD 0,.agg (svC (s,.slice p s.roles.length c))] w (tR B gD (rx d s) t w):=by
 obtain⟨wA,hA,bA,nA⟩:=nb w (svC (s,.slice p s.roles.length c)) 35;obtain⟨wB,hB,bB,nB⟩:=nb wA #[ag 0,ag 0,ag 0,ag 0,af,af] 28;have hsB:wB.heap.size=wA.heap.size+1:=by rw[<-hB];simp
 have hsA:wA.heap.size=w.heap.size+1:=by rw[<-hA];simp
 have hbw:=au bA bB;have hdB:=h.opened (q:=wA.heap.size) bA.size hsB hbw;have HDB:=aD hdB;have HBW:=aD hbw;have nA':=bt bB nA;have HRR:=aD (hr.below hbw);obtain⟨hok,rv,cv,vv,kv,ss,aa,hm⟩:=hdB;have hss:ss.length=d.svs.length:=by rw[<-hm.sve,aZ]
 obtain⟨ps,cs,hsv⟩:=bU hm.svs;obtain⟨pe,ce,hev⟩:=bU hm.res;obtain⟨ns,hns⟩:=aq ss.length;obtain⟨ne,hne⟩:=aq d.res.length;rw[hns]at hsv;rw[hne]at hev;have z2:wB.cell? (ae gD 2)=some (.slice ps ns cs):=(cr (v:=t.sv) 2 hm.blk rfl).trans (congrArg some hsv);have z1:wB.cell? (ae gD 1)=some (.slice pe ne ce):=(cr (v:=t.ev) 1 hm.blk rfl).trans (congrArg some hev);have hn8:ns<=8:=by rw[<-hns,hss];exact hok.sl
 have hn12:ne<=12:=by rw[<-hne];exact hok.rl
 have HNS:P3 (d.svs.length=ns):=by show _=_;rw[<-hss,hns]
 have HSS:=aD hns;have HNE:=aD hne;have HSV:P3 (t.sv= .slice ps ns cs):=hsv;have HM:=aD hm;have HOK:=aD hok;have hwA:w.heap.size<wA.heap.size:=by omega
 have hgl:gD<w.heap.size:=by
  obtain⟨_,_,_,_,_,_,_,hm0⟩:=h;exact aF hm0.blk
 have H0:=aD h;clear h hr hm hok hss hsv hev hns hne nA bA bB hbw hsA hsB;by_cases h8:8<=ns
 ·have h8':(8:Int)<=(ns:Int):=by omega
  have HP:P3 (rx d s=(noA 5,d)):=(by show _=_;unfold rx;rw[ay (by rw[HNS.o];exact h8)]);have cR:=fY 5 wB;go_enter func49,ntmps49;go_wp2_with fail;refine cR.mono ?_;rintro e w2 ⟨rfl,b2⟩;have n2:=bt b2 nB;have HO:=aD (gC (HDB.o.below b2) (Kd.of (au HBW.o b2)) (by omega) (anC (noA 5) (af) (af)));have HR:=aD (aJ _ _ _ (anC (noA 5) (af) (af)) _ _ n2);clear cR b2 nB;go_wp2_with(refine az rfl 28 _ _ rfl _ _ rfl rfl _ _ n2 (by kernel_rfl) rfl (by simp[anC,noA,Value.oneCell']) ?_)
  refine aU (v:= .agg (anC (noA 5) (af) (af))) ?_ rfl ?_
  ·exact a8 rfl _ _ wA.heap.size _ _ _ _ rfl HR.o anT rfl (by kernel_rfl)
  ·rw[HP.o];exact⟨t,_,_,rfl,HO.o.1,HO.o.2,gg _ _,eE _ _⟩
 ·have h8': ¬(8:Int)<=(ns:Int):=by omega
  obtain⟨er,her⟩:=aq (dW s ne);have HER:=aD her;go_enter func49,ntmps49;go_upto_region 3 with fail;refine dt (fun _ _ W=>ao wB W) [kn 14 (.agg (svC (s,.slice p s.roles.length c))),kn 15 (ab gD 0),kn 16 (ab gD 0),kn 17 (ab gD 0),kn 18 (ab gD 1),kn 19 (.slice pe ne ce),kn 20 (ag (ne:Int)),kn 21 (ag er),kn 5 (ag er)] (fun _=>(aG _ _).drew) (fun _ _ _ _ hb h=>au h hb) (by kernel_rfl) ?_ ?_
  ·rintro M φ W hb _ F l hl hF;have n1:=bt hb nA';have z1:=aj hb z1;have cW:=xA s (.slice p s.roles.length c) (ne:Int) W (HRR.o.below hb);rw[her]at cW;clear her nA' nB z2;simp only[kn,dN,aQ,aW,Act.put,aB,aI,aH]at hl;subst hl;simp only[dg,Nat.reduceAdd]at hF;dsimp only[kn,dC,en,dS,Act.put];and_intros;all_goals first|exact trivial|intro hw hn hm K hK
   all_goals try (go_simp;with_reducible exact hK _ _ ⟨rfl,aG _ _⟩)
   ·show Oper.wp _ _ _ _ _ _;refine d9 35 _ rfl _ (by simp[Act.eval,hF]) _ _ _ _ n1 svT rfl (by kernel_rfl) ?_;exact hK _ _ ⟨rfl,aG _ _⟩
   ·go_simp;refine cW.mono ?_;rintro r' W' ⟨rfl,hb'⟩;exact hK _ _ ⟨rfl,hb'⟩
  ·rintro M φ wX hM hb;simp only[kn,dP,aQ,aW,Act.put,aB,aI,aH];have nAX:=bt hb nA';have nBX:=bt hb nB;have y2:=aj hb z2;have HBX:=aD hb;have hmX:=HM.o.below hb;have HMX:=aD hmX;clear hM hb nA' nB z1 z2 her hmX hA hB;by_cases h0:er=0
   ·subst h0;have hsm:=vu HER.o;have hmX:=HMX.o;have hgX:=aF hmX.blk;have hown:wX.ownsRow B 35 4 (.slice ps ns cs) ns (svF ss):=(by have:=hmX.svs;rw[HSS.o]at this;rw[<-HSV.o];exact this);have hBX:B<=wX.heap.size:=(by have:=hmX.lo;omega);go_upto_region 6 with fail;refine dt (SvJ wX B gD s (.slice ps ns cs) ns ss) [kn 26 (ab gD 0),kn 27 (ab gD 0),kn 28 (ab gD 0),kn 29 (ab gD 0),kn 30 (ab gD 2),kn 31 (.slice ps ns cs),kn 32 (.agg (svC (s,.slice p s.roles.length c))),td 33,td 34,td 35,kn 36 (ab gD 0),kn 37 (ab gD 0),kn 38 (ab gD 2),nk] (fun _=>⟨fun _=>(aG _ _).drew,(fun h=>by cases h),(fun h=>by cases h),(fun h=>by cases h),(fun h=>by cases h)⟩) (fun _ _ _ _ hb h=>⟨fun c=>(h.bel c).trans (hb.mono (h.bel c).size),fun c c'=> ?_,fun c c'=> ?_,fun c c'=> ?_,fun c=> ?_⟩) (by kernel_rfl) ?_ ?_
    ·obtain⟨p',c',e,hr⟩:=h.cop c c';exact⟨p',c',e,hr.below hb⟩
    ·obtain⟨g,c1,x,e1,e2,hg⟩:=h.one c c';exact⟨g,c1,x,e1,e2,bt hb hg⟩
    ·obtain⟨g,c1,p',k',W0,e1,hg,hr⟩:=h.app c c';exact⟨g,c1,p',k',W0,e1,hg.below hb,hr.below hb⟩
    ·obtain⟨g,c1,p',k',W0,W1,e1,hg,hb1,hr⟩:=h.sto c;exact⟨g,c1,p',k',W0,W1,e1,hg,hb1.trans (hb.mono (by have:=hb1.size;simpa using this)),hr.below hb⟩
    ·rintro M φ W hJ hc F l hl hF;have c98:M 9=true->M 8=true:=fun h=>hc 9 _ rfl h ⟨8,.data⟩ (by simp) rfl rfl;have c87:M 8=true->M 7=true:=fun h=>hc 8 _ rfl h ⟨7,.data⟩ (by simp) rfl rfl;have cD9:M 13=true->M 9=true:=fun h=>hc 13 _ rfl h ⟨9,.data⟩ (by simp) rfl rfl;have HCS:=aD (fE c98 (fE c87 cD9));have HJ:=aD hJ;clear hc c98 c87 cD9 hJ;simp only[kn,td,nk,dN,aQ,aW,Act.put,aB,aI,aH]at hl;subst hl;simp only[dg,Nat.reduceAdd]at hF;dsimp only[kn,dk,td,nk,dC,en,dS,Act.put];and_intros;all_goals first|exact trivial|intro hw hn hm K hK
     all_goals try (go_simp;with_reducible exact hK _ _ ⟨rfl,aG _ _⟩)
     ·have hb:=HJ.o.bel (hn 9 _ rfl (by kernel_rfl));have y:=aj hb y2;go_simp;exact hK _ _ ⟨rfl,aG _ _⟩
     ·have n1:=bt (HJ.o.bel (iJ HCS.o.1 (iJ HCS.o.2.1 (hn 7 _ rfl (by kernel_rfl))))) nAX;show Oper.wp _ _ _ _ _ _;refine d9 35 _ rfl _ (by simp[Act.eval,hF]) _ _ _ _ n1 svT rfl (by kernel_rfl) ?_;exact hK _ _ ⟨rfl,aG _ _⟩
     ·have h8:=iJ HCS.o.2.1 hm;have h9:=iJ HCS.o.1 h8;have hD:=iJ HCS.o.2.2 h9;have hb:=HJ.o.bel h9;have cC:=Fz s p c W ((HRR.o.below HBX.o).below hb) hsm.1 hsm.2;clear hw hn;go_simp;refine cC.mono ?_;rintro r' W' ⟨p',c',rfl,hrob,hb'⟩;exact hK _ _ ⟨trivial,fun _=>au hb hb',fun _ _=>⟨p',c',dI,hrob.move (aA _) (fun _ _ _=>rfl) fun q _ hq=>a6 hb.size hq⟩,fun c _=>lH h8 c (by decide),fun c _=>lH h9 c (by decide),fun c=>lH hD c (by decide)⟩
     ·have h7:=hw ⟨7,.data⟩ (by simp) rfl rfl;have h9:=iJ HCS.o.1 hm;have hD:=iJ HCS.o.2.2 h9;have hb:=HJ.o.bel h9;obtain⟨p',c',e33,hrob⟩:=HJ.o.cop h7 h9;have hbA:=am W (.cells (svC (s,.slice p' s.roles.length c')) 35);have HF:=aD hF;rw[e33]at hF;clear hw hn;go_simp;exact hK _ _ ⟨trivial,fun _=>au hb hbA,fun _ _=>⟨p',c',(dy (by decide)).trans e33,hrob.below hbA⟩,fun _ _=>⟨W.heap.size,1,_,dI,(dy (by decide)).trans e33,aC _ _⟩,fun c _=>lH h9 c (by decide),fun c=>lH hD c (by decide)⟩
     ·have h8:=hw ⟨8,.data⟩ (by simp) rfl rfl;have hD:=iJ HCS.o.2.2 hm;have hb:=HJ.o.bel hm;obtain⟨p',c',e33,hrob⟩:=HJ.o.cop (HCS.o.2.1 h8) hm;obtain⟨g,c1,x,e34,e33',hg⟩:=HJ.o.one h8 hm;obtain rfl:svC (s,.slice p' s.roles.length c')=x:=(by rw[e33]at e33';injection e33');have hownW:=bp hown fun b hq=>hb.block b (hown.lt b hq).2;show Oper.wp _ _ _ _ _ _;refine lL (ops:= #[]) rfl (ik (c:=c1) rfl _ _ 66 35 rfl PQ svI rfl (by decide) (by decide) (by simp[Act.eval,hF]) hownW (by simp[Act.eval,hF,e34]) hg rfl (uL _ _ _ _) (by omega) (a6 hBX hb.size) ?_);rintro v' w' ho hgr hbl ⟨g2,c2,rfl⟩;refine⟨rfl,hK _ _ ⟨trivial,fun c=>by simp at c,fun _ c=>by simp at c,fun _ c=>by simp at c,fun _ _=>⟨g2,c2,p',c',W,dI,?_,Rob.move (P:=fun q=>wX.heap.size<=q/\q<W.heap.size) (w:=W) (fun u hu ha=>hrob u hu fun q hq hl=>ha q ⟨hq,hl⟩ hl) hgr.size (fun q hq hl=>hgr.block q hl fun e=>by have:=(hown.lt q e.symm).2;omega) fun _ _ h=>h⟩,fun c=>lH hD c (by decide)⟩⟩;rw[dI];exact⟨hb,hgr,hbl,ho⟩
     ·have h9:=hw ⟨9,.data⟩ (by simp) rfl rfl;obtain⟨g,c1,p',c',W0,e35,hG,hrob⟩:=HJ.o.app h9 hm;have blkW:=(hG.2.1.block gD (aO hgX hG.1.size) fun e=>iu hown hmX.blk (by decide) e.symm).trans (bt hG.1 hmX.blk);have y:=cr 2 blkW rfl;have x2:=bl _ _ 2 _ _ blkW;rw[e35]at hF;clear hw hn blkW;go_simp;refine hK undef _ ⟨trivial,fun c=> ?_,fun _ c=> ?_,fun _ c=> ?_,fun _ c=>by simp at c,fun _=>⟨g,c1,p',c',W0,W,e35,hG,by rw[e35];exact aG _ _,hrob.move (by simp) (fun q hq _=>aN _ _ _ _ (fun e=>by have:q=gD:=e;omega)) fun _ _ h=>h⟩⟩
      ·rw[orZ (by decide),h9]at c;cases c
      ·rw[orZ (by decide),h9]at c;cases c
      ·rw[orZ (by decide),h9]at c;cases c
    ·rintro M φ W hM hJ;obtain⟨g,c1,p',c',W0,W1,e35,hG,hbW,hrob⟩:=hJ.sto (hM 13 (by decide) rfl);simp only[kn,td,nk,dP,aQ,aW,Act.put,aB,aI,aH];rw[e35]at hG hbW;rw[e35];obtain⟨hm2,hk2⟩:=hmX.addSv (d:=d) (s:=s) (by rw[HSS.o];show qB wX B 35 4 ns t.sv _ _ _ _ _;rw[HSV.o];exact hG) hbW hrob;have hok:=HOK.o;have hl1:((d.svs++[s]).length:Int)=(d.svs.length:Int)+1:=(by simp)
     have hd2:dE B gD {d with svs:=d.svs++[s]} (({t with sv:= .slice (some (ae g 0)) (ns+1) c1}:Tr).add wA.heap.size) W:=⟨⟨hok.flt,hok.vl,hok.kl,hok.rl,by show(d.svs++[s]).length<=8;rw[aL,HNS.o];simp;omega,hok.al,hok.gv,hok.nm,fun q hq=>by
      rcases bJ.1 hq with hq|hq
      ·exact hok.sv q hq
      ·rw[bv.1 hq];show dW s (d.res.length:Int)=0;rw[HNE.o];exact HER.o,fun a ha=>by
      obtain⟨q1,q2⟩:=hok.ap a ha;exact⟨⟨q1.1,by have:=q1.2;show a.sv<((d.svs++[s]).length:Int);omega⟩,q2⟩⟩,_,_,_,_,_,_,hm2⟩
     have hkw:Kd gD t {t with sv:= .slice (some (ae g 0)) (ns+1) c1} w W:=Kd.opened (q:=wA.heap.size) (au HBW.o HBX.o) hk2;have HP:P3 (rx d s=(jL ns,{d with svs:=d.svs++[s]})):=(by show _=_;unfold rx;rw[aw (by rw[HNS.o];exact h8),HNE.o,HER.o,aw (by simp),HNS.o]);have nBW:=(hk2.blk wA.heap.size (hmX.nx _ bc).2.2 (aF nBX)).trans nBX;have y3:W.cell? (ae gD 2)=some (.slice (some (ae g 0)) (ns+1) c1):=cr 2 hm2.blk rfl;have HO:=aD (gC hd2 hkw (by omega) (anC (jL ns) (af) (af)));have HR:=aD (aJ _ _ _ (anC (jL ns) (af) (af)) _ _ nBW);have hw1:IntKind.i64.wrap ((ns:Int)+1-1)=(ns:Int):=(by rw[bG];omega);clear hM hJ hG hbW hrob hm2 hk2 hd2 hkw hok hl1 y2 nAX nBX hmX hown hsm;go_wp2_with(refine az rfl 28 _ _ rfl _ _ rfl rfl _ _ nBW (by kernel_rfl) rfl (by simp[Value.oneCell']) ?_)
     refine aU (v:= .agg (anC (jL ns) (af) (af))) ?_ rfl ?_
     ·exact a8 rfl _ _ wA.heap.size _ _ _ _ rfl HR.o anT rfl (by kernel_rfl)
     ·rw[HP.o];exact⟨_,_,_,rfl,HO.o.1,HO.o.2,gg _ _,eE _ _⟩
   ·have h0':(er !=0)=true:=(by simpa using h0);have HP:P3 (rx d s=(noA er,d)):=(by show _=_;unfold rx;rw[aw (by rw[HNS.o];exact h8),HNE.o,HER.o,ay h0]);clear h0;have cR:=fY er wX;go_wp2_with fail;refine cR.mono ?_;rintro e w2 ⟨rfl,b2⟩;have n2:=bt b2 nBX;have hb2:=au HBX.o b2;have HO:=aD (gC (HDB.o.below hb2) (Kd.of (au HBW.o hb2)) (by omega) (anC (noA er) (af) (af)));have HR:=aD (aJ _ _ _ (anC (noA er) (af) (af)) _ _ n2);clear cR b2 hb2 nBX;go_wp2_with(refine az rfl 28 _ _ rfl _ _ rfl rfl _ _ n2 (by kernel_rfl) rfl (by simp[anC,noA,Value.oneCell']) ?_)
    refine aU (v:= .agg (anC (noA er) (af) (af))) ?_ rfl ?_
    ·exact a8 rfl _ _ wA.heap.size _ _ _ _ rfl HR.o anT rfl (by kernel_rfl)
    ·rw[HP.o];exact⟨t,_,_,rfl,HO.o.1,HO.o.2,gg _ _,eE _ _⟩
end
end
def mkF (l:List M):List Value:=l.flatMap fun f=>(mv f).toList
theorem pP (f:M):(mv f).size=23:=bO f
theorem MV (n:Nat):(kH n).toList=mkF (List.replicate n fun _=>false):=by
 apply List.ext_getElem?;intro i;by_cases hi:i<n*23
 ·have h1:i/23<n:=Nat.div_lt_of_lt_mul (by omega);have h2:i%23<23:=Nat.mod_lt _ (by omega);have h3:i=i/23*23+i%23:=(by omega);have hl:(List.replicate n (fun _=>false:M))[i/23]? =some fun _=>false:=(by rw[fG,ay h1]);rw[h3,bo,zY h1 h2];exact(oj pP hl _ h2).symm
 ·rw[ep (by simp[kH,madeCells];omega),ep (by unfold mkF;rw[ol pP,List.length_replicate];omega)]
theorem Ix (f:List Int->Bool)(F:Nat)(caps:Array Value)(ls:List (List Int))(rv:Value)(w:World)(eF: ∀args w,(callFunc F args).run prog w= .ok (.enter F args) w)(h:fo w rv ls)(hc: ∀l∈ls,∀sv W,ao w W->dQ W sv l->Calls prog F (#[sv]++caps) W fun e w'=>e= .returned (.bool (f l))/\ao W w'):
  Calls prog 161 #[rv,.func (.func F) #[] caps] w fun e w'=> ∃k:Int,e= .returned (ag k)/\decide (0<=k)=ls.any f/\ao w w':=by
 have HR:=aD h;obtain⟨p,c,rfl,hlen,hx0⟩:=h;have HC:=aD hc;obtain⟨n,hn⟩:=aq ls.length;have HN:=aD hn;rw[hn]at hlen⊢;have hn1:(n:Int)<9223372036854775808:=by omega
 clear hc hn hx0;go_enter func161,ntmps161;go_wp2_with fail;go_loopw [5,8] (fun _ t wr=> ∃(j:Nat),t=ag (j:Int)/\j<=n/\ao w wr/\ls.any f=(ls.drop j).any f) (fun _ t _=>n-(intOf t).toNat);case atStart=>exact⟨0,rfl,by omega,aG _ _,rfl⟩
 case round=>
  obtain⟨j,rfl,hj,hbr,hX⟩:=hrel;have hj0:(0:Int)<=(j:Int):=(by omega);by_cases hlt:j<n
  ·have hlt':(j:Int)<(n:Int):=(by omega);obtain⟨x,hx⟩: ∃x,ls[j]? =some x:=⟨ls[j]'(by have:=HN.o;omega),ax _⟩
   have hdr:(ls.drop j).any f=(f x||(ls.drop (j+1)).any f):=by
    obtain⟨h1,h2⟩:=aE.1 hx;rw[bx h1,h2];rfl
   rw[hdr]at hX;obtain⟨p',c',e',_,hcell⟩:=HR.o;injection e' with e1 e3 e2;subst e1 e2;obtain⟨g,o,sv,hpe,hce,hrow⟩:=hcell j x hx;subst hpe;have hce':=aj hbr hce;have c1:=HC.o x (aM hx) sv wr hbr (hrow.below hbr);obtain⟨ps,cs,rfl,_,_⟩:=hrow;obtain⟨b,hb⟩:=aq (f x);rw[hb]at c1 hX;have HX:=aD hX;have HB:=aD hbr;clear hX hb hx hcell hdr hce hbr e3;go_wp2_with fail;refine c1.mono ?_;rintro e w1 ⟨rfl,hb1⟩;have hbw:=au HB.o hb1;clear c1 hce' hb1;cases b with
   |true=>
    have HY:P3 (ls.any f=true):=HX.o;clear HX;go_wp2_with fail;go_ret;exact⟨j,rfl,by rw[HY.o];exact a7 hj0,hbw⟩
   |false=>
    have HY:P3 (ls.any f=(ls.drop (j+1)).any f):=HX.o;clear HX;go_wp2_with fail;go_roundw;case rel=>exact⟨j+1,by go_num,by omega,hbw,HY.o⟩
    case measure=>simp[intOf];omega
  ·have hlt': ¬(j:Int)<(n:Int):=(by omega)
   have HY:P3 (ls.any f=false):=by
    show _=_;rw[hX,dc (by have:=HN.o;omega)];rfl
   clear hX;go_wp2_with fail;go_ret;exact⟨-1,rfl,by rw[HY.o];rfl,hbr⟩
theorem yO (f:List Int->Bool)(F:Nat)(caps:Array Value)(ls:List (List Int))(rv:Value)(w:World)(eF: ∀args w,(callFunc F args).run prog w= .ok (.enter F args) w)(h:fo w rv ls)(hc: ∀l∈ls,∀sv W,ao w W->dQ W sv l->Calls prog F (#[sv]++caps) W fun e w'=>e= .returned (.bool (f l))/\ao W w'):
  Calls prog 133 #[rv,.func (.func F) #[] caps] w fun e w'=>e= .returned (.bool (ls.any f))/\ao w w':=by
 have c0:=Ix f F caps ls rv w eF h hc;obtain⟨p,c,rfl,hx1,hx0⟩:=h;clear hx0 hx1 hc;go_enter func133,ntmps133;go_wp2_with fail;refine c0.mono ?_;rintro e w1 ⟨k,rfl,hk,hb⟩;clear c0;obtain⟨b,hb'⟩: ∃q,ls.any f=q:=⟨_,rfl⟩
 rw[hb']at hk;have HE:=aD hb';clear hb';go_wp2_with fail;go_ret;exact⟨by rw[HE.o];rfl,hb⟩
theorem FH {g8 j:Nat}(l:List Int)(sv:Value)(W:World)(h:dQ W sv l)(n8:W.heap[g8]? =ah #[ag (j:Int)] 3):Calls prog 134 #[sv,ab g8 0] W fun e w'=>e= .returned (.bool (decide ((j:Int)∈l)))/\ao W w':=by
 have c1:=jo l sv (j:Int) W h;have z:=cr 0 n8 rfl;obtain⟨p,c,rfl,hx1,hx0⟩:=h;clear hx1 hx0 n8;go_enter func134,ntmps134;go_wp2_with fail;refine c1.mono ?_;rintro e w1 ⟨rfl,hb⟩;clear c1;go_wp2_with fail;go_ret;exact⟨rfl,hb⟩
section
theorem qS (d:Dk)(r day but:Int):Cor d (i8 d r day but).2:=sE d r day
theorem Iy (s:Sv)(day:Int){n j:Nat}(hj:j<n)(d:Dk):ij s day (n-j) j d=if s.roles.any (fun p=>decide ((j:Int)∈p))=true then((i8 d (j:Int) day (-1)).1::(ij s day (n-(j+1)) (j+1) (i8 d (j:Int) day (-1)).2).1,(ij s day (n-(j+1)) (j+1) (i8 d (j:Int) day (-1)).2).2) else(noM::(ij s day (n-(j+1)) (j+1) d).1,(ij s day (n-(j+1)) (j+1) d).2):=by
 rw[show n-j=(n-(j+1))+1 by omega];rfl
section
variable {B gD:Nat} {d:Dk} {t:Tr} {w w':World}
theorem dE.wr (h:dE B gD d t w)(hs:w.heap.size<=w'.heap.size)(hk: ∀k,k<w.heap.size->k∉t.xs->w'.heap[k]? =w.heap[k]?):dE B gD d t w':=by
 obtain⟨h0,rv,cv,vv,kv,ss,aa,h⟩:=h;have mv: ∀{Φ:World->Prop},Rob (Fx gD t) Φ w->Rob (Fx gD t) Φ w':=fun hR=>hR.move hs (fun k hf hl=>hk k hl hf.2) fun _ _ h=>h;have rk: ∀{e s n:Nat} {u:Value} {xs:List Value},w.ownsRow B e s u n xs->(∀q∈t.xs,some q≠u.ownBlock)->w'.ownsRow B e s u n xs:=fun hr hn=>bp hr fun b hb=>hk b (hr.lt b hb).2 fun hx=>hn b hx hb.symm;exact⟨h0,rv,cv,vv,kv,ss,aa,(hk gD (aF h.blk) fun hx=>(h.nx gD hx).2.2.1 rfl).trans h.blk,h.lo,mv h.rules,mv h.codes,mv h.vers,mv h.kept,rk h.res fun q hq=>(h.nx q hq).2.2.2.1,rk h.svs fun q hq=>(h.nx q hq).2.2.2.2.1,h.sve,fun p hp=>mv (h.svr p hp),rk h.aps fun q hq=>(h.nx q hq).2.2.2.2.2,h.ape,fun p hp=>mv (h.apr p hp),fun q hq=>⟨aO (h.nx q hq).1 hs,(h.nx q hq).2⟩⟩
theorem Kd.on {q:Nat}(h:Kd gD t t w w'):Kd gD (t.add q) (t.add q) w w':=⟨h.os,h.tape,h.output,h.size,h.blk,fun _ _ h=>h,rfl⟩
theorem Kd.off {q:Nat}(h:Kd gD (t.add q) (t.add q) w w'):Kd gD t t w w':=⟨h.os,h.tape,h.output,h.size,h.blk,fun _ _ h=>h,rfl⟩
structure FrJ (B gD:Nat)(t:Tr)(d e:Dk)(wX:World)(gm o:Nat)(c:Array Value)(M:Nat->Bool)(W:World):Prop where
 kd:M 7=false->Kd gD t t wX W
 st:M 7=false->dE B gD (bif M 5 then e else d) (t.add gm) W
 fin:M 7=true-> ∃W0,Kd gD t t wX W0/\dE B gD e (t.add gm) W0/\Below W0.heap.size (W0.setCells gm o c.toList) W
theorem Di (s:Sv)(p:Option Addr)(c:Nat)(day:Int)(w:World)(h:dE B gD d t w)(hr:Rob (Fx gD t) (fun u=>fo u (.slice p s.roles.length c) s.roles) w):Calls prog 94 #[ab gD 0,.agg (svC (s,.slice p s.roles.length c)),ag day] w fun e w'=> ∃gm,e= .returned (.slice (some (ae gm 0)) d.res.length d.res.length)/\w.heap.size<=gm/\w'.ownsRow w.heap.size 61 23 (.slice (some (ae gm 0)) d.res.length d.res.length) d.res.length (mkF (ij s day d.res.length 0 d).1)/\dE B gD (ij s day d.res.length 0 d).2 t w'/\Kd gD t t w w':=by
 obtain⟨wA,hA,bA,nA⟩:=nb w (svC (s,.slice p s.roles.length c)) 35;obtain⟨hok,rv,cv,vv,kv,ss,aa,hm⟩:=h.below bA;obtain⟨pe,ce,hev⟩:=bU hm.res;obtain⟨n,hne⟩:=aq d.res.length;rw[hne]at hev;have z1:wA.cell? (ae gD 1)=some (.slice pe n ce):=(cr (v:=t.ev) 1 hm.blk rfl).trans (congrArg some hev);have hn12:n<=12:=by rw[<-hne];exact hok.rl
 have hmk:=xL n (by omega) wA;obtain⟨wM,hM,bM,nM⟩:=nb wA (kH n) 61;have hsM:wM.heap.size=wA.heap.size+1:=by rw[<-hM];simp
 have hbw:=au bA bM;have hdM:=h.opened (q:=wA.heap.size) bA.size hsM hbw
 have hoM:wM.ownsRow wA.heap.size 61 23 (.slice (some (ae wA.heap.size 0)) n n) n (mkF (List.replicate n fun _=>false)):=by
  refine⟨by unfold mkF;rw[ol pP,List.length_replicate],.inr ⟨wA.heap.size,n,kH n,rfl,aA _,nM,aA _,by unfold maxLen;omega,by simp[kH,madeCells],?_⟩⟩;rw[MV,cj (by unfold mkF;rw[ol pP,List.length_replicate];exact aA _)]
 rw[hM]at hmk;have HN:=aD hne;have HDM:=aD hdM;have HOM:=aD hoM;have HBW:=aD hbw;have HRR:=aD hr;have HG:P3 (∀q,w.heap.size<=q->Gx gD t q):=fun q hq=>(h.fx (.inr hq)).1;have nAM:=bt bM nA;have hwA:w.heap.size<wA.heap.size:=by rw[<-hA];simp
 have hwM:wA.heap.size<wM.heap.size:=by omega
 have eF: ∀args w,(callFunc 134 args).run prog w= .ok (.enter 134 args) w:=fun _ _=>rfl;rw[hne];clear h hr hm hok hev hne nA bA bM hbw hdM hoM nM;go_enter func94,ntmps94;go_wp2_with fail;clear z1 hmk hA hM;go_loopw [8,18] (fun _ q wr=> ∃(j:Nat) (dd:Dk) (l:List M),q=ag (j:Int)/\j<=n/\Cor d dd/\dE B gD dd (t.add wA.heap.size) wr/\Kd gD t t w wr/\wr.ownsRow wA.heap.size 61 23 (.slice (some (ae wA.heap.size 0)) n n) n (mkF (l++List.replicate (n-j) fun _=>false))/\l.length=j/\wr.heap[w.heap.size]? =ah (svC (s,.slice p s.roles.length c)) 35/\ij s day n 0 d=(l++(ij s day (n-j) j dd).1,(ij s day (n-j) j dd).2)) (fun _ q _=>n-(intOf q).toNat);case atStart=>exact⟨0,d,[],rfl,by omega,Cor.refl d,HDM.o,Kd.of HBW.o,HOM.o,rfl,nAM,rfl⟩
 case round=>
  obtain⟨j,dd,l,rfl,hj,hco,hd,hk,hown,hlj,hbx,hX⟩:=hrel;have hj0:(0:Int)<=(j:Int):=(by omega);have hcr:dd.res=d.res:=(by obtain⟨_,_,rfl⟩:=hco;rfl);by_cases hjn:j<n
  ·have hjn':(j:Int)<(n:Int):=(by omega);rw[Iy s day hjn]at hX;obtain⟨wC,hC,bC,nC⟩:=nb wr #[ag (j:Int)] 3;have hkC:=hk.trans (Kd.of bC);have hdC:=hd.below bC;have hownC:=bp hown fun b hq=>bC.block b (hown.lt b hq).2;have hrC:=(hkC.rob HRR.o).here;have nAC:=bt bC hbx;have yb:wC.cell? (ae w.heap.size 3)=some (.slice p s.roles.length c):=cr 3 nAC rfl;have cC:=yO (fun p=>decide ((j:Int)∈p)) 134 #[ab wr.heap.size 0] s.roles (.slice p s.roles.length c) wC eF hrC (fun l _ sv W hW hrow=>FH l sv W hrow (bt hW nC));obtain⟨nr,hnr⟩:=aq s.roles.length;rw[hnr]at yb cC;have HNR:=aD hnr;obtain⟨bb,hbb⟩:=aq (s.roles.any (fun p=>decide ((j:Int)∈p)));rw[hbb]at cC hX;have HX:=aD hX;have HKC:=aD hkC;have HDC:=aD hdC;have HOC:=aD hownC;have HCO:=aD hco;have HLJ:=aD hlj;have HCR:=aD hcr;have HBX:=aD nAC;have hwr:wA.heap.size<wr.heap.size:=aO (hown.lt _ rfl).2 (aA _);clear hX hbb hnr hbx hown hk hkC hd hdC hownC hco hrC hlj hcr bC nAC;go_wp2_with fail;refine cC.mono ?_;rintro e w1 ⟨rfl,b1⟩;have hk1:=HKC.o.trans (Kd.of b1);have hd1:=HDC.o.below b1;have how1:=bp HOC.o fun b hq=>b1.block b (HOC.o.lt b hq).2;have nC1:=bt b1 nC;have nb1:=bt b1 HBX.o;clear cC yb nC hC HKC HDC HOC HBX b1;cases bb with
   |false=>
    have HD1:=aD hd1;have HK1:=aD hk1
    have HO1:P3 (w1.ownsRow wA.heap.size 61 23 (.slice (some (ae wA.heap.size 0)) n n) n (mkF ((l++[noM])++List.replicate (n-(j+1)) fun _=>false))):=by
     show World.ownsRow _ _ _ _ _ _ _
     have e:l++List.replicate (n-j) (fun _=>false:M)=(l++[noM])++List.replicate (n-(j+1)) fun _=>false:=by
      rw[show n-j=(n-(j+1))+1 by omega,List.replicate_succ,dm];rfl
     rw[<-e];exact how1
    have HZ:P3 (ij s day n 0 d=((l++[noM])++(ij s day (n-(j+1)) (j+1) dd).1,(ij s day (n-(j+1)) (j+1) dd).2)):=by
     show _=_;rw[HX.o,aw (by simp),dm];rfl
    have HNB:=aD nb1;clear HX hd1 hk1 how1 nC1 nb1;go_wp2_with fail;go_roundw;case rel=>exact⟨j+1,dd,l++[noM],by go_num,by omega,HCO.o,HD1.o,HK1.o,HO1.o,by rw[aL,HLJ.o];rfl,HNB.o,HZ.o⟩
    case measure=>simp[intOf];omega
   |true=>
    have hjr:(j:Int)<dd.res.length:=(by rw[HCR.o,HN.o];exact hjn');obtain⟨f,hf⟩:=aq ((i8 dd (j:Int) day (-1)).1);obtain⟨de,hde⟩:=aq ((i8 dd (j:Int) day (-1)).2);have HCE:P3 (Cor d de):=(by have:=HCO.o.trans (qS dd (j:Int) day (-1));rw[hde]at this;exact this)
    have HZ:P3 (ij s day n 0 d=((l++[f])++(ij s day (n-(j+1)) (j+1) de).1,(ij s day (n-(j+1)) (j+1) de).2)):=by
     show _=_;rw[HX.o,ay rfl,hf,hde,dm];rfl
    have hgx8:Gx gD t wr.heap.size:=HG.o _ (by omega);have hgxm:Gx gD t wA.heap.size:=HG.o _ (by omega);clear HX;go_upto_region 6 with fail;refine dt (fun M _ W=>FrJ B gD t dd de w1 wA.heap.size (j*23) (mv f) M W) [kn 25 (.slice (some (ae wA.heap.size 0)) n n),kn 26 (ag (j:Int)),kn 27 (ab gD 0),kn 28 (ag (j:Int)),kn 29 (ag day),dk 30 (.agg (mv f)),kn 31 (ab wA.heap.size (j*23)),nk] (fun _=>⟨fun _=>Kd.of (aG _ _).drew,fun _=>hd1.below (aG _ _).drew,(fun h=>by cases h)⟩) (fun _ _ _ _ hb h=>⟨fun c=>(h.kd c).trans (Kd.of hb),fun c=>(h.st c).below hb,fun c=> ?_⟩) (by kernel_rfl) ?_ ?_
    ·obtain⟨W0,h1,h2,h3⟩:=h.fin c;exact⟨W0,h1,h2,h3.trans (hb.mono (by have:=h3.size;rw[(fV _ _ _ _).2.2.2]at this;exact this))⟩
    ·rintro M φ W hJ hc F l' hl hF;have c75:M 7=true->M 5=true:=fun h=>hc 7 _ rfl h ⟨5,.data⟩ (by simp) rfl rfl;have HC:=aD c75;have HJ:=aD hJ;clear hc c75 hJ;simp only[kn,dk,nk,dN,aQ,aW,Act.put,aB,aI,aH]at hl;subst hl;simp only[dg,Nat.reduceAdd]at hF;dsimp only[kn,dk,nk,dC,en,dS,Act.put];and_intros;all_goals first|exact trivial|intro hw hn hm K hK
     all_goals try (go_simp;with_reducible exact hK _ _ ⟨rfl,aG _ _⟩)
     ·have z:=cr 0 (((HJ.o.kd (hn 7 _ rfl (by kernel_rfl))).blk _ hgx8 (aF nC1)).trans nC1) rfl;go_simp;exact hK _ _ ⟨rfl,aG _ _⟩
     ·have z:=cr 0 (((HJ.o.kd (iJ HC.o (hn 5 _ rfl (by kernel_rfl)))).blk _ hgx8 (aF nC1)).trans nC1) rfl;go_simp;exact hK _ _ ⟨rfl,aG _ _⟩
     ·have h7:=iJ HC.o hm;have hst:dE B gD dd (t.add wA.heap.size) W:=(by have:=HJ.o.st h7;rw[hm]at this;exact this);have cF:=B9 (j:Int) day (-1) W hst hj0 hjr;rw[hf,hde]at cF;clear hw hn;go_simp;refine cF.mono ?_;rintro r' W' ⟨rfl,hd',hk'⟩;exact hK _ _ ⟨rfl,fun _=>(HJ.o.kd h7).trans hk'.off,fun _=>hd',fun c=>lH h7 c (by decide)⟩
     ·have h5:=hw ⟨5,.data⟩ (by simp) rfl rfl;have hst:dE B gD de (t.add wA.heap.size) W:=(by have:=HJ.o.st hm;rw[h5]at this;exact this);have hkW:=HJ.o.kd hm;have howW:=bp how1 fun b hq=>hkW.blk b (HG.o b (by have:=(how1.lt b hq).1;omega)) (how1.lt b hq).2;have hth:W.there wA.heap.size (j*23) (mv f).size:=(by rw[bO];exact It howW hjn rfl);show Oper.wp _ _ _ _ _ _;refine wp_store_mid 61 _ _ rfl wA.heap.size (j*23) (mv f) (by simp[Act.eval,hF]) (by simp[Act.eval,hF]) hth (ba _) (dH _) ?_;refine hK undef _ ⟨trivial,fun c=>by simp at c,fun c=>by simp at c,fun _=>⟨W,hkW,hst,aG _ _⟩⟩
    ·rintro M φ W hM hJ;obtain⟨W0,hk0,hd0,hb0⟩:=hJ.fin (hM 7 (by decide) rfl);simp only[kn,dk,nk,dP,aQ,aW,Act.put,aB,aI,aH];have hlen:(l++List.replicate (n-j) (fun _=>false:Nat->Bool)).length=n:=(by rw[aL,List.length_replicate,HLJ.o];omega);have how0:=bp how1 fun b hq=>hk0.blk b (HG.o b (by have:=(how1.lt b hq).1;omega)) (how1.lt b hq).2;have hsz:=(fV wA.heap.size (mv f).toList (j*23) W0).2.2.2;have hot: ∀q,q≠wA.heap.size->(W0.setCells wA.heap.size (j*23) (mv f).toList).heap[q]? =W0.heap[q]? :=fun q hq=>gd wA.heap.size _ _ W0 q hq;have hb0':Below (W0.setCells wA.heap.size (j*23) (mv f).toList).heap.size (W0.setCells wA.heap.size (j*23) (mv f).toList) W:=hb0.mono (Nat.le_of_eq hsz);have hop:=MT (f:=mv) (p:=f) (by decide) pP (l:=l++List.replicate (n-j) fun _=>false) (by rw[hlen];exact how0) (j:=j) (by rw[hlen];exact hjn) rfl
     have hset:(l++List.replicate (n-j) (fun _=>false:Nat->Bool)).set j f=(l++[f])++List.replicate (n-(j+1)) fun _=>false:=by
      rw[show n-j=(n-(j+1))+1 by omega,List.replicate_succ,List.set_append_right _ _ (by rw[HLJ.o];exact aA _),HLJ.o,iB,dm];rfl
     have HO:P3 (W.ownsRow wA.heap.size 61 23 (.slice (some (ae wA.heap.size 0)) n n) n (mkF ((l++[f])++List.replicate (n-(j+1)) fun _=>false))):=by
      rw[jh,hlen,hset]at hop;exact bp hop fun b hq=>hb0'.block b (hop.lt b hq).2
     have HD:=aD ((hd0.wr (Nat.le_of_eq hsz.symm) fun k _ hx=>hot k fun e=>hx (by rw[e];exact bc)).below hb0');have h10:=hk0.size;have h11:=hk1.size;have hany: ∀q,q≠wA.heap.size->q<w1.heap.size->Gx gD t q->W.heap[q]? =w1.heap[q]? :=fun q hq hl hg=>(hb0.block q (by omega)).trans ((hot q hq).trans (hk0.blk q hg hl));have HK:P3 (Kd gD t t w W):=⟨hb0.os.trans ((fV _ _ _ _).1.trans (hk0.os.trans hk1.os)),hb0.tape.trans ((fV _ _ _ _).2.1.trans (hk0.tape.trans hk1.tape)),hb0.output.trans ((fV _ _ _ _).2.2.1.trans (hk0.output.trans hk1.output)),a6 h11 (a6 h10 (by have:=hb0.size;rw[hsz]at this;exact this)),fun q hq hl=>(hany q (by omega) (by omega) hq).trans (hk1.blk q hq hl),fun _ _ h=>h,rfl⟩
     have HNB:=aD ((hany w.heap.size (by omega) (aF nb1) (HG.o _ (aA _))).trans nb1);clear hM hJ hk0 hd0 hb0 hb0' hot hop hset how0 how1 hlen hsz hany h10 h11 hd1 hk1 nC1 nb1 hf hde hjr hgx8 hgxm;go_wp2_with fail;go_roundw;case rel=>exact⟨j+1,de,l++[f],by go_num,by omega,HCE.o,HD.o,HK.o,HO.o,by rw[aL,HLJ.o];rfl,HNB.o,HZ.o⟩
     case measure=>simp[intOf];omega
  ·have hjn': ¬(j:Int)<(n:Int):=(by omega);obtain rfl:n=j:=(by omega);rw[iB]at hX hown
   have HX:P3 (ij s day n 0 d=(l,dd)):=by
    show _=_;rw[hX];simp[ij]
   have HD:=aD (hd.closed (w':=wr) (aA _) fun _ _ _=>rfl);have HK:=aD hk
   have HO:P3 (wr.ownsRow w.heap.size 61 23 (.slice (some (ae wA.heap.size 0)) n n) n (mkF l)):=by
    have h1:l++List.replicate 0 (fun _=>false:M)=l:=(by simp);rw[h1]at hown;exact⟨hown.1,hown.2.imp id fun⟨g,c,cu,q1,q2,q3⟩=>⟨g,c,cu,q1,by omega,q3⟩⟩
   clear hX hd hk hown hco hcr hlj hbx;go_wp2_with fail;go_ret;exact⟨wA.heap.size,rfl,by omega,by rw[HX.o];exact HO.o,by rw[HX.o];exact HD.o,HK.o⟩
end
end
theorem Ol:(prog.info? 55).map (fun i=>(i.zero,i.size,i.bytes))=some (some (af),1,24):=by kernel_rfl
theorem MW:prog.underlying 154=some (.slice 55):=by kernel_rfl
theorem slT:prog.underlying 26=some (.struct (prog.fieldsOf 26)):=by kernel_rfl
theorem Iz (s:Sv)(day:Int){m j:Nat}(hj:j<m)(d:Dk):jq s day (m-j) j d=((ij s (day+j) d.res.length 0 d).1::(jq s day (m-(j+1)) (j+1) (ij s (day+j) d.res.length 0 d).2).1,(jq s day (m-(j+1)) (j+1) (ij s (day+j) d.res.length 0 d).2).2):=by
 rw[show m-j=(m-(j+1))+1 by omega];rfl
theorem om (s:Sv)(day:Int): ∀(m r:Nat) (d:Dk),Cor d (ij s day m r d).2/\(ij s day m r d).1.length=m
 |0,_,d=>⟨Cor.refl d,rfl⟩
 |m+1,r,d=>by
  unfold ij;split
  ·exact⟨(qS d r day (-1)).trans (om s day m (r+1) _).1,congrArg (· +1) (om s day m (r+1) _).2⟩
  ·exact⟨(om s day m (r+1) d).1,congrArg (· +1) (om s day m (r+1) d).2⟩
theorem np (d:Dk)(n:Int)(a:Ap)(day min:Int)(who:List Int):Cor d (fA d n a day min who).2:=by
 have h:=v8 (f:=oH day n (min-a.bef) (min+a.len+a.aft)) (fun x d=>qS d x day n) who d;unfold fA;dsimp only;repeat' split
 all_goals first|exact Cor.refl d|exact h
theorem Ci (s:Sv): ∀(l:List (List (Nat->Bool))) (k:Nat) {x:Nat×Int×List Int},jQ s l k=some x->x.1<k+l.length
 |[],k,x,h=>by simp[jQ]at h
 |f::l,k,x,h=>by
  unfold jQ at h;split at h
  ·cases h;simp
  ·have:=Ci s l (k+1) h;simp only[bz];omega
theorem IA (s:Sv)(l:List (List (Nat->Bool))):0<=(findP s l).day/\(findP s l).day<=30:=by
 unfold findP;split
 ·exact⟨fi _,by show(0:Int)<=30;omega⟩
 ·split
  ·exact⟨fi _,by show(0:Int)<=30;omega⟩
  ·split
   ·rename_i h;have:=Ci s l 0 h;exact⟨by show(0:Int)<=((_:Nat):Int);omega,by show((_:Nat):Int)<=30;omega⟩
   ·exact⟨fi _,by show(0:Int)<=30;omega⟩
theorem IB {w:World}{B nr:Nat}{v:Value}{ms:List (List M)}{vs:List Value}(ho:w.ownsRow B 55 1 v ms.length vs)(hl:ms.length<=1000)(hn:nr<=1000)(he: ∀(i:Nat) (fs:List M) (u:Value),ms[i]? =some fs->vs[i]? =some u->fs.length=nr/\w.ownsRow B 61 23 u nr (mkF fs)):uE w v ms:=by
 obtain⟨p,c,hv⟩:=bU ho;refine⟨p,c,hv,by omega,fun j fs hj=> ?_⟩;have hjl:=(aE.1 hj).1;obtain⟨u,hu⟩: ∃u,vs[j]? =some u:=⟨vs[j]'(by have:=ho.1;omega),ax _⟩
 obtain⟨g,c',e,_,hc⟩:=rS ho (by omega);rw[hv]at e;injection e with e1 _ _;obtain⟨hl1,hou⟩:=he j fs u hj hu;refine⟨g,0,u,e1,by rw[bK];exact hc j u hu,?_⟩;obtain⟨p2,c2,hv2⟩:=bU hou;refine⟨p2,c2,by rw[hl1];exact hv2,by omega,fun i f hi=> ?_⟩;have hil:=(aE.1 hi).1;obtain⟨g2,c3,e2,_,hr⟩:=lI (f:=mv) (l:=fs) pP hou hl1.symm hi;rw[hv2]at e2;injection e2 with e3 _ _;exact⟨g2,0,e3,by rw[bK];exact hr⟩
end Go.Proofs.YtjkilacmkbmmbaaGreatDoor
