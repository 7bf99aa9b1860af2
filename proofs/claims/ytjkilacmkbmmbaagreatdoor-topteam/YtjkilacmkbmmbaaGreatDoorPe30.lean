/- Texts of the proof. -/
import Derived.Test.YtjkilacmkbmmbaaGreatDoorPe29
set_option maxRecDepth 100000
set_option maxHeartbeats 8000000
namespace Go.Proofs.YtjkilacmkbmmbaaGreatDoor
open Go.Proofs.Tryz Go.RowKit Lx Vx Mx Msk
def vZ (l:List UInt8):Nat->List Tk->Nat->List Tk×Nat
 |0,ts,k=>(ts,k)
 |f+1,ts,k=>if k<l.length/\(firstT (l.drop k)).err=0 then vZ l f (ts++[(firstT (l.drop k),k)]) (k+(firstT (l.drop k)).len+ea false (l.drop (k+(firstT (l.drop k)).len))) else(ts,k)
def Cf (l:List UInt8):List Tk×Nat:=vZ l (l.length+1) [] (0+ea false (l.drop 0))
theorem Cg {l:List UInt8}: ∀(f:Nat) (ts:List Tk) (k:Nat),eY l ts k->l.length<f+ts.length->eY l (vZ l f ts k).1 (vZ l f ts k).2/\ ¬((vZ l f ts k).2<l.length/\(firstT (l.drop (vZ l f ts k).2)).err=0)
 |0,ts,k,h,hf=>by have:=h.le;omega
 |f+1,ts,k,h,hf=>by
  unfold vZ;by_cases hc:k<l.length/\(firstT (l.drop k)).err=0
  ·rw[ay hc];exact Cg f _ _ (h.step hc.1 hc.2) (by rw[aL];simp;omega)
  ·rw[aw hc];exact⟨h,hc⟩
theorem yN {l:List UInt8}{ts:List Tk}{k:Nat}(h:eY l ts k)(hk: ¬(k<l.length/\(firstT (l.drop k)).err=0)):Cf l=(ts,k):=by
 obtain⟨h1,h2⟩:=Cg (l:=l) (l.length+1) [] _ eY.start (by simp);obtain⟨e1,e2⟩:=Gl h1 h h2 hk;exact Prod.ext e1 e2
def kj (l:List UInt8):Int×List Ru:=
 if 6000<l.length then(4,[]) else
 if(Cf l).2<l.length then((firstT (l.drop (Cf l).2)).err,[]) else
 match iE l.length ((Cf l).1.length+1) [] (Cf l).1 with
 | .error q=>(q.1,[])
 | .ok rs=>(0,rs)
theorem Iv {l:List UInt8}{w0 w:World}{v:Value}{er at_:Int}(h:tf l w0 w v er at_):er=(kj l).1/\(er=0-> ∃us,mf w0 w v us/\us.length<=40/\us.map (fun p=>p.1)=(kj l).2/\NmR (us.map (fun p=>p.1))):=by
 have nil: ∀(L:List Ru),L=[]->v=af-> ∃us:List (Ru×Value),mf w0 w v us/\us.length<=40/\us.map (fun p=>p.1)=L/\NmR (us.map (fun p=>p.1)):=fun L hL hv=>by
  subst hL hv;exact⟨[],⟨bV _ _ _ _,fun p hp=>by cases hp⟩,by simp,rfl,fun p hp=>by cases hp⟩
 rcases h with⟨h1,h2,h3,_⟩|⟨ts,k,h1,h2,h3,h4,h5,h6,_⟩|⟨ts,k,er',at',h1,h2,h3,h4,h5,h6,_⟩|⟨ts,k,us,h1,h2,h3,h4,h5,h6,h7,_⟩
 ·have e:kj l=(4,[]):=by unfold kj;rw[ay h1]
  rw[e];exact⟨h3,fun _=>nil _ rfl h2⟩
 ·have e:kj l=((firstT (l.drop k)).err,[]):=by
   unfold kj;rw[aw (by omega),yN h2 (fun h=>h4 h.2),ay h3]
  rw[e];exact⟨h6,fun _=>nil _ rfl h5⟩
 ·have e:kj l=(er',[]):=by
   unfold kj;rw[aw (by omega),yN h2 (fun h=>h3 h.1),aw h3,h4]
  rw[e];exact⟨h6,fun _=>nil _ rfl h5⟩
 ·have e:kj l=(0,us.map (fun p=>p.1)):=by
   unfold kj;rw[aw (by omega),yN h2 (fun h=>h3 h.1),aw h3,h4]
  rw[e];refine⟨h7,fun _=>⟨us,h6,h5,rfl,fun u hu=> ?_⟩⟩;obtain⟨n1,n2,n3⟩:=Am _ _ _ _ (FB h2) (fun u hu=>by cases hu) h4 u hu;exact⟨by omega,by omega,n3⟩
def fO (l:List UInt8):Int×List Ru:=if(kj l).1≠0 then((kj l).1,[]) else((ii (kj l).2).1,(kj l).2)
def Lk (l:List UInt8)(w:World)(e:Ending)(w':World):Prop:= ∃rv cv:Value,e= .returned (.tuple #[rv,cv,ag (fO l).1])/\ao w w'/\((fO l).1=0->(fO l).2.length<=40/\ii (fO l).2=(0,0)/\Rob (fun q=>w.heap.size<=q) (fun u=> ∃us,InR u rv us/\us.map (fun p=>p.1)=(fO l).2) w'/\ ∀u,mZ w' u->InV u cv (eR (fO l).2))
theorem Ao {l:List Ru}(h:(ii l).1=0):ii l=(0,0):=by
 unfold ii at h⊢;split
 ·rename_i h1;rw[ay h1]at h;exact absurd h h1
 ·rename_i h1;rw[aw h1]at h;split
  ·rename_i h2;rw[ay h2]at h;cases h
  ·rfl
theorem Kz {l:List Ru}(h:(di l).1≠0):(ii l).1=(di l).1:=by unfold ii;rw[ay h]
theorem pV.below {w w':World}(h:pV w)(hb:ao w w'):pV w':=fun i hi=>(hb.cell (bT (h i hi))).trans (h i hi)
theorem KA {l:List UInt8}{w0 w:World}{v:Value}{er at_:Int}(h:tf l w0 w v er at_)(he:er≠0):v=af:=by
 rcases h with⟨_,h,_⟩|⟨_,_,_,_,_,_,h,_⟩|⟨_,_,_,_,_,_,_,_,h,_⟩|⟨_,_,_,_,_,_,_,_,_,h,_⟩
 ·exact h
 ·exact h
 ·exact h
 ·exact absurd h he
theorem FC {w w':World}(h:Tab w)(hb:ao w w'):Tab w':=h.later hb
theorem Ch (l:List UInt8)(hl:l.length<=9223372036854775807)(w:World)(hT:gc w)(hD:pV w)(hB:Tab w):Calls prog 87 #[.string ⟨l.toArray⟩] w (Lk l w):=by
 have cP:=GH ⟨l.toArray⟩ l (by simp) hl w hT hD;have HB:=aD hB;clear hT hD hB;go_enter func87,ntmps87;go_wp2_with fail;refine cP.mono ?_;rintro e w1 ⟨⟨v,er,at_,rfl,hp⟩,b1⟩;obtain⟨he,hok⟩:=Iv hp;obtain⟨w2,hw2,b2,n2⟩:=nb w1 #[ag er,ag at_] 47;have z2:w2.cell? (ae w1.heap.size 0)=some (ag er):=cr 0 n2 rfl;have HE:=aD he;have HOK:=aD hok;have HW1:=aD b1.size;have HB2:=aD (au b1 b2);have HBB:=aD b2
 have hvv: ∃p n c,v= .slice p n c:=by
  by_cases h0:er=0
  ·obtain⟨us,hrow,_⟩:=hok h0;obtain⟨p,c,e⟩:=bU hrow.own;exact⟨p,_,c,e⟩
  ·exact⟨none,0,0,KA hp h0⟩
 obtain⟨pv,nu,cv,rfl⟩:=hvv;clear cP hp he hok b1 b2;by_cases h0:er=0
 ·subst h0;obtain⟨us,hrow,h40,hus,hnm⟩:=HOK.o rfl;have hin2:Rob (fun q=>w.heap.size<=q/\q<w1.heap.size) (fun u=>InR u (.slice pv nu cv) us) w2:=Rob.below (fun u hu ha=>hrow.rob h40 hnm u hu fun q hq hl=>ha q ⟨hq,hl⟩ hl) HBB.o;have cK:=uw us (.slice pv nu cv) w2 hin2.here;rw[hus]at cK;obtain⟨R,hR⟩:=aq ((kj l).2)
  have HC:P3 (fO l=((ii R).1,R)):=by
   show _=_;unfold fO;rw[aw (by rw[<-HE.o];simp),hR]
  rw[hR]at cK hus;have HIN:=aD hin2;have HUS:=aD hus;have HR40:P3 (R.length<=40):=(by show _<=_;rw[<-hus,aZ];exact h40);obtain⟨ce,hce⟩:=aq ((di R).1);obtain⟨ca,hca⟩:=aq ((di R).2:Int);rw[hce,hca]at cK;have HCE:=aD hce;clear hrow hnm hin2 hus hR hce hca HOK HE HBB h40;go_wp2_with fail;refine cK.mono ?_;rintro e w3 ⟨rfl,b3⟩;have n3:=bt b3 n2;have n4:=aJ _ _ _ #[ag ce,ag ca] _ _ n3;have HB4:=aD (below_setRow (au HB2.o b3) HW1.o #[ag ce,ag ca]);have HI4:P3 (Rob (fun q=>w.heap.size<=q/\q<w1.heap.size) (fun u=>InR u (.slice pv nu cv) us) (w3.setRow w1.heap.size #[ag ce,ag ca])):=(HIN.o.below b3).move (by simp) (fun q hq _=>aT _ _ _ _ (by omega)) fun _ _ h=>h;generalize hw4:w3.setRow w1.heap.size #[ag ce,ag ca]=w4 at*;have z4:w4.cell? (ae w1.heap.size 0)=some (ag ce):=cr 0 n4 rfl;clear cK b3 HIN HB2 z2 n2;by_cases h1:ce=0
  ·subst h1;have cC:=Dc us (.slice pv nu cv) w4 HI4.o.here (FC HB.o HB4.o);rw[HUS.o]at cC;unfold xR at cC;obtain⟨fe,hfe⟩:=aq ((ii R).1);obtain⟨fa,hfa⟩:=aq ((ii R).2);rw[hfe,hfa]at cC;have HFE:=aD hfe;clear hfe hfa hw2;go_wp2_with(first|(refine az rfl 47 _ _ rfl _ _ rfl rfl _ _ n3 (by kernel_rfl) rfl (by simp[Value.oneCell']) ?_)|fail)
   refine cC.mono ?_;rintro e w5 ⟨vc,rfl,hi5,hv5,b5⟩;have m3:=bt b5 n4;have n6:=aJ _ _ _ #[ag fe,ag fa] _ _ m3;have HB6:=aD (below_setRow (au HB4.o b5) HW1.o #[ag fe,ag fa]);have HI6:P3 (Rob (fun q=>w.heap.size<=q) (fun u=> ∃us,InR u (.slice pv nu cv) us/\us.map (fun p=>p.1)=R) (w5.setRow w1.heap.size #[ag fe,ag fa])):=Rob.imp (((HI4.o.below b5).move (by simp) (fun q hq _=>aT _ _ _ _ (by omega)) fun _ _ h=>h.1):Rob (fun q=>w.heap.size<=q) (fun u=>InR u (.slice pv nu cv) us) _) fun u hu=>⟨us,hu,HUS.o⟩
   have HT6:P3 (∀u,mZ (w5.setRow w1.heap.size #[ag fe,ag fa]) u->mZ w5 u):=fun u hu q c T f hq hT=>by
    by_cases e:q=w1.heap.size
    ·subst e;rw[m3]at hq;injection hq with hq;injection hq with _ hq _;subst hq;exact absurd hT (by decide)
    ·have:=aT w5 w1.heap.size q #[ag fe,ag fa] e;rw[<-this];exact hu q c T f (this.trans hq) hT
   have HV5:=aD hv5;have HI5:=aD hi5;generalize hw6:w5.setRow w1.heap.size #[ag fe,ag fa]=w6 at*;have z6:w6.cell? (ae w1.heap.size 0)=some (ag fe):=cr 0 n6 rfl;have n3:=m3;clear cC hi5 hv5 b5 z4 n4 m3 hw4;by_cases h2:fe=0
   ·subst h2;go_wp2_with(refine az rfl 47 _ _ rfl _ _ rfl rfl _ _ n3 (by kernel_rfl) rfl (by simp[Value.oneCell']) ?_)
    go_ret3;refine⟨_,_,by rw[HC.o,HFE.o];rfl,HB6.o,fun _=> ?_⟩;rw[HC.o];exact⟨HR40.o,Ao HFE.o,HI6.o,fun u hu=>HI5.o trivial u (HT6.o u hu)⟩
   ·have h2':(fe !=0)=true:=(by simpa using h2);have HH:=aD h2;have hvc:=HV5.o h2;subst hvc;clear h2;go_wp2_with(refine az rfl 47 _ _ rfl _ _ rfl rfl _ _ n3 (by kernel_rfl) rfl (by simp[Value.oneCell']) ?_)
    refine dt (fun _ _ W=>ao w6 W) [kn 33 (ab w1.heap.size 0),kn 34 (ag fe),kn 2 (af),kn 3 (af),kn 4 (ag fe)] (fun _=>(aG _ _).drew) (fun _ _ _ _ hb h=>au h hb) (by kernel_rfl) ?_ ?_
    ·rintro M φ W hb _ F l hl hF;have z:W.cell? (ae w1.heap.size 0)=some (ag fe):=aj hb z6;simp only[kn,dN,aQ,aW,Act.put,aB,aI,aH]at hl;subst hl;simp only[dg,Nat.reduceAdd]at hF;dsimp only[kn,dC,en,dS,Act.put];and_intros;all_goals first|exact trivial|intro hw hn hm K hK
     all_goals (go_simp;with_reducible exact hK _ _ ⟨rfl,aG _ _⟩)
    ·rintro M φ W hM hb;simp only[kn,dP,aQ,aW,Act.put,aB,aI,aH];clear hM z6;go_wp2_with fail;go_ret3;exact⟨_,_,by rw[HC.o,HFE.o];rfl,au HB6.o hb,fun e=>absurd (by rw[HC.o,HFE.o]at e;exact e) HH.o⟩
  ·have h1':(ce !=0)=true:=(by simpa using h1)
   have HC1:P3 ((fO l).1=ce):=by
    show _=_;rw[HC.o];show(ii R).1=ce;rw[Kz (by rw[HCE.o];exact h1),HCE.o]
   have HH:=aD h1;clear h1 hw2;go_wp2_with(refine az rfl 47 _ _ rfl _ _ rfl rfl _ _ n3 (by kernel_rfl) rfl (by simp[Value.oneCell']) ?_)
   refine dt (fun _ _ W=>ao w4 W) [kn 23 (ab w1.heap.size 0),kn 24 (ag ce),kn 2 (af),kn 3 (af),kn 4 (ag ce)] (fun _=>(aG _ _).drew) (fun _ _ _ _ hb h=>au h hb) (by kernel_rfl) ?_ ?_
   ·rintro M φ W hb _ F l hl hF;have z:W.cell? (ae w1.heap.size 0)=some (ag ce):=aj hb z4;simp only[kn,dN,aQ,aW,Act.put,aB,aI,aH]at hl;subst hl;simp only[dg,Nat.reduceAdd]at hF;dsimp only[kn,dC,en,dS,Act.put];and_intros;all_goals first|exact trivial|intro hw hn hm K hK
    all_goals (go_simp;with_reducible exact hK _ _ ⟨rfl,aG _ _⟩)
   ·rintro M φ W hM hb;simp only[kn,dP,aQ,aW,Act.put,aB,aI,aH];clear hM z4;go_wp2_with fail;go_ret3;exact⟨_,_,by rw[HC1.o];rfl,au HB4.o hb,fun e=>absurd (by rw[HC1.o]at e;exact e) HH.o⟩
 ·have h0':(er !=0)=true:=by simpa using h0
  have HC:P3 (fO l=(er,[])):=by
   show _=_;unfold fO;rw[ay (by rw[<-HE.o];exact h0),HE.o]
  have HH:=aD h0;clear h0 HOK HBB n2;go_upto_region 3 with fail;refine dt (fun _ _ W=>ao w2 W) [kn 16 (ab w1.heap.size 0),kn 17 (ag er),kn 2 (af),kn 3 (af),kn 4 (ag er)] (fun _=>(aG _ _).drew) (fun _ _ _ _ hb h=>au h hb) (by kernel_rfl) ?_ ?_
  ·rintro M φ W hb _ F l hl hF;have z:W.cell? (ae w1.heap.size 0)=some (ag er):=aj hb z2;simp only[kn,dN,aQ,aW,Act.put,aB,aI,aH]at hl;subst hl;simp only[dg,Nat.reduceAdd]at hF;dsimp only[kn,dC,en,dS,Act.put];and_intros;all_goals first|exact trivial|intro hw hn hm K hK
   all_goals (go_simp;with_reducible exact hK _ _ ⟨rfl,aG _ _⟩)
  ·rintro M φ W hM hb;simp only[kn,dP,aQ,aW,Act.put,aB,aI,aH];clear hM z2;go_wp2_with fail;go_ret3;exact⟨_,_,by rw[HC.o];rfl,au HB2.o hb,fun e=>absurd (by rw[HC.o]at e;exact e) HH.o⟩
section
def Cor (d d':Dk):Prop:= ∃k r,d'={d with kept:=k,runs:=r}
theorem Cor.refl (d:Dk):Cor d d:=⟨d.kept,d.runs,rfl⟩
theorem Cor.trans {a b c:Dk}(h:Cor a b)(h':Cor b c):Cor a c:=by
 obtain⟨k,r,rfl⟩:=h;obtain⟨k',r',rfl⟩:=h';exact⟨k',r',rfl⟩
theorem sE (d:Dk)(r day:Int):Cor d (gu d r day).2:=by
 unfold gu;dsimp only;split
 ·exact Cor.refl d
 ·exact⟨_,_,rfl⟩
theorem v8 {f:Int->Dk->Bool×Dk}(hf: ∀x d,Cor d (f x d).2): ∀(l:List Int) (d:Dk),Cor d (jy f l d).2
 |[],d=>Cor.refl d
 |x::l,d=>by
  unfold jy;split
  ·exact hf x d
  ·exact(hf x d).trans (v8 hf l _)
def Tr.ad (t:Tr)(L:List Nat):Tr:={t with xs:=L++t.xs}
section
variable {B gD:Nat} {d:Dk} {t:Tr} {w w':World}
theorem Kd.ad {L:List Nat}(h:Kd gD t t w w'):Kd gD (t.ad L) (t.ad L) w w':=⟨h.os,h.tape,h.output,h.size,h.blk,fun _ _ h=>h,rfl⟩
theorem Kd.un {L:List Nat}(h:Kd gD (t.ad L) (t.ad L) w w'):Kd gD t t w w':=⟨h.os,h.tape,h.output,h.size,h.blk,fun _ _ h=>h,rfl⟩
theorem dE.drop {L:List Nat}(h:dE B gD d (t.ad L) w):dE B gD d t w:=by
 obtain⟨h0,rv,cv,vv,kv,ss,aa,h⟩:=h;have mv: ∀{Φ:World->Prop},Rob (Fx gD (t.ad L)) Φ w->Rob (Fx gD t) Φ w:=fun hR=>hR.move (aA _) (fun _ _ _=>rfl) fun q _ hq=>⟨hq.1,fun hx=>hq.2 (eo _ hx)⟩
 exact⟨h0,rv,cv,vv,kv,ss,aa,h.blk,h.lo,mv h.rules,mv h.codes,mv h.vers,mv h.kept,h.res,h.svs,h.sve,fun p hp=>mv (h.svr p hp),h.aps,h.ape,fun p hp=>mv (h.apr p hp),fun q hq=>h.nx q (eo _ hq)⟩
theorem dE.grown {L:List Nat}(h:dE B gD d (t.ad L) w){v v':Value}{base e size n m:Nat}{xs ys:List Value}(_:w.ownsRow base e size v n xs)(hL: ∀b,v.ownBlock=some b->b∈L)(hg:w.grownBy w' v.ownBlock)(ho':w'.ownsRow base e size v' m ys)(hv:v'.ownBlock=v.ownBlock\/v'.ownBlock=some w.heap.size): ∃L',dE B gD d (t.ad L') w'/\(∀b,v'.ownBlock=some b->b∈L')/\(∀b∈L',b∈L\/(b=w.heap.size/\v'.ownBlock=some b))/\ ∀Φ:World->Prop,Rob (Fx gD (t.ad L)) Φ w->Rob (Fx gD (t.ad L')) Φ w':=by
 obtain⟨h0,rv,cv,vv,kv,ss,aa,h⟩:=h;have hlt:=aF h.blk;have ne: ∀q,q<w.heap.size->q∉L->w'.heap[q]? =w.heap[q]? :=fun q hl hq=>hg.block q hl fun e=>hq (hL q e.symm)
 have mv: ∀L':List Nat,(∀q,q∈L'↔q∈L\/(v'.ownBlock=some q/\q=w.heap.size))-> ∀Φ:World->Prop,Rob (Fx gD (t.ad L)) Φ w->Rob (Fx gD (t.ad L')) Φ w':=fun L' hL' Φ hR=>hR.move hg.size (fun q hq hl=>ne q hl fun hx=>hq.2 (fd _ hx)) fun q hl hq=>⟨hq.1,fun hx=>by
  rcases bJ.1 hx with hx|hx
  ·rcases(hL' q).1 hx with hx|⟨_,hx⟩
   ·exact hq.2 (fd _ hx)
   ·omega
  ·exact hq.2 (eo _ hx)⟩
 have key: ∀L':List Nat,(∀q,q∈L'↔q∈L\/(v'.ownBlock=some q/\q=w.heap.size))->dE B gD d (t.ad L') w':=fun L' hL'=>by
  have mv:= @mv L' hL';have nl: ∀q∈L,q<w.heap.size/\B<=q/\q≠gD/\some q≠t.ev.ownBlock/\some q≠t.sv.ownBlock/\some q≠t.av.ownBlock:=fun q hq=>h.nx q (fd _ hq);have rk: ∀{e s n:Nat} {u:Value} {xs:List Value},w.ownsRow B e s u n xs->(∀q∈L,some q≠u.ownBlock)->w'.ownsRow B e s u n xs:=fun hr hn=>bp hr fun b hb=>ne b (hr.lt b hb).2 fun hx=>hn b hx hb.symm;refine⟨h0,rv,cv,vv,kv,ss,aa,(ne gD hlt fun hx=>(nl gD hx).2.2.1 rfl).trans h.blk,h.lo,mv _ h.rules,mv _ h.codes,mv _ h.vers,mv _ h.kept,rk h.res fun q hq=>(nl q hq).2.2.2.1,rk h.svs fun q hq=>(nl q hq).2.2.2.2.1,h.sve,fun p hp=>mv _ (h.svr p hp),rk h.aps fun q hq=>(nl q hq).2.2.2.2.2,h.ape,fun p hp=>mv _ (h.apr p hp),fun q hq=> ?_⟩;rcases bJ.1 hq with hq|hq
  ·rcases(hL' q).1 hq with hq|⟨h1,h2⟩
   ·have:=nl q hq;exact⟨aO this.1 hg.size,this.2⟩
   ·have:=h.lo;exact⟨(ho'.lt q h1).2,by omega,by omega,lG h.res (.inr (by omega)),lG h.svs (.inr (by omega)),lG h.aps (.inr (by omega))⟩
  ·have:=h.nx q (eo _ hq);exact⟨aO this.1 hg.size,this.2⟩
 by_cases hm:v'.ownBlock=some w.heap.size
 ·have hiff: ∀q,q∈w.heap.size::L↔q∈L\/(v'.ownBlock=some q/\q=w.heap.size):=fun q=>by
   rw[bh,hm];constructor
   ·rintro(rfl|h)
    ·exact .inr ⟨rfl,rfl⟩
    ·exact .inl h
   ·rintro(h|⟨_,h⟩)
    ·exact .inr h
    ·exact .inl h
  refine⟨w.heap.size::L,key _ hiff,fun b hb=> ?_,fun b hb=> ?_,mv _ hiff⟩
  ·rw[hm]at hb;rw[<-aK hb];exact bc
  ·rcases bh.1 hb with h|h
   ·exact .inr ⟨h,by rw[h];exact hm⟩
   ·exact .inl h
 ·have e:=hv.resolve_right hm;have hiff: ∀q,q∈L↔q∈L\/(v'.ownBlock=some q/\q=w.heap.size):=fun q=>⟨.inl,fun h=>h.elim id fun⟨h1,h2⟩=>absurd (by rw[h1,h2]) hm⟩
  exact⟨L,key L hiff,fun b hb=>hL b (by rw[<-e];exact hb),fun b hb=> .inl hb,mv L hiff⟩
end
theorem Dh {l:List Ap}{j:Nat}{a:Ap}(d:Dk)(h:l[j]? =some a):eB (l.drop j) j d=if a.st=3 then eB (l.drop (j+1)) (j+1) d else(if(jy (kJ a.day a.fr a.to) a.who d).1=true then(j:Int)::(eB (l.drop (j+1)) (j+1) (jy (kJ a.day a.fr a.to) a.who d).2).1 else(eB (l.drop (j+1)) (j+1) (jy (kJ a.day a.fr a.to) a.who d).2).1,(eB (l.drop (j+1)) (j+1) (jy (kJ a.day a.fr a.to) a.who d).2).2):=by
 obtain⟨h1,h2⟩:=aE.1 h;rw[bx h1,h2];rfl
section
variable {B gD:Nat} {d:Dk} {t:Tr}
theorem FD (w:World)(h:dE B gD d t w):Calls prog 89 #[ab gD 0] w fun e w'=> ∃lv,e= .returned lv/\dE B gD (eB d.aps 0 d).2 t w'/\Kd gD t t w w'/\w'.ownsRow w.heap.size 3 1 lv (eB d.aps 0 d).1.length (c8 (eB d.aps 0 d).1):=by
 obtain⟨wA,hA,bA,nA⟩:=nb w #[ab gD 0] 115;have hdA:=h.below bA;have H0:=aD h;have HDA:=aD hdA;obtain⟨hok,hdm⟩:=hdA;obtain⟨rv,cv,vv,kv,ss,aa,hm⟩:=hdm;have hla:aa.length=d.aps.length:=by rw[<-hm.ape,aZ]
 obtain⟨n,hn⟩:=aq d.aps.length;have HN:=aD hn;obtain⟨pa,ca,hav⟩:=bU hm.aps;rw[hla,hn]at hav;have z3:wA.cell? (ae gD 3)=some t.av:=cr 3 hm.blk rfl;rw[hav]at z3;have hn30:n<=30:=by rw[<-hn];exact hok.al
 have HAV:=aD hav;have HBA:=aD bA;have HOK:=aD hok;have z1:=cr 0 nA rfl;have hwA:w.heap.size<=wA.heap.size:=bA.size;have HG:P3 (∀q,w.heap.size<=q->Gx gD t q):=fun q hq=>(H0.o.fx (.inr hq)).1;have eF: ∀args w,(callFunc 127 args).run prog w= .ok (.enter 127 args) w:=fun _ _=>rfl;clear h hm hla hn hav hok bA;go_enter func89,ntmps89;go_wp2_with fail;clear z3 hA z1;go_loopw [3,4,5,6,13] (fun v _ _ _ q wr=> ∃(j:Nat) (dd:Dk) (l:List Int) (L:List Nat),q=ag (j:Int)/\j<=n/\Cor d dd/\dE B gD dd (t.ad L) wr/\(∀b,v.ownBlock=some b->b∈L)/\Kd gD t t wA wr/\wr.ownsRow wA.heap.size 3 1 v l.length (c8 l)/\l.length<=j/\eB d.aps 0 d=(l++(eB (d.aps.drop j) j dd).1,(eB (d.aps.drop j) j dd).2)) (fun _ _ _ _ q _=>n-(intOf q).toNat);case atStart=>exact⟨0,d,[],[],rfl,by omega,Cor.refl d,HDA.o,(fun b hb=>by cases hb),Kd.of (aG _ _),bV _ _ _ _,aA _,rfl⟩
 case round=>
  obtain⟨j,dd,l,L,rfl,hj,hco,hd,hLb,hk,hown,hlj,hX⟩:=hrel;have hj0:(0:Int)<=(j:Int):=(by omega);have hca:dd.aps=d.aps:=(by obtain⟨_,_,rfl⟩:=hco;rfl);have hcr:dd.res=d.res:=(by obtain⟨_,_,rfl⟩:=hco;rfl);by_cases hjn:j<n
  ·have hjn':(j:Int)<(n:Int):=(by omega);obtain⟨a,pw,cw,ga,ca',ha,hva,_,hrg,hrob⟩:=DkM.ap hd.2 (j:=j) (by rw[hca,HN.o];exact hjn);rw[hca]at ha;have e0:Value.slice pa n ca= .slice (some (ae ga 0)) n ca':=(by rw[<-HAV.o,<-HN.o,<-hca];exact hva);injection e0 with e1 e3 e2;subst e1 e2;rw[Dh dd ha]at hX;have hwho:=(HOK.o.ap a (aM ha)).2.2.2.2.2.2;obtain⟨wZ,wB,hZ,nZ,hB,bB,nB⟩:=nbs wr apZ (apC (a,.slice pw a.who.length cw)) 122;unfold apZ at hZ nZ;have y0:wB.cell? (ae wr.heap.size 0)=some (ag a.st):=cr 0 nB rfl;have y10:wB.cell? (ae wr.heap.size 10)=some (.slice pw a.who.length cw):=cr 10 nB rfl;have hdB:=hd.below bB;have hkB:=hk.trans (Kd.of bB);have hownB:=bp hown fun b hq=>bB.block b (hown.lt b hq).2;have hwr:w.heap.size<=wr.heap.size:=a6 hwA hk.size
   have cC:=o7 (kJ a.day a.fr a.to) (fun s W=>dE B gD s (t.ad L) W/\Kd gD t t wB W/\Cor d s) 127 #[ab w.heap.size 0,ab wr.heap.size 0] a.who (.slice pw a.who.length cw) dd wB eF ⟨hdB,Kd.of (aG _ _),hco⟩ (fun s W hW=>(hW.2.1.ad.rob (hrob.below bB)).here) (fun x hx s W hW=>by
    have h1:=hW.2.1.blk w.heap.size (HG.o _ (aA _));have h2:=hW.2.1.blk wr.heap.size (HG.o _ hwr);have nA':=(hkB.blk w.heap.size (HG.o _ (aA _)) (aF nA)).trans nA;have hsr:s.res=d.res:=(by obtain⟨_,_,rfl⟩:=hW.2.2;rfl);refine(Im W hW.1 (hwho x hx).1 (by rw[hsr];exact(hwho x hx).2) ((h1 (aF nA')).trans nA') ((h2 (aF nB)).trans nB) (HG.o _ hwr) (HG.o _ (aA _))).mono fun e w' hh=>⟨hh.1,hh.2.1,hW.2.1.trans hh.2.2.un,hW.2.2.trans (sE s x a.day)⟩)
   have HX:=aD hX;have HOW:=aD hownB;have HKB:=aD hkB;have HDB:=aD hdB;have HCO:=aD hco;have HLB:=aD hLb;obtain⟨st,hst⟩:=aq a.st;rw[hst]at y0 HX;obtain⟨nw,hnw⟩:=aq a.who.length;rw[hnw]at y10 cC;have HNW:=aD hnw;have HRG:=aD hrg;clear hLb hX hst e3 hva hrob hown hd hdB hk hkB hco hca hcr hownB ha hwho hwr hnw;by_cases h3:st=3
   ·subst h3;have HY:=aD (HX.o.trans (by rw[ay rfl]));clear HX cC;have hrg:=HRG.o;go_wp2_with(first|(refine wpList_load_mid rfl 122 _ rfl ga (j*11) rfl (apC (a,.slice pw a.who.length cw)).toList _ hrg apT rfl (by kernel_rfl) ?_)|(refine az rfl 122 _ _ rfl _ _ rfl rfl _ _ nZ (by kernel_rfl) rfl (mC _ _ _ _) ?_;rw[hB]))
    go_roundw;case rel=>exact⟨j+1,dd,l,L,by go_num,by omega,HCO.o,HDB.o,HLB.o,HKB.o,HOW.o,by omega,HY.o⟩
    case measure=>simp[intOf];omega
   ·have h3':(st !=3)=true:=(by simpa using h3);obtain⟨bb,hbb⟩:=aq ((jy (kJ a.day a.fr a.to) a.who dd).1);obtain⟨de,hde⟩:=aq ((jy (kJ a.day a.fr a.to) a.who dd).2);rw[hbb,hde]at cC
    have HY:P3 (eB d.aps 0 d=(l++(if bb=true then(j:Int)::(eB (d.aps.drop (j+1)) (j+1) de).1 else(eB (d.aps.drop (j+1)) (j+1) de).1),(eB (d.aps.drop (j+1)) (j+1) de).2)):=by
     show _=_;have:=HX.o;rw[aw h3,hbb,hde]at this;exact this
    have hrg:=HRG.o;clear HX hbb hde h3;go_wp2_with(first|(refine wpList_load_mid rfl 122 _ rfl ga (j*11) rfl (apC (a,.slice pw a.who.length cw)).toList _ hrg apT rfl (by kernel_rfl) ?_)|(refine az rfl 122 _ _ rfl _ _ rfl rfl _ _ nZ (by kernel_rfl) rfl (mC _ _ _ _) ?_;rw[hB]))
    refine cC.mono ?_;rintro e w1 ⟨rfl,hd1,hk1,hco1⟩;have hkw1:=HKB.o.trans hk1;have how1:=bp HOW.o fun b hq=>hk1.blk b (HG.o b (a6 hwA (HOW.o.lt b hq).1)) (HOW.o.lt b hq).2;clear cC y0 y10 nB nZ hB hZ hrg HRG hk1 HOW HKB;cases bb with
    |false=>
     have HD1:=aD hd1;have HK1:=aD hkw1;have HO1:=aD how1;have HC1:=aD hco1;have HZ:P3 (eB d.aps 0 d=(l++(eB (d.aps.drop (j+1)) (j+1) de).1,(eB (d.aps.drop (j+1)) (j+1) de).2)):=HY.o;clear hd1 hkw1 how1 hco1 HY;go_wp2_with fail;go_roundw;case rel=>exact⟨j+1,de,l,L,by go_num,by omega,HC1.o,HD1.o,HLB.o,HK1.o,HO1.o,by omega,HZ.o⟩
     case measure=>simp[intOf];omega
    |true=>
     obtain⟨wC,hC,bC,nC⟩:=nb w1 #[ag (j:Int)] 3;have hoC:=bp how1 fun b hq=>bC.block b (how1.lt b hq).2;have HKC:=aD (hkw1.trans (Kd.of bC));have HDC:=aD (hd1.below bC);have HC1:=aD hco1;have hbz:wA.heap.size<=wC.heap.size:=HKC.o.size
     have HZ:P3 (eB d.aps 0 d=((l++[(j:Int)])++(eB (d.aps.drop (j+1)) (j+1) de).1,(eB (d.aps.drop (j+1)) (j+1) de).2)):=by
      show _=_;rw[HY.o,dm];rfl
     clear hd1 hkw1 how1 hco1 HY bC;go_wp2_with(at_builtin;refine ik rfl _ _ 24 3 rfl sw oc rfl (by decide) (by decide) rfl hoC rfl nC rfl (by simp[Value.oneCell']) (by omega) hbz ?_)
     rintro v2 w2 ho2 hgr hbl g2 c2 rfl;obtain⟨L',hd2,hL2,_,_⟩:=HDC.o.grown hoC HLB.o hgr ho2 hbl;have hk2:Kd gD t t wA w2:=⟨hgr.os.trans HKC.o.os,hgr.tape.trans HKC.o.tape,hgr.output.trans HKC.o.output,a6 HKC.o.size hgr.size,fun q hq hl=>(hgr.block q (aO hl HKC.o.size) (fun e=>by have:=(hoC.lt q e.symm).1;omega)).trans (HKC.o.blk q hq hl),fun _ _ h=>h,rfl⟩
     have HD2:=aD hd2;have HL2:=aD hL2;have HK2:=aD hk2
     have HO2:P3 (w2.ownsRow wA.heap.size 3 1 (.slice (some (ae g2 0)) (l.length+1) c2) (l++[(j:Int)]).length (c8 (l++[(j:Int)]))):=by
      show World.ownsRow _ _ _ _ _ _ _;rw[kU,aL];exact ho2
     clear hoC ho2 hgr hbl nC hC hd2 hL2 hk2 HDC HKC;go_wp2_with fail;go_roundw;case rel=>exact⟨j+1,de,l++[(j:Int)],L',by go_num,by omega,HC1.o,HD2.o,HL2.o,HK2.o,HO2.o,by rw[aL];simp;omega,HZ.o⟩
     case measure=>simp[intOf];omega
  ·have hjn': ¬(j:Int)<(n:Int):=(by omega);obtain rfl:n=j:=(by omega);rw[dc (by rw[HN.o];exact aA _)]at hX
   have HX:P3 (eB d.aps 0 d=(l,dd)):=by
    show _=_;rw[hX];simp[eB]
   have HD:=aD hd.drop;have HK:=aD ((Kd.of HBA.o).trans hk);have HO:P3 (wr.ownsRow w.heap.size 3 1 u3 l.length (c8 l)):=⟨hown.1,hown.2.imp id fun⟨g,c,cu,q1,q2,q3⟩=>⟨g,c,cu,q1,a6 hwA q2,q3⟩⟩
   clear hX hd hk hown hco hca hcr hLb;go_wp2_with fail;go_ret;exact⟨_,rfl,by rw[HX.o];exact HD.o,HK.o,by rw[HX.o];exact HO.o⟩
end
end
section
def Tbs (B:Nat)(w:World):Prop:= ∀W,Below B w W->gc W/\pV W/\Tab W
theorem Tbs.below {B:Nat}{w w':World}(h:Tbs B w)(hb:Below B w w'):Tbs B w':=fun _ hW=>h _ (hb.trans hW)
def FE (w:World)(xs:List Nat):Prop:= ∀k∈xs,∃c T f,w.heap[k]? =some (.cells c T f)/\ ¬(T=208\/T=234\/T=143)
theorem wc (d:Dk)(l:List Ru):(ni d l).length=l.length:=by simp[ni]
section
variable {B gD:Nat} {d:Dk} {t:Tr}
theorem Iw (x:List UInt8)(w:World)(h:dE B gD d t w)(hx:x.length<=9223372036854775807)(hT:Tbs B w)(hB:B<=w.heap.size)(hg:d.given+1<=1000000)(hxs:FE w t.xs):Calls prog 47 #[ab gD 0,kK x] w (tR B gD (qA d (fO x)) t w):=by
 obtain⟨wA,hA,bA,nA⟩:=nb w #[ag 0,ag 0,ag 0,ag 0,af,af] 28;have hsA:wA.heap.size=w.heap.size+1:=by rw[<-hA];simp
 have hdA:=h.opened (aA _) hsA bA;have HDA:=aD hdA;have H0:=aD h;have HBA:=aD bA;obtain⟨tb1,tb2,tb3⟩:=hT wA (bA.mono hB);have cC:=Ch x hx wA tb1 tb2 tb3;have cR:=fun(e:Int) (W:World)=>fY e W;have HX:=aD hxs;have HG:=aD hg
 have HGD:P3 (gD<w.heap.size):=by
  obtain⟨_,_,_,_,_,_,_,hm⟩:=h;exact aF hm.blk
 unfold kK;unfold Lk at cC;obtain⟨er,he⟩:=aq ((fO x).1);obtain⟨R,hR⟩:=aq ((fO x).2);rw[he,hR]at cC;have HC:P3 (fO x=(er,R)):=by show _=_;rw[<-he,<-hR]
 clear h hx hT hB hg hxs tb1 tb2 tb3 hdA bA he hR;go_enter func47,ntmps47;go_wp2_with fail;refine cC.mono ?_;rintro e w1 ⟨rv',cv',rfl,b1,hok1⟩;have hd1:=HDA.o.below b1;have n1:=bt b1 nA;have hb1:=au HBA.o b1;have HD1:=aD hd1;have HB1:=aD hb1;have HBB:=aD b1;have HOK1:=aD hok1;clear cC hd1 hb1 b1 hok1 nA;by_cases h0:er=0
 ·subst h0;obtain⟨h40,hfl,hrR,hrC⟩:=HOK1.o rfl;obtain⟨hok,rv,cv,vv,kv,ss,aa,hm⟩:=HD1.o;have z6:w1.cell? (ae gD 6)=some (ag d.given):=cr 6 hm.blk rfl;have x6:=bl _ _ 6 _ _ hm.blk;obtain⟨w2,hw2⟩:=aq (w1.setCell ⟨gD,6,none⟩ (ag (d.given+1)));have blk2:w2.heap[gD]? =ah #[rv,(t.add w.heap.size).ev,(t.add w.heap.size).sv,(t.add w.heap.size).av,cv,vv,ag (d.given+1),kv,ag d.runs] 95:=hw2▸aX w1 gD 6 _ _ (ag (d.given+1)) hm.blk;have ho2: ∀q,q≠gD->w2.heap[q]? =w1.heap[q]? :=fun q hq=>hw2▸aN _ _ _ _ hq;have hs2:w2.heap.size=w1.heap.size:=(by rw[<-hw2];simp)
  have hwp:IntKind.i64.wrap (d.given+1)=d.given+1:=by
   have:=HG.o;have:=hok.gv;rw[bG];omega
  have mv2: ∀{Φ:World->Prop},Rob (Fx gD (t.add w.heap.size)) Φ w1->Rob (Fx gD (t.add w.heap.size)) Φ w2:=fun hR=>hR.move (by omega) (fun q hq _=>ho2 q hq.1.1) fun _ _ h=>h;have hm2:DkM B gD {d with given:=d.given+1} (t.add w.heap.size) rv cv vv kv ss aa w2:=hm.put (by omega) (fun q _ hq=>ho2 q hq) blk2 rfl rfl rfl (mv2 hm.rules) (mv2 hm.codes) (mv2 hm.vers) (mv2 hm.kept);have hok2:B4 {d with given:=d.given+1}:=⟨hok.flt,hok.vl,hok.kl,hok.rl,hok.sl,hok.al,⟨by have:=hok.gv;show 0<=d.given+1;omega,HG.o⟩,hok.nm,hok.sv,hok.ap⟩
  have hlA:w.heap.size<=wA.heap.size:=HBA.o.size;have hgd:=HGD.o;have hin2:Rob (fun q=>wA.heap.size<=q) (fun u=> ∃us,InR u rv' us/\us.map (fun p=>p.1)=R) w2:=hrR.move (by omega) (fun q hq _=>ho2 q (by omega)) fun _ _ h=>h;obtain⟨us,hus,hmap⟩:=hin2.here;have hul:us.length=R.length:=(by rw[<-hmap,aZ]);obtain⟨prv,crv,hrv⟩:=hus.form;rw[hul]at hrv;obtain⟨pcv,ccv,hcv,_,_⟩:=(hrC w1 (fun _ _ _ _ _ _=>rfl)).form;obtain⟨nR,hnR⟩:=aq R.length;obtain⟨nC,hnC⟩:=aq ((eR R).length);rw[hnR]at hrv;rw[hnC]at hcv;subst hrv hcv;have cV:=Ky w2 ⟨hok2,_,_,_,_,_,_,hm2⟩ hus (by omega);rw[hmap,hul,hnR]at cV;have HNR:=aD hnR;have HM2:=aD hm2;have HIN2:=aD hin2;have HS2:=aD hs2;have HO2:=aD ho2;have HCC:P3 (∀u,mZ w1 u->InV u (.slice pcv nC ccv) (eR R)):=hrC;have HFL:=aD hfl;have H40:=aD h40;have HOK2:=aD hok2;have n2:w2.heap[w.heap.size]? =_:=(ho2 w.heap.size (by omega)).trans n1;have HM1:=aD hm;have HBL:=aD blk2;clear hm hok HOK1 hrR hrC mv2 hm2 hok2 hin2 hus hmap hul ho2 hs2 h40 hfl n1 blk2 cR hA hnR hnC;go_wp2_with fail;refine cV.mono ?_;rintro e w3 ⟨v3,rfl,ho3,b3⟩;obtain⟨p3,c3,hv3⟩:=bU ho3;subst hv3;have blk3:=bt b3 HBL.o;have x5:=bl _ _ 5 _ _ blk3;have y5:=cr 5 blk3 rfl;obtain⟨w4,hw4⟩:=aq (w3.setCell ⟨gD,5,none⟩ (.slice p3 nR c3));have blk4:=aX w3 gD 5 _ _ (.slice p3 nR c3) blk3;rw[hw4]at blk4;have x0:=bl _ _ 0 _ _ blk4;have y0:=cr 0 blk4 rfl;obtain⟨w5,hw5⟩:=aq (w4.setCell ⟨gD,0,none⟩ (.slice prv nR crv));have blk5:=aX w4 gD 0 _ _ (.slice prv nR crv) blk4;rw[hw5]at blk5;have x4:=bl _ _ 4 _ _ blk5;have y4:=cr 4 blk5 rfl;obtain⟨w6,hw6⟩:=aq (w5.setCell ⟨gD,4,none⟩ (.slice pcv nC ccv));have blk6:=aX w5 gD 4 _ _ (.slice pcv nC ccv) blk5;rw[hw6]at blk6
  have ho6: ∀q,q≠gD->w6.heap[q]? =w3.heap[q]? :=fun q hq=>by
   rw[<-hw6,<-hw5,<-hw4];exact(aN _ _ _ _ hq).trans ((aN _ _ _ _ hq).trans (aN _ _ _ _ hq))
  have hs6:w6.heap.size=w3.heap.size:=(by rw[<-hw6,<-hw5,<-hw4];simp);have hm3:=HM2.o.below b3;have hs3:=b3.size;have hs2:=HS2.o;have h16: ∀q,q<w1.heap.size->q≠gD->w6.heap[q]? =w1.heap[q]? :=fun q hl hq=>(ho6 q hq).trans ((b3.block q (by omega)).trans (HO2.o q hq));have hsB:=HBB.o.size;have fxA: ∀q,wA.heap.size<=q->Fx gD (t.add w.heap.size) q:=fun q hq=>HDA.o.fx (.inr hq);have mv6: ∀{Φ:World->Prop},Rob (Fx gD (t.add w.heap.size)) Φ w3->Rob (Fx gD (t.add w.heap.size)) Φ w6:=fun hR=>hR.move (by omega) (fun q hq _=>ho6 q hq.1.1) fun _ _ h=>h;have hgA:gD<wA.heap.size:=(by omega);obtain⟨d1,hd1⟩: ∃q:Dk,q={d with rules:=R,vers:=qR d R,given:=d.given+1}:=⟨_,rfl⟩
  have hm6:DkM B gD d1 (t.add w.heap.size) (.slice prv nR crv) (.slice pcv nC ccv) (.slice p3 nR c3) kv ss aa w6:=by
   subst hd1;refine hm3.put (by omega) (fun q _ hq=>ho6 q hq) blk6 rfl rfl rfl ?_ ?_ ?_ (mv6 hm3.kept)
   ·exact(HIN2.o.below b3).move (by omega) (fun q hq _=>ho6 q (by omega)) fun q _ hq=>fxA q hq
   ·intro u hu ha;refine HCC.o u fun q c T f hq hT=> ?_;have hql:=aF hq;have hT1:T≠95:=(by rcases hT with rfl|rfl|rfl<;>decide)
    have hqg:q≠gD:=fun e=>by
     subst e;have h1:=HM1.o.blk;rw[h1]at hq;injection hq with hq;injection hq with _ hq _;exact hT1 hq.symm
    have hoB: ∀{e s n:Nat} {v:Value} {xs:List Value},w1.ownsRow B e s v n xs->(e=9\/e=35\/e=122)->some q≠v.ownBlock:=fun hr he e2=>by
     rcases hr.2 with⟨e,_⟩|⟨g,cap,cur,e,_,hg,_⟩
     ·rw[e]at e2;cases e2
     ·rw[e]at e2;have:q=g:=aK e2;subst this;rw[hg]at hq;injection hq with hq;injection hq with _ hq _;subst hq;revert hT he;rintro(rfl|rfl|rfl) (h|h|h)<;>cases h
    refine(ha q ⟨⟨hqg,hoB HM1.o.res (.inl rfl),hoB HM1.o.svs (.inr (.inl rfl)),hoB HM1.o.aps (.inr (.inr rfl))⟩,fun hx=> ?_⟩ (by omega)).trans (h16 q hql hqg)
    obtain⟨c',T',f',hc',hn'⟩: ∃c T f,w1.heap[q]? =some (.cells c T f)/\ ¬(T=208\/T=234\/T=143):=by
     rcases bh.1 hx with rfl|hx
     ·exact⟨_,_,_,(HO2.o _ hqg).symm.trans n2,by decide⟩
     ·obtain⟨c,T,f,hc,hn⟩:=HX.o q hx;exact⟨c,T,f,bt HB1.o hc,hn⟩
    rw[hc']at hq;injection hq with hq;injection hq with _ hq _;subst hq;exact absurd hT hn'
   ·refine Rob.imp (Rob.move (P:=fun q=>w2.heap.size<=q) (Φ:=fun u=>u.ownsRow w2.heap.size 3 1 (.slice p3 nR c3) nR (c8 (ni {d with given:=d.given+1} R))) (w:=w3) (fun u _ ha=>bp ho3 fun b hb=>ha b (ho3.lt b hb).1 (ho3.lt b hb).2) (by omega) (fun q hq _=>ho6 q (by omega)) fun q _ hq=>fxA q (by omega)) fun u hu=> ?_;have:=mD (w:=u) (B:=w2.heap.size) (v:= .slice p3 nR c3) (l:=ni {d with given:=d.given+1} R) (by rw[wc,HNR.o];exact hu) (by rw[wc];have:=H40.o;omega);exact this
  have hok6:B4 d1:=by
   subst hd1;have hq:=HOK2.o;exact⟨HFL.o,(wc {d with given:=d.given+1} R),hq.kl,hq.rl,hq.sl,hq.al,hq.gv,hq.nm,hq.sv,hq.ap⟩
  have n6:=(ho6 _ (by omega)).trans (bt b3 n2);have HD6:=aD (show dE B gD d1 (t.add w.heap.size) w6 from⟨hok6,_,_,_,_,_,_,hm6⟩);have hk6:Kd gD t t w w6:=⟨by rw[<-hw6,<-hw5,<-hw4];exact b3.os.trans (by rw[<-hw2];exact HB1.o.os),by rw[<-hw6,<-hw5,<-hw4];exact b3.tape.trans (by rw[<-hw2];exact HB1.o.tape),by rw[<-hw6,<-hw5,<-hw4];exact b3.output.trans (by rw[<-hw2];exact HB1.o.output),by omega,fun q hq hl=>(h16 q (by omega) hq.1).trans (HB1.o.block q hl),fun _ _ h=>h,rfl⟩
  have HK6:=aD hk6;have cS:=FD w6 HD6.o
  have HPL:P3 (qA d (fO x)=(⟨0,0,0,0,[],(eB d1.aps 0 d1).1⟩,(eB d1.aps 0 d1).2)):=by
   show _=_;rw[HC.o,hd1];rfl
  obtain⟨Q,hQ⟩:=aq (eB d1.aps 0 d1);rw[hQ]at cS;rw[hQ]at HPL;clear cV ho3 b3 hm3 mv6 hm6 hok6 hk6 fxA h16 ho6 hd1 hQ n2 HM2 HIN2 HO2 HCC HBL HM1 hs2 hs3 hs6 hsB blk3 blk4 blk5 blk6;go_wp2_with fail;refine cS.mono ?_;rintro e w7 ⟨lv,rfl,hd7,hk7,ho7⟩;obtain⟨pl,cl,hlv⟩:=bU ho7;subst hlv
  have hgx:Gx gD (t.add w.heap.size) w.heap.size:=by
   obtain⟨_,_,_,_,_,_,_,hm⟩:=HD6.o;exact(hm.nx _ bc).2.2
  have n7:=(hk7.blk _ hgx (aF n6)).trans n6;obtain⟨nq,hnq⟩:=aq Q.1.length;have h67:=HK6.o.size;have ho8:w7.ownsRow w6.heap.size 3 1 (.slice pl nq cl) Q.1.length (c8 Q.1):=(by rw[<-hnq];exact ho7)
  have HRB:P3 (Rob (Fx gD t) (fun u=>dQ u (.slice pl nq cl) Q.1) (w7.setRow w.heap.size (anC ⟨0,0,0,0,[],Q.1⟩ (af) (.slice pl nq cl)))):=by
   refine Rob.imp (Rob.move (P:=fun q=>w6.heap.size<=q) (Φ:=fun u=>u.ownsRow w6.heap.size 3 1 (.slice pl nq cl) Q.1.length (c8 Q.1)) (w:=w7) (fun u _ ha=>bp ho8 fun b hb=>ha b (ho8.lt b hb).1 (ho8.lt b hb).2) (by simp) (fun q hq _=>aT _ _ _ _ (by have:=aF n6;omega)) fun q _ hq=>H0.o.fx (.inr (by omega))) fun u hu=>mD hu (by
    rcases ho7.2 with⟨_,e⟩|⟨_,_,_,_,_,_,_,e,_⟩
    ·omega
    ·unfold maxLen at e;omega)
  have HO:=aD (gC hd7 (HK6.o.trans ⟨hk7.os,hk7.tape,hk7.output,hk7.size,hk7.blk,fun _ _ h=>h,rfl⟩) (aA _) (anC ⟨0,0,0,0,[],Q.1⟩ (af) (.slice pl nq cl)));have HR:=aD (aJ _ _ _ (anC ⟨0,0,0,0,[],Q.1⟩ (af) (.slice pl nq cl)) _ _ n7);rw[hnq];clear cS hd7 hk7 ho7 ho8 hgx hnq n6 h67;go_wp2_with(refine az rfl 28 _ _ rfl _ _ rfl rfl _ _ n7 (by kernel_rfl) rfl (by simp[Value.oneCell']) ?_)
  refine aU (v:= .agg (anC ⟨0,0,0,0,[],Q.1⟩ (af) (.slice pl nq cl))) ?_ rfl ?_
  ·exact a8 rfl _ _ w.heap.size _ _ _ _ rfl HR.o anT rfl (by kernel_rfl)
  ·rw[HPL.o];exact⟨t,_,_,rfl,HO.o.1,HO.o.2,gg _ _,HRB.o⟩
 ·have h0':(er !=0)=true:=by simpa using h0
  have HP:P3 (qA d (fO x)=(noA er,d)):=(by show _=_;rw[HC.o];unfold qA;rw[ay h0]);clear h0 HOK1;go_wp2_with fail;refine(cR er w1).mono ?_;rintro e w2 ⟨rfl,b2⟩;have n2:=bt b2 n1;have hd2:=HD1.o.below b2;have HO:=aD (gC hd2 (Kd.of (au HB1.o b2)) (aA _) (anC (noA er) (af) (af)));have HR:=aD (aJ _ _ _ (anC (noA er) (af) (af)) _ _ n2);clear cR b2 n1 hd2;go_wp2_with(refine az rfl 28 _ _ rfl _ _ rfl rfl _ _ n2 (by kernel_rfl) rfl (by simp[anC,noA,Value.oneCell']) ?_)
  refine aU (v:= .agg (anC (noA er) (af) (af))) ?_ rfl ?_
  ·exact a8 rfl _ _ w.heap.size _ _ _ _ rfl HR.o anT rfl (by kernel_rfl)
  ·rw[HP.o];exact⟨t,_,_,rfl,HO.o.1,HO.o.2,gg _ _,eE _ _⟩
end
end
end Go.Proofs.YtjkilacmkbmmbaaGreatDoor
