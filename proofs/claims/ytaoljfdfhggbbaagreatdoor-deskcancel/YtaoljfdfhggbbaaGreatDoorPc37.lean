/- Texts of the proof. -/
import Derived.Test.YtaoljfdfhggbbaaGreatDoorPc36
set_option maxRecDepth 100000
set_option maxHeartbeats 8000000
namespace Go.Proofs.YtaoljfdfhggbbaaGreatDoor
open Go.Proofs.Tryz Go.RowKit Lx Vx Mx Msk
def wh (l:List UInt8):Nat->List Tk->Nat->List Tk×Nat
 |0,a,k=>(a,k)
 |f+1,a,k=>if k<l.length/\(firstT (l.drop k)).err=0 then wh l f (a++[(firstT (l.drop k),k)]) (k+(firstT (l.drop k)).len+eQ false (l.drop (k+(firstT (l.drop k)).len))) else(a,k)
def Cj (l:List UInt8):List Tk×Nat:=wh l (l.length+1) [] (0+eQ false (l.drop 0))
theorem Ck {l:List UInt8}: ∀(f:Nat) (a:List Tk) (k:Nat),fG l a k->l.length<f+a.length->fG l (wh l f a k).1 (wh l f a k).2/\ ¬((wh l f a k).2<l.length/\(firstT (l.drop (wh l f a k).2)).err=0)
 |0,a,k,h,c=>by have:=h.le;omega
 |f+1,a,k,h,c=>by
  unfold wh;by_cases b:k<l.length/\(firstT (l.drop k)).err=0
  ·rw[aD b];exact Ck f _ _ (h.step b.1 b.2) (by rw[aP];simp;omega)
  ·rw[ax b];exact⟨h,b⟩
theorem yQ {l:List UInt8}{a:List Tk}{k:Nat}(h:fG l a k)(e: ¬(k<l.length/\(firstT (l.drop k)).err=0)):Cj l=(a,k):=by
 obtain⟨c,d⟩:=Ck (l:=l) (l.length+1) [] _ fG.start (by simp);obtain⟨b,e2⟩:=Gm c h d e;exact Prod.ext b e2
def kT (l:List UInt8):Int×List Ru:=
 if 6000<l.length then(4,[]) else
 if(Cj l).2<l.length then((firstT (l.drop (Cj l).2)).err,[]) else
 match iT l.length ((Cj l).1.length+1) [] (Cj l).1 with
 | .error q=>(q.1,[])
 | .ok rs=>(0,rs)
theorem Iw {l:List UInt8}{o w:World}{v:Value}{er at_:Int}(h:tw l o w v er at_):er=(kT l).1/\(er=0-> ∃a,mB o w v a/\a.length<=40/\a.map (fun p=>p.1)=(kT l).2/\NmR (a.map (fun p=>p.1))):=by
 have nil: ∀(L:List Ru),L=[]->v=af-> ∃a:List (Ru×Value),mB o w v a/\a.length<=40/\a.map (fun p=>p.1)=L/\NmR (a.map (fun p=>p.1)):=fun L t x=>by
  subst t x;exact⟨[],⟨dc _ _ _ _,fun p m=>by cases m⟩,by simp,rfl,fun p m=>by cases m⟩
 rcases h with⟨i,c,b,_⟩|⟨q,k,i,c,b,d,f,g,_⟩|⟨q,k,j,r,i,c,b,d,f,g,_⟩|⟨q,k,a,i,c,b,d,f,g,s,_⟩
 ·have e:kT l=(4,[]):=by unfold kT;rw[aD i]
  rw[e];exact⟨b,fun _=>nil _ rfl c⟩
 ·have e:kT l=((firstT (l.drop k)).err,[]):=by
   unfold kT;rw[ax (by omega),yQ c (fun h=>d h.2),aD b]
  rw[e];exact⟨g,fun _=>nil _ rfl f⟩
 ·have e:kT l=(j,[]):=by
   unfold kT;rw[ax (by omega),yQ c (fun h=>b h.1),ax b,d]
  rw[e];exact⟨g,fun _=>nil _ rfl f⟩
 ·have e:kT l=(0,a.map (fun p=>p.1)):=by
   unfold kT;rw[ax (by omega),yQ c (fun h=>b h.1),ax b,d]
  rw[e];refine⟨s,fun _=>⟨a,g,f,rfl,fun u n=> ?_⟩⟩;obtain⟨z,A,y⟩:=Au _ _ _ _ (FD c) (fun u n=>by cases n) d u n;exact⟨by omega,by omega,y⟩
def it (l:List UInt8):Int×List Ru:=if(kT l).1≠0 then((kT l).1,[]) else((iA (kT l).2).1,(kT l).2)
def KX (l:List UInt8)(w:World)(e:Ending)(w':World):Prop:= ∃b a:Value,e= .returned (.tuple #[b,a,ag (it l).1])/\aq w w'/\((it l).1=0->(it l).2.length<=40/\iA (it l).2=(0,0)/\Rob (fun q=>w.heap.size<=q) (fun u=> ∃c,InR u b c/\c.map (fun p=>p.1)=(it l).2) w'/\ ∀u,nO w' u->InV u a (eW (it l).2))
theorem Av {l:List Ru}(h:(iA l).1=0):iA l=(0,0):=by
 unfold iA at h⊢;split
 ·rename_i a;rw[aD a]at h;exact absurd h a
 ·rename_i a;rw[ax a]at h;split
  ·rename_i b;rw[aD b]at h;cases h
  ·rfl
theorem Ks {l:List Ru}(h:(dq l).1≠0):(iA l).1=(dq l).1:=by unfold iA;rw[aD h]
theorem qg.below {w w':World}(h:qg w)(a:aq w w'):qg w':=fun i hi=>(a.cell (bP (h i hi))).trans (h i hi)
theorem Kt {l:List UInt8}{b w:World}{v:Value}{er at_:Int}(h:tw l b w v er at_)(a:er≠0):v=af:=by
 rcases h with⟨_,h,_⟩|⟨_,_,_,_,_,_,h,_⟩|⟨_,_,_,_,_,_,_,_,h,_⟩|⟨_,_,_,_,_,_,_,_,_,h,_⟩
 ·exact h
 ·exact h
 ·exact h
 ·exact absurd h a
theorem FE {w w':World}(h:Tab w)(a:aq w w'):Tab w':=h.later a
theorem Cl (l:List UInt8)(g:l.length<=9223372036854775807)(w:World)(hT:gI w)(hD:qg w)(hB:Tab w):Calls prog 21 #[.string ⟨l.toArray⟩] w (KX l w):=by
 have cP:=GK ⟨l.toArray⟩ l (by simp) g w hT hD;have HB:=aF hB;clear hT hD hB;go_enter func21,ntmps21;go_wp2_with fail;refine cP.mono ?_;rintro e a ⟨⟨v,er,at_,rfl,hp⟩,b1⟩;obtain⟨he,I⟩:=Iw hp;obtain⟨w2,an,b2,n2⟩:=nb a #[ag er,ag at_] 93;have z2:w2.cell? (ae a.heap.size 0)=some (ag er):=cr 0 n2 rfl;have HE:=aF he;have D:=aF I;have ad:=aF b1.size;have A:=aF (aw b1 b2);have C:=aF b2
 have a0: ∃p n c,v= .slice p n c:=by
  by_cases y:er=0
  ·obtain⟨s,d,_⟩:=I y;obtain⟨p,c,e⟩:=df d.own;exact⟨p,_,c,e⟩
  ·exact⟨none,0,0,Kt hp y⟩
 obtain⟨Q,P,L,rfl⟩:=a0;clear cP hp he I b1 b2;by_cases y:er=0
 ·subst y;obtain⟨s,d,E,r,al⟩:=D.o rfl;have k:Rob (fun q=>w.heap.size<=q/\q<a.heap.size) (fun u=>InR u (.slice Q P L) s) w2:=Rob.below (fun u J ha=>d.rob E al u J fun q m g=>ha q ⟨m,g⟩ g) C.o;have cK:=uH s (.slice Q P L) w2 k.here;rw[r]at cK;obtain⟨R,hR⟩:=au ((kT l).2)
  have x:PN (it l=((iA R).1,R)):=by
   show _=_;unfold it;rw[ax (by rw[<-HE.o];simp),hR]
  rw[hR]at cK r;have Z:=aF k;have ac:=aF r;have aa:PN (R.length<=40):=(by show _<=_;rw[<-r,ba];exact E);obtain⟨i,G⟩:=au ((dq R).1);obtain⟨ca,ah⟩:=au ((dq R).2:Int);rw[G,ah]at cK;have V:=aF G;clear d al k r hR G ah D HE C E;go_wp2_with fail;refine cK.mono ?_;rintro e w3 ⟨rfl,b3⟩;have O:=bt b3 n2;have n4:=aL _ _ _ #[ag i,ag ca] _ _ O;have B:=aF (below_setRow (aw A.o b3) ad.o #[ag i,ag ca]);have Y:PN (Rob (fun q=>w.heap.size<=q/\q<a.heap.size) (fun u=>InR u (.slice Q P L) s) (w3.setRow a.heap.size #[ag i,ag ca])):=(Z.o.below b3).move (by simp) (fun q m _=>aV _ _ _ _ (by omega)) fun _ _ h=>h;generalize a1:w3.setRow a.heap.size #[ag i,ag ca]=w4 at*;have z4:w4.cell? (ae a.heap.size 0)=some (ag i):=cr 0 n4 rfl;clear cK b3 Z A z2 n2;by_cases h1:i=0
  ·subst h1;have cC:=Dc s (.slice Q P L) w4 Y.o.here (FE HB.o B.o);rw[ac.o]at cC;unfold xY at cC;obtain⟨j,H⟩:=au ((iA R).1);obtain⟨N,ai⟩:=au ((iA R).2);rw[H,ai]at cC;have t:=aF H;clear H ai an;go_wp2_with(first|(refine ay rfl 93 _ _ rfl _ _ rfl rfl _ _ O (by kernel_rfl) rfl (by simp[Value.oneCell']) ?_)|fail)
   refine cC.mono ?_;rintro e w5 ⟨vc,rfl,ak,am,b5⟩;have m3:=bt b5 n4;have n6:=aL _ _ _ #[ag j,ag N] _ _ m3;have S:=aF (below_setRow (aw B.o b5) ad.o #[ag j,ag N]);have ap:PN (Rob (fun q=>w.heap.size<=q) (fun u=> ∃s,InR u (.slice Q P L) s/\s.map (fun p=>p.1)=R) (w5.setRow a.heap.size #[ag j,ag N])):=Rob.imp (((Y.o.below b5).move (by simp) (fun q m _=>aV _ _ _ _ (by omega)) fun _ _ h=>h.1):Rob (fun q=>w.heap.size<=q) (fun u=>InR u (.slice Q P L) s) _) fun u J=>⟨s,J,ac.o⟩
   have ar:PN (∀u,nO (w5.setRow a.heap.size #[ag j,ag N]) u->nO w5 u):=fun u J q c T f m hT=>by
    by_cases e:q=a.heap.size
    ·subst e;rw[m3]at m;injection m with m;injection m with _ m _;subst m;exact absurd hT (by decide)
    ·have:=aV w5 a.heap.size q #[ag j,ag N] e;rw[<-this];exact J q c T f (this.trans m) hT
   have av:=aF am;have ao:=aF ak;generalize a5:w5.setRow a.heap.size #[ag j,ag N]=w6 at*;have z6:w6.cell? (ae a.heap.size 0)=some (ag j):=cr 0 n6 rfl;have O:=m3;clear cC ak am b5 z4 n4 m3 a1;by_cases h2:j=0
   ·subst h2;go_wp2_with(refine ay rfl 93 _ _ rfl _ _ rfl rfl _ _ O (by kernel_rfl) rfl (by simp[Value.oneCell']) ?_)
    go_ret3;refine⟨_,_,by rw[x.o,t.o];rfl,S.o,fun _=> ?_⟩;rw[x.o];exact⟨aa.o,Av t.o,ap.o,fun u J=>ao.o trivial u (ar.o u J)⟩
   ·have a4:(j !=0)=true:=(by simpa using h2);have X:=aF h2;have az:=av.o h2;subst az;clear h2;go_wp2_with(refine ay rfl 93 _ _ rfl _ _ rfl rfl _ _ O (by kernel_rfl) rfl (by simp[Value.oneCell']) ?_)
    refine dh (fun _ _ W=>aq w6 W) [kn 33 (ab a.heap.size 0),kn 34 (ag j),kn 2 (af),kn 3 (af),kn 4 (ag j)] (fun _=>(aI _ _).drew) (fun _ _ _ _ b h=>aw h b) (by kernel_rfl) ?_ ?_
    ·rintro M φ W b _ F l g hF;have z:W.cell? (ae a.heap.size 0)=some (ag j):=aj b z6;simp only[kn,dW,aQ,aX,Act.put,aA,aK,aJ]at g;subst g;simp only[cZ,Nat.reduceAdd]at hF;dsimp only[kn,dB,eN,eg,Act.put];and_intros;all_goals first|exact trivial|intro hw hn hm K hK
     all_goals (go_simp;with_reducible exact hK _ _ ⟨rfl,aI _ _⟩)
    ·rintro M φ W hM b;simp only[kn,eh,aQ,aX,Act.put,aA,aK,aJ];clear hM z6;go_wp2_with fail;go_ret3;exact⟨_,_,by rw[x.o,t.o];rfl,aw S.o b,fun e=>absurd (by rw[x.o,t.o]at e;exact e) X.o⟩
  ·have a3:(i !=0)=true:=(by simpa using h1)
   have U:PN ((it l).1=i):=by
    show _=_;rw[x.o];show(iA R).1=i;rw[Ks (by rw[V.o];exact h1),V.o]
   have X:=aF h1;clear h1 an;go_wp2_with(refine ay rfl 93 _ _ rfl _ _ rfl rfl _ _ O (by kernel_rfl) rfl (by simp[Value.oneCell']) ?_)
   refine dh (fun _ _ W=>aq w4 W) [kn 23 (ab a.heap.size 0),kn 24 (ag i),kn 2 (af),kn 3 (af),kn 4 (ag i)] (fun _=>(aI _ _).drew) (fun _ _ _ _ b h=>aw h b) (by kernel_rfl) ?_ ?_
   ·rintro M φ W b _ F l g hF;have z:W.cell? (ae a.heap.size 0)=some (ag i):=aj b z4;simp only[kn,dW,aQ,aX,Act.put,aA,aK,aJ]at g;subst g;simp only[cZ,Nat.reduceAdd]at hF;dsimp only[kn,dB,eN,eg,Act.put];and_intros;all_goals first|exact trivial|intro hw hn hm K hK
    all_goals (go_simp;with_reducible exact hK _ _ ⟨rfl,aI _ _⟩)
   ·rintro M φ W hM b;simp only[kn,eh,aQ,aX,Act.put,aA,aK,aJ];clear hM z4;go_wp2_with fail;go_ret3;exact⟨_,_,by rw[U.o];rfl,aw B.o b,fun e=>absurd (by rw[U.o]at e;exact e) X.o⟩
 ·have a2:(er !=0)=true:=by simpa using y
  have x:PN (it l=(er,[])):=by
   show _=_;unfold it;rw[aD (by rw[<-HE.o];exact y),HE.o]
  have X:=aF y;clear y D C n2;go_upto_region 3 with fail;refine dh (fun _ _ W=>aq w2 W) [kn 16 (ab a.heap.size 0),kn 17 (ag er),kn 2 (af),kn 3 (af),kn 4 (ag er)] (fun _=>(aI _ _).drew) (fun _ _ _ _ b h=>aw h b) (by kernel_rfl) ?_ ?_
  ·rintro M φ W b _ F l g hF;have z:W.cell? (ae a.heap.size 0)=some (ag er):=aj b z2;simp only[kn,dW,aQ,aX,Act.put,aA,aK,aJ]at g;subst g;simp only[cZ,Nat.reduceAdd]at hF;dsimp only[kn,dB,eN,eg,Act.put];and_intros;all_goals first|exact trivial|intro hw hn hm K hK
   all_goals (go_simp;with_reducible exact hK _ _ ⟨rfl,aI _ _⟩)
  ·rintro M φ W hM b;simp only[kn,eh,aQ,aX,Act.put,aA,aK,aJ];clear hM z2;go_wp2_with fail;go_ret3;exact⟨_,_,by rw[x.o];rfl,aw A.o b,fun e=>absurd (by rw[x.o]at e;exact e) X.o⟩
section
def Cor (d a:Dk):Prop:= ∃k r,a={d with kept:=k,runs:=r}
theorem Cor.refl (d:Dk):Cor d d:=⟨d.kept,d.runs,rfl⟩
theorem Cor.trans {a b c:Dk}(h:Cor a b)(d:Cor b c):Cor a c:=by
 obtain⟨k,r,rfl⟩:=h;obtain⟨e,f,rfl⟩:=d;exact⟨e,f,rfl⟩
theorem sN (d:Dk)(r day:Int):Cor d (fi d r day).2:=by
 unfold fi;dsimp only;split
 ·exact Cor.refl d
 ·exact⟨_,_,rfl⟩
theorem wi {f:Int->Dk->Bool×Dk}(a: ∀x d,Cor d (f x d).2): ∀(l:List Int) (d:Dk),Cor d (jn f l d).2
 |[],d=>Cor.refl d
 |x::l,d=>by
  unfold jn;split
  ·exact a x d
  ·exact(a x d).trans (wi a l _)
def Tr.ad (t:Tr)(L:List Nat):Tr:={t with xs:=L++t.xs}
section
variable {B gD:Nat} {d:Dk} {t:Tr} {w w':World}
theorem Kd.ad {L:List Nat}(h:Kd gD t t w w'):Kd gD (t.ad L) (t.ad L) w w':=⟨h.os,h.tape,h.output,h.size,h.blk,fun _ _ h=>h,rfl⟩
theorem Kd.un {L:List Nat}(h:Kd gD (t.ad L) (t.ad L) w w'):Kd gD t t w w':=⟨h.os,h.tape,h.output,h.size,h.blk,fun _ _ h=>h,rfl⟩
theorem dt.drop {L:List Nat}(h:dt B gD d (t.ad L) w):dt B gD d t w:=by
 obtain⟨f,j,e,l,kv,k,c,h⟩:=h;have mv: ∀{Φ:World->Prop},Rob (Fx gD (t.ad L)) Φ w->Rob (Fx gD t) Φ w:=fun g=>g.move (aB _) (fun _ _ _=>rfl) fun q _ a=>⟨a.1,fun i=>a.2 (eD _ i)⟩
 exact⟨f,j,e,l,kv,k,c,h.blk,h.lo,mv h.rules,mv h.codes,mv h.vers,mv h.kept,h.res,h.svs,h.sve,fun p b=>mv (h.svr p b),h.aps,h.ape,fun p b=>mv (h.apr p b),fun q a=>h.nx q (eD _ a)⟩
theorem dt.grown {L:List Nat}(h:dt B gD d (t.ad L) w){v j:Value}{l e size n m:Nat}{xs ys:List Value}(_:w.ownsRow l e size v n xs)(G: ∀b,v.ownBlock=some b->b∈L)(y:w.grownBy w' v.ownBlock)(D:w'.ownsRow l e size j m ys)(O:j.ownBlock=v.ownBlock\/j.ownBlock=some w.heap.size): ∃g,dt B gD d (t.ad g) w'/\(∀b,j.ownBlock=some b->b∈g)/\(∀b∈g,b∈L\/(b=w.heap.size/\j.ownBlock=some b))/\ ∀Φ:World->Prop,Rob (Fx gD (t.ad L)) Φ w->Rob (Fx gD (t.ad g)) Φ w':=by
 obtain⟨K,P,J,R,kv,Q,I,h⟩:=h;have C:=aH h.blk;have ne: ∀q,q<w.heap.size->q∉L->w'.heap[q]? =w.heap[q]? :=fun q z a=>y.block q z fun e=>a (G q e.symm)
 have mv: ∀g:List Nat,(∀q,q∈g↔q∈L\/(j.ownBlock=some q/\q=w.heap.size))-> ∀Φ:World->Prop,Rob (Fx gD (t.ad L)) Φ w->Rob (Fx gD (t.ad g)) Φ w':=fun g k Φ M=>M.move y.size (fun q a z=>ne q z fun f=>a.2 (fJ _ f)) fun q z a=>⟨a.1,fun f=>by
  rcases bU.1 f with f|f
  ·rcases(k q).1 f with f|⟨_,f⟩
   ·exact a.2 (fJ _ f)
   ·omega
  ·exact a.2 (eD _ f)⟩
 have r: ∀g:List Nat,(∀q,q∈g↔q∈L\/(j.ownBlock=some q/\q=w.heap.size))->dt B gD d (t.ad g) w':=fun g k=>by
  have mv:= @mv g k;have x: ∀q∈L,q<w.heap.size/\B<=q/\q≠gD/\some q≠t.ev.ownBlock/\some q≠t.sv.ownBlock/\some q≠t.av.ownBlock:=fun q a=>h.nx q (fJ _ a);have rk: ∀{e s n:Nat} {u:Value} {xs:List Value},w.ownsRow B e s u n xs->(∀q∈L,some q≠u.ownBlock)->w'.ownsRow B e s u n xs:=fun H N=>br H fun b i=>ne b (H.lt b i).2 fun f=>N b f i.symm;refine⟨K,P,J,R,kv,Q,I,(ne gD C fun f=>(x gD f).2.2.1 rfl).trans h.blk,h.lo,mv _ h.rules,mv _ h.codes,mv _ h.vers,mv _ h.kept,rk h.res fun q a=>(x q a).2.2.2.1,rk h.svs fun q a=>(x q a).2.2.2.2.1,h.sve,fun p E=>mv _ (h.svr p E),rk h.aps fun q a=>(x q a).2.2.2.2.2,h.ape,fun p E=>mv _ (h.apr p E),fun q a=> ?_⟩;rcases bU.1 a with a|a
  ·rcases(k q).1 a with a|⟨A,F⟩
   ·have:=x q a;exact⟨aT this.1 y.size,this.2⟩
   ·have:=h.lo;exact⟨(D.lt q A).2,by omega,by omega,lY h.res (.inr (by omega)),lY h.svs (.inr (by omega)),lY h.aps (.inr (by omega))⟩
  ·have:=h.nx q (eD _ a);exact⟨aT this.1 y.size,this.2⟩
 by_cases o:j.ownBlock=some w.heap.size
 ·have c: ∀q,q∈w.heap.size::L↔q∈L\/(j.ownBlock=some q/\q=w.heap.size):=fun q=>by
   rw[bv,o];constructor
   ·rintro(rfl|h)
    ·exact .inr ⟨rfl,rfl⟩
    ·exact .inl h
   ·rintro(h|⟨_,h⟩)
    ·exact .inr h
    ·exact .inl h
  refine⟨w.heap.size::L,r _ c,fun b i=> ?_,fun b i=> ?_,mv _ c⟩
  ·rw[o]at i;rw[<-aN i];exact bq
  ·rcases bv.1 i with h|h
   ·exact .inr ⟨h,by rw[h];exact o⟩
   ·exact .inl h
 ·have e:=O.resolve_right o;have c: ∀q,q∈L↔q∈L\/(j.ownBlock=some q/\q=w.heap.size):=fun q=>⟨.inl,fun h=>h.elim id fun⟨A,F⟩=>absurd (by rw[A,F]) o⟩
  exact⟨L,r L c,fun b i=>G b (by rw[<-e];exact i),fun b i=> .inl i,mv L c⟩
end
theorem Dj {l:List Ap}{j:Nat}{a:Ap}(d:Dk)(h:l[j]? =some a):eZ (l.drop j) j d=if a.st=3 then eZ (l.drop (j+1)) (j+1) d else(if(jn (kZ a.day a.fr a.to) a.who d).1=true then(j:Int)::(eZ (l.drop (j+1)) (j+1) (jn (kZ a.day a.fr a.to) a.who d).2).1 else(eZ (l.drop (j+1)) (j+1) (jn (kZ a.day a.fr a.to) a.who d).2).1,(eZ (l.drop (j+1)) (j+1) (jn (kZ a.day a.fr a.to) a.who d).2).2):=by
 obtain⟨b,c⟩:=aG.1 h;rw[bx b,c];rfl
section
variable {B gD:Nat} {d:Dk} {t:Tr}
theorem FG (w:World)(h:dt B gD d t w):Calls prog 23 #[ab gD 0] w fun e w'=> ∃lv,e= .returned lv/\dt B gD (eZ d.aps 0 d).2 t w'/\Kd gD t t w w'/\w'.ownsRow w.heap.size 3 1 lv (eZ d.aps 0 d).1.length (dp (eZ d.aps 0 d).1):=by
 obtain⟨wA,hA,bA,nA⟩:=nb w #[ab gD 0] 55;have ar:=h.below bA;have H0:=aF h;have aA:=aF ar;obtain⟨ah,aR⟩:=ar;obtain⟨rv,cv,vv,kv,ss,aa,hm⟩:=aR;have a0:aa.length=d.aps.length:=by rw[<-hm.ape,ba]
 obtain⟨n,hn⟩:=au d.aps.length;have HN:=aF hn;obtain⟨pa,ca,H⟩:=df hm.aps;rw[a0,hn]at H;have z3:wA.cell? (ae gD 3)=some t.av:=cr 3 hm.blk rfl;rw[H]at z3;have aV:n<=30:=by rw[<-hn];exact ah.al
 have a5:=aF H;have a6:=aF bA;have aN:=aF ah;have z1:=cr 0 nA rfl;have ai:w.heap.size<=wA.heap.size:=bA.size;have HG:PN (∀q,w.heap.size<=q->Gx gD t q):=fun q F=>(H0.o.fx (.inr F)).1;have eF: ∀M w,(callFunc 43 M).run prog w= .ok (.enter 43 M) w:=fun _ _=>rfl;clear h hm a0 hn H ah bA;go_enter func23,ntmps23;go_wp2_with fail;clear z3 hA z1;go_loopw [3,4,5,6,13] (fun v _ _ _ q wr=> ∃(j:Nat) (u:Dk) (l:List Int) (L:List Nat),q=ag (j:Int)/\j<=n/\Cor d u/\dt B gD u (t.ad L) wr/\(∀b,v.ownBlock=some b->b∈L)/\Kd gD t t wA wr/\wr.ownsRow wA.heap.size 3 1 v l.length (dp l)/\l.length<=j/\eZ d.aps 0 d=(l++(eZ (d.aps.drop j) j u).1,(eZ (d.aps.drop j) j u).2)) (fun _ _ _ _ q _=>n-(intOf q).toNat);case atStart=>exact⟨0,d,[],[],rfl,by omega,Cor.refl d,aA.o,(fun b hb=>by cases hb),Kd.of (aI _ _),dc _ _ _ _,aB _,rfl⟩
 case round=>
  obtain⟨j,u,l,L,rfl,hj,y,hd,T,hk,f,aZ,hX⟩:=hrel;have aY:(0:Int)<=(j:Int):=(by omega);have C:u.aps=d.aps:=(by obtain⟨_,_,rfl⟩:=y;rfl);have ao:u.res=d.res:=(by obtain⟨_,_,rfl⟩:=y;rfl);by_cases aS:j<n
  ·have aw:(j:Int)<(n:Int):=(by omega);obtain⟨a,pw,cw,ga,aO,ha,a2,_,z,O⟩:=DkM.ap hd.2 (j:=j) (by rw[C,HN.o];exact aS);rw[C]at ha;have e0:Value.slice pa n ca= .slice (some (ae ga 0)) n aO:=(by rw[<-a5.o,<-HN.o,<-C];exact a2);injection e0 with e1 e3 e2;subst e1 e2;rw[Dj u ha]at hX;have E:=(aN.o.ap a (aM ha)).2.2.2.2.2.2;obtain⟨wZ,wB,hZ,nZ,hB,bB,nB⟩:=nbs wr apZ (apC (a,.slice pw a.who.length cw)) 45;unfold apZ at hZ nZ;have y0:wB.cell? (ae wr.heap.size 0)=some (ag a.st):=cr 0 nB rfl;have a4:wB.cell? (ae wr.heap.size 10)=some (.slice pw a.who.length cw):=cr 10 nB rfl;have V:=hd.below bB;have Z:=hk.trans (Kd.of bB);have D:=br f fun b F=>bB.block b (f.lt b F).2;have aj:w.heap.size<=wr.heap.size:=bf ai hk.size
   have cC:=pD (kZ a.day a.fr a.to) (fun s W=>dt B gD s (t.ad L) W/\Kd gD t t wB W/\Cor d s) 43 #[ab w.heap.size 0,ab wr.heap.size 0] a.who (.slice pw a.who.length cw) u wB eF ⟨V,Kd.of (aI _ _),y⟩ (fun s W N=>(N.2.1.ad.rob (O.below bB)).here) (fun x hx s W N=>by
    have h1:=N.2.1.blk w.heap.size (HG.o _ (aB _));have h2:=N.2.1.blk wr.heap.size (HG.o _ aj);have a3:=(Z.blk w.heap.size (HG.o _ (aB _)) (aH nA)).trans nA;have aU:s.res=d.res:=(by obtain⟨_,_,rfl⟩:=N.2.2;rfl);refine(Io W N.1 (E x hx).1 (by rw[aU];exact(E x hx).2) ((h1 (aH a3)).trans a3) ((h2 (aH nB)).trans nB) (HG.o _ aj) (HG.o _ (aB _))).mono fun e w' hh=>⟨hh.1,hh.2.1,N.2.1.trans hh.2.2.un,N.2.2.trans (sN s x a.day)⟩)
   have K:=aF hX;have A:=aF D;have Q:=aF Z;have aC:=aF V;have a7:=aF y;have R:=aF T;obtain⟨st,a1⟩:=au a.st;rw[a1]at y0 K;obtain⟨nw,ac⟩:=au a.who.length;rw[ac]at a4 cC;have aW:=aF ac;have S:=aF z;clear T hX a1 e3 a2 O f hd V hk Z y C ao D ha E aj ac;by_cases h3:st=3
   ·subst h3;have HY:=aF (K.o.trans (by rw[aD rfl]));clear K cC;have z:=S.o;go_wp2_with(first|(refine wpList_load_mid rfl 45 _ rfl ga (j*11) rfl (apC (a,.slice pw a.who.length cw)).toList _ z apT rfl (by kernel_rfl) ?_)|(refine ay rfl 45 _ _ rfl _ _ rfl rfl _ _ nZ (by kernel_rfl) rfl (iJ _ _ _ _) ?_;rw[hB]))
    go_roundw;case rel=>exact⟨j+1,u,l,L,by go_num,by omega,a7.o,aC.o,R.o,Q.o,A.o,by omega,HY.o⟩
    case measure=>simp[intOf];omega
   ·have aX:(st !=3)=true:=(by simpa using h3);obtain⟨bb,U⟩:=au ((jn (kZ a.day a.fr a.to) a.who u).1);obtain⟨G,X⟩:=au ((jn (kZ a.day a.fr a.to) a.who u).2);rw[U,X]at cC
    have HY:PN (eZ d.aps 0 d=(l++(if bb=true then(j:Int)::(eZ (d.aps.drop (j+1)) (j+1) G).1 else(eZ (d.aps.drop (j+1)) (j+1) G).1),(eZ (d.aps.drop (j+1)) (j+1) G).2)):=by
     show _=_;have:=K.o;rw[ax h3,U,X]at this;exact this
    have z:=S.o;clear K U X h3;go_wp2_with(first|(refine wpList_load_mid rfl 45 _ rfl ga (j*11) rfl (apC (a,.slice pw a.who.length cw)).toList _ z apT rfl (by kernel_rfl) ?_)|(refine ay rfl 45 _ _ rfl _ _ rfl rfl _ _ nZ (by kernel_rfl) rfl (iJ _ _ _ _) ?_;rw[hB]))
    refine cC.mono ?_;rintro e w1 ⟨rfl,I,Y,p⟩;have r:=Q.o.trans Y;have k:=br A.o fun b F=>Y.blk b (HG.o b (bf ai (A.o.lt b F).1)) (A.o.lt b F).2;clear cC y0 a4 nB nZ hB hZ z S Y A Q;cases bb with
    |false=>
     have a8:=aF I;have aE:=aF r;have aK:=aF k;have P:=aF p;have HZ:PN (eZ d.aps 0 d=(l++(eZ (d.aps.drop (j+1)) (j+1) G).1,(eZ (d.aps.drop (j+1)) (j+1) G).2)):=HY.o;clear I r k p HY;go_wp2_with fail;go_roundw;case rel=>exact⟨j+1,G,l,L,by go_num,by omega,P.o,a8.o,R.o,aE.o,aK.o,by omega,HZ.o⟩
     case measure=>simp[intOf];omega
    |true=>
     obtain⟨wC,hC,bC,nC⟩:=nb w1 #[ag (j:Int)] 3;have J:=br k fun b F=>bC.block b (k.lt b F).2;have i:=aF (r.trans (Kd.of bC));have ak:=aF (I.below bC);have P:=aF p;have aQ:wA.heap.size<=wC.heap.size:=i.o.size
     have HZ:PN (eZ d.aps 0 d=((l++[(j:Int)])++(eZ (d.aps.drop (j+1)) (j+1) G).1,(eZ (d.aps.drop (j+1)) (j+1) G).2)):=by
      show _=_;rw[HY.o,eo];rfl
     clear I r k p HY bC;go_wp2_with(at_builtin;refine iB rfl _ _ 23 3 rfl qA oz rfl (by decide) (by decide) rfl J rfl nC rfl (by simp[Value.oneCell']) (by omega) aQ ?_)
     rintro v2 w2 af m an g2 c2 rfl;obtain⟨L',aq,am,_,_⟩:=ak.o.grown J R.o m af an;have az:Kd gD t t wA w2:=⟨m.os.trans i.o.os,m.tape.trans i.o.tape,m.output.trans i.o.output,bf i.o.size m.size,fun q F hl=>(m.block q (aT hl i.o.size) (fun e=>by have:=(J.lt q e.symm).1;omega)).trans (i.o.blk q F hl),fun _ _ h=>h,rfl⟩
     have a9:=aF aq;have aJ:=aF am;have aG:=aF az
     have aL:PN (w2.ownsRow wA.heap.size 3 1 (.slice (some (ae g2 0)) (l.length+1) c2) (l++[(j:Int)]).length (dp (l++[(j:Int)]))):=by
      show World.ownsRow _ _ _ _ _ _ _;rw[lq,aP];exact af
     clear J af m an nC hC aq am az ak i;go_wp2_with fail;go_roundw;case rel=>exact⟨j+1,G,l++[(j:Int)],L',by go_num,by omega,P.o,a9.o,aJ.o,aG.o,aL.o,by rw[aP];simp;omega,HZ.o⟩
     case measure=>simp[intOf];omega
  ·have aw: ¬(j:Int)<(n:Int):=(by omega);obtain rfl:n=j:=(by omega);rw[dg (by rw[HN.o];exact aB _)]at hX
   have K:PN (eZ d.aps 0 d=(l,u)):=by
    show _=_;rw[hX];simp[eZ]
   have HD:=aF hd.drop;have HK:=aF ((Kd.of a6.o).trans hk);have HO:PN (wr.ownsRow w.heap.size 3 1 u3 l.length (dp l)):=⟨f.1,f.2.imp id fun⟨g,c,cu,q1,q2,q3⟩=>⟨g,c,cu,q1,bf ai q2,q3⟩⟩
   clear hX hd hk f y C ao T;go_wp2_with fail;go_ret;exact⟨_,rfl,by rw[K.o];exact HD.o,HK.o,by rw[K.o];exact HO.o⟩
end
end
section
def Tbs (B:Nat)(w:World):Prop:= ∀W,Below B w W->gI W/\qg W/\Tab W
theorem Tbs.below {B:Nat}{w w':World}(h:Tbs B w)(b:Below B w w'):Tbs B w':=fun _ a=>h _ (b.trans a)
def FH (w:World)(xs:List Nat):Prop:= ∀k∈xs,∃c T f,w.heap[k]? =some (.cells c T f)/\ ¬(T=140\/T=177\/T=87)
theorem wj (d:Dk)(l:List Ru):(nT d l).length=l.length:=by simp[nT]
section
variable {B gD:Nat} {d:Dk} {t:Tr}
theorem Ix (x:List UInt8)(w:World)(h:dt B gD d t w)(hx:x.length<=9223372036854775807)(hT:Tbs B w)(hB:B<=w.heap.size)(hg:d.given+1<=1000000)(b8:FH w t.xs):Calls prog 8 #[ab gD 0,kO x] w (qI B gD (nQ d (it x)) t w):=by
 obtain⟨wA,hA,bA,nA⟩:=nb w #[ag 0,ag 0,ag 0,ag 0,af,af] 43;have b6:wA.heap.size=w.heap.size+1:=by rw[<-hA];simp
 have bn:=h.opened (aB _) b6 bA;have a1:=aF bn;have H0:=aF h;have ax:=aF bA;obtain⟨bC,bD,bE⟩:=hT wA (bA.mono hB);have cC:=Cl x hx wA bC bD bE;have cR:=fun(e:Int) (W:World)=>fb e W;have HX:=aF b8;have HG:=aF hg
 have aZ:PN (gD<w.heap.size):=by
  obtain⟨_,_,_,_,_,_,_,y⟩:=h;exact aH y.blk
 unfold kO;unfold KX at cC;obtain⟨er,he⟩:=au ((it x).1);obtain⟨R,hR⟩:=au ((it x).2);rw[he,hR]at cC;have HC:PN (it x=(er,R)):=by show _=_;rw[<-he,<-hR]
 go_enter func8,ntmps8;go_wp2_with fail;refine cC.mono ?_;rintro e F ⟨bB,bG,rfl,b1,aI⟩;have I:=a1.o.below b1;have n1:=bt b1 nA;have bi:=aw ax.o b1;have az:=aF I;have m:=aF bi;have aS:=aF b1;have a5:=aF aI;by_cases h0:er=0
 ·subst h0;obtain⟨bg,bo,b5,aK⟩:=a5.o rfl;obtain⟨i,rv,cv,vv,kv,ss,aa,y⟩:=az.o;have z6:F.cell? (ae gD 6)=some (ag d.given):=cr 6 y.blk rfl;have x6:=bl _ _ 6 _ _ y.blk;obtain⟨G,A⟩:=au (F.setCell ⟨gD,6,none⟩ (ag (d.given+1)));have X:G.heap[gD]? =ah #[rv,(t.add w.heap.size).ev,(t.add w.heap.size).sv,(t.add w.heap.size).av,cv,vv,ag (d.given+1),kv,ag d.runs] 53:=A▸aY F gD 6 _ _ (ag (d.given+1)) y.blk;have J: ∀q,q≠gD->G.heap[q]? =F.heap[q]? :=fun q a=>A▸aO _ _ _ _ a;have aM:G.heap.size=F.heap.size:=(by rw[<-A];simp)
  have bP:IntKind.i64.wrap (d.given+1)=d.given+1:=by
   have:=HG.o;have:=i.gv;rw[bz];omega
  have S: ∀{Φ:World->Prop},Rob (Fx gD (t.add w.heap.size)) Φ F->Rob (Fx gD (t.add w.heap.size)) Φ G:=fun hR=>hR.move (by omega) (fun q a _=>J q a.1.1) fun _ _ h=>h;have aC:DkM B gD {d with given:=d.given+1} (t.add w.heap.size) rv cv vv kv ss aa G:=y.put (by omega) (fun q _ a=>J q a) X rfl rfl rfl (S y.rules) (S y.codes) (S y.vers) (S y.kept);have ad:tV {d with given:=d.given+1}:=⟨i.flt,i.vl,i.kl,i.rl,i.sl,i.al,⟨by have:=i.gv;show 0<=d.given+1;omega,HG.o⟩,i.nm,i.sv,i.ap⟩
  have bL:w.heap.size<=wA.heap.size:=ax.o.size;have bK:=aZ.o;have Z:Rob (fun q=>wA.heap.size<=q) (fun u=> ∃us,InR u bB us/\us.map (fun p=>p.1)=R) G:=b5.move (by omega) (fun q a _=>J q (by omega)) fun _ _ h=>h;obtain⟨us,aQ,ac⟩:=Z.here;have aP:us.length=R.length:=(by rw[<-ac,ba]);obtain⟨ar,ai,aq⟩:=aQ.form;rw[aP]at aq;obtain⟨V,M,aA,_,_⟩:=(aK F (fun _ _ _ _ _ _=>rfl)).form;obtain⟨U,aj⟩:=au R.length;obtain⟨nC,b0⟩:=au ((eW R).length);rw[aj]at aq;rw[b0]at aA;subst aq aA;have cV:=Kr G ⟨ad,_,_,_,_,_,_,aC⟩ aQ (by omega);rw[ac,aP,aj]at cV;have bd:=aF aj;have bb:=aF aC;have a2:=aF Z;have bf:=aF aM;have a4:=aF J;have aU:PN (∀u,nO F u->InV u (.slice V nC M) (eW R)):=aK;have aX:=aF bo;have aR:=aF bg;have a6:=aF ad;have n2:G.heap[w.heap.size]? =_:=(J w.heap.size (by omega)).trans n1;have L:=aF y;have aT:=aF X;go_wp2_with fail;refine cV.mono ?_;rintro e w3 ⟨v3,rfl,O,b3⟩;obtain⟨p3,c3,b7⟩:=df O;subst b7;have H:=bt b3 aT.o;have x5:=bl _ _ 5 _ _ H;have y5:=cr 5 H rfl;obtain⟨w4,C⟩:=au (w3.setCell ⟨gD,5,none⟩ (.slice p3 U c3));have j:=aY w3 gD 5 _ _ (.slice p3 U c3) H;rw[C]at j;have x0:=bl _ _ 0 _ _ j;have y0:=cr 0 j rfl;obtain⟨w5,D⟩:=au (w4.setCell ⟨gD,0,none⟩ (.slice ar U ai));have k:=aY w4 gD 0 _ _ (.slice ar U ai) j;rw[D]at k;have x4:=bl _ _ 4 _ _ k;have y4:=cr 4 k rfl;obtain⟨K,E⟩:=au (w5.setCell ⟨gD,4,none⟩ (.slice V nC M));have Y:=aY w5 gD 4 _ _ (.slice V nC M) k;rw[E]at Y
  have z: ∀q,q≠gD->K.heap[q]? =w3.heap[q]? :=fun q a=>by
   rw[<-E,<-D,<-C];exact(aO _ _ _ _ a).trans ((aO _ _ _ _ a).trans (aO _ _ _ _ a))
  have bN:K.heap.size=w3.heap.size:=(by rw[<-E,<-D,<-C];simp);have aE:=bb.o.below b3;have bM:=b3.size;have aM:=bf.o;have a9: ∀q,q<F.heap.size->q≠gD->K.heap[q]? =F.heap[q]? :=fun q hl a=>(z q a).trans ((b3.block q (by omega)).trans (a4.o q a));have bO:=aS.o.size;have a8: ∀q,wA.heap.size<=q->Fx gD (t.add w.heap.size) q:=fun q a=>a1.o.fx (.inr a);have b9: ∀{Φ:World->Prop},Rob (Fx gD (t.add w.heap.size)) Φ w3->Rob (Fx gD (t.add w.heap.size)) Φ K:=fun hR=>hR.move (by omega) (fun q a _=>z q a.1.1) fun _ _ h=>h;have bJ:gD<wA.heap.size:=(by omega);obtain⟨N,I⟩: ∃q:Dk,q={d with rules:=R,vers:=pS d R,given:=d.given+1}:=⟨_,rfl⟩
  have bw:DkM B gD N (t.add w.heap.size) (.slice ar U ai) (.slice V nC M) (.slice p3 U c3) kv ss aa K:=by
   subst I;refine aE.put (by omega) (fun q _ a=>z q a) Y rfl rfl rfl ?_ ?_ ?_ (b9 aE.kept)
   ·exact(a2.o.below b3).move (by omega) (fun q a _=>z q (by omega)) fun q _ a=>a8 q a
   ·intro u hu ha;refine aU.o u fun q c T f a hT=> ?_;have b4:=aH a;have bh:T≠53:=(by rcases hT with rfl|rfl|rfl<;>decide)
    have ao:q≠gD:=fun e=>by
     subst e;have h1:=L.o.blk;rw[h1]at a;injection a with a;injection a with _ a _;exact bh a.symm
    have an: ∀{e s n:Nat} {v:Value} {xs:List Value},F.ownsRow B e s v n xs->(e=9\/e=29\/e=45)->some q≠v.ownBlock:=fun hr he e2=>by
     rcases hr.2 with⟨e,_⟩|⟨g,cap,bF,e,_,hg,_⟩
     ·rw[e]at e2;cases e2
     ·rw[e]at e2;have:q=g:=aN e2;subst this;rw[hg]at a;injection a with a;injection a with _ a _;subst a;revert hT he;rintro(rfl|rfl|rfl) (h|h|h)<;>cases h
    refine(ha q ⟨⟨ao,an L.o.res (.inl rfl),an L.o.svs (.inr (.inl rfl)),an L.o.aps (.inr (.inr rfl))⟩,fun hx=> ?_⟩ (by omega)).trans (a9 q b4 ao)
    obtain⟨c',T',f',bj,bx⟩: ∃c T f,F.heap[q]? =some (.cells c T f)/\ ¬(T=140\/T=177\/T=87):=by
     rcases bv.1 hx with rfl|hx
     ·exact⟨_,_,_,(a4.o _ ao).symm.trans n2,by decide⟩
     ·obtain⟨c,T,f,hc,hn⟩:=HX.o q hx;exact⟨c,T,f,bt m.o hc,hn⟩
    rw[bj]at a;injection a with a;injection a with _ a _;subst a;exact absurd hT bx
   ·refine Rob.imp (Rob.move (P:=fun q=>G.heap.size<=q) (Φ:=fun u=>u.ownsRow G.heap.size 3 1 (.slice p3 U c3) U (dp (nT {d with given:=d.given+1} R))) (w:=w3) (fun u _ ha=>br O fun b hb=>ha b (O.lt b hb).1 (O.lt b hb).2) (by omega) (fun q a _=>z q (by omega)) fun q _ a=>a8 q (by omega)) fun u hu=> ?_;have:=pt (w:=u) (B:=G.heap.size) (v:= .slice p3 U c3) (l:=nT {d with given:=d.given+1} R) (by rw[wj,bd.o];exact hu) (by rw[wj];have:=aR.o;omega);exact this
  have aJ:tV N:=by
   subst I;have a:=a6.o;exact⟨aX.o,(wj {d with given:=d.given+1} R),a.kl,a.rl,a.sl,a.al,a.gv,a.nm,a.sv,a.ap⟩
  have n6:=(z _ (by omega)).trans (bt b3 n2);have a0:=aF (show dt B gD N (t.add w.heap.size) K from⟨aJ,_,_,_,_,_,_,bw⟩);have bs:Kd gD t t w K:=⟨by rw[<-E,<-D,<-C];exact b3.os.trans (by rw[<-A];exact m.o.os),by rw[<-E,<-D,<-C];exact b3.tape.trans (by rw[<-A];exact m.o.tape),by rw[<-E,<-D,<-C];exact b3.output.trans (by rw[<-A];exact m.o.output),by omega,fun q a hl=>(a9 q (by omega) a.1).trans (m.o.block q hl),fun _ _ h=>h,rfl⟩
  have a3:=aF bs;have cS:=FG K a0.o
  have a7:PN (nQ d (it x)=(⟨0,0,0,0,[],(eZ N.aps 0 N).1⟩,(eZ N.aps 0 N).2)):=by
   show _=_;rw[HC.o,I];rfl
  obtain⟨Q,hQ⟩:=au (eZ N.aps 0 N);rw[hQ]at cS;rw[hQ]at a7;go_wp2_with fail;refine cS.mono ?_;rintro e w7 ⟨lv,rfl,bm,r,ak⟩;obtain⟨pl,cl,bu⟩:=df ak;subst bu
  have bp:Gx gD (t.add w.heap.size) w.heap.size:=by
   obtain⟨_,_,_,_,_,_,_,y⟩:=a0.o;exact(y.nx _ bq).2.2
  have n7:=(r.blk _ bp (aH n6)).trans n6;obtain⟨nq,aG⟩:=au Q.1.length;have bI:=a3.o.size;have am:w7.ownsRow K.heap.size 3 1 (.slice pl nq cl) Q.1.length (dp Q.1):=(by rw[<-aG];exact ak)
  have be:PN (Rob (Fx gD t) (fun u=>dS u (.slice pl nq cl) Q.1) (w7.setRow w.heap.size (anC ⟨0,0,0,0,[],Q.1⟩ (af) (.slice pl nq cl)))):=by
   refine Rob.imp (Rob.move (P:=fun q=>K.heap.size<=q) (Φ:=fun u=>u.ownsRow K.heap.size 3 1 (.slice pl nq cl) Q.1.length (dp Q.1)) (w:=w7) (fun u _ ha=>br am fun b hb=>ha b (am.lt b hb).1 (am.lt b hb).2) (by simp) (fun q a _=>aV _ _ _ _ (by have:=aH n6;omega)) fun q _ a=>H0.o.fx (.inr (by omega))) fun u hu=>pt hu (by
    rcases ak.2 with⟨_,e⟩|⟨_,_,_,_,_,_,_,e,_⟩
    ·omega
    ·unfold maxLen at e;omega)
  have HO:=aF (fB bm (a3.o.trans ⟨r.os,r.tape,r.output,r.size,r.blk,fun _ _ h=>h,rfl⟩) (aB _) (anC ⟨0,0,0,0,[],Q.1⟩ (af) (.slice pl nq cl)));have HR:=aF (aL _ _ _ (anC ⟨0,0,0,0,[],Q.1⟩ (af) (.slice pl nq cl)) _ _ n7);rw[aG];go_wp2_with(refine ay rfl 43 _ _ rfl _ _ rfl rfl _ _ n7 (by kernel_rfl) rfl (by simp[Value.oneCell']) ?_)
  refine aW (v:= .agg (anC ⟨0,0,0,0,[],Q.1⟩ (af) (.slice pl nq cl))) ?_ rfl ?_
  ·exact bc rfl _ _ w.heap.size _ _ _ _ rfl HR.o anT rfl (by kernel_rfl)
  ·rw[a7.o];exact⟨t,_,_,rfl,HO.o.1,HO.o.2,ff _ _,be.o⟩
 ·have bH:(er !=0)=true:=by simpa using h0
  have HP:PN (nQ d (it x)=(noA er,d)):=(by show _=_;rw[HC.o];unfold nQ;rw[aD h0]);go_wp2_with fail;refine(cR er F).mono ?_;rintro e G ⟨rfl,b2⟩;have n2:=bt b2 n1;have bk:=az.o.below b2;have HO:=aF (fB bk (Kd.of (aw m.o b2)) (aB _) (anC (noA er) (af) (af)));have HR:=aF (aL _ _ _ (anC (noA er) (af) (af)) _ _ n2);go_wp2_with(refine ay rfl 43 _ _ rfl _ _ rfl rfl _ _ n2 (by kernel_rfl) rfl (by simp[anC,noA,Value.oneCell']) ?_)
  refine aW (v:= .agg (anC (noA er) (af) (af))) ?_ rfl ?_
  ·exact bc rfl _ _ w.heap.size _ _ _ _ rfl HR.o anT rfl (by kernel_rfl)
  ·rw[HP.o];exact⟨t,_,_,rfl,HO.o.1,HO.o.2,ff _ _,et _ _⟩
end
end
end Go.Proofs.YtaoljfdfhggbbaaGreatDoor
