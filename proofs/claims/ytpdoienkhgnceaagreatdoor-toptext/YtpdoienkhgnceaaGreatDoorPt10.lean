/- Texts of the proof. -/
import Derived.Test.YtpdoienkhgnceaaGreatDoorPt09
import Derived.Test.YtpdoienkhgnceaaGreatDoorPt08
set_option maxRecDepth 100000
set_option maxHeartbeats 8000000
namespace Go.Proofs.YtpdoienkhgnceaaGreatDoor
open Go.Proofs.Tryz Go.RowKit Lx Vx Mx Msk
theorem gU {w b:World}{g o:Nat}{xs:List Value}(h:w.rangeAt g o xs)(c:ao w b):b.rangeAt g o xs:=fun j u a=>(c.cell (aU (h j u a))).trans (h j u a)
theorem PF (f:Nat->Bool):(mv f).toList.length=23:=by rw[cg];exact bU f
theorem vq {op:Oper}{a:Act}{w:World}{K:Act->World->Prop}{Q:Exit->Act->World->Prop}(x:Operand)(d:op.op= .load 39 x)(b o:Nat)(e:a.eval x=ab b o)(f:Nat->Bool)(c:w.rangeAt b o (mv f).toList)(h:K (a.put op.dst (.agg (mv f))) w):op.wp prog a w K Q:=by
 refine wp_load_mid 39 x d b o e (mv f).toList _ c cj rfl (by rw[PF];kernel_rfl) ?_;simpa using h
theorem KP:prog.underlying 171=some (.struct (prog.fieldsOf 171)):=by kernel_rfl
def tY (w:World)(v:Value)(a:List (Nat->Bool)):Prop:= ∃p c,v= .slice p a.length c/\a.length<9223372036854775808/\ ∀(j:Nat) (f:Nat->Bool),a[j]? =some f-> ∃g o:Nat,p=some ⟨g,o,none⟩/\w.rangeAt g (o+j*23) (mv f).toList
theorem tY.below {w b:World}{v:Value}{a:List (Nat->Bool)}(h:tY w v a)(l:ao w b):tY b v a:=by
 obtain⟨p,c,d,i,k⟩:=h;refine⟨p,c,d,i,fun j f m=> ?_⟩;obtain⟨g,o,e,n⟩:=k j f m;exact⟨g,o,e,gU n l⟩
def okP (a:List (Nat->Bool))(x y:Int)(r:Int):Bool:=jt (a.getD r.toNat fun _=>false) x y
theorem kT {α:Type}{l:List α}{i:Nat}{x:α}(h:l[i]? =some x):l.take (i+1)=l.take i++[x]:=by
 obtain⟨a,b⟩:=aE.1 h;rw[fF,h];rfl
theorem BP {l m:List Int}{x:Int}(h:l++[x]=m):m.length=l.length+1:=by rw[<-h];simp
theorem zI {c a d:World}{v f:Value}{n:Nat}{xs:List Value}{C:Prop}(e:ao c a)(j:a.ownsRow c.heap.size 3 1 v n xs)(i:(f.ownBlock=v.ownBlock/\a.grownBy d v.ownBlock/\C)\/(a.grownBy d none/\ ∃g,f.ownBlock=some g/\a.heap.size<=g)):ao c d:=by
 rcases i with⟨_,h,_⟩|⟨h,_⟩
 ·exact io e h (aA _) (fun k b=>(j.lt k b).1)
 ·exact io e h (aA _) (fun k b=>by cases b)
theorem KQ:prog.underlying 51=some (.slice 43):=by kernel_rfl
theorem Nq:(prog.info? 43).map (fun i=>(i.zero,i.size,i.bytes))=some (some (af),1,24):=by kernel_rfl
structure lR (B:Nat)(w:World)(v:Value)(vs:List Value)(ls:List (List Int)):Prop where
 o:w.ownsRow B 43 1 v vs.length vs
 len:vs.length=ls.length
 each: ∀(i:Nat) (sv:Value) (l:List Int),vs[i]? =some sv->ls[i]? =some l->w.ownsRow B 3 1 sv l.length (dt l)
theorem lR.below {B:Nat}{w d:World}{v:Value}{c:List Value}{b:List (List Int)}(h:lR B w v c b)(a:ao w d):lR B d v c b:=
 ⟨it h.o a,h.len,fun i sv l e f=>it (h.each i sv l e f) a⟩
theorem lR.row {B:Nat}{w:World}{v:Value}{d:List Value}{f:List (List Int)}(h:lR B w v d f)(k:f.length<9223372036854775808)(q: ∀l∈f,l.length<9223372036854775808):fZ w v f:=by
 rcases h.o.2 with⟨rfl,e⟩|⟨g,cap,b,rfl,_,p,_,_,_,r⟩
 ·refine⟨none,0,by rw[<-h.len,e],k,fun j n c=> ?_⟩;have:=(aE.1 c).1;rw[<-h.len]at this;omega
 ·refine⟨_,cap,by rw[h.len],k,fun j l c=> ?_⟩;have a:=(aE.1 c).1;rw[<-h.len]at a;have m:d[j]? =some d[j]:=az a;refine⟨g,0,d[j],rfl,?_,rJ (h.each j _ l m c) (q l (aL c))⟩;rw[bN,aW w g j b _ (0,0) p,<-bq]
  have e:(d:List Value)[j]? =b.toList[j]? :=by
   have i:=congrArg (fun l:List Value=>l[j]?) r;rw[Nat.mul_one,dJ a]at i;exact i.symm
  rw[<-e,m]
theorem lR.snoc {B:Nat}{w f:World}{v q sv:Value}{c:List Value}{p:List (List Int)}{l:List Int}(h:lR B w v c p)(y:w.ownsRow B 3 1 sv l.length (dt l))(x:f.ownsRow B 43 1 q (c.length+1) (c++[sv]))(s:w.grownBy f v.ownBlock):lR B f q (c++[sv]) (p++[l]):=by
 have d: ∀(u:Value) (m:List Int),w.ownsRow B 3 1 u m.length (dt m)->f.ownsRow B 3 1 u m.length (dt m):=fun u m n=>by
  refine n.kept s ?_;cases hb:u.ownBlock with
  |none=>exact .inl rfl
  |some k=>
   refine .inr fun e=> ?_;rcases n.2 with⟨rfl,_⟩|⟨g,cap,r,rfl,_,j,_⟩
   ·cases hb
   ·have t:k=g:=(by simpa[Value.ownBlock] using hb.symm);subst t;exact sm h.o j (by decide) e.symm
 refine⟨by simpa using x,by simp[h.len],fun i u m a b=> ?_⟩;by_cases hi:i<c.length
 ·rw[eP hi]at a;rw[eP (by rw[<-h.len];exact hi)]at b;exact d u m (h.each i u m a b)
 ·rw[dR (by omega)]at a;rw[dR (by rw[<-h.len];omega),<-h.len]at b
  have e:i-c.length=0:=by
   have:=(aE.1 a).1;simp at this;omega
  rw[e]at a b;simp at a b;subst a b;exact d _ _ y
theorem oK {w:World}{B:Nat}{e:TypeId}{size:Nat}{v:Value}{n:Nat}{xs:List Value}(h:w.ownsRow B e size v n xs): ∃(q:Option Addr) (c:Nat),v= .slice q n c:=by
 rcases h.2 with⟨e,a⟩|⟨_,_,_,e,_⟩
 ·exact⟨_,_,by rw[e,a]⟩
 ·exact⟨_,_,e⟩
theorem rK {w:World}{B c:Nat}{e:TypeId}{size:Nat}{v:Value}{n:Nat}{xs:List Value}(h:w.ownsRow c e size v n xs)(f:B<=c):w.ownsRow B e size v n xs:=by
 refine⟨h.1,?_⟩;rcases h.2 with j|⟨g,cap,b,d,i,a⟩
 ·exact .inl j
 ·exact .inr ⟨g,cap,b,d,bh f i,a⟩
theorem CG (roles:List (List Int))(rv:Value)(c:List (Nat->Bool))(fv:Value)(x y:Int)(w:World)(hR:fZ w rv roles)(hF:tY w fv c)(aW: ∀p∈roles,p.length<=1000/\ ∀r∈p,0<=r/\r<(c.length:Int))(bp:roles.length<=1000):
  Calls prog 216 #[rv,fv,.agg #[ag x,ag y]] w fun e w'=> ∃v,e= .returned v/\fZ w' v (gX (okP c x y) roles)/\ao w w':=by
 have U:=am w (.cells #[ag x,ag y] 171);have nA:=aB w (.cells #[ag x,ag y] 171);generalize bh:w.alloc (.cells #[ag x,ag y] 171)=X at*;have HR:=bO (hR.below U);have HF:=bO (hF.below U);have HB:=bO U;have ad:=bO aW;have aX:w.heap.size<X.heap.size:=aH nA;obtain⟨pr,cr,rfl,aY,_⟩:=hR;obtain⟨pf,cf,rfl,bo,_⟩:=hF;go_enter func216,ntmps216
 go_wp2_with fail;go_loopw [7,9,10,12,15] (fun a _ _ _ t wr=> ∃(j:Nat) (n:List Value) (qo:Option Addr) (co:Nat),a= .slice qo n.length co/\t=ag (j:Int)/\j<=roles.length/\T4 (lR X.heap.size wr (.slice qo n.length co) n (gX (okP c x y) (roles.take j)))/\T4 (ao X wr)) (fun _ _ _ _ t _=>roles.length-(intOf t).toNat);case atStart=>exact⟨0,[],_,_,rfl,rfl,by omega,⟨df _ _ _ _,rfl,fun i sv l h _=>by simp at h⟩,aF _ _⟩
 case round=>
  obtain⟨j,n,qo,co,rfl,rfl,hj,HO,m⟩:=hrel;have bn:(0:Int)<=(j:Int):=(by omega);by_cases aZ:j<roles.length
  ·have a6:(j:Int)<(roles.length:Int):=(by omega);obtain⟨b,P⟩: ∃r,roles[j]? =some r:=⟨roles[j],az aZ⟩
   obtain⟨_,_,e1,_,a1⟩:=HR.o;cases e1;obtain⟨gr,or,sv,bc,aU,S⟩:=a1 j _ P;subst bc;have hc:=aj m.o aU;obtain⟨ar,ac,rfl,aE,E⟩:=S.below m.o;have HC:=bO E;have aK:=bO P;have ah:=bO (ad.o b (aL P));have bf:b.length<=1000:=ah.o.1
   have aP:T4 (∀i:Nat,((b.take i).filter (okP c x y)).length<=1000000):=fun i=>by
    have h2:=List.length_filter_le (okP c x y) (b.take i);have z:=List.length_take_le' i b;omega
   obtain⟨V,G⟩: ∃q,q=wr:=⟨_,rfl⟩
   have a9:=(m.o.block _ aX).trans nA;have aa:=bO (HF.o.below m.o);rw[<-G]at a9 aa HC;have H:T4 (ao X V):=(by rw[G];exact m);have aM:T4 (lR X.heap.size V (.slice qo n.length co) n (gX (okP c x y) (roles.take j))):=(by rw[G];exact HO);have aQ:=bO G;go_wp2_with fail;go_loopw [10,12,21] (fun a _ t W=> ∃(i:Nat) (B:Option Addr) (A:Nat),a= .slice B ((b.take i).filter (okP c x y)).length A/\t=ag (i:Int)/\i<=b.length/\T4 (W.ownsRow V.heap.size 3 1 (.slice B ((b.take i).filter (okP c x y)).length A) ((b.take i).filter (okP c x y)).length (dt ((b.take i).filter (okP c x y))))/\T4 (ao V W)) (fun _ _ t _=>b.length-(intOf t).toNat);case atStart=>exact⟨0,none,0,rfl,rfl,by omega,df _ _ _ _,by rw[aQ.o];exact aF _ _⟩
   case round=>
    obtain⟨i,B,A,rfl,rfl,hi,av,g⟩:=hrel;have bl:(0:Int)<=(i:Int):=(by omega);by_cases a7:i<b.length
    ·have Q:(i:Int)<(b.length:Int):=(by omega);obtain⟨r,F⟩: ∃r,b[i]? =some r:=⟨b[i],az a7⟩
     obtain⟨h1,h2⟩:=ah.o.2 r (aL F);obtain⟨d,be⟩: ∃d:Nat,r=(d:Int):=⟨r.toNat,by omega⟩
     subst be;obtain⟨f,hf⟩: ∃f,c[d]? =some f:=⟨c[d]'(by omega),az (by omega)⟩
     obtain⟨ga,oa,bb,aS⟩:=HC.o i _ F;subst bb;have ca:=aj g.o aS;obtain⟨_,_,e3,_,N⟩:=aa.o;cases e3;obtain⟨gf,of,bd,aC⟩:=N d f hf;subst bd;have bj:=gU aC g.o;have n5:=ai g.o a9
     have ap:T4 (okP c x y (d:Int)=jt f x y):=by
      show _=_;unfold okP;rw[di];congr 1;simp[List.getD,hf]
     go_wp2_with fail;refine dH (fun _ _ W=>ao wr W) [kn 25 (.slice (some (ae gf of)) c.length cf),kn 26 (ag (d:Int)),kn 27 (ab gf (of+d*23)),kn 28 (.agg (mv f)),kn 29 (.agg #[ag x,ag y]),kn 30 (.bool (jt f x y))] (fun _=>(aF _ _).drew) (fun _ _ _ _ hb h=>au h hb) (by kernel_rfl) (fun M φ W2 hJ bk FF ll a5 L=> ?_) (fun M φ W5 hM hJ=> ?_)
     ·simp only[kn,d6,aR,a8,Act.put,aD,aJ,aI]at a5;subst a5;simp only[dz,Nat.reduceAdd]at L;dsimp only[kn,dK,fo,eD,Act.put];and_intros;all_goals first|exact trivial|intro qw qn qm K hK
      all_goals try (go_simp;with_reducible exact hK _ _ ⟨rfl,aF _ _⟩)
      ·refine vq _ rfl gf (of+d*23) (by simp[Act.eval,L]) f (gU bj hJ) ?_;exact hK _ _ ⟨rfl,aF _ _⟩
      ·refine fh 171 _ rfl _ (by simp[Act.eval,L]) _ _ _ _ (ai hJ n5) KP rfl (by kernel_rfl) ?_;exact hK _ _ ⟨rfl,aF _ _⟩
      ·go_simp;refine(BO f x y W2).mono ?_;rintro r' W' ⟨rfl,aT⟩;exact hK _ _ ⟨rfl,aT⟩
     ·simp only[kn,ep,aR,a8,Act.put,aD,aJ,aI];have al:=bO (it av.o hJ);have Y:=bO (au g.o hJ);cases hok:jt f x y with
      |true=>
       have U:=am W5 (.cells #[ag (d:Int)] 3);have nA:=aB W5 (.cells #[ag (d:Int)] 3);generalize bh:W5.alloc (.cells #[ag (d:Int)] 3)=wB at*;have zA:=ak 0 nA;have an:=bO (it al.o U);have Z:=bO (au Y.o U)
       have s:T4 (((b.take i).filter (okP c x y))++[(d:Int)]=(b.take (i+1)).filter (okP c x y)):=by
        show _=_;rw[kT F,List.filter_append];congr 1;rw[List.filter_cons,ax (by rw[ap.o];exact hok)];rfl
       go_wp2_with(first
        |(refine mA rfl _ _ rfl V.heap.size _ ((b.take i).filter (okP c x y)) (d:Int) rfl ?ho W5.heap.size 1 rfl zA ?hl ?hb ?_
          case ho=>exact an.o
          case hl=>exact aP.o i
          case hb=>exact Z.o.size
          intro v' w3 R O))
       have I:=bO (zI Z.o an.o O);have J:=bO R;go_wp2_with fail;go_roundw
       case rel=>
        have z:=J.o;rw[s.o,<-BP s.o]at z;obtain⟨q',c',T⟩:=oK z;subst T;exact⟨i+1,q',c',rfl,by go_num,by omega,z,I⟩
       case measure=>simp[intOf];omega
      |false=>
       have s:T4 ((b.take i).filter (okP c x y)=(b.take (i+1)).filter (okP c x y)):=by
        show _=_;rw[kT F,List.filter_append,List.filter_cons,aw (by rw[ap.o,hok];decide)];simp
       go_wp2_with fail;go_roundw
       case rel=>
        have z:=al.o;rw[s.o]at z;exact⟨i+1,B,A,by rw[s.o],by go_num,by omega,z,Y⟩
       case measure=>simp[intOf];omega
    ·have Q: ¬(i:Int)<(b.length:Int):=(by omega);have aV:i=b.length:=(by omega)
     have a0:T4 (wr.ownsRow V.heap.size 3 1 (.slice B ((b.take i).filter (okP c x y)).length A) (b.filter (okP c x y)).length (dt (b.filter (okP c x y)))):=by
      have h:=av.o;rw[aV,da (aA _)]at h⊢;exact h
     obtain⟨nl,ba⟩:=aq (((b.take i).filter (okP c x y)).length);rw[ba]at a0⊢;have aG:=bO (au H.o g.o);have aN:=bO (aM.o.below g.o);have bB:=am wr (.cells #[.slice B nl A] 43);have nB:=aB wr (.cells #[.slice B nl A] 43);generalize br:wr.alloc (.cells #[.slice B nl A] 43)=wB at*;have zB:=ak 0 nB;have D:=bO (aN.o.below bB);have HcB:=bO (rK (it a0.o bB) H.o.size);have C:=bO (au aG.o bB)
     have HT:T4 (gX (okP c x y) (roles.take j)++[b.filter (okP c x y)]=gX (okP c x y) (roles.take (j+1))):=by
      show _=_;unfold gX;rw[kT aK.o,dV];rfl
     obtain⟨i0,a4,bi,bg,a2⟩:=qX Nq;have HI:=bO a4
     have bq:n.length<=1000:=by
      rw[D.o.len];unfold gX;rw[bm];have:=List.length_take_le' j roles;omega
     go_wp2_with(first
      |(refine eC wB rfl _ _ 51 rfl X.heap.size 43 i0 (af) 1 24 KQ HI.o bi bg a2 rfl (by decide) _ n.length n rfl D.o.o ⟨wr.heap.size,0,none⟩ 1 1 [.slice B nl A] rfl rfl ?hn ?h1 ?h63 ?hby ?hb ?_
        case hn=>
         intro q u hq
         match q,hq with
         |0,hq=>cases ay hq;simpa[Addr.add] using zB
         |q+1,hq=>simp at hq
        case h1=>simp[Value.oneCell']
        case h63=>unfold maxLen;omega
        case hby=>omega
        case hb=>exact C.o.size
        intro v' w3 R a3 _))
     have J:=bO (D.o.snoc HcB.o R a3);have I:=bO (io C.o a3 (aA _) (fun k hk=>(D.o.o.lt k hk).1));go_wp2_with fail;go_roundw
     case rel=>
      have z:=J.o;rw[HT.o]at z;have e1:(n++[Value.slice B nl A]).length=n.length+1:=(by simp);obtain⟨q',c',T⟩:=oK z.o;subst T;exact⟨j+1,_,q',c',rfl,by go_num,by omega,z,I⟩
     case measure=>simp[intOf];omega
  ·have a6: ¬(j:Int)<(roles.length:Int):=(by omega)
   have aO:T4 (fZ wr (.slice qo n.length co) (gX (okP c x y) roles)):=by
    have e:j=roles.length:=(by omega);have h:=HO.o;rw[e,da (aA _)]at h;refine h.row (by unfold gX;rw[bm];exact aY) fun l hl=> ?_;unfold gX at hl;rw[dB]at hl;obtain⟨p,hp,rfl⟩:=hl;have h1:=(ad.o p hp).1;have h2:=List.length_filter_le (okP c x y) p;omega
   have C:=bO (au HB.o m.o);go_wp2_with fail;go_ret;exact⟨_,rfl,aO.o,C.o⟩
theorem kU {w b:World}(h:Tab w)(c:ao w b):Tab b:=fun j a=>(c.cell (aU (h j a))).trans (h j a)
theorem BQ (f:Nat->Bool)(w:World)(p:Tab w):
  Calls prog 52 #[.agg (mv f)] w fun e j=>(∃v,e= .returned v/\j.ownsRow w.heap.size 171 2 v (rs f 1440).length (iZ (rs f 1440)))/\mc f 1440 (rs f 1440)/\ao w j:=by
 have q: ∀(k:Fn) (first cap:Array Value) (w:World),(Instr.makeFunc k first cap).run prog w= .ok (.func k first cap) w:=fun _ _ _ _=>rfl;have i:((w.alloc (.cells (mv f) 39)).alloc (.cells #[af] 137)).heap[w.heap.size]? =ah (mv f) 39:=by(repeat (first|refine dh _ _ _ (by simp only[aP];omega) ?_|exact dA _ _ _ (by first|rfl|simp only[aP])))
 have c:((w.alloc (.cells (mv f) 39)).alloc (.cells #[af] 137)).heap[w.heap.size+1]? =ah #[af] 137:=by(repeat (first|refine dh _ _ _ (by simp only[aP];omega) ?_|exact dA _ _ _ (by first|rfl|simp only[aP])))
 have d:ao w ((w.alloc (.cells (mv f) 39)).alloc (.cells #[af] 137)):=(am _ _).alloc (by simp) _;have n:=Fp f w _ _ p (by omega) ⟨d,⟨_,c,df _ _ _ _⟩,tW.zero f,by omega⟩;clear c d;go_enter func52,ntmps52
 go_wp2_with(first
  |(refine aO rfl 39 _ rfl _ rfl _ _ _ _ i cj rfl (bg _) ?_)
  |(go_at_call 98;refine n.mono ?_;rintro e j ⟨rfl,g,⟨v,r,b⟩,a⟩;have c1:=cell_of_one r;have m:T4 (_):=b;have l:T4 (mc f 1440 (rs f 1440)):=a;clear b a))
 go_ret;exact⟨⟨v,rfl,m.o⟩,l.o,g⟩
namespace Msk
theorem BU (f:Nat->Bool): ∀m,f m=true-> ∃a,a<=m/\(a=0\/f (a-1)=false)/\ ∀i,a<=i->i<=m->f i=true
 |0,h=>⟨0,aA _,.inl rfl,fun i _ hi=>by rw[show i=0 by omega];exact h⟩
 |m+1,h=>by
  cases hm:f m with
  |false=>exact⟨m+1,aA _,.inr hm,fun i c b=>by rw[show i=m+1 by omega];exact h⟩
  |true=>
   obtain⟨a,c,b,d⟩:=BU f m hm;refine⟨a,by omega,b,fun i hi g=> ?_⟩;by_cases e:i=m+1
   ·rw[e];exact h
   ·exact d i hi (by omega)
theorem Ns (f:Nat->Bool): ∀n,mc f n (rs f n)/\((n=0\/f (n-1)=false)->si (-1) (rs f n)<n):=by
 intro n;induction n using Nat.strongRecOn with
 |ind n b=>
  match n,b with
  |0,_=>exact⟨mc.zero f,fun _=>by show(-1:Int)<0;omega⟩
  |m+1,b=>
   cases hm:f m with
   |false=>
    have e:rs f (m+1)=rs f m:=(by rw[rs,hm];rfl);have h:=(b m (by omega)).1;rw[e];refine⟨h.skip (m+1) (by omega) fun i j c=>by rw[show i=m by omega];exact hm,fun _=> ?_⟩;have:=h.last;omega
   |true=>
    obtain⟨a,j,c,g⟩:=BU f m hm;obtain⟨r1,l⟩:=b a (by omega);have e:=DU f a c (m-a) (fun i d k=>g i d (by omega));rw[show a+(m-a+1)=m+1 by omega]at e;rw[e];refine⟨r1.run (l c) (m+1) (by omega) (fun i d k=>g i d (by omega)),fun h=> ?_⟩;rcases h with h|h
    ·omega
    ·rw[show m+1-1=m by omega,hm]at h;cases h
theorem A3 (f:Nat->Bool)(n:Nat):mc f n (rs f n):=(Ns f n).1
end Msk
def iv (f:In×Value):Array Value:= #[ag f.1.op,ag f.1.a,ag f.1.b,ag f.1.to,f.2]
def ju (S:List (In×Value)):List Value:=S.flatMap fun f=>(iv f).toList
theorem qj: ∀S:List (In×Value),(ju S).length=S.length*5
 |[]=>rfl
 |f::S=>by
  have:=qj S;unfold ju at this⊢;rw[List.flatMap_cons,aN,this];have h:(iv f).toList.length=5:=rfl;rw[h,bK];omega
theorem IK (S:List (In×Value))(f:In×Value):ju (S++[f])=ju S++(iv f).toList:=by
 unfold ju;rw[fC];simp
structure WsC (w0:World)(gm:Nat)(mp:Value)(S:List (In×Value))(W:World):Prop where
 bel:ao w0 W
 gt:w0.heap.size<=gm
 row: ∃sv,W.heap[gm]? =ah #[mp,sv] 90/\W.ownsRow w0.heap.size 140 5 sv S.length (ju S)
theorem WsC.below {d W b:World}{gm:Nat}{c:Value}{S:List (In×Value)}(h:WsC d gm c S W)(a:ao W b):WsC d gm c S b:=by
 obtain⟨e,f,sv,g,i⟩:=h;exact⟨au e a,f,sv,ai a g,iG i a⟩
theorem Ny:(prog.info? 140).map (fun i=>(i.zero,i.size,i.bytes))=some (some (.agg #[ag 0,ag 0,ag 0,ag 0,af]),5,56):=by kernel_rfl
theorem Ld:prog.underlying 88=some (.slice 140):=by kernel_rfl
def vw (gm:Nat)(W:World):Option Nat:=match W.cell? (ae gm 1) with
 |some v=>v.ownBlock
 |none=>none
theorem pJ {gm:Nat}{W:World}{a sv:Value}(h:W.heap[gm]? =ah #[a,sv] 90):vw gm W=sv.ownBlock:=by
 unfold vw;rw[aW _ _ 1 _ _ _ h];rfl
structure Fr2 (gm:Nat)(W W':World):Prop where
 blk: ∀q,q<W.heap.size->q≠gm->vw gm W≠some q->W'.heap[q]? =W.heap[q]?
 row:vw gm W'=vw gm W\/ ∃g,vw gm W'=some g/\W.heap.size<=g
 size:W.heap.size<=W'.heap.size
theorem Fr2.trans {gm:Nat}{w k b:World}(h:Fr2 gm w k)(c:Fr2 gm k b):Fr2 gm w b:=by
 refine⟨fun q i a j=> ?_,?_,bh h.size c.size⟩
 ·refine(c.blk q (aT i h.size) a ?_).trans (h.blk q i a j);rcases h.row with e|⟨g,e,f⟩
  ·rw[e];exact j
  ·rw[e];intro d;injection d with d;omega
 ·rcases c.row with e|⟨g,e,f⟩
  ·rw[e];exact h.row
  ·exact .inr ⟨g,e,bh h.size f⟩
theorem Fr2.below {gm:Nat}{w c:World}(d:gm<w.heap.size)(b:ao w c):Fr2 gm w c:=by
 refine⟨fun q e _ _=>b.block q e,.inl ?_,b.size⟩;unfold vw;rw[dP (a:=⟨gm,1,none⟩) (b.block gm d)]
theorem ya:prog.underlying 140=some (.struct (prog.fieldsOf 140)):=by kernel_rfl
theorem GG (f:In×Value):(iv f).toList.length=5:=rfl
theorem RJ {f:In×Value}(h: ∃p n c,f.2= .slice p n c):(iv f).all (·.oneCell')=true:=by
 obtain⟨p,n,c,e⟩:=h;unfold iv;rw[e];simp[Value.oneCell']
theorem RK (f:In×Value)(h: ∃p n c,f.2= .slice p n c)(W:World):(Instr.buildSlice 88 1 #[(0,.agg (iv f))]).run prog W= .ok (.slice (some (ae W.heap.size 0)) 1 1) (W.alloc (.cells (iv f) 140)):=by
 obtain⟨p,n,c,e⟩:=h;unfold iv;rw[e];kernel_rfl
theorem Le {op:Oper}{a:Act}{w:World}{K:Act->World->Prop}{Q:Exit->Act->World->Prop}(x:Operand)(e:op.op= .buildSlice 88 1 #[(0,x)])(f:In×Value)(d: ∃p n c,f.2= .slice p n c)(g:a.eval x= .agg (iv f))(h:K (a.put op.dst (.slice (some (ae w.heap.size 0)) 1 1)) (w.alloc (.cells (iv f) 140))):op.wp prog a w K Q:=by
 unfold Oper.wp execOp;have b:=RK f d w;simp only[e,g,jl,cQ,fu,kb,lg,iB,b];exact h
structure OD (base:Nat)(sv:Value)(n:Nat)(xs:List Value)(f:In×Value)(W1:World)(R:World->Prop)(D:Nat->Bool)(φ:Nat->Value)(W:World):Prop where
 grown:D 10=false->W1.grownBy W sv.ownBlock
 own:D 7=false->W.ownsRow base 140 5 sv n xs
 one:D 6=true->D 7=false-> ∃g,φ 10= .slice (some (ae g 0)) 1 1/\W.heap[g]? =ah (iv f) 140
 app:D 7=true->D 10=false->W.ownsRow base 140 5 (φ 11) (n+1) (xs++(iv f).toList)/\((φ 11).ownBlock=sv.ownBlock\/ ∃g,(φ 11).ownBlock=some g/\W1.heap.size<=g)
 fin:D 10=true->R W
theorem Nz (L:World)(gm:Nat)(mp:Value)(S:List (In×Value))(f:In×Value)(W:World)(h:WsC L gm mp S W)(hS:S.length<=1000)(hf: ∃p n c,f.2= .slice p n c):
  Calls prog 51 #[ab gm 0,.agg (iv f)] W fun e z=>e= .returned (.tuple #[])/\WsC L gm mp (S++[f]) z/\(∀(q:Nat) (c:Array Value) (T:TypeId),W.heap[q]? =ah c T->T≠140->q≠gm->z.heap[q]? =ah c T)/\Fr2 gm W z:=by
 obtain⟨G,hgt,sv,Y,r⟩:=h;obtain⟨i0,hi,al,a2,a3⟩:=iV Ny;have HZ:=aZ al;have C:=aZ hf;clear hf;have N:=am W (.cells (iv f) 140);have an:=aB W (.cells (iv f) 140);have nM:=ai N Y;have s:=iG r N;have aa:=aZ (pJ Y);have ap:T4 (∀q,q<W.heap.size->(W.alloc (.cells (iv f) 140)).heap[q]? =W.heap[q]?):=fun q m=>N.block q m;have M:T4 (W.heap.size<=(W.alloc (.cells (iv f) 140)).heap.size):=N.size;have I:=lm s nM (by decide)
 have H:some W.heap.size≠sv.ownBlock:=fun e=>by
  have:=(r.lt _ e.symm).2;omega
 have j:=au G N;have ax:=j.size;obtain⟨p0,c0,az⟩:=dy r;subst az;have ar:T4 (∀(q:Nat) (c:Array Value) (T:TypeId),W.heap[q]? =ah c T->(W.alloc (.cells (iv f) 140)).heap[q]? =ah c T):=fun q c T m=>ai N m;obtain⟨gb,af⟩:=aq W.heap.size;generalize a1:W.alloc (.cells (iv f) 140)=wB at*;rw[af]at H;have nB:wB.heap[gb]? =ah (iv f) 140:=by rw[<-af];exact an
 clear al an Y r N G;go_enter func51,ntmps51;go_wp2_with fail;clear a1;obtain⟨R,hR⟩: ∃R:World->Prop,R=fun z=>WsC L gm mp (S++[f]) z/\(∀(q:Nat) (c:Array Value) (T:TypeId),W.heap[q]? =ah c T->T≠140->q≠gm->z.heap[q]? =ah c T)/\Fr2 gm W z:=⟨_,rfl⟩
 have HR:=aZ hR
 have av:T4 (∀W z,ao W z->R W->R z):=by
  subst hR;rintro W1 z B ⟨P,h2,h3⟩;obtain⟨_,_,_,ay,_⟩:=id P;exact⟨P.below B,fun q c T a b d=>(B.block _ (aH (h2 q c T a b d))).trans (h2 q c T a b d),h3.trans (Fr2.below (aH ay) B)⟩
 clear hR;refine dH (OD L.heap.size (.slice p0 S.length c0) S.length (ju S) f wB R) [kn 4 (ab gm 0),kn 5 (ab gm 0),kn 6 (ab gm 0),kn 7 (ab gm 1),kn 8 (.slice p0 S.length c0),kn 9 (.agg (iv f)),td 10,td 11,kn 12 (ab gm 0),kn 13 (ab gm 1),nk] (fun _=>⟨fun _=>⟨rfl,rfl,rfl,aA _,fun _ _ _=>rfl⟩,fun _=>s,(fun h=>by cases h),(fun h=>by cases h),(fun h=>by cases h)⟩) (fun _ _ _ _ B h=>⟨fun e=>pW (h.grown e) B,fun e=>iG (h.own e) B,fun e e'=>(h.one e e').imp fun _ q=>⟨q.1,ai B q.2⟩,fun e e'=>⟨iG (h.app e e').1 B,(h.app e e').2⟩,fun e=>av.o _ _ B (h.fin e)⟩) (by kernel_rfl) (fun D φ A w ad F l hl Q=> ?_) (fun D φ A hM w=> ?_)
 ·simp only[kn,td,nk,d6,aR,a8,Act.put,aD,aJ,aI]at hl;subst hl;simp only[dz,Nat.reduceAdd]at Q
  have t:D 7=false->D 10=false:=fun h7=>by
   cases h:D 10 with
   |false=>rfl
   |true=>rw[ad 10 _ rfl h ⟨7,.data⟩ (by simp) rfl rfl]at h7;cases h7
  dsimp only[kn,td,nk,dK,fo,eD,Act.put];and_intros;all_goals first|exact trivial|intro hw V hm K hK
  all_goals try (go_simp;with_reducible exact hK _ _ ⟨rfl,aF _ _⟩)
  ·have x:=((w.grown (t (V 7 _ rfl (by kernel_rfl)))).block _ (aH nM) I).trans nM;have z2:=ak 1 x;go_simp;exact hK _ _ ⟨rfl,aF _ _⟩
  ·have y:D 7=false:=by
    cases h:D 7 with
    |false=>rfl
    |true=>
     have:=V 6 _ rfl (by kernel_rfl);rw[ad 7 _ rfl h ⟨6,.data⟩ (by simp) rfl rfl]at this;cases this
   have a4:=((w.grown (t y)).block _ (aH nB) H).trans nB;refine fh 140 _ rfl _ (by simp[Act.eval,Q]) _ _ _ _ a4 ya rfl (by kernel_rfl) ?_;exact hK _ _ ⟨rfl,aF _ _⟩
  ·have B:=am A (.cells (iv f) 140);have y:=V 7 _ rfl (by kernel_rfl);refine Le _ rfl f C.o (by simp[Act.eval,Q]) ?_;exact hK _ _ ⟨trivial,fun _=>pW (w.grown (t y)) B,fun _=>iG (w.own y) B,fun _ _=>⟨_,dX ..,aB A _⟩,(fun h=>by simp[y]at h),(fun h=>by simp[t y]at h)⟩
  ·obtain⟨g,aw,hh⟩:=w.one (hw ⟨6,.data⟩ (by simp) rfl rfl) hm;have v:=w.grown (t hm);rw[aw]at Q;refine ut _ _ 88 rfl L.heap.size 140 i0 _ 5 56 Ld hi HZ.o a2 a3 rfl (by decide) (.slice p0 S.length c0) S.length (ju S) (by simp[Act.eval,Q]) (w.own hm) ⟨g,0,none⟩ 1 1 (iv f).toList (by simp[Act.eval,Q]) (GG f) ?c1 ?c2 (by unfold maxLen;omega) (by omega) ?c5 ?_
   case c1=>
    intro q u m;rw[wf];exact(aW _ _ _ _ _ _ hh).trans (by rw[bN,<-bq];exact m)
   case c2=>
    intro u hu;have:=RJ C.o;rw[Array.all_eq_true_iff_forall_mem]at this;exact this u (Array.mem_def.2 hu)
   case c5=>exact bh ax v.size
   intro v' z aj U ac;exact hK _ _ ⟨trivial,fun _=>xj v U,(fun e=>by simp at e),(fun _ e=>by simp at e),fun _ _=>by rw[dX];exact⟨aj,ac.imp id fun e=>⟨_,e,v.size⟩⟩,(fun e=>by simp[t hm]at e)⟩
  ·have q7:=hw ⟨7,.data⟩ (by simp) rfl rfl;obtain⟨i,E⟩:=w.app q7 hm;have v:=w.grown hm;obtain⟨Z,O,a0⟩:=dy i;rw[a0]at Q i E;have x:=(v.block _ (aH nM) I).trans nM;have z2:=ak 1 x;have y2:=bu _ _ 1 _ _ x;have ag:=lm i x (by decide);have nS:(A.setCell ⟨gm,1,none⟩ (.slice Z (S.length+1) O)).heap[gm]? =ah #[mp,.slice Z (S.length+1) O] 90:=aY A gm 1 _ _ _ x
   have bS:ao L (A.setCell ⟨gm,1,none⟩ (.slice Z (S.length+1) O)):=by
    refine Below.setCell (p:=⟨gm,1,none⟩) ⟨v.os.trans j.os,v.tape.trans j.tape,v.output.trans j.output,bh j.size v.size,fun q m=> ?_⟩ hgt _;refine(v.block q (aT m j.size) fun e=> ?_).trans (j.block q m);have:=(s.lt _ e.symm).1;omega
   have J:(A.setCell ⟨gm,1,none⟩ (.slice Z (S.length+1) O)).ownsRow L.heap.size 140 5 (.slice Z (S.length+1) O) (S++[f]).length (ju (S++[f])):=by
    rw[IK,aN,eG];refine i.kept (row:=some gm) ⟨rfl,rfl,rfl,by simp,fun q m hr=>aM A ⟨gm,1,none⟩ q _ fun e=>hr (congrArg some e)⟩ (.inr fun e=>ag e.symm)
   have ae:Fr2 gm W (A.setCell ⟨gm,1,none⟩ (.slice Z (S.length+1) O)):=by
    refine⟨fun q m X hr=> ?_,?_,?_⟩
    ·refine(aM A ⟨gm,1,none⟩ q _ X).trans ((v.block q (aT m M.o) fun e=> ?_).trans (ap.o q m));exact hr (aa.o.trans e.symm)
    ·rw[pJ nS,aa.o];exact E.imp id fun⟨g,e,hg⟩=>⟨g,e,bh M.o hg⟩
    ·have P:=M.o;have h2:=v.size;simp;omega
   have HJ:T4 (∀φ',OD L.heap.size (.slice p0 S.length c0) S.length (ju S) f wB R (fun k=>decide (10=k)||D k) φ' (A.setCell ⟨gm,1,none⟩ (.slice Z (S.length+1) O))):=fun _=>⟨(fun h=>by simp at h),(fun h=>by simp[q7]at h),(fun _ h=>by simp[q7]at h),(fun _ h=>by simp at h),fun _=>by rw[HR.o];exact⟨⟨bS,hgt,_,nS,J⟩,fun q c T m hT X=>(by
    have P:=ar.o q c T m;exact(aM A ⟨gm,1,none⟩ q _ X).trans ((v.block _ (aH P) (lm s P hT)).trans P)),ae⟩⟩
   clear i J nS bS w ae;go_simp;exact hK undef _ ⟨trivial,HJ.o _⟩
 ·have V:=w.fin (hM 10 (by decide) rfl);rw[HR.o]at V;have HN:=aZ V;simp only[kn,td,nk,ep,aR,a8,Act.put,aD,aJ,aI];clear hM w V;go_wp2_with fail;exact⟨rfl,_,eN rfl _ _ _,rfl,HN.o⟩
structure Got where
 m:M
 l:List Kp
 n:Int
 er:Int
 at_:Nat
def ku (b:List Cd)(l:List Kp)(runs c a day:Int):Got:=
 if pB l c a day=true then⟨(l.getD (iC a day l 0).toNat k0).m,gQ l (iC a day l 0)++[l.getD (iC a day l 0).toNat k0],runs,0,0⟩
 else if(je b a day).1≠0 then⟨fun _=>false,[],0,(je b a day).1,(je b a day).2⟩
 else⟨qv b a day,wh (gQ l (iC a day l 0)++[⟨a,day,c,qv b a day⟩]),IntKind.i64.wrap (runs+1),0,0⟩
theorem P4 (c:List Cd)(l:List Kp)(d lv:Value)(runs b a day:Int)(w:World)(h:dT 0 w d l)(i:l.length<=676622540150)(e:InV w lv c):
  Calls prog 212 #[.agg #[d,ag runs],lv,ag b,ag a,ag day] w (AZ (ku c l runs b a day).m (ku c l runs b a day).l (ku c l runs b a day).n (ku c l runs b a day).er ((ku c l runs b a day).at_:Int) w):=by
 unfold ku;by_cases g:pB l b a day=true
 ·rw[ax g];exact PB l d lv runs b a day w h i g
 ·rw[aw g];have j:pB l b a day=false:=Bool.eq_false_iff.2 g;by_cases f:(je c a day).1≠0
  ·rw[ax f];exact KM c l d lv runs b a day w h i e j f
  ·rw[aw f];exact PC c l d lv runs b a day w h i e j (Classical.not_not.1 f)
namespace Mx
end Mx
section
theorem yh (w:World)(g:TypeId)(a p:Option Addr)(n cap c:Nat)(b:n<=cap):(Builtin.append_ #[43,43] g #[.slice a n cap,.slice p 0 c]).run prog w= .ok (.slice a n cap) w:=by
 obtain⟨i,hi,d,e,f⟩:=qX pF;cases a<;>cases p<;>simp[Builtin.append_,gS tX,sizeOf,typeInfo,hi,b,Builtin.lenOf,Builtin.firstCells,storeCells,loadCells,loadCellsFrom]
theorem IV {w:World}{B:Nat}{e:TypeId}{size:Nat}{v:Value}{n:Nat}{xs:List Value}(h:w.ownsRow B e size v n xs): ∃(q:Option Addr) (c:Nat),v= .slice q n c/\n<=c:=by
 rcases h.2 with⟨e,b⟩|⟨_,_,_,e,_,_,a,_⟩
 ·exact⟨_,_,by rw[e,b],by omega⟩
 ·exact⟨_,_,e,a⟩
section
variable {ops:Array Oper} {rest:List Oper} {op:Oper} {a:Act} {w:World} {Q:Exit->Act->World->Prop}
theorem vC (k:op.guard=none)(s x:Operand)(F:op.op= .call {callee:= .builtin .append,args:= #[s,x],argTypes:= #[43,43]})(b:Nat)(l t:List Int)(v J:Value)(H:a.eval s=v)(d:w.ownsRow b 3 1 v l.length (dt l))(I:a.eval x=J)(O:fk w J t)(V:l.length+t.length<=1000000)(N:b<=w.heap.size)
  (h: ∀n m,m.ownsRow b 3 1 n (l++t).length (dt (l++t))->w.grownBy m v.ownBlock->wpList prog ops Q rest (a.put op.dst n) m):wpList prog ops Q (op::rest) a w:=by
 obtain⟨p,c,e,P,G⟩:=O;subst e;by_cases E:t=[]
 ·subst E;obtain⟨T,c1,L,r⟩:=IV d;subst L;rw[iE]at h;refine Go.Lib.wpList_append_run w k s x _ _ F _ _ H I _ _ (yh w _ T p _ c1 c r) (h _ _ d ⟨rfl,rfl,rfl,aA _,fun _ _ _=>rfl⟩)
 ·have i:0<t.length:=List.length_pos_iff.2 E;obtain⟨g,o,R,_⟩:=G 0 t[0] (az i);subst R;obtain⟨S,hi,A,B,C⟩:=qX pF;refine eC (w:=w) k s x 43 F b 3 S _ 1 8 tX hi A B C rfl (by decide) v l.length (dt l) H d ⟨g,o,none⟩ t.length c (dt t) I (by rw[kS,Nat.mul_one]) ?_ ?_ (by unfold maxLen;omega) (by omega) N fun n m D M _=> ?_
  ·intro q u f;unfold dt at f;rw[bf]at f;cases hx2:t[q]? with
   |none=>rw[hx2]at f;cases f
   |some z=>
    rw[hx2]at f;cases ay f;obtain⟨U,W,K,j⟩:=G q z hx2;cases K;rcases Nat.eq_zero_or_pos q with i|i
    ·subst i;simpa[Addr.add] using j
    ·simpa[Addr.add,Nat.ne_of_gt i] using j
  ·intro u y;unfold dt at y;rw[dB]at y;obtain⟨z,_,rfl⟩:=y;rfl
  ·refine h n m ?_ M;rw[aN];unfold dt at D⊢;rw[dV];exact D
theorem FD (W:World):(Instr.buildSlice 43 0 #[]).run prog W= .ok (.slice (some (ae W.heap.size 0)) 0 0) (W.alloc (.cells #[] 3)):=by
 kernel_rfl
theorem uD (d:op.guard=none)(e:op.op= .buildSlice 43 0 #[])(h:wpList prog ops Q rest (a.put op.dst (.slice (some (ae w.heap.size 0)) 0 0)) (w.alloc (.cells #[] 3))):wpList prog ops Q (op::rest) a w:=
 wpList_plain d fun _ b=>by
  unfold Oper.wp execOp;have c:=FD w;simp only[e,jl,fu,kb,lg,iB,c];exact b _ _ h
end
theorem Lq (w:World){g:Nat}(h:w.heap[g]? =ah #[] 3)(B:Nat)(a:B<=g):w.ownsRow B 3 1 (.slice (some (ae g 0)) ([]:List Int).length 0) ([]:List Int).length (dt []):=
 ⟨rfl,.inr ⟨g,0,#[],rfl,a,h,aA _,dU _,rfl,rfl⟩⟩
theorem NL {w:World}{g:Nat}{n:Int}(h:w.heap[g]? =ah #[ag n] 3):fk w (.slice (some (ae g 0)) 1 1) [n]:=
 ⟨_,_,rfl,by simp,fun j m a=>⟨g,0,rfl,by
   match j,a with
   |0,a=>cases ay a;exact ak 0 h
   |j+1,a=>simp at a⟩⟩
theorem lR.low {B a:Nat}{w:World}{v:Value}{d:List Value}{c:List (List Int)}(h:lR a w v d c)(b:B<=a):lR B w v d c:=
 ⟨rK h.o b,h.len,fun i sv l e f=>rK (h.each i sv l e f) b⟩
theorem lR.first {B:Nat}{w:World}{v:Value}{a:List Value}{who:List Int}{d:List (List Int)}(h:lR B w v a (who::d)): ∃(g c:Nat) (sv:Value),v= .slice (some (ae g 0)) (d.length+1) c/\w.cell? (ae g 0)=some sv/\w.ownsRow B 3 1 sv who.length (dt who):=by
 have m:a.length=d.length+1:=h.len;rcases h.o.2 with⟨_,e⟩|⟨g,cap,b,e,_,k,_,_,_,n⟩
 ·omega
 ·have f:0<a.length:=by omega
  have j:a[0]? =some a[0]:=az f;refine⟨g,cap,a[0],by rw[e,m],?_,h.each 0 _ who j rfl⟩;rw[aW w g 0 b _ (0,0) k,<-bq]
  have e:(a:List Value)[0]? =b.toList[0]? :=by
   have i:=congrArg (fun l:List Value=>l[0]?) n;rw[Nat.mul_one,dJ f]at i;exact i.symm
  rw[<-e,j]
def okB (a:List Bool)(r:Int):Bool:=a.getD r.toNat false
end
namespace Lx
def Co (a:List T1)(r:List Tk):Prop:=0<r.length\/a=[]
theorem Co.up {a:List T1}{r q:List Tk}(h:Co a r)(b:r.length<=q.length):Co a q:=by
 rcases h with h|h
 ·exact .inl (by omega)
 ·exact .inr h
theorem lz {x:Res}{e:Ex}{r:List Tk}{n:Nat}{f:Ex->List Tk->Nat->Res}(h:x= .ok (e,r,n)):dg x f=f e r n:=by subst h;rfl
theorem oj {x:List UInt8}{r:List Tk}(a:x≠[])(h:isT x r=true):0<r.length:=fp a h
end Lx
theorem GN {r d:Int}: ∀(l:List Kp) (j:Nat),0<=iC r d l j-> ∃(n:Nat) (k:Kp),iC r d l j=(j:Int)+n/\l[n]? =some k/\k.r=r/\k.d=d
 |[],j,h=>by
  have:iC r d [] j= -1:=rfl;omega
 |k::l,j,h=>by
  by_cases a:k.r=r/\k.d=d
  ·refine⟨0,k,?_,rfl,a.1,a.2⟩;rw[iC,ax a];omega
  ·rw[iC,aw a]at h⊢;obtain⟨n,g,e,b,c,f⟩:=GN l (j+1) h;exact⟨n+1,g,by rw[e];omega,b,c,f⟩
theorem RW {l:List Kp}{v r d:Int}(h:pB l v r d=true): ∃(n:Nat) (k:Kp),iC r d l 0=(n:Int)/\l[n]? =some k/\k.r=r/\k.d=d/\k.v=v/\l.getD (iC r d l 0).toNat Vx.k0=k:=by
 unfold pB at h;rw[bx,bL,bL]at h;obtain⟨n,k,e,c,f,g⟩:=GN l 0 h.1;have a:iC r d l 0=(n:Int):=by rw[e];omega
 have b:l.getD (iC r d l 0).toNat Vx.k0=k:=by rw[a,di];simp[List.getD,c]
 exact⟨n,k,a,c,f,g,by rw[<-b];exact h.2,b⟩
theorem LV (n:Int)(w:World)(a:0<=n)(b:n<146097):
  Calls prog 177 #[ag n] w fun e c=>e= .returned (.bool true)/\c=w:=by
 go_enter func177,ntmps177;go_wp2;go_ret;exact⟨rfl,rfl⟩
theorem Jg (n:Int)(w:World)(a:0<=n)(b:n<146097):
  Calls prog 209 #[ag n] w fun e c=>e= .returned (ag (Cal.mq n))/\c=w:=by
 unfold Cal.mq;by_cases h:Cal.ys (2000+n/366+1)<=n
 ·rw[ax h];go_enter func209,ntmps209;go_wp2_with(go_at_call 167;refine(yQ _ _ (by omega) (by omega)).mono ?_;rintro e c ⟨rfl,rfl⟩)
  go_ret;exact⟨rfl,rfl⟩
 ·rw[aw h];go_enter func209,ntmps209;go_wp2_with(go_at_call 167;refine(yQ _ _ (by omega) (by omega)).mono ?_;rintro e c ⟨rfl,rfl⟩)
  go_ret;exact⟨rfl,rfl⟩
theorem FN (y r:Int)(w:World)(q:fL w)(a:2000<=y)(b:y<=2399)(c:0<=r)(d:r<365+Cal.lp y):
  Calls prog 210 #[ag y,ag r] w fun e n=> ∃m:Int,e= .returned (ag m)/\1<=m/\m<=12/\Cal.cum y m<=r/\r<Cal.cum y m+Cal.dim y m/\n=w:=by
 have H:T4 (fL w):=q;have D:T4 (r<365+Cal.lp y):=d;clear q d;go_enter func210,ntmps210;go_wp2;go_loop [5] (fun i=> ∃k:Int,1<=k/\k<=12/\i=ag k/\Cal.cum y k<=r) (fun i=>(12-intOf i).toNat);case atStart=>exact⟨1,by omega,by omega,rfl,by rw[Cal.TX];exact c⟩
 case round=>
  obtain⟨k,f,g,rfl,j⟩:=hrel;have t:T4 (Cal.cum y (k+1)=Cal.cum y k+Cal.dim y k):=Cal.De y k a b f g;by_cases l:k<12/\Cal.cum y (k+1)<=r
  ·obtain⟨u,p⟩:=l;go_wp2_with(go_at_call 168;refine(vX _ _ _ H.o a b (by omega) (by omega)).mono ?_;rintro e n ⟨rfl,rfl⟩)
   go_round;case rel=>exact⟨k+1,by omega,by omega,rfl,p⟩
   case measure=>simp[intOf];omega
  ·have s:T4 (r<Cal.cum y k+Cal.dim y k):=by
    have h:=t.o;have x:=D.o;by_cases e:k=12
    ·subst e;have v:Cal.cum y (12+1)=365+Cal.lp y:=rfl;show r<_;omega
    ·show r<_;omega
   by_cases u:k<12
   ·have p:r<Cal.cum y (k+1):=(by omega);clear l;go_wp2_with(go_at_call 168;refine(vX _ _ _ H.o a b (by omega) (by omega)).mono ?_;rintro e n ⟨rfl,rfl⟩)
    go_ret;exact⟨k,rfl,f,g,j,s.o,rfl⟩
   ·clear l;go_wp2;go_ret;exact⟨k,rfl,f,g,j,s.o,rfl⟩
theorem Sa (n y m:Int):Cal.num y m (n-Cal.ys y-Cal.cum y m+1)=n:=by unfold Cal.num;omega
theorem Sb (n:Int)(w:World)(i:fL w)(a:0<=n)(b:n<146097):
  Calls prog 183 #[ag n] w fun e c=> ∃y m d:Int,e= .returned (.tuple #[.agg #[ag y,ag m,ag d],ag 0])/\1<=d/\d<=Cal.dim y m/\Cal.num y m d=n/\ao w c:=by
 have H:T4 (fL w):=i;clear i;obtain⟨f,k,u,p⟩:=Cal.Tq n a b;have g:=Cal.OW (Cal.mq n);have j:n-Cal.ys (Cal.mq n)<365+Cal.lp (Cal.mq n):=by omega
 have l:T4 (n-Cal.ys (Cal.mq n)<365+Cal.lp (Cal.mq n)):=j;have x:=Cal.Ou (Cal.mq n) f (by omega);clear g j p;go_enter func183,ntmps183;go_wp2_with fail;refine(LV _ _ a b).mono ?_;rintro e c ⟨rfl,rfl⟩;go_wp2_with fail;refine(Jg _ _ a b).mono ?_;rintro e c ⟨rfl,rfl⟩;go_wp2_with fail;refine(yQ _ _ f (by omega)).mono ?_;rintro e c ⟨rfl,rfl⟩;go_wp2_with fail;refine(FN _ _ _ (H.o.alloc _) f k (by omega) l.o).mono ?_;rintro e c ⟨m,rfl,m1,r,s,t,rfl⟩;have q:=Cal.QW (Cal.mq n) m m1 (by omega);go_wp2_with fail;refine(vX _ _ _ (H.o.alloc _) f k m1 (by omega)).mono ?_;rintro e c ⟨rfl,rfl⟩;go_wp2;refine aX (v:= .tuple #[.agg #[ag (Cal.mq n),ag m,ag (n-Cal.ys (Cal.mq n)-Cal.cum (Cal.mq n) m+1)],ag 0]) (by simp[results,results183,go_sem]) rfl ⟨_,_,_,rfl,by omega,by omega,Sa n _ _,?_⟩;exact am _ _
end Go.Proofs.YtpdoienkhgnceaaGreatDoor
