/- Texts of the proof. -/
import Derived.Test.YtlkehieagdkgiaaGreatDoorPe11
import Derived.Test.YtlkehieagdkgiaaGreatDoorPe10
import Derived.Lib.SmallJoins
set_option maxRecDepth 100000
set_option maxHeartbeats 8000000
namespace Go.Proofs.YtlkehieagdkgiaaGreatDoor
open Go.Proofs.Tryz Go.RowKit Lx Vx Mx Msk
def ff (f:Nat->Bool)(x y:Int):Bool:=decide (0<=x)&&decide (y<=1440)&&decide (x<=y)&&eqm (fun i=>(inl [(x,y)] i&& !f i)&&decide (i<1440)) fun _=>false
theorem rP (f:Nat->Bool)(x y:Int)(w:World):
  Calls prog 12 #[.agg (mv f),.agg #[ag x,ag y]] w fun e w'=>e= .returned (.bool (ff f x y))/\aq w w':=by
 have O:=eR;have k:aq w ((w.alloc (.cells (mv f) 55)).alloc (.cells #[ag x,ag y] 57)):=(am _ _).alloc (by simp) _;have s:((w.alloc (.cells (mv f) 55)).alloc (.cells #[ag x,ag y] 57)).heap[w.heap.size]? =ah (mv f) 55:=by(repeat (first|refine dt _ _ _ (by simp only[aV];omega) ?_|exact dJ _ _ _ (by first|rfl|simp only[aV])))
 have j:((w.alloc (.cells (mv f) 55)).alloc (.cells #[ag x,ag y] 57)).heap[w.heap.size+1]? =ah #[ag x,ag y] 57:=by(repeat (first|refine dt _ _ _ (by simp only[aV];omega) ?_|exact dJ _ _ _ (by first|rfl|simp only[aV])))
 have r: ¬(0<=x/\y<=1440/\x<=y)->ff f x y=false:=fun h=>by
  unfold ff;by_cases s:0<=x<;>by_cases j:y<=1440<;>by_cases C:x<=y<;>simp[s,j,C]at h⊢
 by_cases v:0<=x/\y<=1440/\x<=y
 case neg=>
  rw[r v];clear r;go_enter func12,ntmps12;by_cases S:x<0
  case' neg=>
   by_cases T:1440<y;case' neg=>have N:y<x:=by omega
  all_goals
   go_wp2
   go_ret
   exact⟨rfl,k⟩
 case pos=>
  obtain⟨t,u,m⟩:=v;have e:ff f x y=eqm (fun i=>(inl [(x,y)] i&& !f i)&&decide (i<1440)) fun _=>false:=(by unfold ff;simp[t,u,m]);rw[e];clear e r;have H:=Nc (fun i=>(inl [(x,y)] i&& !f i)&&decide (i<1440)) (fun _=>false);generalize L:(w.alloc (.cells (mv f) 55)).alloc (.cells #[ag x,ag y] 57)=P at*;have U:=ak 0 j;have V:=ak 1 j;go_enter func12,ntmps12;go_wp2;refine dl (fun M φ W=>aq P W/\(M 1=true-> ∃g,φ 21= .slice (some (ae g 0)) 1 1/\W.heap[g]? =ah #[ag x,ag y] 57)) [kn 20 (.agg #[ag x,ag y]),td 21,kn 22 (.agg (mv (inl [(x,y)]))),kn 23 (.agg (mv f)),kn 24 (.agg (mv fun i=>(inl [(x,y)] i&& !f i)&&decide (i<1440))),kn 25 (.agg (mv fun _=>false)),kn 26 (.bool (eqm (fun i=>(inl [(x,y)] i&& !f i)&&decide (i<1440)) fun _=>false)),kn 4 (.bool (eqm (fun i=>(inl [(x,y)] i&& !f i)&&decide (i<1440)) fun _=>false))] (fun _=>⟨(aH _ _).drew,(fun h=>by cases h)⟩) (fun _ _ _ _ b h=>⟨aw h.1 b,fun c=>(h.2 c).imp fun _ q=>⟨q.1,ai b q.2⟩⟩) (by kernel_rfl) (fun M φ W a G F l z n=> ?_) (fun M φ W D a=> ?_)
  ·simp only[kn,td,dX,aQ,aT,Act.put,aA,aK,aJ]at z;subst z;simp only[dn,Nat.reduceAdd]at n;obtain⟨a,E⟩:=a;dsimp only[kn,td,dy,eJ,dY,Act.put];and_intros;all_goals first|exact trivial|intro J R Q K d
   all_goals try (go_simp;with_reducible exact d _ _ ⟨rfl,aH _ _⟩)
   ·refine eN 57 _ rfl _ (by simp[Act.eval,n]) _ _ _ _ (ai a j) underlying57 rfl (by kernel_rfl) ?_;exact d _ _ ⟨rfl,aH _ _⟩
   ·have b:=am W (.cells #[ag x,ag y] 57);go_simp;exact d _ _ ⟨trivial,aw a b,fun _=>⟨_,dV ..,aG W _⟩⟩
   ·obtain⟨g,p,I⟩:=E (J ⟨1,.data⟩ (by simp) rfl rfl);rw[p]at n;go_simp;refine(um _ _ _ (IR I)).mono ?_;rintro e B ⟨rfl,b⟩;exact d _ _ ⟨rfl,b⟩
   ·refine eN 55 _ rfl _ (by simp[Act.eval,n]) _ _ _ _ (ai a s) dm rfl (bl _) ?_;exact d _ _ ⟨rfl,aH _ _⟩
   ·go_simp;refine(qN _ _ _).mono ?_;rintro e B ⟨rfl,b⟩;exact d _ _ ⟨rfl,b⟩
  ·simp only[kn,td,d8,aQ,aT,Act.put,aA,aK,aJ];have A:Rb (aq w W):=aw k a.1;clear D a O H;go_wp2;go_ret;exact⟨rfl,A.o⟩
theorem eB {w w':World}{g o:Nat}{xs:List Value}(h:w.rangeAt g o xs)(b:aq w w'):w'.rangeAt g o xs:=fun j u a=>(b.cell (cZ (h j u a))).trans (h j u a)
theorem Nm (f:Nat->Bool):(mv f).toList.length=23:=by rw[df];exact di f
theorem uE {op:Oper}{a:Act}{w:World}{K:Act->World->Prop}{Q:Exit->Act->World->Prop}(x:Operand)(d:op.op= .load 55 x)(b o:Nat)(e:a.eval x=ab b o)(f:Nat->Bool)(c:w.rangeAt b o (mv f).toList)(h:K (a.put op.dst (.agg (mv f))) w):op.wp prog a w K Q:=by
 refine wp_load_mid 55 x d b o e (mv f).toList _ c dm rfl (by rw[Nm];kernel_rfl) ?_;simpa using h
theorem IT:prog.underlying 57=some (.struct (prog.fieldsOf 57)):=by kernel_rfl
def tC (w:World)(v:Value)(a:List (Nat->Bool)):Prop:= ∃p c,v= .slice p a.length c/\a.length<9223372036854775808/\ ∀(j:Nat) (f:Nat->Bool),a[j]? =some f-> ∃g o:Nat,p=some ⟨g,o,none⟩/\w.rangeAt g (o+j*23) (mv f).toList
theorem tC.below {w w':World}{v:Value}{a:List (Nat->Bool)}(h:tC w v a)(k:aq w w'):tC w' v a:=by
 obtain⟨p,c,b,d,i⟩:=h;refine⟨p,c,b,d,fun j f l=> ?_⟩;obtain⟨g,o,e,m⟩:=i j f l;exact⟨g,o,e,eB m k⟩
def okP (a:List (Nat->Bool))(x y:Int)(r:Int):Bool:=ff (a.getD r.toNat fun _=>false) x y
theorem ml {α:Type}{l:List α}{i:Nat}{x:α}(h:l[i]? =some x):l.take (i+1)=l.take i++[x]:=by
 obtain⟨a,b⟩:=aF.1 h;rw[eX,h];rfl
theorem AU {l m:List Int}{x:Int}(h:l++[x]=m):m.length=l.length+1:=by rw[<-h];simp
theorem yP {c a d:World}{v f:Value}{n:Nat}{xs:List Value}{C:Prop}(e:aq c a)(j:a.ownsRow c.heap.size 3 1 v n xs)(i:(f.ownBlock=v.ownBlock/\a.grownBy d v.ownBlock/\C)\/(a.grownBy d none/\ ∃g,f.ownBlock=some g/\a.heap.size<=g)):aq c d:=by
 rcases i with⟨_,h,_⟩|⟨h,_⟩
 ·exact fT e h (aD _) (fun k b=>(j.lt k b).1)
 ·exact fT e h (aD _) (fun k b=>by cases b)
theorem CN:prog.underlying 34=some (.slice 37):=by kernel_rfl
theorem K9:(prog.info? 37).map (fun i=>(i.zero,i.size,i.bytes))=some (some (af),1,24):=by kernel_rfl
structure lF (B:Nat)(w:World)(v:Value)(vs:List Value)(ls:List (List Int)):Prop where
 o:w.ownsRow B 37 1 v vs.length vs
 len:vs.length=ls.length
 each: ∀(i:Nat) (sv:Value) (l:List Int),vs[i]? =some sv->ls[i]? =some l->w.ownsRow B 3 1 sv l.length (dz l)
theorem lF.below {B:Nat}{w w':World}{v:Value}{c:List Value}{b:List (List Int)}(h:lF B w v c b)(a:aq w w'):lF B w' v c b:=
 ⟨ir h.o a,h.len,fun i sv l d e=>ir (h.each i sv l d e) a⟩
theorem lF.row {B:Nat}{w:World}{v:Value}{d:List Value}{f:List (List Int)}(h:lF B w v d f)(k:f.length<9223372036854775808)(q: ∀l∈f,l.length<9223372036854775808):fu w v f:=by
 rcases h.o.2 with⟨rfl,e⟩|⟨g,cap,b,rfl,_,p,_,_,_,r⟩
 ·refine⟨none,0,by rw[<-h.len,e],k,fun j n c=> ?_⟩;have:=(aF.1 c).1;rw[<-h.len]at this;omega
 ·refine⟨_,cap,by rw[h.len],k,fun j l c=> ?_⟩;have a:=(aF.1 c).1;rw[<-h.len]at a;have m:d[j]? =some d[j]:=ay a;refine⟨g,0,d[j],rfl,?_,rq (h.each j _ l m c) (q l (aM c))⟩;rw[cY,aZ w g j b _ (0,0) p,<-bx]
  have e:(d:List Value)[j]? =b.toList[j]? :=by
   have i:=congrArg (fun l:List Value=>l[j]?) r;rw[Nat.mul_one,dP a]at i;exact i.symm
  rw[<-e,m]
theorem lF.snoc {B:Nat}{w w':World}{v p sv:Value}{c:List Value}{n:List (List Int)}{l:List Int}(h:lF B w v c n)(x:w.ownsRow B 3 1 sv l.length (dz l))(t:w'.ownsRow B 37 1 p (c.length+1) (c++[sv]))(r:w.grownBy w' v.ownBlock):lF B w' p (c++[sv]) (n++[l]):=by
 have d: ∀(u:Value) (m:List Int),w.ownsRow B 3 1 u m.length (dz m)->w'.ownsRow B 3 1 u m.length (dz m):=fun u m j=>by
  refine j.kept r ?_;cases hb:u.ownBlock with
  |none=>exact .inl rfl
  |some k=>
   refine .inr fun e=> ?_;rcases j.2 with⟨rfl,_⟩|⟨g,cap,q,rfl,_,f,_⟩
   ·cases hb
   ·have s:k=g:=(by simpa[Value.ownBlock] using hb.symm);subst s;exact rO h.o f (by decide) e.symm
 refine⟨by simpa using t,by simp[h.len],fun i u m a b=> ?_⟩;by_cases hi:i<c.length
 ·rw[dT hi]at a;rw[dT (by rw[<-h.len];exact hi)]at b;exact d u m (h.each i u m a b)
 ·rw[dB (by omega)]at a;rw[dB (by rw[<-h.len];omega),<-h.len]at b
  have e:i-c.length=0:=by
   have:=(aF.1 a).1;simp at this;omega
  rw[e]at a b;simp at a b;subst a b;exact d _ _ x
theorem oz {w:World}{B:Nat}{e:TypeId}{size:Nat}{v:Value}{n:Nat}{xs:List Value}(h:w.ownsRow B e size v n xs): ∃(q:Option Addr) (c:Nat),v= .slice q n c:=by
 rcases h.2 with⟨e,a⟩|⟨_,_,_,e,_⟩
 ·exact⟨_,_,by rw[e,a]⟩
 ·exact⟨_,_,e⟩
theorem rt {w:World}{B c:Nat}{e:TypeId}{size:Nat}{v:Value}{n:Nat}{xs:List Value}(h:w.ownsRow c e size v n xs)(f:B<=c):w.ownsRow B e size v n xs:=by
 refine⟨h.1,?_⟩;rcases h.2 with j|⟨g,cap,b,d,i,a⟩
 ·exact .inl j
 ·exact .inr ⟨g,cap,b,d,bg f i,a⟩
theorem Bx (roles:List (List Int))(rv:Value)(c:List (Nat->Bool))(fv:Value)(x y:Int)(w:World)(hR:fu w rv roles)(hF:tC w fv c)(aW: ∀p∈roles,p.length<=1000/\ ∀r∈p,0<=r/\r<(c.length:Int))(bp:roles.length<=1000):
  Calls prog 141 #[rv,fv,.agg #[ag x,ag y]] w fun e w'=> ∃v,e= .returned v/\fu w' v (kX (okP c x y) roles)/\aq w w':=by
 have U:=am w (.cells #[ag x,ag y] 57);have nA:=aG w (.cells #[ag x,ag y] 57);generalize bi:w.alloc (.cells #[ag x,ag y] 57)=X at*;have HR:=cj (hR.below U);have HF:=cj (hF.below U);have HB:=cj U;have ad:=cj aW;have aX:w.heap.size<X.heap.size:=aI nA;obtain⟨pr,cr,rfl,aY,_⟩:=hR;obtain⟨pf,cf,rfl,bo,_⟩:=hF;go_enter func141,ntmps141
 go_wp2_with fail;go_loopw [7,9,10,12,15] (fun a _ _ _ t wr=> ∃(j:Nat) (n:List Value) (qo:Option Addr) (co:Nat),a= .slice qo n.length co/\t=ag (j:Int)/\j<=roles.length/\Rb (lF X.heap.size wr (.slice qo n.length co) n (kX (okP c x y) (roles.take j)))/\Rb (aq X wr)) (fun _ _ _ _ t _=>roles.length-(intOf t).toNat);case atStart=>exact⟨0,[],_,_,rfl,rfl,by omega,⟨dp _ _ _ _,rfl,fun i sv l h _=>by simp at h⟩,aH _ _⟩
 case round=>
  obtain⟨j,n,qo,co,rfl,rfl,hj,HO,m⟩:=hrel;have bn:(0:Int)<=(j:Int):=(by omega);by_cases aZ:j<roles.length
  ·have a4:(j:Int)<(roles.length:Int):=(by omega);obtain⟨b,P⟩: ∃r,roles[j]? =some r:=⟨roles[j],ay aZ⟩
   obtain⟨_,_,e1,_,az⟩:=HR.o;cases e1;obtain⟨gr,or,sv,bd,aU,S⟩:=az j _ P;subst bd;have hc:=aj m.o aU;obtain⟨ar,ac,rfl,a8,E⟩:=S.below m.o;have HC:=cj E;have aC:=cj P;have ah:=cj (ad.o b (aM P));have bg:b.length<=1000:=ah.o.1
   have aO:Rb (∀i:Nat,((b.take i).filter (okP c x y)).length<=1000000):=fun i=>by
    have h2:=List.length_filter_le (okP c x y) (b.take i);have z:=List.length_take_le' i b;omega
   obtain⟨V,G⟩: ∃q,q=wr:=⟨_,rfl⟩
   have a6:=(m.o.block _ aX).trans nA;have aa:=cj (HF.o.below m.o);rw[<-G]at a6 aa HC;have H:Rb (aq X V):=(by rw[G];exact m);have aE:Rb (lF X.heap.size V (.slice qo n.length co) n (kX (okP c x y) (roles.take j))):=(by rw[G];exact HO);have aP:=cj G;go_wp2_with fail;go_loopw [10,12,21] (fun a _ t W=> ∃(i:Nat) (B:Option Addr) (A:Nat),a= .slice B ((b.take i).filter (okP c x y)).length A/\t=ag (i:Int)/\i<=b.length/\Rb (W.ownsRow V.heap.size 3 1 (.slice B ((b.take i).filter (okP c x y)).length A) ((b.take i).filter (okP c x y)).length (dz ((b.take i).filter (okP c x y))))/\Rb (aq V W)) (fun _ _ t _=>b.length-(intOf t).toNat);case atStart=>exact⟨0,none,0,rfl,rfl,by omega,dp _ _ _ _,by rw[aP.o];exact aH _ _⟩
   case round=>
    obtain⟨i,B,A,rfl,rfl,hi,ap,g⟩:=hrel;have bm:(0:Int)<=(i:Int):=(by omega);by_cases a5:i<b.length
    ·have Q:(i:Int)<(b.length:Int):=(by omega);obtain⟨r,F⟩: ∃r,b[i]? =some r:=⟨b[i],ay a5⟩
     obtain⟨h1,h2⟩:=ah.o.2 r (aM F);obtain⟨d,bf⟩: ∃d:Nat,r=(d:Int):=⟨r.toNat,by omega⟩
     subst bf;obtain⟨f,hf⟩: ∃f,c[d]? =some f:=⟨c[d]'(by omega),ay (by omega)⟩
     obtain⟨ga,oa,bb,aR⟩:=HC.o i _ F;subst bb;have ca:=aj g.o aR;obtain⟨_,_,e3,_,N⟩:=aa.o;cases e3;obtain⟨gf,of,be,a7⟩:=N d f hf;subst be;have bk:=eB a7 g.o;have n5:=ai g.o a6
     have ao:Rb (okP c x y (d:Int)=ff f x y):=by
      show _=_;unfold okP;rw[dj];congr 1;simp[List.getD,hf]
     go_wp2_with fail;refine dl (fun _ _ W=>aq wr W) [kn 25 (.slice (some (ae gf of)) c.length cf),kn 26 (ag (d:Int)),kn 27 (ab gf (of+d*23)),kn 28 (.agg (mv f)),kn 29 (.agg #[ag x,ag y]),kn 30 (.bool (ff f x y))] (fun _=>(aH _ _).drew) (fun _ _ _ _ hb h=>aw h hb) (by kernel_rfl) (fun M φ W2 hJ bl FF ll a3 L=> ?_) (fun M φ W5 hM hJ=> ?_)
     ·simp only[kn,dX,aQ,aT,Act.put,aA,aK,aJ]at a3;subst a3;simp only[dn,Nat.reduceAdd]at L;dsimp only[kn,dy,eJ,dY,Act.put];and_intros;all_goals first|exact trivial|intro qw qn qm K hK
      all_goals try (go_simp;with_reducible exact hK _ _ ⟨rfl,aH _ _⟩)
      ·refine uE _ rfl gf (of+d*23) (by simp[Act.eval,L]) f (eB bk hJ) ?_;exact hK _ _ ⟨rfl,aH _ _⟩
      ·refine eN 57 _ rfl _ (by simp[Act.eval,L]) _ _ _ _ (ai hJ n5) IT rfl (by kernel_rfl) ?_;exact hK _ _ ⟨rfl,aH _ _⟩
      ·go_simp;refine(rP f x y W2).mono ?_;rintro r' W' ⟨rfl,aS⟩;exact hK _ _ ⟨rfl,aS⟩
     ·simp only[kn,d8,aQ,aT,Act.put,aA,aK,aJ];have al:=cj (ir ap.o hJ);have Y:=cj (aw g.o hJ);cases hok:ff f x y with
      |true=>
       have U:=am W5 (.cells #[ag (d:Int)] 3);have nA:=aG W5 (.cells #[ag (d:Int)] 3);generalize bi:W5.alloc (.cells #[ag (d:Int)] 3)=wB at*;have zA:=ak 0 nA;have an:=cj (ir al.o U);have Z:=cj (aw Y.o U)
       have s:Rb (((b.take i).filter (okP c x y))++[(d:Int)]=(b.take (i+1)).filter (okP c x y)):=by
        show _=_;rw[ml F,List.filter_append];congr 1;rw[List.filter_cons,aB (by rw[ao.o];exact hok)];rfl
       go_wp2_with(first
        |(refine mj rfl _ _ rfl V.heap.size _ ((b.take i).filter (okP c x y)) (d:Int) rfl ?ho W5.heap.size 1 rfl zA ?hl ?hb ?_
          case ho=>exact an.o
          case hl=>exact aO.o i
          case hb=>exact Z.o.size
          intro v' w3 R O))
       have I:=cj (yP Z.o an.o O);have J:=cj R;go_wp2_with fail;go_roundw
       case rel=>
        have z:=J.o;rw[s.o,<-AU s.o]at z;obtain⟨q',c',T⟩:=oz z;subst T;exact⟨i+1,q',c',rfl,by go_num,by omega,z,I⟩
       case measure=>simp[intOf];omega
      |false=>
       have s:Rb ((b.take i).filter (okP c x y)=(b.take (i+1)).filter (okP c x y)):=by
        show _=_;rw[ml F,List.filter_append,List.filter_cons,ax (by rw[ao.o,hok];decide)];simp
       go_wp2_with fail;go_roundw
       case rel=>
        have z:=al.o;rw[s.o]at z;exact⟨i+1,B,A,by rw[s.o],by go_num,by omega,z,Y⟩
       case measure=>simp[intOf];omega
    ·have Q: ¬(i:Int)<(b.length:Int):=(by omega);have aV:i=b.length:=(by omega)
     have av:Rb (wr.ownsRow V.heap.size 3 1 (.slice B ((b.take i).filter (okP c x y)).length A) (b.filter (okP c x y)).length (dz (b.filter (okP c x y)))):=by
      have h:=ap.o;rw[aV,dh (aD _)]at h⊢;exact h
     obtain⟨nl,ba⟩:=au (((b.take i).filter (okP c x y)).length);rw[ba]at av⊢;have a9:=cj (aw H.o g.o);have aF:=cj (aE.o.below g.o);have bB:=am wr (.cells #[.slice B nl A] 37);have nB:=aG wr (.cells #[.slice B nl A] 37);generalize br:wr.alloc (.cells #[.slice B nl A] 37)=wB at*;have zB:=ak 0 nB;have D:=cj (aF.o.below bB);have HcB:=cj (rt (ir av.o bB) H.o.size);have C:=cj (aw a9.o bB)
     have HT:Rb (kX (okP c x y) (roles.take j)++[b.filter (okP c x y)]=kX (okP c x y) (roles.take (j+1))):=by
      show _=_;unfold kX;rw[ml aC.o,dZ];rfl
     obtain⟨i0,a2,bj,bh,a0⟩:=o7 K9;have HI:=cj a2
     have bq:n.length<=1000:=by
      rw[D.o.len];unfold kX;rw[bc];have:=List.length_take_le' j roles;omega
     go_wp2_with(first
      |(refine jf wB rfl _ _ 34 rfl X.heap.size 37 i0 (af) 1 24 CN HI.o bj bh a0 rfl (by decide) _ n.length n rfl D.o.o ⟨wr.heap.size,0,none⟩ 1 1 [.slice B nl A] rfl rfl ?hn ?h1 ?h63 ?hby ?hb ?_
        case hn=>
         intro q u hq
         match q,hq with
         |0,hq=>cases aN hq;simpa[Addr.add] using zB
         |q+1,hq=>simp at hq
        case h1=>simp[Value.oneCell']
        case h63=>unfold maxLen;omega
        case hby=>omega
        case hb=>exact C.o.size
        intro v' w3 R a1 _))
     have J:=cj (D.o.snoc HcB.o R a1);have I:=cj (fT C.o a1 (aD _) (fun k hk=>(D.o.o.lt k hk).1));go_wp2_with fail;go_roundw
     case rel=>
      have z:=J.o;rw[HT.o]at z;have e1:(n++[Value.slice B nl A]).length=n.length+1:=(by simp);obtain⟨q',c',T⟩:=oz z.o;subst T;exact⟨j+1,_,q',c',rfl,by go_num,by omega,z,I⟩
     case measure=>simp[intOf];omega
  ·have a4: ¬(j:Int)<(roles.length:Int):=(by omega)
   have aL:Rb (fu wr (.slice qo n.length co) (kX (okP c x y) roles)):=by
    have e:j=roles.length:=(by omega);have h:=HO.o;rw[e,dh (aD _)]at h;refine h.row (by unfold kX;rw[bc];exact aY) fun l hl=> ?_;unfold kX at hl;rw[dR]at hl;obtain⟨p,hp,rfl⟩:=hl;have h1:=(ad.o p hp).1;have h2:=List.length_filter_le (okP c x y) p;omega
   have C:=cj (aw HB.o m.o);go_wp2_with fail;go_ret;exact⟨_,rfl,aL.o,C.o⟩
theorem kR {w w':World}(h:Tab w)(b:aq w w'):Tab w':=fun j a=>(b.cell (cZ (h j a))).trans (h j a)
theorem AV (f:Nat->Bool)(w:World)(n:Tab w):
  Calls prog 157 #[.agg (mv f)] w fun e w'=>(∃v,e= .returned v/\w'.ownsRow w.heap.size 57 2 v (rs f 1440).length (jb (rs f 1440)))/\lP f 1440 (rs f 1440)/\aq w w':=by
 have p: ∀(j:Fn) (first cap:Array Value) (w:World),(Instr.makeFunc j first cap).run prog w= .ok (.func j first cap) w:=fun _ _ _ _=>rfl;have i:((w.alloc (.cells (mv f) 55)).alloc (.cells #[af] 89)).heap[w.heap.size]? =ah (mv f) 55:=by(repeat (first|refine dt _ _ _ (by simp only[aV];omega) ?_|exact dJ _ _ _ (by first|rfl|simp only[aV])))
 have c:((w.alloc (.cells (mv f) 55)).alloc (.cells #[af] 89)).heap[w.heap.size+1]? =ah #[af] 89:=by(repeat (first|refine dt _ _ _ (by simp only[aV];omega) ?_|exact dJ _ _ _ (by first|rfl|simp only[aV])))
 have d:aq w ((w.alloc (.cells (mv f) 55)).alloc (.cells #[af] 89)):=(am _ _).alloc (by simp) _;have m:=DU f w _ _ n (by omega) ⟨d,⟨_,c,dp _ _ _ _⟩,tB.zero f,by omega⟩;clear c d;go_enter func157,ntmps157
 go_wp2_with(first
  |(refine aR rfl 55 _ rfl _ rfl _ _ _ _ i dm rfl (bl _) ?_)
  |(go_at_call 176;refine m.mono ?_;rintro e w' ⟨rfl,g,⟨v,q,b⟩,a⟩;have c1:=cell_of_one q;have l:Rb (_):=b;have k:Rb (lP f 1440 (rs f 1440)):=a;clear b a))
 go_ret;exact⟨⟨v,rfl,l.o⟩,k.o,g⟩
namespace Msk
theorem A1 (f:Nat->Bool): ∀m,f m=true-> ∃a,a<=m/\(a=0\/f (a-1)=false)/\ ∀i,a<=i->i<=m->f i=true
 |0,h=>⟨0,aD _,.inl rfl,fun i _ hi=>by rw[show i=0 by omega];exact h⟩
 |m+1,h=>by
  cases hm:f m with
  |false=>exact⟨m+1,aD _,.inr hm,fun i c b=>by rw[show i=m+1 by omega];exact h⟩
  |true=>
   obtain⟨a,c,b,d⟩:=A1 f m hm;refine⟨a,by omega,b,fun i hi g=> ?_⟩;by_cases e:i=m+1
   ·rw[e];exact h
   ·exact d i hi (by omega)
theorem Lb (f:Nat->Bool): ∀n,lP f n (rs f n)/\((n=0\/f (n-1)=false)->rN (-1) (rs f n)<n):=by
 intro n;induction n using Nat.strongRecOn with
 |ind n b=>
  match n,b with
  |0,_=>exact⟨lP.zero f,fun _=>by show(-1:Int)<0;omega⟩
  |m+1,b=>
   cases hm:f m with
   |false=>
    have e:rs f (m+1)=rs f m:=(by rw[rs,hm];rfl);have h:=(b m (by omega)).1;rw[e];refine⟨h.skip (m+1) (by omega) fun i j c=>by rw[show i=m by omega];exact hm,fun _=> ?_⟩;have:=h.last;omega
   |true=>
    obtain⟨a,j,c,g⟩:=A1 f m hm;obtain⟨r1,l⟩:=b a (by omega);have e:=CK f a c (m-a) (fun i d k=>g i d (by omega));rw[show a+(m-a+1)=m+1 by omega]at e;rw[e];refine⟨r1.run (l c) (m+1) (by omega) (fun i d k=>g i d (by omega)),fun h=> ?_⟩;rcases h with h|h
    ·omega
    ·rw[show m+1-1=m by omega,hm]at h;cases h
theorem EQ (f:Nat->Bool)(n:Nat):lP f n (rs f n):=(Lb f n).1
end Msk
def iv (f:In×Value):Array Value:= #[ag f.1.op,ag f.1.a,ag f.1.b,ag f.1.to,f.2]
def jy (S:List (In×Value)):List Value:=S.flatMap fun f=>(iv f).toList
theorem pW: ∀S:List (In×Value),(jy S).length=S.length*5
 |[]=>rfl
 |f::S=>by
  have:=pW S;unfold jy at this⊢;rw[List.flatMap_cons,aP,this];have h:(iv f).toList.length=5:=rfl;rw[h,bV];omega
theorem Gs (S:List (In×Value))(f:In×Value):jy (S++[f])=jy S++(iv f).toList:=by
 unfold jy;rw[fG];simp
structure WsC (w0:World)(gm:Nat)(mp:Value)(S:List (In×Value))(W:World):Prop where
 bel:aq w0 W
 gt:w0.heap.size<=gm
 row: ∃sv,W.heap[gm]? =ah #[mp,sv] 192/\W.ownsRow w0.heap.size 216 5 sv S.length (jy S)
theorem WsC.below {d W b:World}{gm:Nat}{c:Value}{S:List (In×Value)}(h:WsC d gm c S W)(a:aq W b):WsC d gm c S b:=by
 obtain⟨e,f,sv,g,i⟩:=h;exact⟨aw e a,f,sv,ai a g,iG i a⟩
theorem Li:(prog.info? 216).map (fun i=>(i.zero,i.size,i.bytes))=some (some (.agg #[ag 0,ag 0,ag 0,ag 0,af]),5,56):=by kernel_rfl
theorem Jb:prog.underlying 190=some (.slice 216):=by kernel_rfl
def uG (gm:Nat)(W:World):Option Nat:=match W.cell? (ae gm 1) with
 |some v=>v.ownBlock
 |none=>none
theorem pt {gm:Nat}{W:World}{a sv:Value}(h:W.heap[gm]? =ah #[a,sv] 192):uG gm W=sv.ownBlock:=by
 unfold uG;rw[aZ _ _ 1 _ _ _ h];rfl
structure Fr2 (gm:Nat)(W W':World):Prop where
 blk: ∀q,q<W.heap.size->q≠gm->uG gm W≠some q->W'.heap[q]? =W.heap[q]?
 row:uG gm W'=uG gm W\/ ∃g,uG gm W'=some g/\W.heap.size<=g
 size:W.heap.size<=W'.heap.size
theorem Fr2.trans {gm:Nat}{w w' b:World}(h:Fr2 gm w w')(c:Fr2 gm w' b):Fr2 gm w b:=by
 refine⟨fun q i a j=> ?_,?_,bg h.size c.size⟩
 ·refine(c.blk q (aU i h.size) a ?_).trans (h.blk q i a j);rcases h.row with e|⟨g,e,f⟩
  ·rw[e];exact j
  ·rw[e];intro d;injection d with d;omega
 ·rcases c.row with e|⟨g,e,f⟩
  ·rw[e];exact h.row
  ·exact .inr ⟨g,e,bg h.size f⟩
theorem Fr2.below {gm:Nat}{w w':World}(c:gm<w.heap.size)(b:aq w w'):Fr2 gm w w':=by
 refine⟨fun q d _ _=>b.block q d,.inl ?_,b.size⟩;unfold uG;rw[et (a:=⟨gm,1,none⟩) (b.block gm c)]
theorem xr:prog.underlying 216=some (.struct (prog.fieldsOf 216)):=by kernel_rfl
theorem EY (f:In×Value):(iv f).toList.length=5:=rfl
theorem Pi {f:In×Value}(h: ∃p n c,f.2= .slice p n c):(iv f).all (·.oneCell')=true:=by
 obtain⟨p,n,c,e⟩:=h;unfold iv;rw[e];simp[Value.oneCell']
theorem Pj (f:In×Value)(h: ∃p n c,f.2= .slice p n c)(W:World):(Instr.buildSlice 190 1 #[(0,.agg (iv f))]).run prog W= .ok (.slice (some (ae W.heap.size 0)) 1 1) (W.alloc (.cells (iv f) 216)):=by
 obtain⟨p,n,c,e⟩:=h;unfold iv;rw[e];kernel_rfl
theorem Jc {op:Oper}{a:Act}{w:World}{K:Act->World->Prop}{Q:Exit->Act->World->Prop}(x:Operand)(e:op.op= .buildSlice 190 1 #[(0,x)])(f:In×Value)(d: ∃p n c,f.2= .slice p n c)(g:a.eval x= .agg (iv f))(h:K (a.put op.dst (.slice (some (ae w.heap.size 0)) 1 1)) (w.alloc (.cells (iv f) 216))):op.wp prog a w K Q:=by
 unfold Oper.wp execOp;have b:=Pj f d w;simp only[e,g,jp,dO,fA,j8,lg,iA,b];exact h
structure L7 (base:Nat)(sv:Value)(n:Nat)(xs:List Value)(f:In×Value)(W1:World)(R:World->Prop)(D:Nat->Bool)(φ:Nat->Value)(W:World):Prop where
 grown:D 10=false->W1.grownBy W sv.ownBlock
 own:D 7=false->W.ownsRow base 216 5 sv n xs
 one:D 6=true->D 7=false-> ∃g,φ 10= .slice (some (ae g 0)) 1 1/\W.heap[g]? =ah (iv f) 216
 app:D 7=true->D 10=false->W.ownsRow base 216 5 (φ 11) (n+1) (xs++(iv f).toList)/\((φ 11).ownBlock=sv.ownBlock\/ ∃g,(φ 11).ownBlock=some g/\W1.heap.size<=g)
 fin:D 10=true->R W
theorem Lj (L:World)(gm:Nat)(mp:Value)(S:List (In×Value))(f:In×Value)(W:World)(h:WsC L gm mp S W)(hS:S.length<=1000)(hf: ∃p n c,f.2= .slice p n c):
  Calls prog 156 #[ab gm 0,.agg (iv f)] W fun e z=>e= .returned (.tuple #[])/\WsC L gm mp (S++[f]) z/\(∀(q:Nat) (c:Array Value) (T:TypeId),W.heap[q]? =ah c T->T≠216->q≠gm->z.heap[q]? =ah c T)/\Fr2 gm W z:=by
 obtain⟨G,hgt,sv,Y,r⟩:=h;obtain⟨i0,hi,al,a2,a3⟩:=jw Li;have HZ:=ba al;have C:=ba hf;clear hf;have N:=am W (.cells (iv f) 216);have an:=aG W (.cells (iv f) 216);have nM:=ai N Y;have s:=iG r N;have aa:=ba (pt Y);have ao:Rb (∀q,q<W.heap.size->(W.alloc (.cells (iv f) 216)).heap[q]? =W.heap[q]?):=fun q m=>N.block q m;have M:Rb (W.heap.size<=(W.alloc (.cells (iv f) 216)).heap.size):=N.size;have I:=lj s nM (by decide)
 have H:some W.heap.size≠sv.ownBlock:=fun e=>by
  have:=(r.lt _ e.symm).2;omega
 have j:=aw G N;have ax:=j.size;obtain⟨p0,c0,az⟩:=cg r;subst az;have ap:Rb (∀(q:Nat) (c:Array Value) (T:TypeId),W.heap[q]? =ah c T->(W.alloc (.cells (iv f) 216)).heap[q]? =ah c T):=fun q c T m=>ai N m;obtain⟨gb,af⟩:=au W.heap.size;generalize a1:W.alloc (.cells (iv f) 216)=wB at*;rw[af]at H;have nB:wB.heap[gb]? =ah (iv f) 216:=by rw[<-af];exact an
 clear al an Y r N G;go_enter func156,ntmps156;go_wp2_with fail;clear a1;obtain⟨R,hR⟩: ∃R:World->Prop,R=fun z=>WsC L gm mp (S++[f]) z/\(∀(q:Nat) (c:Array Value) (T:TypeId),W.heap[q]? =ah c T->T≠216->q≠gm->z.heap[q]? =ah c T)/\Fr2 gm W z:=⟨_,rfl⟩
 have HR:=ba hR
 have ar:Rb (∀W z,aq W z->R W->R z):=by
  subst hR;rintro W1 z B ⟨P,h2,h3⟩;obtain⟨_,_,_,ay,_⟩:=id P;exact⟨P.below B,fun q c T a b d=>(B.block _ (aI (h2 q c T a b d))).trans (h2 q c T a b d),h3.trans (Fr2.below (aI ay) B)⟩
 clear hR;refine dl (L7 L.heap.size (.slice p0 S.length c0) S.length (jy S) f wB R) [kn 4 (ab gm 0),kn 5 (ab gm 0),kn 6 (ab gm 0),kn 7 (ab gm 1),kn 8 (.slice p0 S.length c0),kn 9 (.agg (iv f)),td 10,td 11,kn 12 (ab gm 0),kn 13 (ab gm 1),nk] (fun _=>⟨fun _=>⟨rfl,rfl,rfl,aD _,fun _ _ _=>rfl⟩,fun _=>s,(fun h=>by cases h),(fun h=>by cases h),(fun h=>by cases h)⟩) (fun _ _ _ _ B h=>⟨fun e=>pL (h.grown e) B,fun e=>iG (h.own e) B,fun e e'=>(h.one e e').imp fun _ q=>⟨q.1,ai B q.2⟩,fun e e'=>⟨iG (h.app e e').1 B,(h.app e e').2⟩,fun e=>ar.o _ _ B (h.fin e)⟩) (by kernel_rfl) (fun D φ A w ad F l hl Q=> ?_) (fun D φ A hM w=> ?_)
 ·simp only[kn,td,nk,dX,aQ,aT,Act.put,aA,aK,aJ]at hl;subst hl;simp only[dn,Nat.reduceAdd]at Q
  have t:D 7=false->D 10=false:=fun h7=>by
   cases h:D 10 with
   |false=>rfl
   |true=>rw[ad 10 _ rfl h ⟨7,.data⟩ (by simp) rfl rfl]at h7;cases h7
  dsimp only[kn,td,nk,dy,eJ,dY,Act.put];and_intros;all_goals first|exact trivial|intro hw V hm K hK
  all_goals try (go_simp;with_reducible exact hK _ _ ⟨rfl,aH _ _⟩)
  ·have x:=((w.grown (t (V 7 _ rfl (by kernel_rfl)))).block _ (aI nM) I).trans nM;have z2:=ak 1 x;go_simp;exact hK _ _ ⟨rfl,aH _ _⟩
  ·have y:D 7=false:=by
    cases h:D 7 with
    |false=>rfl
    |true=>
     have:=V 6 _ rfl (by kernel_rfl);rw[ad 7 _ rfl h ⟨6,.data⟩ (by simp) rfl rfl]at this;cases this
   have a4:=((w.grown (t y)).block _ (aI nB) H).trans nB;refine eN 216 _ rfl _ (by simp[Act.eval,Q]) _ _ _ _ a4 xr rfl (by kernel_rfl) ?_;exact hK _ _ ⟨rfl,aH _ _⟩
  ·have B:=am A (.cells (iv f) 216);have y:=V 7 _ rfl (by kernel_rfl);refine Jc _ rfl f C.o (by simp[Act.eval,Q]) ?_;exact hK _ _ ⟨trivial,fun _=>pL (w.grown (t y)) B,fun _=>iG (w.own y) B,fun _ _=>⟨_,dV ..,aG A _⟩,(fun h=>by simp[y]at h),(fun h=>by simp[t y]at h)⟩
  ·obtain⟨g,av,hh⟩:=w.one (hw ⟨6,.data⟩ (by simp) rfl rfl) hm;have v:=w.grown (t hm);rw[av]at Q;refine tP _ _ 190 rfl L.heap.size 216 i0 _ 5 56 Jb hi HZ.o a2 a3 rfl (by decide) (.slice p0 S.length c0) S.length (jy S) (by simp[Act.eval,Q]) (w.own hm) ⟨g,0,none⟩ 1 1 (iv f).toList (by simp[Act.eval,Q]) (EY f) ?c1 ?c2 (by unfold maxLen;omega) (by omega) ?c5 ?_
   case c1=>
    intro q u m;rw[vC];exact(aZ _ _ _ _ _ _ hh).trans (by rw[cY,<-bx];exact m)
   case c2=>
    intro u hu;have:=Pi C.o;rw[Array.all_eq_true_iff_forall_mem]at this;exact this u (Array.mem_def.2 hu)
   case c5=>exact bg ax v.size
   intro v' z aj U ac;exact hK _ _ ⟨trivial,fun _=>vZ v U,(fun e=>by simp at e),(fun _ e=>by simp at e),fun _ _=>by rw[dV];exact⟨aj,ac.imp id fun e=>⟨_,e,v.size⟩⟩,(fun e=>by simp[t hm]at e)⟩
  ·have q7:=hw ⟨7,.data⟩ (by simp) rfl rfl;obtain⟨i,E⟩:=w.app q7 hm;have v:=w.grown hm;obtain⟨Z,O,a0⟩:=cg i;rw[a0]at Q i E;have x:=(v.block _ (aI nM) I).trans nM;have z2:=ak 1 x;have y2:=bo _ _ 1 _ _ x;have ag:=lj i x (by decide);have nS:(A.setCell ⟨gm,1,none⟩ (.slice Z (S.length+1) O)).heap[gm]? =ah #[mp,.slice Z (S.length+1) O] 192:=aY A gm 1 _ _ _ x
   have bS:aq L (A.setCell ⟨gm,1,none⟩ (.slice Z (S.length+1) O)):=by
    refine Below.setCell (p:=⟨gm,1,none⟩) ⟨v.os.trans j.os,v.tape.trans j.tape,v.output.trans j.output,bg j.size v.size,fun q m=> ?_⟩ hgt _;refine(v.block q (aU m j.size) fun e=> ?_).trans (j.block q m);have:=(s.lt _ e.symm).1;omega
   have J:(A.setCell ⟨gm,1,none⟩ (.slice Z (S.length+1) O)).ownsRow L.heap.size 216 5 (.slice Z (S.length+1) O) (S++[f]).length (jy (S++[f])):=by
    rw[Gs,aP,d9];refine i.kept (row:=some gm) ⟨rfl,rfl,rfl,by simp,fun q m hr=>aO A ⟨gm,1,none⟩ q _ fun e=>hr (congrArg some e)⟩ (.inr fun e=>ag e.symm)
   have ae:Fr2 gm W (A.setCell ⟨gm,1,none⟩ (.slice Z (S.length+1) O)):=by
    refine⟨fun q m X hr=> ?_,?_,?_⟩
    ·refine(aO A ⟨gm,1,none⟩ q _ X).trans ((v.block q (aU m M.o) fun e=> ?_).trans (ao.o q m));exact hr (aa.o.trans e.symm)
    ·rw[pt nS,aa.o];exact E.imp id fun⟨g,e,hg⟩=>⟨g,e,bg M.o hg⟩
    ·have P:=M.o;have h2:=v.size;simp;omega
   have HJ:Rb (∀φ',L7 L.heap.size (.slice p0 S.length c0) S.length (jy S) f wB R (fun k=>decide (10=k)||D k) φ' (A.setCell ⟨gm,1,none⟩ (.slice Z (S.length+1) O))):=fun _=>⟨(fun h=>by simp at h),(fun h=>by simp[q7]at h),(fun _ h=>by simp[q7]at h),(fun _ h=>by simp at h),fun _=>by rw[HR.o];exact⟨⟨bS,hgt,_,nS,J⟩,fun q c T m hT X=>(by
    have P:=ap.o q c T m;exact(aO A ⟨gm,1,none⟩ q _ X).trans ((v.block _ (aI P) (lj s P hT)).trans P)),ae⟩⟩
   clear i J nS bS w ae;go_simp;exact hK undef _ ⟨trivial,HJ.o _⟩
 ·have V:=w.fin (hM 10 (by decide) rfl);rw[HR.o]at V;have HN:=ba V;simp only[kn,td,nk,d8,aQ,aT,Act.put,aA,aK,aJ];clear hM w V;go_wp2_with fail;exact⟨rfl,_,eW rfl _ _ _,rfl,HN.o⟩
structure Got where
 m:M
 l:List Kp
 n:Int
 er:Int
 at_:Nat
def jk (b:List Cd)(l:List Kp)(runs c a day:Int):Got:=
 if mg l c a day=true then⟨(l.getD (fQ a day l 0).toNat k0).m,fC l (fQ a day l 0)++[l.getD (fQ a day l 0).toNat k0],runs,0,0⟩
 else if(jh b a day).1≠0 then⟨fun _=>false,[],0,(jh b a day).1,(jh b a day).2⟩
 else⟨oZ b a day,qx (fC l (fQ a day l 0)++[⟨a,day,c,oZ b a day⟩]),IntKind.i64.wrap (runs+1),0,0⟩
theorem NN (c:List Cd)(l:List Kp)(d lv:Value)(runs b a day:Int)(w:World)(h:eD 0 w d l)(i:l.length<=676622540150)(e:InV w lv c):
  Calls prog 137 #[.agg #[d,ag runs],lv,ag b,ag a,ag day] w (zY (jk c l runs b a day).m (jk c l runs b a day).l (jk c l runs b a day).n (jk c l runs b a day).er ((jk c l runs b a day).at_:Int) w):=by
 unfold jk;by_cases g:mg l b a day=true
 ·rw[aB g];exact Ni l d lv runs b a day w h i g
 ·rw[ax g];have j:mg l b a day=false:=Bool.eq_false_iff.2 g;by_cases f:(jh c a day).1≠0
  ·rw[aB f];exact IQ c l d lv runs b a day w h i e j f
  ·rw[ax f];exact Nj c l d lv runs b a day w h i e j (Classical.not_not.1 f)
namespace Mx
end Mx
section
theorem xz (w:World)(g:TypeId)(a p:Option Addr)(n cap c:Nat)(b:n<=cap):(Builtin.append_ #[37,37] g #[.slice a n cap,.slice p 0 c]).run prog w= .ok (.slice a n cap) w:=by
 obtain⟨i,hi,d,e,f⟩:=o7 o6;cases a<;>cases p<;>simp[Builtin.append_,gu ro,sizeOf,typeInfo,hi,b,Builtin.lenOf,Builtin.firstCells,storeCells,loadCells,loadCellsFrom]
theorem zj {w:World}{B:Nat}{e:TypeId}{size:Nat}{v:Value}{n:Nat}{xs:List Value}(h:w.ownsRow B e size v n xs): ∃(q:Option Addr) (c:Nat),v= .slice q n c/\n<=c:=by
 rcases h.2 with⟨e,b⟩|⟨_,_,_,e,_,_,a,_⟩
 ·exact⟨_,_,by rw[e,b],by omega⟩
 ·exact⟨_,_,e,a⟩
section
variable {ops:Array Oper} {rest:List Oper} {op:Oper} {a:Act} {w:World} {Q:Exit->Act->World->Prop}
theorem pX (k:op.guard=none)(s x:Operand)(E:op.op= .call {callee:= .builtin .append,args:= #[s,x],argTypes:= #[37,37]})(b:Nat)(l t:List Int)(v I:Value)(G:a.eval s=v)(d:w.ownsRow b 3 1 v l.length (dz l))(H:a.eval x=I)(N:dM w I t)(U:l.length+t.length<=1000000)(M:b<=w.heap.size)
  (h: ∀m w',w'.ownsRow b 3 1 m (l++t).length (dz (l++t))->w.grownBy w' v.ownBlock->wpList prog ops Q rest (a.put op.dst m) w'):wpList prog ops Q (op::rest) a w:=by
 obtain⟨p,c,e,O,F⟩:=N;subst e;by_cases D:t=[]
 ·subst D;obtain⟨S,c1,K,n⟩:=zj d;subst K;rw[gH]at h;refine Go.Lib.wpList_append_run w k s x _ _ E _ _ G H _ _ (xz w _ S p _ c1 c n) (h _ _ d ⟨rfl,rfl,rfl,aD _,fun _ _ _=>rfl⟩)
 ·have i:0<t.length:=List.length_pos_iff.2 D;obtain⟨g,o,P,_⟩:=F 0 t[0] (ay i);subst P;obtain⟨R,hi,y,A,B⟩:=o7 o6;refine jf (w:=w) k s x 37 E b 3 R _ 1 8 ro hi y A B rfl (by decide) v l.length (dz l) G d ⟨g,o,none⟩ t.length c (dz t) H (by rw[kQ,Nat.mul_one]) ?_ ?_ (by unfold maxLen;omega) (by omega) M fun m w' C L _=> ?_
  ·intro q u f;unfold dz at f;rw[a8]at f;cases hx2:t[q]? with
   |none=>rw[hx2]at f;cases f
   |some z=>
    rw[hx2]at f;cases aN f;obtain⟨T,V,J,j⟩:=F q z hx2;cases J;rcases Nat.eq_zero_or_pos q with i|i
    ·subst i;simpa[Addr.add] using j
    ·simpa[Addr.add,Nat.ne_of_gt i] using j
  ·intro u r;unfold dz at r;rw[dR]at r;obtain⟨z,_,rfl⟩:=r;rfl
  ·refine h m w' ?_ L;rw[aP];unfold dz at C⊢;rw[dZ];exact C
theorem D7 (W:World):(Instr.buildSlice 37 0 #[]).run prog W= .ok (.slice (some (ae W.heap.size 0)) 0 0) (W.alloc (.cells #[] 3)):=by
 kernel_rfl
theorem tV (d:op.guard=none)(e:op.op= .buildSlice 37 0 #[])(h:wpList prog ops Q rest (a.put op.dst (.slice (some (ae w.heap.size 0)) 0 0)) (w.alloc (.cells #[] 3))):wpList prog ops Q (op::rest) a w:=
 wpList_plain d fun _ b=>by
  unfold Oper.wp execOp;have c:=D7 w;simp only[e,jp,fA,j8,lg,iA,c];exact b _ _ h
end
theorem Jo (w:World){g:Nat}(h:w.heap[g]? =ah #[] 3)(B:Nat)(a:B<=g):w.ownsRow B 3 1 (.slice (some (ae g 0)) ([]:List Int).length 0) ([]:List Int).length (dz []):=
 ⟨rfl,.inr ⟨g,0,#[],rfl,a,h,aD _,dF _,rfl,rfl⟩⟩
theorem xA {w:World}{g:Nat}{n:Int}(h:w.heap[g]? =ah #[ag n] 3):dM w (.slice (some (ae g 0)) 1 1) [n]:=
 ⟨_,_,rfl,by simp,fun j m a=>⟨g,0,rfl,by
   match j,a with
   |0,a=>cases aN a;exact ak 0 h
   |j+1,a=>simp at a⟩⟩
theorem lF.low {B a:Nat}{w:World}{v:Value}{d:List Value}{c:List (List Int)}(h:lF a w v d c)(b:B<=a):lF B w v d c:=
 ⟨rt h.o b,h.len,fun i sv l e f=>rt (h.each i sv l e f) b⟩
theorem lF.first {B:Nat}{w:World}{v:Value}{a:List Value}{who:List Int}{d:List (List Int)}(h:lF B w v a (who::d)): ∃(g c:Nat) (sv:Value),v= .slice (some (ae g 0)) (d.length+1) c/\w.cell? (ae g 0)=some sv/\w.ownsRow B 3 1 sv who.length (dz who):=by
 have m:a.length=d.length+1:=h.len;rcases h.o.2 with⟨_,e⟩|⟨g,cap,b,e,_,k,_,_,_,n⟩
 ·omega
 ·have f:0<a.length:=by omega
  have j:a[0]? =some a[0]:=ay f;refine⟨g,cap,a[0],by rw[e,m],?_,h.each 0 _ who j rfl⟩;rw[aZ w g 0 b _ (0,0) k,<-bx]
  have e:(a:List Value)[0]? =b.toList[0]? :=by
   have i:=congrArg (fun l:List Value=>l[0]?) n;rw[Nat.mul_one,dP f]at i;exact i.symm
  rw[<-e,j]
def okB (a:List Bool)(r:Int):Bool:=a.getD r.toNat false
end
namespace Lx
def Co (a:List T1)(r:List Tk):Prop:=0<r.length\/a=[]
theorem Co.up {a:List T1}{r q:List Tk}(h:Co a r)(b:r.length<=q.length):Co a q:=by
 rcases h with h|h
 ·exact .inl (by omega)
 ·exact .inr h
end Lx
theorem C9 (b:List Int)(s u:Value)(w:World)(ha:dM w s b)(v:dM w u b):Calls prog 15 #[s,u] w fun r w'=>r= .returned (.bool true)/\aq w w':=by
 obtain⟨H,A,rfl,q,d⟩:=ha;obtain⟨I,B,rfl,_,e⟩:=v;have k:=cj d;have l:=cj e;clear d e;go_enter func15,ntmps15;go_wp2_with fail;go_loopw [5,13] (fun _ t wr=> ∃j:Nat,t=ag (j:Int)/\j<=b.length/\aq w wr) (fun _ t _=>b.length-(intOf t).toNat);case atStart=>exact⟨0,rfl,by omega,aH _ _⟩
 case round=>
  obtain⟨j,rfl,E,a⟩:=hrel;have x:(0:Int)<=(j:Int):=(by omega);by_cases i:j<b.length
  ·have f:(j:Int)<(b.length:Int):=(by omega);obtain⟨m,c⟩: ∃p,b[j]? =some p:=⟨b[j],ay i⟩
   obtain⟨C,F,rfl,n⟩:=k.o j _ c;obtain⟨D,G,rfl,b0⟩:=l.o j _ c;have z:=aj a n;have b1:=aj a b0;have y:(m !=m)=false:=(by simp);clear c n b0;go_wp2_with fail;go_quiet (fail);have g:aq w (wr.drewN nq):=du a nq;go_wp2_with fail;go_roundw;case rel=>exact⟨j+1,by go_num,by omega,g⟩
   case measure=>simp[intOf];omega
  ·have f: ¬(j:Int)<(b.length:Int):=(by omega);clear k l;go_wp2_with fail;go_ret;exact⟨rfl,a⟩
theorem E3 {r d:Int}: ∀(l:List Kp) (j:Nat),0<=fQ r d l j-> ∃(n:Nat) (k:Kp),fQ r d l j=(j:Int)+n/\l[n]? =some k/\k.r=r/\k.d=d
 |[],j,h=>by
  have:fQ r d [] j= -1:=rfl;omega
 |k::l,j,h=>by
  by_cases a:k.r=r/\k.d=d
  ·refine⟨0,k,?_,rfl,a.1,a.2⟩;rw[fQ,aB a];omega
  ·rw[fQ,ax a]at h⊢;obtain⟨n,g,e,b,c,f⟩:=E3 l (j+1) h;exact⟨n+1,g,by rw[e];omega,b,c,f⟩
theorem Pr {l:List Kp}{v r d:Int}(h:mg l v r d=true): ∃(n:Nat) (k:Kp),fQ r d l 0=(n:Int)/\l[n]? =some k/\k.r=r/\k.d=d/\k.v=v/\l.getD (fQ r d l 0).toNat Vx.k0=k:=by
 unfold mg at h;rw[bz,bT,bT]at h;obtain⟨n,k,e,c,f,g⟩:=E3 l 0 h.1;have a:fQ r d l 0=(n:Int):=by rw[e];omega
 have b:l.getD (fQ r d l 0).toNat Vx.k0=k:=by rw[a,dj];simp[List.getD,c]
 exact⟨n,k,a,c,f,g,by rw[<-b];exact h.2,b⟩
namespace Vx
def lu (k:Kp):Int×Int:=(k.r,k.d)
def NK (l:List Kp):Prop:=(l.map lu).Nodup
def jv (q:Int×Int)(l:List Kp):List Kp:=l.filter fun k=>decide (lu k≠q)
theorem NK.sub {l m:List Kp}(h:NK l)(a:m.Sublist l):NK m:=List.Pairwise.sublist (a.map lu) h
theorem Am {q:Int×Int}{l:List Kp}{k:Kp}:k∈jv q l↔k∈l/\lu k≠q:=by
 unfold jv;rw[List.mem_filter,bT]
theorem Fc {q:Int×Int}{l:List Kp}(h: ∀k∈l,lu k≠q):jv q l=l:=List.filter_eq_self.2 fun k a=>bh (h k a)
theorem Dr {r d:Int}: ∀(l:List Kp) (j:Nat),NK l->(fQ r d l j= -1/\ ∀k∈l,lu k≠(r,d))\/ ∃(n:Nat) (k:Kp),fQ r d l j=((j+n:Nat):Int)/\l[n]? =some k/\lu k=(r,d)/\l.take n++l.drop (n+1)=jv (r,d) l
 |[],_,_=> .inl ⟨rfl,fun k p=>by cases p⟩
 |k::l,j,h=>by
  have m:lu k∉l.map lu/\NK l:=List.nodup_cons.1 h;unfold fQ;by_cases e:k.r=r/\k.d=d
  ·rw[aB e];have f:lu k=(r,d):=(by unfold lu;rw[e.1,e.2]);refine .inr ⟨0,k,rfl,rfl,f,?_⟩;have q: ∀x∈l,lu x≠(r,d):=fun x s c=>m.1 (dR.2 ⟨x,s,c.trans f.symm⟩);have g:jv (r,d) (k::l)=jv (r,d) l:=List.filter_cons_of_neg (by simp[f]);rw[g,Fc q];rfl
  ·rw[ax e];have f:lu k≠(r,d):=fun c=>e ⟨congrArg Prod.fst c,congrArg Prod.snd c⟩;rcases Dr l (j+1) m.2 with⟨a,b⟩|⟨n,x,a,b,c,o⟩
   ·refine .inl ⟨a,fun y i=> ?_⟩;rcases bO.1 i with rfl|i
    ·exact f
    ·exact b y i
   ·refine .inr ⟨n+1,x,by rw[a];congr 1;omega,b,c,?_⟩;have g:jv (r,d) (k::l)=k::jv (r,d) l:=List.filter_cons_of_pos (by simp[f]);rw[g,<-o];rfl
theorem LB {r d:Int}{l:List Kp}(h:NK l):fC l (fQ r d l 0)=jv (r,d) l:=by
 unfold fC;rcases Dr l 0 h (r:=r) (d:=d) with⟨a,b⟩|⟨n,x,a,_,_,c⟩
 ·rw[a,ax (by decide),Fc b]
 ·rw[a,aB (by omega),<-c,show(((0+n:Nat):Int)).toNat=n by omega]
def Mb (l:List Kp)(v r d:Int)(m:M):List Kp:=if mg l v r d=true then fC l (fQ r d l 0)++[l.getD (fQ r d l 0).toNat k0] else qx (fC l (fQ r d l 0)++[⟨r,d,v,m⟩])
structure bp (U A:List (Int×Int))(V:Int->Int)(l:List Kp):Prop where
 nk:NK l
 suf: ∃pre suf,l=pre++suf/\(∀k∈suf,lu k∈U/\k.v=V k.r)/\ ∀q∈A,∃k∈suf,lu k=q
theorem bp.start {U:List (Int×Int)}{V:Int->Int}{l:List Kp}(h:NK l):bp U [] V l:=⟨h,l,[],by simp,(fun k a=>by simp at a),(fun q b=>by simp at b)⟩
theorem N1 {l:List Kp}{e:Kp}(h:NK l):NK (jv (lu e) l++[e]):=by
 unfold NK;rw[dZ,List.nodup_append];refine⟨h.sub List.filter_sublist,by simp,fun x d y a c=> ?_⟩;obtain⟨k,b,rfl⟩:=dR.1 d;simp at a;exact(Am.1 b).2 (c.trans a)
theorem bp.next {U A:List (Int×Int)}{V:Int->Int}{l:List Kp}(h:bp U A V l)(O:U.length<=64){r d:Int}(L:(r,d)∈U)(m:M):bp U ((r,d)::A) V (Mb l (V r) r d m):=by
 obtain⟨i,suf,K,I,J⟩:=h.suf
 have s: ∀e:Kp,lu e=(r,d)->e.v=V r->NK (jv (r,d) l++[e])/\jv (r,d) l++[e]=jv (r,d) i++(jv (r,d) suf++[e])/\(∀k∈jv (r,d) suf++[e],lu k∈U/\k.v=V k.r)/\(∀q∈(r,d)::A,∃k∈jv (r,d) suf++[e],lu k=q)/\(jv (r,d) suf++[e]).length<=64:=fun e t ev=>by
  have z:=N1 (e:=e) h.nk;rw[t]at z
  have F:jv (r,d) l++[e]=jv (r,d) i++(jv (r,d) suf++[e]):=by
   rw[K];unfold jv;rw[List.filter_append,ef]
  have G: ∀k∈jv (r,d) suf++[e],lu k∈U/\k.v=V k.r:=fun k g=>by
   rcases da.1 g with g|g
   ·exact I k (Am.1 g).1
   ·cases cQ.1 g;exact⟨by rw[t];exact L,by rw[ev,show e.r=r from congrArg Prod.fst t]⟩
  refine⟨z,F,G,fun q w=> ?_,?_⟩
  ·by_cases j:q=(r,d)
   ·exact⟨e,by simp,by rw[t,j]⟩
   ·rcases bO.1 w with c|w
    ·exact absurd c j
    ·obtain⟨k,g,o⟩:=J q w;exact⟨k,ft _ (Am.2 ⟨g,by rw[o];exact j⟩),o⟩
  ·have B:NK (jv (r,d) suf++[e]):=z.sub (by rw[F];exact List.sublist_append_right _ _)
   have:=List.Nodup.length_le_of_subset B (l₂:=U) fun x N=>by
    obtain⟨k,g,rfl⟩:=dR.1 N;exact(G k g).1
   rw[bc]at this;omega
 unfold Mb;rw[LB h.nk];by_cases y:mg l (V r) r d=true
 ·rw[aB y];have f:=y;unfold mg at f;rw[bz,bT,bT]at f;rcases Dr l 0 h.nk (r:=r) (d:=d) with⟨a,_⟩|⟨n,x,a,b,c,_⟩
  ·rw[a]at f;exact absurd f.1 (by decide)
  ·have H:l.getD (fQ r d l 0).toNat k0=x:=by
    rw[a,show(((0+n:Nat):Int)).toNat=n by omega,dg,b];rfl
   rw[H]at f⊢;obtain⟨C,u,D,E,_⟩:=s x c f.2;exact⟨C,_,_,u,D,E⟩
 ·rw[ax y];obtain⟨C,u,D,E,P⟩:=s ⟨r,d,V r,m⟩ rfl rfl;refine⟨C.sub (List.drop_sublist _ _),(jv (r,d) i).drop ((jv (r,d) l++[(⟨r,d,V r,m⟩:Kp)]).length-64),_,?_,D,E⟩;unfold qx
  have p:(jv (r,d) l++[(⟨r,d,V r,m⟩:Kp)]).length-64<=(jv (r,d) i).length:=by
   rw[u,aP];omega
  rw[<-List.drop_append_of_le_length p,<-u]
end Vx
section
open Go.ChangeShapes Go.WideShapes Go.ChangeAt Go.WideMaps Go.WideElems Go.Joins
variable {H:Type} {enc:TypeId×Value->H} {W:World}
theorem cN9:prog.cellsOf 3=1:=by kernel_rfl
theorem PL (g o n:Nat):(⟨g,o,none⟩:Addr).add n=⟨g,o+n,none⟩:=by
 by_cases h:n=0
 ·subst h;simp[Addr.add]
 ·simp[Addr.add,h]
theorem JT {α:Type}{l:List α}(h:l.length=3): ∃a b c,l=[a,b,c]:=by
 match l,h with
 |[a,b,c],_=>exact⟨a,b,c,rfl⟩
theorem xQ {α:Type}(X:α){size:Nat}{t e:TypeId}(ht:prog.underlying t=some (.slice e))(E:prog.cellsOf e=size)(h0:0<size)(Q:(Nat->Option Value)->α->Prop)
  (C: ∀(d:Nat) (z:List Value) (y:DataW H×List MemPlace),DataW.trod enc prog W 0 (fun _=>true) true d e z=some y-> ∃u:α,z.length=size/\Q (fun k=>z[k]?) u) {d:Nat} {z:List Value} {x:DataW H×List MemPlace}
  (h:DataW.trod enc prog W 0 (fun _=>true) true d t z=some x):
  ∃(p:Option Addr) (len cap:Nat) (V:List α),z=[.slice p len cap]/\V.length=len/\len<9223372036854775808/\ ∀(j:Nat) (u:α),V[j]? =some u-> ∃g o:Nat,p=some ⟨g,o,none⟩/\ ∃c:List Value,c.length=size/\(∀k v,c[k]? =some v->W.cell? (ae g (o+j*size+k))=some v)/\Q (fun k=>c[k]?) u:=by
 rcases DataW.trod_slice ht h with⟨G,_⟩|⟨a,len,cap,b,U,m,hf,G,_,_,ab,hm,R,n,_⟩
 ·exact⟨none,0,0,[],G,rfl,by decide,fun j u D=>by simp at D⟩
 ·have K:len<9223372036854775808:=by unfold maxLen at hm;omega
  have each: ∀i,i<len-> ∃u:α,∃g o:Nat,a=⟨g,o,none⟩/\ ∃c:List Value,c.length=size/\(∀k v,c[k]? =some v->W.cell? (ae g (o+i*size+k))=some v)/\Q (fun k=>c[k]?) u:=by
   intro i hi;have A:=n i hi;rw[E]at A;have hy:b[i]? =some (b[i]'(by omega)):=ay _;rw[hy,Option.bind_eq_some_iff]at A;obtain⟨c,hc,L⟩:=A;obtain⟨u,J,hq⟩:=C _ _ _ L
   have r:a.spot=none:=by
    have B:=n 0 (by omega);rw[E]at B;have M:b[0]? =some (b[0]'(by omega)):=ay _;rw[M,Option.bind_eq_some_iff]at B;obtain⟨N,I,F⟩:=B;obtain⟨_,O,_⟩:=C _ _ _ F;have Y:N[0]? =some (N[0]'(by omega)):=ay _;have S:=(World.cells?_some I).2.2 0 (by omega);rw[Y]at S;have q':=World.cell?_spot S;simpa[Addr.add] using q'
   obtain⟨g,o,s⟩:=a;have q:=(World.cells?_some hc).2.2;dsimp only at r;subst r;refine⟨u,g,o,rfl,c,J,fun k v P=> ?_,hq⟩;have aa:k<c.length:=(aF.1 P).1;have T:=q k (by omega);rw[PL,PL,P]at T;exact T
  let f:Nat->α:=fun i=>if h:i<len then Classical.choose (each i h) else X;have w: ∀i (h:i<len),f i=Classical.choose (each i h):=fun i h=>(by simp only[f,h,dif_pos]);refine⟨some a,len,cap,(List.range len).map f,G,by simp,K,fun j u D=> ?_⟩
  have l:j<len:=by
   have:=(aF.1 D).1;simpa using this
  rw[a8,List.getElem?_range l]at D;have hu:u=Classical.choose (each j l):=(aN D).symm.trans (w j l);rw[hu];obtain⟨g,o,ea,c,A,B,Z⟩:=Classical.choose_spec (each j l);exact⟨g,o,by rw[ea],c,A,B,Z⟩
theorem Mg {α:Type}{l:List α}(h:l.length=4): ∃a b c d,l=[a,b,c,d]:=by
 match l,h with
 |[a,b,c,d],_=>exact⟨a,b,c,d,rfl⟩
end
theorem JV (b f:List Int)(G H:Value)(w:World)(ha:dM w G b)(J:dM w H f):Calls prog 15 #[G,H] w fun r w'=>r= .returned (.bool (decide (b=f)))/\aq w w':=by
 obtain⟨V,N,rfl,E,n⟩:=ha;obtain⟨W,O,rfl,_,q⟩:=J;have y:=cj n;have z:=cj q;clear n q;by_cases u:b.length=f.length
 ·have B:=cj u;go_enter func15,ntmps15;rw[<-u];clear u;go_wp2_with fail;go_loopw [5,13] (fun _ t wr=> ∃j:Nat,t=ag (j:Int)/\j<=b.length/\(∀i<j,b[i]? =f[i]?)/\aq w wr) (fun _ t _=>b.length-(intOf t).toNat);case atStart=>exact⟨0,rfl,by omega,fun i h=>absurd h (Nat.not_lt_zero i),aH _ _⟩
  case round=>
   obtain⟨j,rfl,S,D,d⟩:=hrel;have K:(0:Int)<=(j:Int):=(by omega);have A:=cj D;clear D;by_cases x:j<b.length
   ·have s:(j:Int)<(b.length:Int):=(by omega);obtain⟨m,c⟩: ∃p,b[j]? =some p:=⟨b[j],ay x⟩
    obtain⟨F,a⟩: ∃p,f[j]? =some p:=⟨f[j]'(by have:=B.o;omega),ay _⟩
    obtain⟨P,T,rfl,C⟩:=y.o j _ c;obtain⟨Q,U,rfl,b0⟩:=z.o j _ a;have M:=aj d C;have b1:=aj d b0;clear C b0;by_cases g:m=F
    ·subst g;have g:(m !=m)=false:=(by simp)
     have I:Rb (∀i<j+1,b[i]? =f[i]?):=fun i hi=>by
      by_cases h:i=j
      ·rw[h,c,a]
      ·exact A.o i (by omega)
     clear c a;go_wp2_with fail;go_quiet (fail);have l:aq w (wr.drewN nq):=du d nq;go_wp2_with fail;go_roundw;case rel=>exact⟨j+1,by go_num,by omega,I.o,l⟩
     case measure=>simp[intOf];omega
    ·have L:(m !=F)=true:=(by simpa using g)
     have k:decide (b=f)=false:=by
      simp only[decide_eq_false_iff_not];intro e;rw[e,a]at c;exact g (aN c).symm
     have v:=cj k;clear c a k;go_wp2_with fail;go_quiet (fail);have l:aq w (wr.drewN nq):=du d nq;go_wp2_with fail;go_ret;exact⟨by rw[v.o];rfl,l⟩
   ·have s: ¬(j:Int)<(b.length:Int):=(by omega)
    have k:decide (b=f)=true:=by
     simp only[bT];apply List.ext_getElem?;intro i;by_cases h:i<j
     ·exact A.o i h
     ·rw[eO (by omega),eO (by have:=B.o;omega)]
    have v:=cj k;clear y z k;go_wp2_with fail;go_ret;exact⟨by rw[v.o];rfl,d⟩
 ·have k:decide (b=f)=false:=by
   simp only[decide_eq_false_iff_not];exact fun e=>u (congrArg List.length e)
  rw[k]
  have R:((b.length:Int) !=(f.length:Int))=true:=by
   simp only[bne_iff_ne,ne_eq];omega
  go_enter func15,ntmps15;go_wp2_with fail;go_ret;exact⟨rfl,aH _ _⟩
end Go.Proofs.YtlkehieagdkgiaaGreatDoor
