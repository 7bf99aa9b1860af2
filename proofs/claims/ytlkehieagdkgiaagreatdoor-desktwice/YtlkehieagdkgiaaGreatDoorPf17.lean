/- Texts of the proof. -/
import Derived.Test.YtlkehieagdkgiaaGreatDoorPf16
set_option maxRecDepth 100000
set_option maxHeartbeats 8000000
namespace Go.Proofs.YtlkehieagdkgiaaGreatDoor
open Go.Proofs.Tryz Go.RowKit Lx Vx Mx Msk
section
variable {all:List Tk} {E g:Nat} {v:Value} {w:World} {i n:Nat}
def pj (g:Nat)(w:World):Nat:=match w.heap[g]? with
 |some (.cells a _ _)=>(intOf (a.getD 1 undef)).toNat
 |_=>0
theorem PSt.pos (h:PSt all E g v w i n):pj g w=i:=by
 unfold pj;rw[h.blk];simp[intOf]
theorem Ce (j:Nat):fY (all.drop j)=all.drop (oM all (j+1)):=by
 unfold fY oM;rw[fR];split
 ·rw[fR]
 ·rfl
def sW (E d:Nat)(all:List Tk)(e:Ex)(n:Nat):Except (Int×Nat) (Int×Nat)->Res
 | .error q=> .error q
 | .ok (m,j)=>dr (dK E ⟨9,m,0,[],[e]⟩ (all.drop j) n) fun e r n=>rd E 5 d e r n
theorem Iw (d:Nat)(e:Ex)(j n:Nat)(h:isT mK (all.drop j)=true):rd E 5 d e (all.drop j) n=sW E d all e n (pE all E (j+1)):=by
 rw[OE,aB h,Ce,fR];unfold pE;split
 ·rfl
 split
 ·rfl
 ·unfold sW;rw[fR]
theorem OM (d:Nat)(e:Ex)(j n:Nat)(h:isT mK (all.drop j)=false):rd E 5 d e (all.drop j) n= .ok (e,all.drop j,n):=by
 rw[OE,ax (by simp[h])]
structure sc (w0 w:World)(b:Nat)(e:Ex):Prop where
 ex: ∃(p:Option Addr) (c d:Nat),w.heap[b]? =ah #[ag e.kind,ag e.a,ag e.b,.string ⟨e.name.toArray⟩,.slice p e.kids.length c] 84/\dE (fun k=>w0.heap.size+1<=k/\k≠b) d w (.slice p e.kids.length c) e.kids
theorem sc.kept {f w w':World}{b:Nat}{e:Ex}(h:sc f w b e)(a:bq g w w')(l:b≠g)(m:g<f.heap.size):sc f w' b e:=by
 obtain⟨p,c,d,i,j⟩:=h.ex;exact⟨p,c,d,a.at i l,a.kids (fun k a=>by omega) j⟩
theorem DV (F:PS0 all E g v)(hT:RC all E g v 174 6 i):RC all E g v 153 4 i:=by
 intro w n d h ay U;have W:=aI h.blk;have T:aq w (w.alloc (.cells #[ag 0,ag 0,ag 0,.string ⟨#[]⟩,af] 84)):=am _ _;have hz:=mQ w;have ao:=h.below T F;have Y:=bq.of_below (g:=g) T;have a7:(w.alloc (.cells #[ag 0,ag 0,ag 0,.string ⟨#[]⟩,af] 84)).heap.size=w.heap.size+1:=by simp
 generalize aK:w.alloc (.cells #[ag 0,ag 0,ag 0,.string ⟨#[]⟩,af] 84)=w0 at*;have c1:=hT w0 n d ao ay U;generalize x:rd E 4 d ex0 (all.drop i) n=X;rw[QJ]at x;go_enter func153,ntmps153;go_wp2_with fail;refine c1.mono ?_;intro e f p;cases hx:rd E 6 d ex0 (all.drop i) n with
 |error q=>
  obtain⟨er,at_⟩:=q;rw[hx]at p x;obtain⟨rfl,z⟩:=p;refine⟨rfl,?_⟩;rw[<-x];exact⟨rfl,Y.trans z⟩
 |ok q=>
  obtain⟨e0,rr,n0⟩:=q;rw[hx]at p x;obtain⟨i1,sl,dd,P,rfl,C,h1,ax,z⟩:=p;subst P;obtain⟨p1,q1,rfl⟩:=C.form;have ap:rd E 5 d e0 (all.drop i1) n0=X:=x;have aC:=z.size;have a2:=z.at hz (by omega);have H:aq f (f.alloc (.cells #[ag e0.kind,ag e0.a,ag e0.b,.string ⟨e0.name.toArray⟩,.slice p1 e0.kids.length q1] 84)):=am _ _;have h2:=h1.below H F;have a3:=ai H a2;have aa:=(Y.trans z).trans (bq.of_below H)
  have az:sc w (f.alloc (.cells #[ag e0.kind,ag e0.a,ag e0.b,.string ⟨e0.name.toArray⟩,.slice p1 e0.kids.length q1] 84)) f.heap.size e0:=
   ⟨p1,q1,dd,aG f _,(bq.of_below (g:=g) H).kids (fun k L=>by omega) (C.lt.mono fun k L=>by omega)⟩
  unfold exV;have an:Rg (rd E 5 d e0 (all.drop i1) n0=X):=ap;generalize aH:f.alloc (.cells #[ag e0.kind,ag e0.a,ag e0.b,.string ⟨e0.name.toArray⟩,.slice p1 e0.kids.length q1] 84)=w2 at*;go_wp2_with fail;go_loopw [6] (fun _ wr=> ∃(e:Ex) (j m:Nat),rd E 5 d e (all.drop j) m=X/\sc w wr f.heap.size e/\PSt all E g v wr j m/\m<=600/\bq g w wr/\wr.heap[w.heap.size]? =ah sV 84) (fun _ wr=>all.length-pj g wr);case atStart=>exact⟨e0,i1,n0,an.o,az,h2,ax,aa,a3⟩
  case round=>
   obtain⟨e,j,m,G,hv,Q,ab,N,ak⟩:=hrel;have hp:=Q.pos;by_cases hs:isT mK (all.drop j)=true
   ·have a9:=oI (by decide) hs;have c2:=gG F Q mK (by decide) hs;rw[Iw d e j m hs]at G;have c3:=fun(f:World) (h1:PSt all E g v f (j+1) m)=>Is F h1;have D:Rg (sW E d all e m (pE all E (j+1))=X):=G;go_wp2_with fail;refine c2.mono ?_;rintro e' w3 ⟨rfl,h3,l⟩;go_wp2_with fail;refine(c3 _ h3).mono ?_;intro e' w4 p;cases hx:pE all E (j+1) with
    |error q=>
     obtain⟨er,at_⟩:=q;have c:=D.o;rw[hx]at p c;obtain⟨rfl,I⟩:=p;refine⟨rfl,?_⟩;rw[<-c];exact⟨rfl,(N.trans l).trans I⟩
    |ok q=>
     obtain⟨s,j2⟩:=q;have c:=D.o;rw[hx]at p c;obtain⟨rfl,h4,I⟩:=p
     have aB:j+1<j2:=by
      unfold pE at hx;split at hx
      ·cases hx
      split at hx
      ·cases hx
      ·cases hx;unfold oM;split<;>omega
     have A:=l.trans I;have a6:=A.size;have a1:=hv.kept A (by omega) W;obtain⟨pv,S,dv,K,O⟩:=a1.ex;have aj:=A.at ak (by omega);have aw:=aI aj;have av:=aI K;have y:aq w4 (w4.alloc (.cells #[ag e.kind,ag e.a,ag e.b,.string ⟨e.name.toArray⟩,.slice pv e.kids.length S] 84)):=am _ _;have kk:=Cb (B:=fun k=>w.heap.size+1<=k/\k≠f.heap.size) (by constructor<;>omega) (aG w4 (.cells #[ag e.kind,ag e.a,ag e.b,.string ⟨e.name.toArray⟩,.slice pv e.kids.length S] 84)) ((bq.of_below (g:=g) y).kids (fun k L=>by omega) O);have h5:=h4.below y F;have au:=(y.block _ av).trans K;have a4:=(y.block _ aw).trans aj;have M:=((N.trans l).trans I).trans (bq.of_below y);have c6:=kP F h5 ab (fun k=>w.heap.size+1<=k/\k≠f.heap.size) (fun k L=>by omega) ⟨9,s,0,[],[e]⟩ _ _ kk;unfold exV at c6;have R:Rg (dr (dK E ⟨9,s,0,[],[e]⟩ (all.drop j2) m) (fun e r n=>rd E 5 d e r n)=X):=c;generalize aJ:w4.alloc (.cells #[ag e.kind,ag e.a,ag e.b,.string ⟨e.name.toArray⟩,.slice pv e.kids.length S] 84)=w5 at*;go_wp2_with(refine aR rfl 84 _ rfl _ rfl _ _ _ _ K ft rfl (by kernel_rfl) ?_)
     refine c6.mono ?_;intro e' w6 p;cases hx:dK E ⟨9,s,0,[],[e]⟩ (all.drop j2) m with
     |error q=>
      obtain⟨er,at_⟩:=q;have c:=R.o;rw[hx]at p c;obtain⟨rfl,t⟩:=p;refine⟨rfl,?_⟩;rw[<-c];exact⟨rfl,M.trans t⟩
     |ok q=>
      obtain⟨e6,rr,n6⟩:=q;have c:=R.o;rw[hx]at p c;obtain⟨i6,sl,dd,P,rfl,C,h6,ac,t⟩:=p;have er:=dU hx;cases er;obtain⟨p6,q6,rfl⟩:=C.form;have V:=t.at au (by omega);have a5:=t.at a4 (by omega);have aE:=t.size;have J:=M.trans t;have aF:=M.size;have al:all.drop j2=all.drop i6:=P
      have HR:Rg (∀u,PSt all E g v (w6.setRow f.heap.size u) i6 (m+1)/\bq g w (w6.setRow f.heap.size u)/\(w6.setRow f.heap.size u).heap[w.heap.size]? =ah sV 84/\dE (fun k=>w.heap.size+1<=k/\k≠f.heap.size) dd (w6.setRow f.heap.size u) (.slice p6 1 q6) [e]):=fun u=>
       ⟨h.of_kept F (J.setRow (by omega) u) ((aW _ _ _ _ (by omega)).trans h6.blk) h6.le,J.setRow (by omega) u,(aW _ _ _ _ (by omega)).trans a5,C.kept fun k L _=>aW _ _ _ _ L.2⟩
      have HN:Rg (rd E 5 d ⟨9,s,0,[],[e]⟩ (all.drop i6) (m+1)=X):=by
       show _=_;rw[<-al];exact c
      have a8:j<i6:=by
       have l1:=congrArg List.length al;simp only[fI]at l1;have:=h6.le;have:=h5.le;omega
      unfold exV;go_wp2_with(refine aA rfl 84 _ _ rfl _ _ rfl rfl _ _ V (by kernel_rfl) (by simp) (by simp[Value.oneCell']) ?_)
      obtain⟨r1,r2,r3,r4⟩:=HR.o #[ag 9,ag s,ag 0,.string ⟨#[]⟩,.slice p6 1 q6];go_roundw
      case rel=>
       (repeat apply iZ);exact⟨⟨⟨9,s,0,[],[e]⟩,i6,m+1,HN.o,⟨p6,q6,dd,aL _ _ _ _ _ _ V,r4⟩,r1,ac,r2,r3⟩,rfl⟩
      case measure=>
       rw[hp];have:=r1.pos;have:=r1.le;show all.length-pj g _<_;omega
   ·have ad:isT mK (all.drop j)=false:=(by simpa using hs);have c2:=eP F Q mK ad;rw[OM d e j m ad]at G;have D:Rg (.ok (e,all.drop j,m)=X):=G;go_wp2_with fail;refine c2.mono ?_;rintro e' w3 ⟨rfl,h3,l⟩;have a0:=hv.kept l (by omega) W;obtain⟨pv,S,dv,ar,O⟩:=a0.ex;have ae:=l.at ak (by omega);have Z:=N.trans l
    have HO:Rg (∀u,jE all E g v w (fun k=>w.heap.size<=k) X (.returned (exV e (.slice pv e.kids.length S))) (w3.setRow w.heap.size u)):=fun u=>by
     rw[<-D.o];exact⟨j,_,dv,rfl,rfl,(O.kept fun k L _=>aW _ _ _ _ (by omega)).mono fun k L=>by omega,h.of_kept F (Z.setRow (aD _) u) ((aW _ _ _ _ (by omega)).trans h3.blk) h3.le,ab,Z.setRow (aD _) u⟩
    unfold exV at HO
    go_wp2_with(first
     |(refine aR rfl 84 _ rfl _ rfl _ _ _ _ ar ft rfl (by kernel_rfl) ?_)
     |(refine aA rfl 84 _ _ rfl _ _ rfl rfl _ _ ae (by kernel_rfl) (by rfl) (by simp[Value.oneCell']) ?_))
    exact jS 4 (by kernel_rfl) w.heap.size _ _ _ _ _ rfl rfl (aL _ _ _ _ _ _ ae) (HO.o _)
end
section
variable {all:List Tk} {E g:Nat} {v:Value} {w:World} {i n:Nat}
def zS (all:List Tk)(E g:Nat)(v:Value)(B:Nat->Prop)(W:World)(y:Res)(x:Value):Prop:= ∃(ex:Ex) (i n:Nat) (p:Option Addr) (c d:Nat),y= .ok (ex,all.drop i,n)/\x=exV ex (.slice p ex.kids.length c)/\dE B d W (.slice p ex.kids.length c) ex.kids/\PSt all E g v W i n/\n<=600
theorem jE.two {B:Nat->Prop}{y:Res}{e:Ending}{w':World}(h:jE all E g v w B y e w'):bq g w w'/\((∃er at_,y= .error (er,at_)/\e= .panicked (jr er at_))\/ ∃x,e= .returned x/\zS all E g v B w' y x):=by
 cases y with
 |error q=>exact⟨h.2,.inl ⟨_,_,rfl,h.1⟩⟩
 |ok q=>
  obtain⟨i,sl,d,b,e2,a,f,j,k⟩:=h;obtain⟨p,c,rfl⟩:=a.form;exact⟨k,.inr ⟨_,e2,q.1,i,q.2.2,p,c,d,by rw[<-b],rfl,a,f,j⟩⟩
theorem KP {p:Prop}(h:p):Rg p:=h
theorem sd (y:Res)(f k:Ex->List Tk->Nat->Res):dr y (fun t r n=>dr (f t r n) k)=dr (dr y f) k:=by cases y<;>rfl
theorem KQ {y:Res}{kd:Int}{e ex:Ex}{r:List Tk}(h:dr y (fun t r n=>dK E ⟨kd,0,0,[],[e,t]⟩ r n)= .ok (ex,r,n)): ∃b a,y= .ok (b,r,a):=by
 cases y with
 |error q=>cases h
 |ok q=>
  unfold dr dK at h;dsimp only at h;split at h<;>cases h;exact⟨_,_,rfl⟩
theorem se {y z X:Res}{kd:Int}{e:Ex}{k:Ex->List Tk->Nat->Res}(a:dr y (fun t r n=>dK E ⟨kd,0,0,[],[e,t]⟩ r n)=z)(b:dr z k=X):(∀q,y= .error q->X= .error q)/\(∀t r n,y= .ok (t,r,n)->dK E ⟨kd,0,0,[],[e,t]⟩ r n=z)/\ ∀ex r n,z= .ok (ex,r,n)-> ∃d c,y= .ok (d,r,c):=
 ⟨fun q h=>by rw[<-b,<-a,h];rfl,fun t r n h=>by rw[<-a,h];rfl,fun ex r n h=>KQ (a.trans h)⟩
structure PJ (all:List Tk)(E g:Nat)(v:Value)(w w3:World)(b j m:Nat)(y z:Res)(s t:Nat)(M:Nat->Bool)(φ:Nat->Value)(W:World):Prop where
 kp:M 6=false->bq g w3 W
 a:M 4=false->PSt all E g v W (j+1) m
 f:M 4=true->M 5=false->zS all E g v (fun k=>w.heap.size+1<=k/\k≠b) W y (φ s)
 c:M 5=true->M 6=false->zS all E g v (fun k=>w.heap.size+1<=k/\k≠b) W z (φ t)
 d:M 6=true-> ∃ex i n,z= .ok (ex,all.drop i,n)/\sc w W b ex/\PSt all E g v W i n/\n<=600/\bq g w W/\W.heap[w.heap.size]? =ah sV 84
theorem zS.below {B:Nat->Prop}{W a:World}{y:Res}{x:Value}(h:zS all E g v B W y x)(e:PS0 all E g v)(q: ∀k,B k->k≠g)(b:aq W a):zS all E g v B a y x:=by
 obtain⟨ex,i,n,p,c,d,f,j,l,m,o⟩:=h;exact⟨ex,i,n,p,c,d,f,j,(bq.of_below (g:=g) b).kids q l,m.below b e,o⟩
theorem PJ.below {u W r:World}{b j m s t:Nat}{y z:Res}{M:Nat->Bool}{φ:Nat->Value}(h:PJ all E g v w u b j m y z s t M φ W)(o:PS0 all E g v)(G:g<w.heap.size)(q:b≠g)(l:aq W r):PJ all E g v w u b j m y z s t M φ r:=by
 have e:=bq.of_below (g:=g) l;refine⟨fun c=>(h.kp c).trans e,fun c=>(h.a c).below l o,fun c p=>(h.f c p).below o (fun k e=>by omega) l,fun c p=>(h.c c p).below o (fun k e=>by omega) l,fun c=> ?_⟩;obtain⟨ex,i,n,x,A,B,C,D,F⟩:=h.d c;exact⟨ex,i,n,x,A.kept e q G,B.below l o,C,D.trans e,e.at F (by omega)⟩
theorem Ix (J:PS0 all E g v)(a8:RC all E g v 153 4 i)(L: ∀j,i<j->RC all E g v 153 4 j):RC all E g v 130 2 i:=by
 intro w n d h aN Q;have Z:=aI h.blk;have al:aq w (w.alloc (.cells #[ag 0,ag 0,ag 0,.string ⟨#[]⟩,af] 84)):=am _ _;have hz:=mQ w;have a9:=h.below al J;have ar:=bq.of_below (g:=g) al;have aZ:(w.alloc (.cells #[ag 0,ag 0,ag 0,.string ⟨#[]⟩,af] 84)).heap.size=w.heap.size+1:=by simp
 generalize bh:w.alloc (.cells #[ag 0,ag 0,ag 0,.string ⟨#[]⟩,af] 84)=w0 at*;have c1:=a8 w0 n d a9 aN Q;generalize A:rd E 2 d ex0 (all.drop i) n=X;rw[QI]at A;go_enter func130,ntmps130;go_wp2_with fail;refine c1.mono ?_;intro e w1 ho;cases hx:rd E 4 d ex0 (all.drop i) n with
 |error q=>
  obtain⟨er,at_⟩:=q;rw[hx]at ho A;obtain⟨rfl,C⟩:=ho;refine⟨rfl,?_⟩;rw[<-A];exact⟨rfl,ar.trans C⟩
 |ok q=>
  obtain⟨e0,bi,n0⟩:=q;have ac:=lZ (by omega) hx;rw[hx]at ho A;obtain⟨i1,sl,dd,aO,rfl,av,h1,aF,C⟩:=ho;subst aO;obtain⟨p1,I,rfl⟩:=av.form;have aC:rd E 3 d e0 (all.drop i1) n0=X:=A
  have ap:i<i1:=by
   have e1:gN 4=1:=rfl;simp only[fI]at ac;have:=h1.le;omega
  have bf:=C.size;have aV:=C.at hz (by omega);have N:aq w1 (w1.alloc (.cells #[ag e0.kind,ag e0.a,ag e0.b,.string ⟨e0.name.toArray⟩,.slice p1 e0.kids.length I] 84)):=am _ _;have h2:=h1.below N J;have aX:=ai N aV;have a2:=(ar.trans C).trans (bq.of_below N)
  have a4:sc w (w1.alloc (.cells #[ag e0.kind,ag e0.a,ag e0.b,.string ⟨e0.name.toArray⟩,.slice p1 e0.kids.length I] 84)) w1.heap.size e0:=
   ⟨p1,I,dd,aG w1 _,(bq.of_below (g:=g) N).kids (fun k hk=>by omega) (av.lt.mono fun k hk=>by omega)⟩
  unfold exV;have a6:Rg (rd E 3 d e0 (all.drop i1) n0=X):=aC;generalize bg:w1.alloc (.cells #[ag e0.kind,ag e0.a,ag e0.b,.string ⟨e0.name.toArray⟩,.slice p1 e0.kids.length I] 84)=w2 at*;go_wp2_with fail;obtain⟨b5,an⟩:=au w1.heap.size;rw[an]at a4;simp only[an];have aY:w.heap.size+1<=b5:=(by omega);go_loopw [9] (fun _ wr=> ∃(e:Ex) (j m:Nat),rd E 3 d e (all.drop j) m=X/\sc w wr b5 e/\PSt all E g v wr j m/\m<=600/\bq g w wr/\wr.heap[w.heap.size]? =ah sV 84/\i<j) (fun _ wr=>all.length-pj g wr);case atStart=>exact⟨e0,i1,n0,a6.o,a4,h2,aF,a2,aX,ap⟩
  case round=>
   obtain⟨e,j,m,Y,hv,ad,a3,aw,a5,bb⟩:=hrel;have hp:=ad.pos;by_cases hs:isT tU (all.drop j)=true
   ·have bc:=oI (by decide) hs;have c2:=fun(W:World) (V:PSt all E g v W j m)=>gG J V tU (by decide) hs;obtain⟨y,HY⟩: ∃y,Rg (rd E 4 d ex0 (all.drop (j+1)) m=y):=⟨_,rfl⟩
    obtain⟨z,HZ⟩: ∃z,Rg (dr y (fun t r n=>dK E ⟨8,0,0,[],[e,t]⟩ r n)=z):=⟨_,rfl⟩
    have S:Rg (dr z (fun e r n=>rd E 3 d e r n)=X):=by
     show _=_;rw[<-Y,OD,aB hs,fR,HY.o,sd,HZ.o]
    go_wp2_with fail;refine(c2 _ ad).mono ?_;rintro e' w3 ⟨rfl,h3,s⟩;have ae:=hv.kept s (by omega) Z;obtain⟨pv,cv,dv,B,ay⟩:=ae.ex;have H:=s.at a5 (by omega);have G:=aw.trans s;have bd:=aI B;have be:=aI H;go_wp2_with fail;have cF:=fun(W:World) (V:PSt all E g v W (j+1) m)=>L (j+1) (by omega) W m d V a3 Q;simp only[HY.o]at cF;have ak: ∀k,(w.heap.size+1<=k/\k≠b5)->k≠g:=fun k hk=>(by omega);have HB:=KP (se HZ.o S.o);refine mI (fun ex W=> ∃er at_,ex= .panic (jr er at_)/\X= .error (er,at_)/\bq g w W) (fun ex a W hd ⟨er,at_,h1,h2,h3⟩=>by subst h1;refine⟨hd,?_⟩;rw[h2];exact⟨rfl,h3⟩) (PJ all E g v w w3 b5 j m y z 15 16) [kn 11 (ab g 0),kn 12 (exV e (.slice pv e.kids.length cv)),kn 13 (ab g 0),kn 14 (ag (d:Int)),td 15,td 16,nk] (fun _=>⟨fun _=>bq.of_below (aH _ _).drew,fun _=>h3.below (aH _ _).drew J,(fun h=>by cases h),(fun h=>by cases h),(fun h=>by cases h)⟩) (fun _ M φ W W' _ hb u=>u.below J Z (by omega) hb) (by kernel_rfl) (fun _ M φ W _ u ao F l hl L=> ?_) (fun M φ W hM u=> ?_)
    ·simp only[kn,td,nk,eh,aQ,aT,Act.put,az,aK,aJ]at hl;subst hl;simp only[dc,Nat.reduceAdd]at L
     have U:M 5=false->M 6=false:=fun T=>by
      cases h:M 6 with
      |false=>rfl
      |true=>rw[ao 6 _ rfl h ⟨5,.data⟩ (by simp) rfl rfl]at T;cases T
     dsimp only[kn,td,nk,dz,eV,eo,Act.put];and_intros;all_goals first|exact trivial|intro hw hn hm K hK
     all_goals try (go_simp;with_reducible exact hK _ _ ⟨rfl,aH _ _⟩)
     ·have O:=(u.kp (U (hn 5 _ rfl (by kernel_rfl)))).at B (by omega);refine dX 84 _ rfl _ (by simp[Act.eval,L]) _ _ _ _ O ft rfl (by kernel_rfl) ?_;exact hK _ _ ⟨rfl,aH _ _⟩
     ·have l5:=hn 5 _ rfl (by kernel_rfl);have l6:=U l5;have p:=u.kp l6;have V:=u.a hm;have aS:=p.size;go_simp;refine(cF W V).mono ?_;intro e' W' P;obtain⟨D,⟨er,at_,hy,rfl⟩|⟨x,rfl,hx⟩⟩:=P.two
      ·exact⟨er,at_,rfl,HB.o.1 _ hy,(G.trans p).trans D⟩
      ·obtain⟨ex,i4,n4,p4,c4,d4,r1,r2,r3,r4⟩:=hx;refine hK _ _ ⟨trivial,fun _=>p.trans D,(fun h=>by simp at h),fun _ _=>⟨ex,i4,n4,p4,c4,d4,r1,(dN ..).trans r2,r3.mono fun k hk=>by omega,r4⟩,(fun h=>by simp[l5]at h),(fun h=>by simp[l6]at h)⟩
     ·have l6:=U hm;have p:=u.kp l6;have l4:=hw ⟨4,.data⟩ (by simp) rfl rfl;obtain⟨tx,i4,n4,p4,c4,d4,r1,r2,r3,r4,r5⟩:=u.f l4 hm;rw[r2]at L;have a0:=p.kids ak ay;have aS:=p.size;go_simp;refine(Cc J r4 r5 (fun k=>w.heap.size+1<=k/\k≠b5) ak (fun k hk=>by constructor<;>omega) _ e tx _ _ dv d4 a0 r3).mono ?_;intro e' W' P;rw[HB.o.2.1 _ _ _ r1]at P;obtain⟨D,⟨er,at_,hy,rfl⟩|⟨x,rfl,hx⟩⟩:=P.two
      ·exact⟨er,at_,rfl,by rw[<-S.o,hy];rfl,(G.trans p).trans D⟩
      ·obtain⟨ex,i5,n5,p5,c5,d5,I,q2,q3,q4⟩:=hx;refine hK _ _ ⟨trivial,fun _=>p.trans D,(fun h=>by simp[l4]at h),(fun _ h=>by simp at h),fun _ _=>⟨ex,i5,n5,p5,c5,d5,I,(dN ..).trans q2,q3,q4⟩,(fun h=>by simp[l6]at h)⟩
     ·have l5:=hw ⟨5,.data⟩ (by simp) rfl rfl;have l4:M 4=true:=ao 5 _ rfl l5 ⟨4,.data⟩ (by simp) rfl rfl;have p:=u.kp hm;obtain⟨ex,i5,n5,p5,c5,d5,I,q2,q3,q4,q5⟩:=u.c l5 hm;have O:=p.at B (by omega);have aj:=p.at H (by omega);have aa:=G.trans p;rw[q2]at L;unfold exV at L;refine eX 84 _ _ rfl _ #[ag ex.kind,ag ex.a,ag ex.b,.string ⟨ex.name.toArray⟩,.slice p5 ex.kids.length c5] (by simp[Act.eval,L]) (by simp[Act.eval,L]) _ _ O (by kernel_rfl) (by rfl) (by simp[Value.oneCell']) ?_;have R:=fun c=>aa.setRow (k:=b5) (by omega) c;exact hK undef _ ⟨trivial,(fun h=>by simp at h),(fun h=>by simp[l4]at h),(fun _ h=>by simp[l5]at h),(fun _ h=>by simp at h),fun _=>⟨ex,i5,n5,I,⟨p5,c5,d5,aL _ _ _ _ _ _ O,q3.kept fun k hB _=>aW _ _ _ _ hB.2⟩,h.of_kept J (R _) ((aW _ _ _ _ (by omega)).trans q4.blk) q4.le,q5,R _,(aW _ _ _ _ (by omega)).trans aj⟩⟩
    ·obtain⟨ex,i5,n5,I,aU,T,aM,aa,aj⟩:=u.d (hM 6 (by decide) rfl);have HN:Rg (rd E 3 d ex (all.drop i5) n5=X):=(by show _=_;rw[<-S.o,I];rfl)
     have ba:j<i5:=by
      obtain⟨tx,n1,hy⟩:=HB.o.2.2 _ _ _ I;have hl:=lZ (by omega) (HY.o.trans hy);have e1:gN 4=1:=rfl;simp only[fI]at hl;have:=T.le;omega
     simp only[kn,td,nk,eD,aQ,aT,Act.put,az,aK,aJ];go_wp2_with fail;go_roundw
     case rel=>
      refine⟨ex,i5,n5,HN.o,aU,T,aM,aa,aj,by omega⟩
     case measure=>
      try rw[hp]
      have:=T.pos;have:=T.le;show all.length-pj g _<_;omega
   ·have aP:isT tU (all.drop j)=false:=(by simpa using hs);have c2:=fun(W:World) (V:PSt all E g v W j m)=>eP J V tU aP;rw[OD,ax hs]at Y;have a7:Rg (.ok (e,all.drop j,m)=X):=Y;go_wp2_with fail;refine(c2 _ ad).mono ?_;rintro e' w3 ⟨rfl,h3,s⟩;have ae:=hv.kept s (by omega) Z;obtain⟨pv,cv,dv,B,aE⟩:=ae.ex;have H:=s.at a5 (by omega);have a1:=aw.trans s
    have HO:Rg (∀cs,jE all E g v w (fun k=>w.heap.size<=k) X (.returned (exV e (.slice pv e.kids.length cv))) (w3.setRow w.heap.size cs)):=fun cs=>by
     rw[<-a7.o];exact⟨j,_,dv,rfl,rfl,(aE.kept fun k hk _=>aW _ _ _ _ (by omega)).mono fun k hk=>by omega,h.of_kept J (a1.setRow (aD _) cs) ((aW _ _ _ _ (by omega)).trans h3.blk) h3.le,a3,a1.setRow (aD _) cs⟩
    unfold exV at HO
    go_wp2_with(first
     |(refine aR rfl 84 _ rfl _ rfl _ _ _ _ B ft rfl (by kernel_rfl) ?_)
     |(refine aA rfl 84 _ _ rfl _ _ rfl rfl _ _ H (by kernel_rfl) (by rfl) (by simp[Value.oneCell']) ?_))
    exact jS 4 (by kernel_rfl) w.heap.size _ _ _ _ _ rfl rfl (aL _ _ _ _ _ _ H) (HO.o _)
end
section
variable {all:List Tk} {E g:Nat} {v:Value} {w:World} {i n:Nat}
theorem KR (C:PS0 all E g v)(aO:RC all E g v 130 2 i)(Y: ∀j,i<j->RC all E g v 130 2 j):RC all E g v 99 0 i:=by
 intro w n d h aZ aj;have D:=aI h.blk;have a1:aq w (w.alloc (.cells #[ag 0,ag 0,ag 0,.string ⟨#[]⟩,af] 84)):=am _ _;have hz:=mQ w;have aP:=h.below a1 C;have a4:=bq.of_below (g:=g) a1;have bi:(w.alloc (.cells #[ag 0,ag 0,ag 0,.string ⟨#[]⟩,af] 84)).heap.size=w.heap.size+1:=by simp
 generalize bp:w.alloc (.cells #[ag 0,ag 0,ag 0,.string ⟨#[]⟩,af] 84)=w0 at*;have c1:=aO w0 n d aP aZ aj;generalize J:rd E 0 d ex0 (all.drop i) n=X;rw[QH]at J;go_enter func99,ntmps99;go_wp2_with fail;refine c1.mono ?_;intro e w1 ho;cases hx:rd E 2 d ex0 (all.drop i) n with
 |error q=>
  obtain⟨er,at_⟩:=q;rw[hx]at ho J;obtain⟨rfl,N⟩:=ho;refine⟨rfl,?_⟩;rw[<-J];exact⟨rfl,a4.trans N⟩
 |ok q=>
  obtain⟨e0,br,n0⟩:=q;have ar:=lZ (by omega) hx;rw[hx]at ho J;obtain⟨i1,sl,dd,ba,rfl,a5,h1,aX,N⟩:=ho;subst ba;obtain⟨p1,V,rfl⟩:=a5.form;have aS:rd E 1 d e0 (all.drop i1) n0=X:=J
  have a3:i<i1:=by
   have e1:gN 2=1:=rfl;simp only[fI]at ar;have:=h1.le;omega
  have bn:=N.size;have be:=N.at hz (by omega);have ac:aq w1 (w1.alloc (.cells #[ag e0.kind,ag e0.a,ag e0.b,.string ⟨e0.name.toArray⟩,.slice p1 e0.kids.length V] 84)):=am _ _;have h2:=h1.below ac C;have bf:=ai ac be;have a9:=(a4.trans N).trans (bq.of_below ac)
  have aF:sc w (w1.alloc (.cells #[ag e0.kind,ag e0.a,ag e0.b,.string ⟨e0.name.toArray⟩,.slice p1 e0.kids.length V] 84)) w1.heap.size e0:=
   ⟨p1,V,dd,aG w1 _,(bq.of_below (g:=g) ac).kids (fun k hk=>by omega) (a5.lt.mono fun k hk=>by omega)⟩
  unfold exV;have aM:Rg (rd E 1 d e0 (all.drop i1) n0=X):=aS;generalize bo:w1.alloc (.cells #[ag e0.kind,ag e0.a,ag e0.b,.string ⟨e0.name.toArray⟩,.slice p1 e0.kids.length V] 84)=w2 at*;go_wp2_with fail;obtain⟨b5,a2⟩:=au w1.heap.size;rw[a2]at aF;simp only[a2];have bh:w.heap.size+1<=b5:=(by omega);go_loopw [10] (fun _ wr=> ∃(e:Ex) (j m:Nat),rd E 1 d e (all.drop j) m=X/\sc w wr b5 e/\PSt all E g v wr j m/\m<=600/\bq g w wr/\wr.heap[w.heap.size]? =ah sV 84/\i<j) (fun _ wr=>all.length-pj g wr);case atStart=>exact⟨e0,i1,n0,aM.o,aF,h2,aX,a9,bf,a3⟩
  case round=>
   obtain⟨e,j,m,aa,hv,B,aC,G,H,bk⟩:=hrel;have hp:=B.pos;by_cases R:isT qd (all.drop j)=true
   case' neg=>
    have aE:isT qd (all.drop j)=false:=(by simpa using R);have ak:=R;by_cases R:isT gU (all.drop j)=true
    case neg=>
     have bb:isT gU (all.drop j)=false:=(by simpa using R);have c2:=fun(W:World) (hW:PSt all E g v W j m)=>eP C hW gU bb;rw[Kz,ax ak,ax R]at aa;go_wp2_with fail;refine(eP C B qd aE).mono ?_;rintro e' bg ⟨rfl,S,A⟩;have av:=hv.kept A (by omega) D;have U:=A.at H (by omega);have P:=G.trans A;have hv:=av;have B:=S;have H:=U;have G:=P;have aN:Rg (.ok (e,all.drop j,m)=X):=aa;go_wp2_with fail;refine(c2 _ B).mono ?_;rintro e' w3 ⟨rfl,Z,u⟩;have aw:=hv.kept u (by omega) D;obtain⟨pv,cv,dv,L,aV⟩:=aw.ex;have T:=u.at H (by omega);have a8:=G.trans u
     have HO:Rg (∀cs,jE all E g v w (fun k=>w.heap.size<=k) X (.returned (exV e (.slice pv e.kids.length cv))) (w3.setRow w.heap.size cs)):=fun cs=>by
      rw[<-aN.o];exact⟨j,_,dv,rfl,rfl,(aV.kept fun k hk _=>aW _ _ _ _ (by omega)).mono fun k hk=>by omega,h.of_kept C (a8.setRow (aD _) cs) ((aW _ _ _ _ (by omega)).trans Z.blk) Z.le,aC,a8.setRow (aD _) cs⟩
     unfold exV at HO
     go_wp2_with(first
      |(refine aR rfl 84 _ rfl _ rfl _ _ _ _ L ft rfl (by kernel_rfl) ?_)
      |(refine aA rfl 84 _ _ rfl _ _ rfl rfl _ _ T (by kernel_rfl) (by rfl) (by simp[Value.oneCell']) ?_))
     exact jS 4 (by kernel_rfl) w.heap.size _ _ _ _ _ rfl rfl (aL _ _ _ _ _ _ T) (HO.o _)
    have aU:=oI (by decide) R;have c2:=fun(W:World) (hW:PSt all E g v W j m)=>gG C hW gU (by decide) R;obtain⟨y,HY⟩: ∃y,Rg (rd E 2 d ex0 (all.drop (j+1)) m=y):=⟨_,rfl⟩
    obtain⟨z,HZ⟩: ∃z,Rg (dr y (fun t r n=>dK E ⟨7,0,0,[],[e,t]⟩ r n)=z):=⟨_,rfl⟩
    have I:Rg (dr z (fun e r n=>rd E 1 d e r n)=X):=by
     show _=_;rw[<-aa,Kz,ax ak,aB R,fR,HY.o,sd,HZ.o]
    have HB:=KP (se HZ.o I.o);go_wp2_with fail;refine(eP C B qd aE).mono ?_;rintro e' bg ⟨rfl,S,A⟩;have av:=hv.kept A (by omega) D;have U:=A.at H (by omega);have P:=G.trans A;have hv:=av;have B:=S;have H:=U;have G:=P;go_wp2_with fail
   case' pos=>
    have aU:=oI (by decide) R;have c2:=fun(W:World) (hW:PSt all E g v W j m)=>gG C hW qd (by decide) R;obtain⟨y,HY⟩: ∃y,Rg (rd E 2 d ex0 (all.drop (j+1)) m=y):=⟨_,rfl⟩
    obtain⟨z,HZ⟩: ∃z,Rg (dr y (fun t r n=>dK E ⟨6,0,0,[],[e,t]⟩ r n)=z):=⟨_,rfl⟩
    have I:Rg (dr z (fun e r n=>rd E 1 d e r n)=X):=by
     show _=_;rw[<-aa,Kz,aB R,fR,HY.o,sd,HZ.o]
    have HB:=KP (se HZ.o I.o);go_wp2_with fail
   all_goals
    refine(c2 _ B).mono ?_
    rintro e' w3 ⟨rfl,Z,u⟩
    have aw:=hv.kept u (by omega) D
    obtain⟨pv,cv,dv,L,a6⟩:=aw.ex
    have T:=u.at H (by omega)
    have Q:=G.trans u
    have bl:=aI L
    have bm:=aI T
    go_wp2_with fail
    have cF:=fun(W:World) (hW:PSt all E g v W (j+1) m)=>Y (j+1) (by omega) W m d hW aC aj
    simp only[HY.o]at cF
    have a0: ∀k,(w.heap.size+1<=k/\k≠b5)->k≠g:=fun k hk=>by omega
   refine mI (fun ex W=> ∃er at_,ex= .panic (jr er at_)/\X= .error (er,at_)/\bq g w W) (fun ex a W hd ⟨er,at_,h1,h2,Z⟩=>by subst h1;refine⟨hd,?_⟩;rw[h2];exact⟨rfl,Z⟩) (PJ all E g v w w3 b5 j m y z 17 18) [kn 13 (ab g 0),kn 14 (exV e (.slice pv e.kids.length cv)),kn 15 (ab g 0),kn 16 (ag (d:Int)),td 17,td 18,nk] (fun _=>⟨fun _=>bq.of_below (aH _ _).drew,fun _=>Z.below (aH _ _).drew C,(fun h=>by cases h),(fun h=>by cases h),(fun h=>by cases h)⟩) (fun _ M φ W W' _ hb s=>s.below C D (by omega) hb) (by kernel_rfl) (fun _ M φ W _ s ao F l hl Y=> ?_) (fun M φ W hM s=> ?_);rotate_left 2;refine mI (fun ex W=> ∃er at_,ex= .panic (jr er at_)/\X= .error (er,at_)/\bq g w W) (fun ex a W hd ⟨er,at_,h1,h2,Z⟩=>by subst h1;refine⟨hd,?_⟩;rw[h2];exact⟨rfl,Z⟩) (PJ all E g v w w3 b5 j m y z 26 27) [kn 22 (ab g 0),kn 23 (exV e (.slice pv e.kids.length cv)),kn 24 (ab g 0),kn 25 (ag (d:Int)),td 26,td 27,nk] (fun _=>⟨fun _=>bq.of_below (aH _ _).drew,fun _=>Z.below (aH _ _).drew C,(fun h=>by cases h),(fun h=>by cases h),(fun h=>by cases h)⟩) (fun _ M φ W W' _ hb s=>s.below C D (by omega) hb) (by kernel_rfl) (fun _ M φ W _ s ao F l hl Y=> ?_) (fun M φ W hM s=> ?_)
   all_goals first
    |(simp only[kn,td,nk,eh,aQ,aT,Act.put,az,aK,aJ]at hl
      subst hl
      simp only[dc,Nat.reduceAdd]at Y
      have an:M 5=false->M 6=false:=fun h5=>by
       cases h:M 6 with
       |false=>rfl
       |true=>rw[ao 6 _ rfl h ⟨5,.data⟩ (by simp) rfl rfl]at h5;cases h5
      dsimp only[kn,td,nk,dz,eV,eo,Act.put]
      and_intros
      all_goals first|exact trivial|intro hw hn hm K hK
      all_goals try (go_simp;with_reducible exact hK _ _ ⟨rfl,aH _ _⟩)
      ·have ad:=(s.kp (an (hn 5 _ rfl (by kernel_rfl)))).at L (by omega)
       refine dX 84 _ rfl _ (by simp[Act.eval,Y]) _ _ _ _ ad ft rfl (by kernel_rfl) ?_
       exact hK _ _ ⟨rfl,aH _ _⟩
      ·have l5:=hn 5 _ rfl (by kernel_rfl)
       have l6:=an l5
       have p:=s.kp l6
       have hW:=s.a hm
       have bc:=p.size
       go_simp
       refine(cF W hW).mono ?_
       intro e' W' ae
       obtain⟨O,⟨er,at_,hy,rfl⟩|⟨x,rfl,hx⟩⟩:=ae.two
       ·exact⟨er,at_,rfl,HB.o.1 _ hy,(Q.trans p).trans O⟩
       ·obtain⟨ex,i4,n4,p4,c4,d4,r1,r2,r3,r4⟩:=hx
        refine hK _ _ ⟨trivial,fun _=>p.trans O,(fun h=>by simp at h),fun _ _=>⟨ex,i4,n4,p4,c4,d4,r1,(dN ..).trans r2,r3.mono fun k hk=>by omega,r4⟩,(fun h=>by simp[l5]at h),(fun h=>by simp[l6]at h)⟩
      ·have l6:=an hm
       have p:=s.kp l6
       have l4:=hw ⟨4,.data⟩ (by simp) rfl rfl
       obtain⟨tx,i4,n4,p4,c4,d4,r1,r2,r3,r4,r5⟩:=s.f l4 hm
       rw[r2]at Y
       have a7:=p.kids a0 a6
       have bc:=p.size
       go_simp
       refine(Cc C r4 r5 (fun k=>w.heap.size+1<=k/\k≠b5) a0 (fun k hk=>by constructor<;>omega) _ e tx _ _ dv d4 a7 r3).mono ?_
       intro e' W' ae
       rw[HB.o.2.1 _ _ _ r1]at ae
       obtain⟨O,⟨er,at_,hy,rfl⟩|⟨x,rfl,hx⟩⟩:=ae.two
       ·exact⟨er,at_,rfl,by rw[<-I.o,hy];rfl,(Q.trans p).trans O⟩
       ·obtain⟨ex,i5,n5,p5,c5,d5,V,q2,q3,q4⟩:=hx
        refine hK _ _ ⟨trivial,fun _=>p.trans O,(fun h=>by simp[l4]at h),(fun _ h=>by simp at h),fun _ _=>⟨ex,i5,n5,p5,c5,d5,V,(dN ..).trans q2,q3,q4⟩,(fun h=>by simp[l6]at h)⟩
      ·have l5:=hw ⟨5,.data⟩ (by simp) rfl rfl
       have l4:M 4=true:=ao 5 _ rfl l5 ⟨4,.data⟩ (by simp) rfl rfl
       have p:=s.kp hm
       obtain⟨ex,i5,n5,p5,c5,d5,V,q2,q3,q4,q5⟩:=s.c l5 hm
       have ad:=p.at L (by omega)
       have ay:=p.at T (by omega)
       have ap:=Q.trans p
       rw[q2]at Y
       unfold exV at Y
       refine eX 84 _ _ rfl _ #[ag ex.kind,ag ex.a,ag ex.b,.string ⟨ex.name.toArray⟩,.slice p5 ex.kids.length c5] (by simp[Act.eval,Y]) (by simp[Act.eval,Y]) _ _ ad (by kernel_rfl) (by rfl) (by simp[Value.oneCell']) ?_
       have al:=fun c=>ap.setRow (k:=b5) (by omega) c
       exact hK undef _ ⟨trivial,(fun h=>by simp at h),(fun h=>by simp[l4]at h),(fun _ h=>by simp[l5]at h),(fun _ h=>by simp at h),fun _=>⟨ex,i5,n5,V,⟨p5,c5,d5,aL _ _ _ _ _ _ ad,q3.kept fun k hB _=>aW _ _ _ _ hB.2⟩,h.of_kept C (al _) ((aW _ _ _ _ (by omega)).trans q4.blk) q4.le,q5,al _,(aW _ _ _ _ (by omega)).trans ay⟩⟩)
    |(obtain⟨ex,i5,n5,V,bd,h5,aY,ap,ay⟩:=s.d (hM 6 (by decide) rfl)
      have HN:Rg (rd E 1 d ex (all.drop i5) n5=X):=by show _=_;rw[<-I.o,V];rfl
      have bj:j<i5:=by
       obtain⟨tx,n1,hy⟩:=HB.o.2.2 _ _ _ V;have hl:=lZ (by omega) (HY.o.trans hy);have e1:gN 2=1:=rfl;simp only[fI]at hl;have:=h5.le;omega
      simp only[kn,td,nk,eD,aQ,aT,Act.put,az,aK,aJ]
      go_wp2_with fail
      go_roundw
      case rel=>
       refine⟨ex,i5,n5,HN.o,bd,h5,aY,ap,ay,by omega⟩
      case measure=>
       try rw[hp]
       have:=h5.pos
       have:=h5.le
       show all.length-pj g _<_
       omega)
end
section
variable {all:List Tk} {E g:Nat} {v:Value} {w:World} {i n:Nat}
theorem yf (b:PS0 all E g v): ∀(k i:Nat),all.length+1-i<=k->
  RC all E g v 174 6 i/\RC all E g v 153 4 i/\RC all E g v 130 2 i/\RC all E g v 99 0 i
 |0,i,d=>⟨fun _ _ _ h _ _=>absurd h.le (by omega),fun _ _ _ h _ _=>absurd h.le (by omega),fun _ _ _ h _ _=>absurd h.le (by omega),fun _ _ _ h _ _=>absurd h.le (by omega)⟩
 |k+1,i,d=>by
  have c:=fun j (a:i<j)=>yf b k j (by omega);have t:=FV b (fun j a=>(c j a).2.2.2) (fun j a=>(c j a).2.1);have f:=DV b t;have m:=Ix b f (fun j a=>(c j a).2.1);exact⟨t,f,m,KR b m (fun j a=>(c j a).2.2.1)⟩
theorem M8 (a:PS0 all E g v)(i:Nat):RC all E g v 99 0 i:=(yf a _ i (aD _)).2.2.2
end
theorem FW (B:Nat->Prop): ∀(d:Nat) (e:Ex) (sl:Value) (w:World),dE B d w sl e.kids->hgt e<=1000000->
  Calls prog 100 #[exV e sl] w fun r w'=>r= .returned (ag (hgt e:Int))/\aq w w':=by
 intro d;induction d with
 |zero=>
  intro e sl w E hh;obtain⟨s,p,c,rfl⟩:=E;have D:hgt e=1:=(by rw[qM,s];rfl);rw[D];unfold exV;go_enter func100,ntmps100;go_wp2_with fail;refine wp_loop_rounds 1 ?_;rw[rounds_succ];go_wp2_with fail;go_ret;exact⟨rfl,am _ _⟩
 |succ d ih=>
  intro e sl w E hh;rcases E with⟨s,p,c,rfl⟩|⟨g,o,c,hB,rfl,U,l⟩
  ·have D:hgt e=1:=(by rw[qM,s];rfl);rw[D];unfold exV;go_enter func100,ntmps100;go_wp2_with fail;refine wp_loop_rounds 1 ?_;rw[rounds_succ];go_wp2_with fail;go_ret;exact⟨rfl,am _ _⟩
  ·have N:Rg (∀(j:Nat) (k:Ex),e.kids[j]? =some k-> ∃K:Value,
    w.cell? (ae g (o+j*5))=some (ag k.kind)/\w.cell? (ae g (o+j*5+1))=some (ag k.a)/\w.cell? (ae g (o+j*5+2))=some (ag k.b)/\
    w.cell? (ae g (o+j*5+3))=some (.string ⟨k.name.toArray⟩)/\w.cell? (ae g (o+j*5+4))=some K/\dE B d w K k.kids):=l
   have L:Rg (hgt e=hgtL e.kids+1):=qM e;have O:Rg (∀k∈e.kids,hgt k<hgt e):=fun k h=>EP h;have C:aq w (w.alloc (.cells #[ag e.kind,ag e.a,ag e.b,.string ⟨e.name.toArray⟩,.slice (some (ae g o)) e.kids.length c] 84)):=am _ _;unfold exV;clear l;go_enter func100,ntmps100;go_wp2_with fail;go_loopw [3,9] (fun q t wr=> ∃j:Nat,t=ag (j:Int)/\j<=e.kids.length/\q=ag (hgtL (e.kids.take j):Int)/\hgtL (e.kids.take j)<=1000000/\aq w wr) (fun _ t _=>e.kids.length-(intOf t).toNat);case atStart=>exact⟨0,rfl,by omega,rfl,by simp[hgtL],C⟩
   case round=>
    obtain⟨j,rfl,hj,rfl,hm,f⟩:=hrel;have aa:(0:Int)<=(j:Int):=(by omega);by_cases G:j<e.kids.length
    ·have y:(j:Int)<(e.kids.length:Int):=(by omega);obtain⟨k,i⟩: ∃k,e.kids[j]? =some k:=⟨e.kids[j],ay G⟩
     obtain⟨K,c0,c1,Q,R,S,n⟩:=N.o j k i;have F:=O.o k (aN i)
     have W:e.kids.take (j+1)=e.kids.take j++[k]:=by
      obtain⟨Y,Z⟩:=aE.1 i;rw[List.take_succ_eq_append_getElem Y,Z]
     have V:hgtL (e.kids.take (j+1))=max (hgtL (e.kids.take j)) (hgt k):=(by rw[W,Iz]);obtain⟨A,u,rfl⟩:=n.form;have d0:=aj f c0;have d1:=aj f c1;have d2:=aj f Q;have d3:=aj f R;have d4:=aj f S;have m:=f.alloc f.size (.cells #[ag k.kind,ag k.a,ag k.b,.string ⟨k.name.toArray⟩,.slice A k.kids.length u] 84);have cR:=ih k (.slice A k.kids.length u) (wr.alloc (.cells #[ag k.kind,ag k.a,ag k.b,.string ⟨k.name.toArray⟩,.slice A k.kids.length u] 84)) (n.kept fun q _ hq=>m.block q hq) (by omega);have z:=aG wr (.cells #[ag k.kind,ag k.a,ag k.b,.string ⟨k.name.toArray⟩,.slice A k.kids.length u] 84);unfold exV at cR;have P:Rg (hgtL (e.kids.take (j+1))=max (hgtL (e.kids.take j)) (hgt k)):=V;have ab:(hgt k:Int)<=1000000:=(by omega);have I:(hgtL (e.kids.take j):Int)<=1000000:=(by omega);generalize hgt k=H at*;generalize hgtL (e.kids.take j)=M at*;clear V W n c0 c1 Q R S i F;generalize J:wr.alloc (.cells #[ag k.kind,ag k.a,ag k.b,.string ⟨k.name.toArray⟩,.slice A k.kids.length u] 84)=wB at*;go_wp2_with(refine aR rfl 84 _ rfl _ rfl _ _ _ _ z ft rfl (by kernel_rfl) ?_)
     refine cR.mono ?_;rintro e' w2 ⟨rfl,v⟩;have x:=aw m v;clear cR v m J z;go_wp2_with fail;go_roundw;case rel=>exact⟨j+1,by go_num,by omega,by rw[P.o];exact Ia (by omega),by rw[P.o];omega,x⟩
     case measure=>simp[intOf];omega
    ·have T:j=e.kids.length:=(by omega);have y: ¬(j:Int)<(e.kids.length:Int):=(by omega)
     have X:Rg (hgt e=hgtL (e.kids.take j)+1):=by
      show _=_;rw[L.o,T,gM]
     have I:(hgtL (e.kids.take j):Int)<=1000000:=(by omega);generalize hgtL (e.kids.take j)=M at*;clear L N O T;go_wp2_with fail;go_ret;exact⟨by rw[X.o];rfl,f⟩
section
variable {all:List Tk} {E g:Nat} {v:Value} {w:World} {i n:Nat}
def ruV (u:Ru)(sl:Value):Value:= .agg #[.string ⟨u.1.toArray⟩,ag u.2.kind,ag u.2.a,ag u.2.b,.string ⟨u.2.name.toArray⟩,sl]
def OO (all:List Tk)(E g:Nat)(v:Value)(w:World)(B:Nat->Prop)(x:Except (Int×Nat) (Ru×List Tk))(e:Ending)(w':World):Prop:=
 match x with
 | .error (er,at_)=>e= .panicked (jr er at_)/\bq g w w'
 | .ok (u,r)=> ∃(i m:Nat) (sl:Value) (d:Nat),r=all.drop i/\e= .returned (ruV u sl)/\dE B d w' sl u.2.kids/\PSt all E g v w' i m/\m<=600/\bq g w w'
def QN:Array Value:= #[.string ⟨#[]⟩,ag 0,ag 0,ag 0,.string ⟨#[]⟩,af]
theorem Cg:prog.underlying 86=some (.struct (prog.fieldsOf 86)):=by kernel_rfl
theorem OP {i:Func}(s:Nat)(h:i.results= #[ResultVar.cell s 86]){R:Ending->World->Prop}{a:Act}{w:World}(g:Nat)(c0 c1 b c d e:Value)(l:a.defers=[])(j:a.tmps.getD s undef=ab g 0)
  (m:w.heap[g]? =ah #[c0,c1,b,c,d,e] 86) (k:R (.returned (.agg #[c0,c1,b,c,d,e])) w):bodyPost prog i R .ret a w:=by
 refine aY (v:= .agg #[c0,c1,b,c,d,e]) ?_ l k;have f:a.tmps[s]?.getD undef=ab g 0:=by simpa using j
 have n:=eE (P:=prog) w g 86 86 _ _ _ m Cg rfl (by kernel_rfl);simp[results,h,f,asAddr,n]
theorem KS (j:PS0 all E g v)(h:PSt all E g v w i n):
  Calls prog 58 #[ab g 0] w (OO all E g v w (fun k=>w.heap.size<=k) (pm E (all.drop i))):=by
 have av:=aI h.blk;have K:aq w (w.alloc (.cells #[.string ⟨#[]⟩,ag 0,ag 0,ag 0,.string ⟨#[]⟩,af] 86)):=am _ _;have hz:(w.alloc (.cells #[.string ⟨#[]⟩,ag 0,ag 0,ag 0,.string ⟨#[]⟩,af] 86)).heap[w.heap.size]? =ah QN 86:=aG w _;have hA:=h.below K j;have F:=bq.of_below (g:=g) K;generalize A:pm E (all.drop i)=X;unfold pm at A;simp only[fR]at A;generalize au:w.alloc (.cells #[.string ⟨#[]⟩,ag 0,ag 0,ag 0,.string ⟨#[]⟩,af] 86)=wA at*;by_cases l:kindP (all.drop i)=1
 ·rw[ax (by simp[l])]at A;have c1:=qI j hA 1 (by decide) l;unfold kI at c1;by_cases R:isT wIs (all.drop (i+1))=true
  ·rw[aB R]at A;have c2:=fun(s:World) (z:PSt all E g v s (i+1) n)=>oJ j z wIs (by decide) R;have c3: ∀(s:World),PSt all E g v s (i+1+1) 0->Calls prog 99 #[ab g 0,ag 1] s (jE all E g v s (fun k=>s.heap.size<=k) (rd E 0 1 ex0 (all.drop (i+1+1)) 0)):=fun s z=>M8 j (i+1+1) s 0 1 z (by omega) (by omega)
   have HX:Rg ((match rd E 0 1 ex0 (all.drop (i+1+1)) 0 with
    | .error q=>Except.error q
    | .ok (e,q,_)=>if 40<hgt e then .error (4,atP E q) else if isT sS q then .ok ((textP (all.drop i),e),q.tail) else .error (2,atP E q))=X):=A
   generalize kindP (all.drop i)=t0 at*;generalize numP (all.drop i)=t1 at*;generalize (atP E (all.drop i):Int)=t2 at*;generalize textP (all.drop i)=nm at*;clear R l A;go_enter func58,ntmps58;go_wp2_with fail;refine c1.mono ?_;rintro e s ⟨rfl,z,p⟩;go_wp2_with fail;refine(c2 _ z).mono ?_;rintro e w2 ⟨rfl,h2,D⟩;have k3:=ak 3 h2.blk;have y3:=bp _ _ 3 _ _ h2.blk;have h3:PSt all E g v (w2.setCell ⟨g,3,none⟩ (ag 0)) (i+1+1) 0:=h2.setN j 0;have M:=(p.trans D).trans (bq.set w2 g 3 (ag 0));have O:=M.at hz (by omega);have x:=F.trans M;have aw:=aI O;clear c1 c2 z p D M hA F K au hz;go_wp2_with fail;refine(c3 _ h3).mono ?_;intro e w4 ho;clear c3 k3 y3;cases hx:rd E 0 1 ex0 (all.drop (i+1+1)) 0 with
   |error q=>
    obtain⟨er,at_⟩:=q;have c:=HX.o;rw[hx]at ho c;obtain⟨rfl,r⟩:=ho;refine⟨rfl,?_⟩;rw[<-c];exact⟨rfl,x.trans r⟩
   |ok q=>
    obtain⟨ex,rr,nn⟩:=q;have hh:=ON hx;have c:=HX.o;rw[hx]at ho c;obtain⟨B,sl,dd,ap,rfl,N,h4,ao,r⟩:=ho;subst ap;obtain⟨T,Q,rfl⟩:=N.form;dsimp only at c;have ay:=r.size;have ac:=r.at O (by omega);have t:aq w4 (w4.alloc (.cells #[ag ex.kind,ag ex.a,ag ex.b,.string ⟨ex.name.toArray⟩,.slice T ex.kids.length Q] 84)):=am _ _;have h5:=h4.below t j;have L:=aG w4 (.cells #[ag ex.kind,ag ex.a,ag ex.b,.string ⟨ex.name.toArray⟩,.slice T ex.kids.length Q] 84);have ad:=ai t ac;have J:=(x.trans r).trans (bq.of_below t);have u:dE (fun k=>w.heap.size+1<=k) dd (w4.alloc (.cells #[ag ex.kind,ag ex.a,ag ex.b,.string ⟨ex.name.toArray⟩,.slice T ex.kids.length Q] 84)) (.slice T ex.kids.length Q) ex.kids:=(bq.of_below (g:=g) t).kids (fun k Y=>by omega) (N.mono fun k Y=>by omega);have c6:=FW _ dd ex _ _ u (by omega);unfold exV at c6⊢;have C:Rg ((if 40<hgt ex then Except.error (4,atP E (all.drop B)) else if isT sS (all.drop B) then .ok ((nm,ex),(all.drop B).tail) else .error (2,atP E (all.drop B)))=X):=c;clear N h3 h4 r t hx c HX O ac x;generalize ar:w4.alloc (.cells #[ag ex.kind,ag ex.a,ag ex.b,.string ⟨ex.name.toArray⟩,.slice T ex.kids.length Q] 84)=w5 at*;go_wp2_with(refine aR rfl 84 _ rfl _ rfl _ _ _ _ L ft rfl (by kernel_rfl) ?_)
    refine c6.mono ?_;rintro e w6 ⟨rfl,m⟩;have h6:=h5.below m j;have W:=ai m L;have ae:=ai m ad;have f:=J.trans (bq.of_below m);have G:=(bq.of_below (g:=g) m).kids (fun k Y=>by omega) u;clear c6 m h5 L ad J u ar;by_cases U:40<hgt ex
    ·have V:(40:Int)<(hgt ex:Int):=(by omega);have c:=C.o;rw[aB U]at c;have P:Rg (X= .error (4,atP E (all.drop B))):=c.symm;generalize hgt ex=H at*;clear c C;go_wp2_with fail;refine(lC j h6 4).mono ?_;rintro e w7 ⟨rfl,al⟩;refine⟨rfl,?_⟩;rw[P.o];exact⟨rfl,f.trans (bq.of_below al)⟩
    ·have V: ¬(40:Int)<(hgt ex:Int):=(by omega);have c:=C.o;rw[ax U]at c;generalize hgt ex=H at*;clear C;by_cases S:isT sS (all.drop B)=true
     ·rw[aB S,fR]at c;have c7:=oJ j h6 sS (by decide) S;have P:Rg (X= .ok ((nm,ex),all.drop (B+1))):=c.symm;clear c S;go_wp2_with fail;refine c7.mono ?_;rintro e w7 ⟨rfl,h7,d⟩;have an:=d.at W (by omega);have aj:=d.at ae (by omega);have y:=f.trans d;have I:=d.kids (fun k Y=>by omega) G
      have HO:Rg (∀cs,OO all E g v w (fun k=>w.heap.size<=k) X (.returned (ruV (nm,ex) (.slice T ex.kids.length Q))) (w7.setRow w.heap.size cs)):=fun cs=>by
       rw[P.o];exact⟨B+1,nn,_,dd,rfl,rfl,(I.kept fun k Y _=>aW _ _ _ _ (by omega)).mono fun k Y=>by omega,h.of_kept j (y.setRow (aD _) cs) ((aW _ _ _ _ (by omega)).trans h7.blk) h7.le,ao,y.setRow (aD _) cs⟩
      unfold ruV at HO;clear c7 h6 h7 d f y G I W ae P
      go_wp2_with(first
       |(refine aR rfl 84 _ rfl _ rfl _ _ _ _ an ft rfl (by kernel_rfl) ?_)
       |(refine aA rfl 86 _ _ rfl _ _ rfl rfl _ _ aj (by kernel_rfl) (by rfl) (by simp[Value.oneCell']) ?_))
      exact OP 2 (by kernel_rfl) w.heap.size _ _ _ _ _ _ rfl rfl (aL _ _ _ _ _ _ aj) (HO.o _)
     ·have aa:isT sS (all.drop B)=false:=(by simpa using S);rw[ax S]at c;have c7:=qx j h6 sS aa;have P:Rg (X= .error (2,atP E (all.drop B))):=c.symm;clear c S aa;go_wp2_with fail;refine c7.mono ?_;rintro e w7 ⟨rfl,d⟩;refine⟨rfl,?_⟩;rw[P.o];exact⟨rfl,f.trans d⟩
  ·have Z:isT wIs (all.drop (i+1))=false:=(by simpa using R);rw[ax R]at A;have c2:=fun(s:World) (z:PSt all E g v s (i+1) n)=>qx j z wIs Z;subst A;clear R Z l;go_enter func58,ntmps58;go_wp2_with fail;refine c1.mono ?_;rintro e s ⟨rfl,z,p⟩;go_wp2_with fail;refine(c2 _ z).mono ?_;rintro e w2 ⟨rfl,D⟩;exact⟨rfl,rfl,(F.trans p).trans D⟩
 ·rw[aB l]at A;have c1:=zQ j hA 1 l;subst A;go_enter func58,ntmps58;go_wp2_with fail;refine c1.mono ?_;rintro e s ⟨rfl,p⟩;exact⟨rfl,rfl,F.trans p⟩
end
end Go.Proofs.YtlkehieagdkgiaaGreatDoor
