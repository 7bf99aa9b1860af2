/- Texts of the proof. -/
import Derived.Test.YtlkehieagdkgiaaGreatDoorPe15
set_option maxRecDepth 100000
set_option maxHeartbeats 8000000
namespace Go.Proofs.YtlkehieagdkgiaaGreatDoor
open Go.Proofs.Tryz Go.RowKit Lx Vx Mx Msk
section
variable {all:List Tk} {E g:Nat} {v:Value} {w:World} {i n:Nat}
def pH (g:Nat)(w:World):Nat:=match w.heap[g]? with
 |some (.cells a _ _)=>(intOf (a.getD 1 undef)).toNat
 |_=>0
theorem PSt.pos (h:PSt all E g v w i n):pH g w=i:=by
 unfold pH;rw[h.blk];simp[intOf]
theorem B7 (j:Nat):fR (all.drop j)=all.drop (oX all (j+1)):=by
 unfold fR oX;rw[fJ];split
 ·rw[fJ]
 ·rfl
def ti (E d:Nat)(all:List Tk)(e:Ex)(n:Nat):Except (Int×Nat) (Int×Nat)->Res
 | .error q=> .error q
 | .ok (m,j)=>dw (dK E ⟨9,m,0,[],[e]⟩ (all.drop j) n) fun e r n=>rd E 5 d e r n
theorem H7 (d:Nat)(e:Ex)(j n:Nat)(h:isT mK (all.drop j)=true):rd E 5 d e (all.drop j) n=ti E d all e n (pO all E (j+1)):=by
 rw[Ow,aB h,B7,fJ];unfold pO;split
 ·rfl
 split
 ·rfl
 ·unfold ti;rw[fJ]
theorem OE (d:Nat)(e:Ex)(j n:Nat)(h:isT mK (all.drop j)=false):rd E 5 d e (all.drop j) n= .ok (e,all.drop j,n):=by
 rw[Ow,ax (by simp[h])]
structure sm (w0 w:World)(b:Nat)(e:Ex):Prop where
 ex: ∃(p:Option Addr) (c d:Nat),w.heap[b]? =ah #[ag e.kind,ag e.a,ag e.b,.string ⟨e.name.toArray⟩,.slice p e.kids.length c] 84/\dG (fun k=>w0.heap.size+1<=k/\k≠b) d w (.slice p e.kids.length c) e.kids
theorem sm.kept {f w w':World}{b:Nat}{e:Ex}(h:sm f w b e)(a:bp g w w')(l:b≠g)(m:g<f.heap.size):sm f w' b e:=by
 obtain⟨p,c,d,i,j⟩:=h.ex;exact⟨p,c,d,a.at i l,a.kids (fun k a=>by omega) j⟩
theorem DE (G:PS0 all E g v)(hT:RC all E g v 174 6 i):RC all E g v 153 4 i:=by
 intro w n d h a0 V;have Y:=aI h.blk;have U:aq w (w.alloc (.cells #[ag 0,ag 0,ag 0,.string ⟨#[]⟩,af] 84)):=am _ _;have hz:=mQ w;have ap:=h.below U G;have Z:=bp.of_below (g:=g) U;have a9:(w.alloc (.cells #[ag 0,ag 0,ag 0,.string ⟨#[]⟩,af] 84)).heap.size=w.heap.size+1:=by simp
 generalize aM:w.alloc (.cells #[ag 0,ag 0,ag 0,.string ⟨#[]⟩,af] 84)=w0 at*;have c1:=hT w0 n d ap a0 V;generalize y:rd E 4 d ex0 (all.drop i) n=X;rw[QE]at y;go_enter func153,ntmps153;go_wp2_with fail;refine c1.mono ?_;intro e l s;cases hx:rd E 6 d ex0 (all.drop i) n with
 |error q=>
  obtain⟨er,at_⟩:=q;rw[hx]at s y;obtain⟨rfl,A⟩:=s;refine⟨rfl,?_⟩;rw[<-y];exact⟨rfl,Z.trans A⟩
 |ok q=>
  obtain⟨f,rr,n0⟩:=q;rw[hx]at s y;obtain⟨i1,sl,dd,Q,rfl,D,h1,ay,A⟩:=s;subst Q;obtain⟨p1,q1,rfl⟩:=D.form;have ar:rd E 5 d f (all.drop i1) n0=X:=y;have aE:=A.size;have a4:=A.at hz (by omega);have I:aq l (l.alloc (.cells #[ag f.kind,ag f.a,ag f.b,.string ⟨f.name.toArray⟩,.slice p1 f.kids.length q1] 84)):=am _ _;have h2:=h1.below I G;have a5:=ai I a4;have ab:=(Z.trans A).trans (bp.of_below I)
  have a1:sm w (l.alloc (.cells #[ag f.kind,ag f.a,ag f.b,.string ⟨f.name.toArray⟩,.slice p1 f.kids.length q1] 84)) l.heap.size f:=
   ⟨p1,q1,dd,aG l _,(bp.of_below (g:=g) I).kids (fun k M=>by omega) (D.lt.mono fun k M=>by omega)⟩
  unfold exV;have ao:Rb (rd E 5 d f (all.drop i1) n0=X):=ar;generalize aJ:l.alloc (.cells #[ag f.kind,ag f.a,ag f.b,.string ⟨f.name.toArray⟩,.slice p1 f.kids.length q1] 84)=w2 at*;go_wp2_with fail;go_loopw [6] (fun _ wr=> ∃(e:Ex) (j m:Nat),rd E 5 d e (all.drop j) m=X/\sm w wr l.heap.size e/\PSt all E g v wr j m/\m<=600/\bp g w wr/\wr.heap[w.heap.size]? =ah tg 84) (fun _ wr=>all.length-pH g wr);case atStart=>exact⟨f,i1,n0,ao.o,a1,h2,ay,ab,a5⟩
  case round=>
   obtain⟨e,j,m,H,hv,R,ac,O,al⟩:=hrel;have hp:=R.pos;by_cases hs:isT mK (all.drop j)=true
   ·have aB:=oU (by decide) hs;have c2:=gz G R mK (by decide) hs;rw[H7 d e j m hs]at H;have c3:=fun(l:World) (h1:PSt all E g v l (j+1) m)=>H3 G h1;have F:Rb (ti E d all e m (pO all E (j+1))=X):=H;go_wp2_with fail;refine c2.mono ?_;rintro e' w3 ⟨rfl,h3,p⟩;go_wp2_with fail;refine(c3 _ h3).mono ?_;intro e' w4 s;cases hx:pO all E (j+1) with
    |error q=>
     obtain⟨er,at_⟩:=q;have c:=F.o;rw[hx]at s c;obtain⟨rfl,J⟩:=s;refine⟨rfl,?_⟩;rw[<-c];exact⟨rfl,(O.trans p).trans J⟩
    |ok q=>
     obtain⟨t,j2⟩:=q;have c:=F.o;rw[hx]at s c;obtain⟨rfl,h4,J⟩:=s
     have aC:j+1<j2:=by
      unfold pO at hx;split at hx
      ·cases hx
      split at hx
      ·cases hx
      ·cases hx;unfold oX;split<;>omega
     have C:=p.trans J;have a8:=C.size;have a3:=hv.kept C (by omega) Y;obtain⟨pv,T,dv,L,P⟩:=a3.ex;have ak:=C.at al (by omega);have ax:=aI ak;have aw:=aI L;have z:aq w4 (w4.alloc (.cells #[ag e.kind,ag e.a,ag e.b,.string ⟨e.name.toArray⟩,.slice pv e.kids.length T] 84)):=am _ _;have kk:=B5 (B:=fun k=>w.heap.size+1<=k/\k≠l.heap.size) (by constructor<;>omega) (aG w4 (.cells #[ag e.kind,ag e.a,ag e.b,.string ⟨e.name.toArray⟩,.slice pv e.kids.length T] 84)) ((bp.of_below (g:=g) z).kids (fun k M=>by omega) P);have h5:=h4.below z G;have av:=(z.block _ aw).trans L;have a6:=(z.block _ ax).trans ak;have N:=((O.trans p).trans J).trans (bp.of_below z);have c6:=kK G h5 ac (fun k=>w.heap.size+1<=k/\k≠l.heap.size) (fun k M=>by omega) ⟨9,t,0,[],[e]⟩ _ _ kk;unfold exV at c6;have S:Rb (dw (dK E ⟨9,t,0,[],[e]⟩ (all.drop j2) m) (fun e r n=>rd E 5 d e r n)=X):=c;generalize aK:w4.alloc (.cells #[ag e.kind,ag e.a,ag e.b,.string ⟨e.name.toArray⟩,.slice pv e.kids.length T] 84)=w5 at*;go_wp2_with(refine aR rfl 84 _ rfl _ rfl _ _ _ _ L fo rfl (by kernel_rfl) ?_)
     refine c6.mono ?_;intro e' w6 s;cases hx:dK E ⟨9,t,0,[],[e]⟩ (all.drop j2) m with
     |error q=>
      obtain⟨er,at_⟩:=q;have c:=S.o;rw[hx]at s c;obtain⟨rfl,u⟩:=s;refine⟨rfl,?_⟩;rw[<-c];exact⟨rfl,N.trans u⟩
     |ok q=>
      obtain⟨e6,rr,n6⟩:=q;have c:=S.o;rw[hx]at s c;obtain⟨i6,sl,dd,Q,rfl,D,h6,ad,u⟩:=s;have er:=dS hx;cases er;obtain⟨p6,q6,rfl⟩:=D.form;have W:=u.at av (by omega);have a7:=u.at a6 (by omega);have aF:=u.size;have K:=N.trans u;have aH:=N.size;have an:all.drop j2=all.drop i6:=Q
      have HR:Rb (∀x,PSt all E g v (w6.setRow l.heap.size x) i6 (m+1)/\bp g w (w6.setRow l.heap.size x)/\(w6.setRow l.heap.size x).heap[w.heap.size]? =ah tg 84/\dG (fun k=>w.heap.size+1<=k/\k≠l.heap.size) dd (w6.setRow l.heap.size x) (.slice p6 1 q6) [e]):=fun x=>
       ⟨h.of_kept G (K.setRow (by omega) x) ((aW _ _ _ _ (by omega)).trans h6.blk) h6.le,K.setRow (by omega) x,(aW _ _ _ _ (by omega)).trans a7,D.kept fun k M _=>aW _ _ _ _ M.2⟩
      have HN:Rb (rd E 5 d ⟨9,t,0,[],[e]⟩ (all.drop i6) (m+1)=X):=by
       show _=_;rw[<-an];exact c
      have aA:j<i6:=by
       have l1:=congrArg List.length an;simp only[fz]at l1;have:=h6.le;have:=h5.le;omega
      unfold exV;go_wp2_with(refine az rfl 84 _ _ rfl _ _ rfl rfl _ _ W (by kernel_rfl) (by simp) (by simp[Value.oneCell']) ?_)
      obtain⟨r1,r2,r3,r4⟩:=HR.o #[ag 9,ag t,ag 0,.string ⟨#[]⟩,.slice p6 1 q6];go_roundw
      case rel=>
       (repeat apply iX);exact⟨⟨⟨9,t,0,[],[e]⟩,i6,m+1,HN.o,⟨p6,q6,dd,aL _ _ _ _ _ _ W,r4⟩,r1,ad,r2,r3⟩,rfl⟩
      case measure=>
       rw[hp];have:=r1.pos;have:=r1.le;show all.length-pH g _<_;omega
   ·have ae:isT mK (all.drop j)=false:=(by simpa using hs);have c2:=eG G R mK ae;rw[OE d e j m ae]at H;have F:Rb (.ok (e,all.drop j,m)=X):=H;go_wp2_with fail;refine c2.mono ?_;rintro e' w3 ⟨rfl,h3,p⟩;have a2:=hv.kept p (by omega) Y;obtain⟨pv,T,dv,au,P⟩:=a2.ex;have aj:=p.at al (by omega);have aa:=O.trans p
    have HO:Rb (∀x,jC all E g v w (fun k=>w.heap.size<=k) X (.returned (exV e (.slice pv e.kids.length T))) (w3.setRow w.heap.size x)):=fun x=>by
     rw[<-F.o];exact⟨j,_,dv,rfl,rfl,(P.kept fun k M _=>aW _ _ _ _ (by omega)).mono fun k M=>by omega,h.of_kept G (aa.setRow (aD _) x) ((aW _ _ _ _ (by omega)).trans h3.blk) h3.le,ac,aa.setRow (aD _) x⟩
    unfold exV at HO
    go_wp2_with(first
     |(refine aR rfl 84 _ rfl _ rfl _ _ _ _ au fo rfl (by kernel_rfl) ?_)
     |(refine az rfl 84 _ _ rfl _ _ rfl rfl _ _ aj (by kernel_rfl) (by rfl) (by simp[Value.oneCell']) ?_))
    exact jQ 4 (by kernel_rfl) w.heap.size _ _ _ _ _ rfl rfl (aL _ _ _ _ _ _ aj) (HO.o _)
end
section
variable {all:List Tk} {E g:Nat} {v:Value} {w:World} {i n:Nat}
def zP (all:List Tk)(E g:Nat)(v:Value)(B:Nat->Prop)(W:World)(y:Res)(x:Value):Prop:= ∃(ex:Ex) (i n:Nat) (p:Option Addr) (c d:Nat),y= .ok (ex,all.drop i,n)/\x=exV ex (.slice p ex.kids.length c)/\dG B d W (.slice p ex.kids.length c) ex.kids/\PSt all E g v W i n/\n<=600
theorem jC.two {B:Nat->Prop}{y:Res}{e:Ending}{w':World}(h:jC all E g v w B y e w'):bp g w w'/\((∃er at_,y= .error (er,at_)/\e= .panicked (jq er at_))\/ ∃x,e= .returned x/\zP all E g v B w' y x):=by
 cases y with
 |error q=>exact⟨h.2,.inl ⟨_,_,rfl,h.1⟩⟩
 |ok q=>
  obtain⟨i,sl,d,b,f,a,j,k,l⟩:=h;obtain⟨p,c,rfl⟩:=a.form;exact⟨l,.inr ⟨_,f,q.1,i,q.2.2,p,c,d,by rw[<-b],rfl,a,j,k⟩⟩
theorem Kt {p:Prop}(h:p):Rb p:=h
theorem sq (y:Res)(f k:Ex->List Tk->Nat->Res):dw y (fun t r n=>dw (f t r n) k)=dw (dw y f) k:=by cases y<;>rfl
theorem Ku {y:Res}{kd:Int}{e ex:Ex}{r:List Tk}(h:dw y (fun t r n=>dK E ⟨kd,0,0,[],[e,t]⟩ r n)= .ok (ex,r,n)): ∃b a,y= .ok (b,r,a):=by
 cases y with
 |error q=>cases h
 |ok q=>
  unfold dw dK at h;dsimp only at h;split at h<;>cases h;exact⟨_,_,rfl⟩
theorem sw {y z X:Res}{kd:Int}{e:Ex}{k:Ex->List Tk->Nat->Res}(a:dw y (fun t r n=>dK E ⟨kd,0,0,[],[e,t]⟩ r n)=z)(b:dw z k=X):(∀q,y= .error q->X= .error q)/\(∀t r n,y= .ok (t,r,n)->dK E ⟨kd,0,0,[],[e,t]⟩ r n=z)/\ ∀ex r n,z= .ok (ex,r,n)-> ∃d c,y= .ok (d,r,c):=
 ⟨fun q h=>by rw[<-b,<-a,h];rfl,fun t r n h=>by rw[<-a,h];rfl,fun ex r n h=>Ku (a.trans h)⟩
structure PJ (all:List Tk)(E g:Nat)(v:Value)(w w3:World)(b j m:Nat)(y z:Res)(s t:Nat)(M:Nat->Bool)(φ:Nat->Value)(W:World):Prop where
 kp:M 6=false->bp g w3 W
 a:M 4=false->PSt all E g v W (j+1) m
 f:M 4=true->M 5=false->zP all E g v (fun k=>w.heap.size+1<=k/\k≠b) W y (φ s)
 c:M 5=true->M 6=false->zP all E g v (fun k=>w.heap.size+1<=k/\k≠b) W z (φ t)
 d:M 6=true-> ∃ex i n,z= .ok (ex,all.drop i,n)/\sm w W b ex/\PSt all E g v W i n/\n<=600/\bp g w W/\W.heap[w.heap.size]? =ah tg 84
theorem zP.below {B:Nat->Prop}{W a:World}{y:Res}{x:Value}(h:zP all E g v B W y x)(e:PS0 all E g v)(q: ∀k,B k->k≠g)(b:aq W a):zP all E g v B a y x:=by
 obtain⟨ex,i,n,p,c,d,f,j,l,m,o⟩:=h;exact⟨ex,i,n,p,c,d,f,j,(bp.of_below (g:=g) b).kids q l,m.below b e,o⟩
theorem PJ.below {u W r:World}{b j m s t:Nat}{y z:Res}{M:Nat->Bool}{φ:Nat->Value}(h:PJ all E g v w u b j m y z s t M φ W)(o:PS0 all E g v)(G:g<w.heap.size)(q:b≠g)(l:aq W r):PJ all E g v w u b j m y z s t M φ r:=by
 have e:=bp.of_below (g:=g) l;refine⟨fun c=>(h.kp c).trans e,fun c=>(h.a c).below l o,fun c p=>(h.f c p).below o (fun k e=>by omega) l,fun c p=>(h.c c p).below o (fun k e=>by omega) l,fun c=> ?_⟩;obtain⟨ex,i,n,x,A,B,C,D,F⟩:=h.d c;exact⟨ex,i,n,x,A.kept e q G,B.below l o,C,D.trans e,e.at F (by omega)⟩
theorem H8 (L:PS0 all E g v)(a9:RC all E g v 153 4 i)(N: ∀j,i<j->RC all E g v 153 4 j):RC all E g v 130 2 i:=by
 intro w n d h aO R;have aa:=aI h.blk;have an:aq w (w.alloc (.cells #[ag 0,ag 0,ag 0,.string ⟨#[]⟩,af] 84)):=am _ _;have hz:=mQ w;have aC:=h.below an L;have av:=bp.of_below (g:=g) an;have ba:(w.alloc (.cells #[ag 0,ag 0,ag 0,.string ⟨#[]⟩,af] 84)).heap.size=w.heap.size+1:=by simp
 generalize bi:w.alloc (.cells #[ag 0,ag 0,ag 0,.string ⟨#[]⟩,af] 84)=w0 at*;have c1:=a9 w0 n d aC aO R;generalize B:rd E 2 d ex0 (all.drop i) n=X;rw[QD]at B;go_enter func130,ntmps130;go_wp2_with fail;refine c1.mono ?_;intro e w1 ho;cases hx:rd E 4 d ex0 (all.drop i) n with
 |error q=>
  obtain⟨er,at_⟩:=q;rw[hx]at ho B;obtain⟨rfl,D⟩:=ho;refine⟨rfl,?_⟩;rw[<-B];exact⟨rfl,av.trans D⟩
 |ok q=>
  obtain⟨s,bj,n0⟩:=q;have ad:=lZ (by omega) hx;rw[hx]at ho B;obtain⟨i1,sl,dd,aP,rfl,aw,h1,aM,D⟩:=ho;subst aP;obtain⟨p1,J,rfl⟩:=aw.form;have aE:rd E 3 d s (all.drop i1) n0=X:=B
  have ar:i<i1:=by
   have e1:gJ 4=1:=rfl;simp only[fz]at ad;have:=h1.le;omega
  have bg:=D.size;have aX:=D.at hz (by omega);have O:aq w1 (w1.alloc (.cells #[ag s.kind,ag s.a,ag s.b,.string ⟨s.name.toArray⟩,.slice p1 s.kids.length J] 84)):=am _ _;have h2:=h1.below O L;have aY:=ai O aX;have a3:=(av.trans D).trans (bp.of_below O)
  have a5:sm w (w1.alloc (.cells #[ag s.kind,ag s.a,ag s.b,.string ⟨s.name.toArray⟩,.slice p1 s.kids.length J] 84)) w1.heap.size s:=
   ⟨p1,J,dd,aG w1 _,(bp.of_below (g:=g) O).kids (fun k hk=>by omega) (aw.lt.mono fun k hk=>by omega)⟩
  unfold exV;have a7:Rb (rd E 3 d s (all.drop i1) n0=X):=aE;generalize bh:w1.alloc (.cells #[ag s.kind,ag s.a,ag s.b,.string ⟨s.name.toArray⟩,.slice p1 s.kids.length J] 84)=w2 at*;go_wp2_with fail;obtain⟨b5,ao⟩:=au w1.heap.size;rw[ao]at a5;simp only[ao];have aZ:w.heap.size+1<=b5:=(by omega);go_loopw [9] (fun _ wr=> ∃(e:Ex) (j m:Nat),rd E 3 d e (all.drop j) m=X/\sm w wr b5 e/\PSt all E g v wr j m/\m<=600/\bp g w wr/\wr.heap[w.heap.size]? =ah tg 84/\i<j) (fun _ wr=>all.length-pH g wr);case atStart=>exact⟨s,i1,n0,a7.o,a5,h2,aM,a3,aY,ar⟩
  case round=>
   obtain⟨e,j,m,Z,hv,ae,a4,ay,a6,bc⟩:=hrel;have hp:=ae.pos;by_cases hs:isT ua (all.drop j)=true
   ·have bd:=oU (by decide) hs;have c2:=fun(W:World) (Y:PSt all E g v W j m)=>gz L Y ua (by decide) hs;obtain⟨y,HY⟩: ∃y,Rb (rd E 4 d ex0 (all.drop (j+1)) m=y):=⟨_,rfl⟩
    obtain⟨z,HZ⟩: ∃z,Rb (dw y (fun t r n=>dK E ⟨8,0,0,[],[e,t]⟩ r n)=z):=⟨_,rfl⟩
    have T:Rb (dw z (fun e r n=>rd E 3 d e r n)=X):=by
     show _=_;rw[<-Z,Ov,aB hs,fJ,HY.o,sq,HZ.o]
    go_wp2_with fail;refine(c2 _ ae).mono ?_;rintro e' w3 ⟨rfl,h3,u⟩;have aj:=hv.kept u (by omega) aa;obtain⟨pv,cv,dv,C,a0⟩:=aj.ex;have I:=u.at a6 (by omega);have H:=ay.trans u;have be:=aI C;have bf:=aI I;go_wp2_with fail;have cF:=fun(W:World) (Y:PSt all E g v W (j+1) m)=>N (j+1) (by omega) W m d Y a4 R;simp only[HY.o]at cF;have al: ∀k,(w.heap.size+1<=k/\k≠b5)->k≠g:=fun k hk=>(by omega);have HB:=Kt (sw HZ.o T.o);refine mI (fun ex W=> ∃er at_,ex= .panic (jq er at_)/\X= .error (er,at_)/\bp g w W) (fun ex a W hd ⟨er,at_,h1,h2,h3⟩=>by subst h1;refine⟨hd,?_⟩;rw[h2];exact⟨rfl,h3⟩) (PJ all E g v w w3 b5 j m y z 15 16) [kn 11 (ab g 0),kn 12 (exV e (.slice pv e.kids.length cv)),kn 13 (ab g 0),kn 14 (ag (d:Int)),td 15,td 16,nk] (fun _=>⟨fun _=>bp.of_below (aH _ _).drew,fun _=>h3.below (aH _ _).drew L,(fun h=>by cases h),(fun h=>by cases h),(fun h=>by cases h)⟩) (fun _ M φ W W' _ hb A=>A.below L aa (by omega) hb) (by kernel_rfl) (fun _ M φ W _ A ap F l hl N=> ?_) (fun M φ W hM A=> ?_)
    ·simp only[kn,td,nk,dX,aQ,aT,Act.put,aA,aK,aJ]at hl;subst hl;simp only[dn,Nat.reduceAdd]at N
     have V:M 5=false->M 6=false:=fun U=>by
      cases h:M 6 with
      |false=>rfl
      |true=>rw[ap 6 _ rfl h ⟨5,.data⟩ (by simp) rfl rfl]at U;cases U
     dsimp only[kn,td,nk,dy,eJ,dY,Act.put];and_intros;all_goals first|exact trivial|intro hw hn hm K hK
     all_goals try (go_simp;with_reducible exact hK _ _ ⟨rfl,aH _ _⟩)
     ·have P:=(A.kp (V (hn 5 _ rfl (by kernel_rfl)))).at C (by omega);refine eN 84 _ rfl _ (by simp[Act.eval,N]) _ _ _ _ P fo rfl (by kernel_rfl) ?_;exact hK _ _ ⟨rfl,aH _ _⟩
     ·have l5:=hn 5 _ rfl (by kernel_rfl);have l6:=V l5;have p:=A.kp l6;have Y:=A.a hm;have aU:=p.size;go_simp;refine(cF W Y).mono ?_;intro e' W' Q;obtain⟨G,⟨er,at_,hy,rfl⟩|⟨x,rfl,hx⟩⟩:=Q.two
      ·exact⟨er,at_,rfl,HB.o.1 _ hy,(H.trans p).trans G⟩
      ·obtain⟨ex,i4,n4,p4,c4,d4,r1,r2,r3,r4⟩:=hx;refine hK _ _ ⟨trivial,fun _=>p.trans G,(fun h=>by simp at h),fun _ _=>⟨ex,i4,n4,p4,c4,d4,r1,(dV ..).trans r2,r3.mono fun k hk=>by omega,r4⟩,(fun h=>by simp[l5]at h),(fun h=>by simp[l6]at h)⟩
     ·have l6:=V hm;have p:=A.kp l6;have l4:=hw ⟨4,.data⟩ (by simp) rfl rfl;obtain⟨tx,i4,n4,p4,c4,d4,r1,r2,r3,r4,r5⟩:=A.f l4 hm;rw[r2]at N;have a1:=p.kids al a0;have aU:=p.size;go_simp;refine(B6 L r4 r5 (fun k=>w.heap.size+1<=k/\k≠b5) al (fun k hk=>by constructor<;>omega) _ e tx _ _ dv d4 a1 r3).mono ?_;intro e' W' Q;rw[HB.o.2.1 _ _ _ r1]at Q;obtain⟨G,⟨er,at_,hy,rfl⟩|⟨x,rfl,hx⟩⟩:=Q.two
      ·exact⟨er,at_,rfl,by rw[<-T.o,hy];rfl,(H.trans p).trans G⟩
      ·obtain⟨ex,i5,n5,p5,c5,d5,J,q2,q3,q4⟩:=hx;refine hK _ _ ⟨trivial,fun _=>p.trans G,(fun h=>by simp[l4]at h),(fun _ h=>by simp at h),fun _ _=>⟨ex,i5,n5,p5,c5,d5,J,(dV ..).trans q2,q3,q4⟩,(fun h=>by simp[l6]at h)⟩
     ·have l5:=hw ⟨5,.data⟩ (by simp) rfl rfl;have l4:M 4=true:=ap 5 _ rfl l5 ⟨4,.data⟩ (by simp) rfl rfl;have p:=A.kp hm;obtain⟨ex,i5,n5,p5,c5,d5,J,q2,q3,q4,q5⟩:=A.c l5 hm;have P:=p.at C (by omega);have ak:=p.at I (by omega);have ac:=H.trans p;rw[q2]at N;unfold exV at N;refine eQ 84 _ _ rfl _ #[ag ex.kind,ag ex.a,ag ex.b,.string ⟨ex.name.toArray⟩,.slice p5 ex.kids.length c5] (by simp[Act.eval,N]) (by simp[Act.eval,N]) _ _ P (by kernel_rfl) (by rfl) (by simp[Value.oneCell']) ?_;have S:=fun c=>ac.setRow (k:=b5) (by omega) c;exact hK undef _ ⟨trivial,(fun h=>by simp at h),(fun h=>by simp[l4]at h),(fun _ h=>by simp[l5]at h),(fun _ h=>by simp at h),fun _=>⟨ex,i5,n5,J,⟨p5,c5,d5,aL _ _ _ _ _ _ P,q3.kept fun k hB _=>aW _ _ _ _ hB.2⟩,h.of_kept L (S _) ((aW _ _ _ _ (by omega)).trans q4.blk) q4.le,q5,S _,(aW _ _ _ _ (by omega)).trans ak⟩⟩
    ·obtain⟨ex,i5,n5,J,aV,U,aN,ac,ak⟩:=A.d (hM 6 (by decide) rfl);have HN:Rb (rd E 3 d ex (all.drop i5) n5=X):=(by show _=_;rw[<-T.o,J];rfl)
     have bb:j<i5:=by
      obtain⟨tx,n1,hy⟩:=HB.o.2.2 _ _ _ J;have hl:=lZ (by omega) (HY.o.trans hy);have e1:gJ 4=1:=rfl;simp only[fz]at hl;have:=U.le;omega
     simp only[kn,td,nk,d8,aQ,aT,Act.put,aA,aK,aJ];go_wp2_with fail;go_roundw
     case rel=>
      refine⟨ex,i5,n5,HN.o,aV,U,aN,ac,ak,by omega⟩
     case measure=>
      try rw[hp]
      have:=U.pos;have:=U.le;show all.length-pH g _<_;omega
   ·have aS:isT ua (all.drop j)=false:=(by simpa using hs);have c2:=fun(W:World) (Y:PSt all E g v W j m)=>eG L Y ua aS;rw[Ov,ax hs]at Z;have a8:Rb (.ok (e,all.drop j,m)=X):=Z;go_wp2_with fail;refine(c2 _ ae).mono ?_;rintro e' w3 ⟨rfl,h3,u⟩;have aj:=hv.kept u (by omega) aa;obtain⟨pv,cv,dv,C,aF⟩:=aj.ex;have I:=u.at a6 (by omega);have a2:=ay.trans u
    have HO:Rb (∀cs,jC all E g v w (fun k=>w.heap.size<=k) X (.returned (exV e (.slice pv e.kids.length cv))) (w3.setRow w.heap.size cs)):=fun cs=>by
     rw[<-a8.o];exact⟨j,_,dv,rfl,rfl,(aF.kept fun k hk _=>aW _ _ _ _ (by omega)).mono fun k hk=>by omega,h.of_kept L (a2.setRow (aD _) cs) ((aW _ _ _ _ (by omega)).trans h3.blk) h3.le,a4,a2.setRow (aD _) cs⟩
    unfold exV at HO
    go_wp2_with(first
     |(refine aR rfl 84 _ rfl _ rfl _ _ _ _ C fo rfl (by kernel_rfl) ?_)
     |(refine az rfl 84 _ _ rfl _ _ rfl rfl _ _ I (by kernel_rfl) (by rfl) (by simp[Value.oneCell']) ?_))
    exact jQ 4 (by kernel_rfl) w.heap.size _ _ _ _ _ rfl rfl (aL _ _ _ _ _ _ I) (HO.o _)
end
section
variable {all:List Tk} {E g:Nat} {v:Value} {w:World} {i n:Nat}
theorem Kv (D:PS0 all E g v)(aO:RC all E g v 130 2 i)(Z: ∀j,i<j->RC all E g v 130 2 j):RC all E g v 99 0 i:=by
 intro w n d h aZ aj;have G:=aI h.blk;have a1:aq w (w.alloc (.cells #[ag 0,ag 0,ag 0,.string ⟨#[]⟩,af] 84)):=am _ _;have hz:=mQ w;have aP:=h.below a1 D;have a4:=bp.of_below (g:=g) a1;have bi:(w.alloc (.cells #[ag 0,ag 0,ag 0,.string ⟨#[]⟩,af] 84)).heap.size=w.heap.size+1:=by simp
 generalize bq:w.alloc (.cells #[ag 0,ag 0,ag 0,.string ⟨#[]⟩,af] 84)=w0 at*;have c1:=aO w0 n d aP aZ aj;generalize L:rd E 0 d ex0 (all.drop i) n=X;rw[QC]at L;go_enter func99,ntmps99;go_wp2_with fail;refine c1.mono ?_;intro e w1 ho;cases hx:rd E 2 d ex0 (all.drop i) n with
 |error q=>
  obtain⟨er,at_⟩:=q;rw[hx]at ho L;obtain⟨rfl,O⟩:=ho;refine⟨rfl,?_⟩;rw[<-L];exact⟨rfl,a4.trans O⟩
 |ok q=>
  obtain⟨s,br,n0⟩:=q;have ar:=lZ (by omega) hx;rw[hx]at ho L;obtain⟨i1,sl,dd,ba,rfl,a5,h1,aX,O⟩:=ho;subst ba;obtain⟨p1,Y,rfl⟩:=a5.form;have aS:rd E 1 d s (all.drop i1) n0=X:=L
  have a3:i<i1:=by
   have e1:gJ 2=1:=rfl;simp only[fz]at ar;have:=h1.le;omega
  have bn:=O.size;have be:=O.at hz (by omega);have ac:aq w1 (w1.alloc (.cells #[ag s.kind,ag s.a,ag s.b,.string ⟨s.name.toArray⟩,.slice p1 s.kids.length Y] 84)):=am _ _;have h2:=h1.below ac D;have bf:=ai ac be;have a9:=(a4.trans O).trans (bp.of_below ac)
  have aF:sm w (w1.alloc (.cells #[ag s.kind,ag s.a,ag s.b,.string ⟨s.name.toArray⟩,.slice p1 s.kids.length Y] 84)) w1.heap.size s:=
   ⟨p1,Y,dd,aG w1 _,(bp.of_below (g:=g) ac).kids (fun k hk=>by omega) (a5.lt.mono fun k hk=>by omega)⟩
  unfold exV;have aM:Rb (rd E 1 d s (all.drop i1) n0=X):=aS;generalize bo:w1.alloc (.cells #[ag s.kind,ag s.a,ag s.b,.string ⟨s.name.toArray⟩,.slice p1 s.kids.length Y] 84)=w2 at*;go_wp2_with fail;obtain⟨b5,a2⟩:=au w1.heap.size;rw[a2]at aF;simp only[a2];have bh:w.heap.size+1<=b5:=(by omega);go_loopw [10] (fun _ wr=> ∃(e:Ex) (j m:Nat),rd E 1 d e (all.drop j) m=X/\sm w wr b5 e/\PSt all E g v wr j m/\m<=600/\bp g w wr/\wr.heap[w.heap.size]? =ah tg 84/\i<j) (fun _ wr=>all.length-pH g wr);case atStart=>exact⟨s,i1,n0,aM.o,aF,h2,aX,a9,bf,a3⟩
  case round=>
   obtain⟨e,j,m,aa,hv,C,aC,H,I,bk⟩:=hrel;have hp:=C.pos;by_cases S:isT qq (all.drop j)=true
   case' neg=>
    have aE:isT qq (all.drop j)=false:=(by simpa using S);have ak:=S;by_cases S:isT gO (all.drop j)=true
    case neg=>
     have bb:isT gO (all.drop j)=false:=(by simpa using S);have c2:=fun(W:World) (hW:PSt all E g v W j m)=>eG D hW gO bb;rw[Kb,ax ak,ax S]at aa;go_wp2_with fail;refine(eG D C qq aE).mono ?_;rintro e' bg ⟨rfl,T,B⟩;have av:=hv.kept B (by omega) G;have V:=B.at I (by omega);have Q:=H.trans B;have hv:=av;have C:=T;have I:=V;have H:=Q;have aN:Rb (.ok (e,all.drop j,m)=X):=aa;go_wp2_with fail;refine(c2 _ C).mono ?_;rintro e' w3 ⟨rfl,h3,A⟩;have aw:=hv.kept A (by omega) G;obtain⟨pv,cv,dv,N,aV⟩:=aw.ex;have U:=A.at I (by omega);have a8:=H.trans A
     have HO:Rb (∀cs,jC all E g v w (fun k=>w.heap.size<=k) X (.returned (exV e (.slice pv e.kids.length cv))) (w3.setRow w.heap.size cs)):=fun cs=>by
      rw[<-aN.o];exact⟨j,_,dv,rfl,rfl,(aV.kept fun k hk _=>aW _ _ _ _ (by omega)).mono fun k hk=>by omega,h.of_kept D (a8.setRow (aD _) cs) ((aW _ _ _ _ (by omega)).trans h3.blk) h3.le,aC,a8.setRow (aD _) cs⟩
     unfold exV at HO
     go_wp2_with(first
      |(refine aR rfl 84 _ rfl _ rfl _ _ _ _ N fo rfl (by kernel_rfl) ?_)
      |(refine az rfl 84 _ _ rfl _ _ rfl rfl _ _ U (by kernel_rfl) (by rfl) (by simp[Value.oneCell']) ?_))
     exact jQ 4 (by kernel_rfl) w.heap.size _ _ _ _ _ rfl rfl (aL _ _ _ _ _ _ U) (HO.o _)
    have aU:=oU (by decide) S;have c2:=fun(W:World) (hW:PSt all E g v W j m)=>gz D hW gO (by decide) S;obtain⟨y,HY⟩: ∃y,Rb (rd E 2 d ex0 (all.drop (j+1)) m=y):=⟨_,rfl⟩
    obtain⟨z,HZ⟩: ∃z,Rb (dw y (fun t r n=>dK E ⟨7,0,0,[],[e,t]⟩ r n)=z):=⟨_,rfl⟩
    have J:Rb (dw z (fun e r n=>rd E 1 d e r n)=X):=by
     show _=_;rw[<-aa,Kb,ax ak,aB S,fJ,HY.o,sq,HZ.o]
    have HB:=Kt (sw HZ.o J.o);go_wp2_with fail;refine(eG D C qq aE).mono ?_;rintro e' bg ⟨rfl,T,B⟩;have av:=hv.kept B (by omega) G;have V:=B.at I (by omega);have Q:=H.trans B;have hv:=av;have C:=T;have I:=V;have H:=Q;go_wp2_with fail
   case' pos=>
    have aU:=oU (by decide) S;have c2:=fun(W:World) (hW:PSt all E g v W j m)=>gz D hW qq (by decide) S;obtain⟨y,HY⟩: ∃y,Rb (rd E 2 d ex0 (all.drop (j+1)) m=y):=⟨_,rfl⟩
    obtain⟨z,HZ⟩: ∃z,Rb (dw y (fun t r n=>dK E ⟨6,0,0,[],[e,t]⟩ r n)=z):=⟨_,rfl⟩
    have J:Rb (dw z (fun e r n=>rd E 1 d e r n)=X):=by
     show _=_;rw[<-aa,Kb,aB S,fJ,HY.o,sq,HZ.o]
    have HB:=Kt (sw HZ.o J.o);go_wp2_with fail
   all_goals
    refine(c2 _ C).mono ?_
    rintro e' w3 ⟨rfl,h3,A⟩
    have aw:=hv.kept A (by omega) G
    obtain⟨pv,cv,dv,N,a6⟩:=aw.ex
    have U:=A.at I (by omega)
    have R:=H.trans A
    have bl:=aI N
    have bm:=aI U
    go_wp2_with fail
    have cF:=fun(W:World) (hW:PSt all E g v W (j+1) m)=>Z (j+1) (by omega) W m d hW aC aj
    simp only[HY.o]at cF
    have a0: ∀k,(w.heap.size+1<=k/\k≠b5)->k≠g:=fun k hk=>by omega
   refine mI (fun ex W=> ∃er at_,ex= .panic (jq er at_)/\X= .error (er,at_)/\bp g w W) (fun ex a W hd ⟨er,at_,h1,h2,h3⟩=>by subst h1;refine⟨hd,?_⟩;rw[h2];exact⟨rfl,h3⟩) (PJ all E g v w w3 b5 j m y z 17 18) [kn 13 (ab g 0),kn 14 (exV e (.slice pv e.kids.length cv)),kn 15 (ab g 0),kn 16 (ag (d:Int)),td 17,td 18,nk] (fun _=>⟨fun _=>bp.of_below (aH _ _).drew,fun _=>h3.below (aH _ _).drew D,(fun h=>by cases h),(fun h=>by cases h),(fun h=>by cases h)⟩) (fun _ M φ W W' _ hb u=>u.below D G (by omega) hb) (by kernel_rfl) (fun _ M φ W _ u ao F l hl Z=> ?_) (fun M φ W hM u=> ?_);rotate_left 2;refine mI (fun ex W=> ∃er at_,ex= .panic (jq er at_)/\X= .error (er,at_)/\bp g w W) (fun ex a W hd ⟨er,at_,h1,h2,h3⟩=>by subst h1;refine⟨hd,?_⟩;rw[h2];exact⟨rfl,h3⟩) (PJ all E g v w w3 b5 j m y z 26 27) [kn 22 (ab g 0),kn 23 (exV e (.slice pv e.kids.length cv)),kn 24 (ab g 0),kn 25 (ag (d:Int)),td 26,td 27,nk] (fun _=>⟨fun _=>bp.of_below (aH _ _).drew,fun _=>h3.below (aH _ _).drew D,(fun h=>by cases h),(fun h=>by cases h),(fun h=>by cases h)⟩) (fun _ M φ W W' _ hb u=>u.below D G (by omega) hb) (by kernel_rfl) (fun _ M φ W _ u ao F l hl Z=> ?_) (fun M φ W hM u=> ?_)
   all_goals first
    |(simp only[kn,td,nk,dX,aQ,aT,Act.put,aA,aK,aJ]at hl
      subst hl
      simp only[dn,Nat.reduceAdd]at Z
      have an:M 5=false->M 6=false:=fun h5=>by
       cases h:M 6 with
       |false=>rfl
       |true=>rw[ao 6 _ rfl h ⟨5,.data⟩ (by simp) rfl rfl]at h5;cases h5
      dsimp only[kn,td,nk,dy,eJ,dY,Act.put]
      and_intros
      all_goals first|exact trivial|intro hw hn hm K hK
      all_goals try (go_simp;with_reducible exact hK _ _ ⟨rfl,aH _ _⟩)
      ·have ad:=(u.kp (an (hn 5 _ rfl (by kernel_rfl)))).at N (by omega)
       refine eN 84 _ rfl _ (by simp[Act.eval,Z]) _ _ _ _ ad fo rfl (by kernel_rfl) ?_
       exact hK _ _ ⟨rfl,aH _ _⟩
      ·have l5:=hn 5 _ rfl (by kernel_rfl)
       have l6:=an l5
       have p:=u.kp l6
       have hW:=u.a hm
       have bc:=p.size
       go_simp
       refine(cF W hW).mono ?_
       intro e' W' ae
       obtain⟨P,⟨er,at_,hy,rfl⟩|⟨x,rfl,hx⟩⟩:=ae.two
       ·exact⟨er,at_,rfl,HB.o.1 _ hy,(R.trans p).trans P⟩
       ·obtain⟨ex,i4,n4,p4,c4,d4,r1,r2,r3,r4⟩:=hx
        refine hK _ _ ⟨trivial,fun _=>p.trans P,(fun h=>by simp at h),fun _ _=>⟨ex,i4,n4,p4,c4,d4,r1,(dV ..).trans r2,r3.mono fun k hk=>by omega,r4⟩,(fun h=>by simp[l5]at h),(fun h=>by simp[l6]at h)⟩
      ·have l6:=an hm
       have p:=u.kp l6
       have l4:=hw ⟨4,.data⟩ (by simp) rfl rfl
       obtain⟨tx,i4,n4,p4,c4,d4,r1,r2,r3,r4,r5⟩:=u.f l4 hm
       rw[r2]at Z
       have a7:=p.kids a0 a6
       have bc:=p.size
       go_simp
       refine(B6 D r4 r5 (fun k=>w.heap.size+1<=k/\k≠b5) a0 (fun k hk=>by constructor<;>omega) _ e tx _ _ dv d4 a7 r3).mono ?_
       intro e' W' ae
       rw[HB.o.2.1 _ _ _ r1]at ae
       obtain⟨P,⟨er,at_,hy,rfl⟩|⟨x,rfl,hx⟩⟩:=ae.two
       ·exact⟨er,at_,rfl,by rw[<-J.o,hy];rfl,(R.trans p).trans P⟩
       ·obtain⟨ex,i5,n5,p5,c5,d5,Y,q2,q3,q4⟩:=hx
        refine hK _ _ ⟨trivial,fun _=>p.trans P,(fun h=>by simp[l4]at h),(fun _ h=>by simp at h),fun _ _=>⟨ex,i5,n5,p5,c5,d5,Y,(dV ..).trans q2,q3,q4⟩,(fun h=>by simp[l6]at h)⟩
      ·have l5:=hw ⟨5,.data⟩ (by simp) rfl rfl
       have l4:M 4=true:=ao 5 _ rfl l5 ⟨4,.data⟩ (by simp) rfl rfl
       have p:=u.kp hm
       obtain⟨ex,i5,n5,p5,c5,d5,Y,q2,q3,q4,q5⟩:=u.c l5 hm
       have ad:=p.at N (by omega)
       have ay:=p.at U (by omega)
       have ap:=R.trans p
       rw[q2]at Z
       unfold exV at Z
       refine eQ 84 _ _ rfl _ #[ag ex.kind,ag ex.a,ag ex.b,.string ⟨ex.name.toArray⟩,.slice p5 ex.kids.length c5] (by simp[Act.eval,Z]) (by simp[Act.eval,Z]) _ _ ad (by kernel_rfl) (by rfl) (by simp[Value.oneCell']) ?_
       have al:=fun c=>ap.setRow (k:=b5) (by omega) c
       exact hK undef _ ⟨trivial,(fun h=>by simp at h),(fun h=>by simp[l4]at h),(fun _ h=>by simp[l5]at h),(fun _ h=>by simp at h),fun _=>⟨ex,i5,n5,Y,⟨p5,c5,d5,aL _ _ _ _ _ _ ad,q3.kept fun k hB _=>aW _ _ _ _ hB.2⟩,h.of_kept D (al _) ((aW _ _ _ _ (by omega)).trans q4.blk) q4.le,q5,al _,(aW _ _ _ _ (by omega)).trans ay⟩⟩)
    |(obtain⟨ex,i5,n5,Y,bd,h5,aY,ap,ay⟩:=u.d (hM 6 (by decide) rfl)
      have HN:Rb (rd E 1 d ex (all.drop i5) n5=X):=by show _=_;rw[<-J.o,Y];rfl
      have bj:j<i5:=by
       obtain⟨tx,n1,hy⟩:=HB.o.2.2 _ _ _ Y;have hl:=lZ (by omega) (HY.o.trans hy);have e1:gJ 2=1:=rfl;simp only[fz]at hl;have:=h5.le;omega
      simp only[kn,td,nk,d8,aQ,aT,Act.put,aA,aK,aJ]
      go_wp2_with fail
      go_roundw
      case rel=>
       refine⟨ex,i5,n5,HN.o,bd,h5,aY,ap,ay,by omega⟩
      case measure=>
       try rw[hp]
       have:=h5.pos
       have:=h5.le
       show all.length-pH g _<_
       omega)
end
section
variable {all:List Tk} {E g:Nat} {v:Value} {w:World} {i n:Nat}
theorem yl (b:PS0 all E g v): ∀(k i:Nat),all.length+1-i<=k->
  RC all E g v 174 6 i/\RC all E g v 153 4 i/\RC all E g v 130 2 i/\RC all E g v 99 0 i
 |0,i,d=>⟨fun _ _ _ h _ _=>absurd h.le (by omega),fun _ _ _ h _ _=>absurd h.le (by omega),fun _ _ _ h _ _=>absurd h.le (by omega),fun _ _ _ h _ _=>absurd h.le (by omega)⟩
 |k+1,i,d=>by
  have c:=fun j (a:i<j)=>yl b k j (by omega);have t:=FG b (fun j a=>(c j a).2.2.2) (fun j a=>(c j a).2.1);have f:=DE b t;have m:=H8 b f (fun j a=>(c j a).2.1);exact⟨t,f,m,Kv b m (fun j a=>(c j a).2.2.1)⟩
theorem MM (a:PS0 all E g v)(i:Nat):RC all E g v 99 0 i:=(yl a _ i (aD _)).2.2.2
end
theorem FH (B:Nat->Prop): ∀(d:Nat) (e:Ex) (sl:Value) (w:World),dG B d w sl e.kids->hgt e<=1000000->
  Calls prog 100 #[exV e sl] w fun r w'=>r= .returned (ag (hgt e:Int))/\aq w w':=by
 intro d;induction d with
 |zero=>
  intro e sl w E hh;obtain⟨s,p,c,rfl⟩:=E;have D:hgt e=1:=(by rw[qU,s];rfl);rw[D];unfold exV;go_enter func100,ntmps100;go_wp2_with fail;refine wp_loop_rounds 1 ?_;rw[rounds_succ];go_wp2_with fail;go_ret;exact⟨rfl,am _ _⟩
 |succ d ih=>
  intro e sl w E hh;rcases E with⟨s,p,c,rfl⟩|⟨g,o,c,hB,rfl,U,l⟩
  ·have D:hgt e=1:=(by rw[qU,s];rfl);rw[D];unfold exV;go_enter func100,ntmps100;go_wp2_with fail;refine wp_loop_rounds 1 ?_;rw[rounds_succ];go_wp2_with fail;go_ret;exact⟨rfl,am _ _⟩
  ·have N:Rb (∀(j:Nat) (k:Ex),e.kids[j]? =some k-> ∃K:Value,
    w.cell? (ae g (o+j*5))=some (ag k.kind)/\w.cell? (ae g (o+j*5+1))=some (ag k.a)/\w.cell? (ae g (o+j*5+2))=some (ag k.b)/\
    w.cell? (ae g (o+j*5+3))=some (.string ⟨k.name.toArray⟩)/\w.cell? (ae g (o+j*5+4))=some K/\dG B d w K k.kids):=l
   have L:Rb (hgt e=hgtL e.kids+1):=qU e;have O:Rb (∀k∈e.kids,hgt k<hgt e):=fun k h=>Ey h;have C:aq w (w.alloc (.cells #[ag e.kind,ag e.a,ag e.b,.string ⟨e.name.toArray⟩,.slice (some (ae g o)) e.kids.length c] 84)):=am _ _;unfold exV;clear l;go_enter func100,ntmps100;go_wp2_with fail;go_loopw [3,9] (fun q t wr=> ∃j:Nat,t=ag (j:Int)/\j<=e.kids.length/\q=ag (hgtL (e.kids.take j):Int)/\hgtL (e.kids.take j)<=1000000/\aq w wr) (fun _ t _=>e.kids.length-(intOf t).toNat);case atStart=>exact⟨0,rfl,by omega,rfl,by simp[hgtL],C⟩
   case round=>
    obtain⟨j,rfl,hj,rfl,hm,f⟩:=hrel;have aa:(0:Int)<=(j:Int):=(by omega);by_cases G:j<e.kids.length
    ·have y:(j:Int)<(e.kids.length:Int):=(by omega);obtain⟨k,i⟩: ∃k,e.kids[j]? =some k:=⟨e.kids[j],ay G⟩
     obtain⟨K,c0,c1,Q,R,S,n⟩:=N.o j k i;have F:=O.o k (aM i)
     have W:e.kids.take (j+1)=e.kids.take j++[k]:=by
      obtain⟨Y,Z⟩:=aF.1 i;rw[List.take_succ_eq_append_getElem Y,Z]
     have V:hgtL (e.kids.take (j+1))=max (hgtL (e.kids.take j)) (hgt k):=(by rw[W,Ia]);obtain⟨A,u,rfl⟩:=n.form;have d0:=aj f c0;have d1:=aj f c1;have d2:=aj f Q;have d3:=aj f R;have d4:=aj f S;have m:=f.alloc f.size (.cells #[ag k.kind,ag k.a,ag k.b,.string ⟨k.name.toArray⟩,.slice A k.kids.length u] 84);have cR:=ih k (.slice A k.kids.length u) (wr.alloc (.cells #[ag k.kind,ag k.a,ag k.b,.string ⟨k.name.toArray⟩,.slice A k.kids.length u] 84)) (n.kept fun q _ hq=>m.block q hq) (by omega);have z:=aG wr (.cells #[ag k.kind,ag k.a,ag k.b,.string ⟨k.name.toArray⟩,.slice A k.kids.length u] 84);unfold exV at cR;have P:Rb (hgtL (e.kids.take (j+1))=max (hgtL (e.kids.take j)) (hgt k)):=V;have ab:(hgt k:Int)<=1000000:=(by omega);have I:(hgtL (e.kids.take j):Int)<=1000000:=(by omega);generalize hgt k=H at*;generalize hgtL (e.kids.take j)=M at*;clear V W n c0 c1 Q R S i F;generalize J:wr.alloc (.cells #[ag k.kind,ag k.a,ag k.b,.string ⟨k.name.toArray⟩,.slice A k.kids.length u] 84)=wB at*;go_wp2_with(refine aR rfl 84 _ rfl _ rfl _ _ _ _ z fo rfl (by kernel_rfl) ?_)
     refine cR.mono ?_;rintro e' w2 ⟨rfl,v⟩;have x:=aw m v;clear cR v m J z;go_wp2_with fail;go_roundw;case rel=>exact⟨j+1,by go_num,by omega,by rw[P.o];exact Hh (by omega),by rw[P.o];omega,x⟩
     case measure=>simp[intOf];omega
    ·have T:j=e.kids.length:=(by omega);have y: ¬(j:Int)<(e.kids.length:Int):=(by omega)
     have X:Rb (hgt e=hgtL (e.kids.take j)+1):=by
      show _=_;rw[L.o,T,gI]
     have I:(hgtL (e.kids.take j):Int)<=1000000:=(by omega);generalize hgtL (e.kids.take j)=M at*;clear L N O T;go_wp2_with fail;go_ret;exact⟨by rw[X.o];rfl,f⟩
section
variable {all:List Tk} {E g:Nat} {v:Value} {w:World} {i n:Nat}
def ruV (u:Ru)(sl:Value):Value:= .agg #[.string ⟨u.1.toArray⟩,ag u.2.kind,ag u.2.a,ag u.2.b,.string ⟨u.2.name.toArray⟩,sl]
def OG (all:List Tk)(E g:Nat)(v:Value)(w:World)(B:Nat->Prop)(x:Except (Int×Nat) (Ru×List Tk))(e:Ending)(w':World):Prop:=
 match x with
 | .error (er,at_)=>e= .panicked (jq er at_)/\bp g w w'
 | .ok (u,r)=> ∃(i m:Nat) (sl:Value) (d:Nat),r=all.drop i/\e= .returned (ruV u sl)/\dG B d w' sl u.2.kids/\PSt all E g v w' i m/\m<=600/\bp g w w'
def QI:Array Value:= #[.string ⟨#[]⟩,ag 0,ag 0,ag 0,.string ⟨#[]⟩,af]
theorem B9:prog.underlying 86=some (.struct (prog.fieldsOf 86)):=by kernel_rfl
theorem OH {i:Func}(s:Nat)(h:i.results= #[ResultVar.cell s 86]){R:Ending->World->Prop}{a:Act}{w:World}(g:Nat)(c0 c1 b c d e:Value)(l:a.defers=[])(j:a.tmps.getD s undef=ab g 0)
  (m:w.heap[g]? =ah #[c0,c1,b,c,d,e] 86) (k:R (.returned (.agg #[c0,c1,b,c,d,e])) w):bodyPost prog i R .ret a w:=by
 refine aX (v:= .agg #[c0,c1,b,c,d,e]) ?_ l k;have f:a.tmps[s]?.getD undef=ab g 0:=by simpa using j
 have n:=en (P:=prog) w g 86 86 _ _ _ m B9 rfl (by kernel_rfl);simp[results,h,f,asAddr,n]
theorem Kw (j:PS0 all E g v)(h:PSt all E g v w i n):
  Calls prog 58 #[ab g 0] w (OG all E g v w (fun k=>w.heap.size<=k) (pI E (all.drop i))):=by
 have av:=aI h.blk;have K:aq w (w.alloc (.cells #[.string ⟨#[]⟩,ag 0,ag 0,ag 0,.string ⟨#[]⟩,af] 86)):=am _ _;have hz:(w.alloc (.cells #[.string ⟨#[]⟩,ag 0,ag 0,ag 0,.string ⟨#[]⟩,af] 86)).heap[w.heap.size]? =ah QI 86:=aG w _;have hA:=h.below K j;have F:=bp.of_below (g:=g) K;generalize A:pI E (all.drop i)=X;unfold pI at A;simp only[fJ]at A;generalize au:w.alloc (.cells #[.string ⟨#[]⟩,ag 0,ag 0,ag 0,.string ⟨#[]⟩,af] 86)=wA at*;by_cases l:kindP (all.drop i)=1
 ·rw[ax (by simp[l])]at A;have c1:=qQ j hA 1 (by decide) l;unfold kF at c1;by_cases R:isT wIs (all.drop (i+1))=true
  ·rw[aB R]at A;have c2:=fun(s:World) (z:PSt all E g v s (i+1) n)=>oV j z wIs (by decide) R;have c3: ∀(s:World),PSt all E g v s (i+1+1) 0->Calls prog 99 #[ab g 0,ag 1] s (jC all E g v s (fun k=>s.heap.size<=k) (rd E 0 1 ex0 (all.drop (i+1+1)) 0)):=fun s z=>MM j (i+1+1) s 0 1 z (by omega) (by omega)
   have HX:Rb ((match rd E 0 1 ex0 (all.drop (i+1+1)) 0 with
    | .error q=>Except.error q
    | .ok (e,q,_)=>if 40<hgt e then .error (4,atP E q) else if isT s8 q then .ok ((textP (all.drop i),e),q.tail) else .error (2,atP E q))=X):=A
   generalize kindP (all.drop i)=t0 at*;generalize numP (all.drop i)=t1 at*;generalize (atP E (all.drop i):Int)=t2 at*;generalize textP (all.drop i)=nm at*;clear R l A;go_enter func58,ntmps58;go_wp2_with fail;refine c1.mono ?_;rintro e s ⟨rfl,z,p⟩;go_wp2_with fail;refine(c2 _ z).mono ?_;rintro e w2 ⟨rfl,h2,D⟩;have k3:=ak 3 h2.blk;have y3:=bo _ _ 3 _ _ h2.blk;have h3:PSt all E g v (w2.setCell ⟨g,3,none⟩ (ag 0)) (i+1+1) 0:=h2.setN j 0;have M:=(p.trans D).trans (bp.set w2 g 3 (ag 0));have O:=M.at hz (by omega);have x:=F.trans M;have aw:=aI O;clear c1 c2 z p D M hA F K au hz;go_wp2_with fail;refine(c3 _ h3).mono ?_;intro e w4 ho;clear c3 k3 y3;cases hx:rd E 0 1 ex0 (all.drop (i+1+1)) 0 with
   |error q=>
    obtain⟨er,at_⟩:=q;have c:=HX.o;rw[hx]at ho c;obtain⟨rfl,r⟩:=ho;refine⟨rfl,?_⟩;rw[<-c];exact⟨rfl,x.trans r⟩
   |ok q=>
    obtain⟨ex,rr,nn⟩:=q;have hh:=OF hx;have c:=HX.o;rw[hx]at ho c;obtain⟨B,sl,dd,ap,rfl,N,h4,ao,r⟩:=ho;subst ap;obtain⟨T,Q,rfl⟩:=N.form;dsimp only at c;have ay:=r.size;have ac:=r.at O (by omega);have t:aq w4 (w4.alloc (.cells #[ag ex.kind,ag ex.a,ag ex.b,.string ⟨ex.name.toArray⟩,.slice T ex.kids.length Q] 84)):=am _ _;have h5:=h4.below t j;have L:=aG w4 (.cells #[ag ex.kind,ag ex.a,ag ex.b,.string ⟨ex.name.toArray⟩,.slice T ex.kids.length Q] 84);have ad:=ai t ac;have J:=(x.trans r).trans (bp.of_below t);have u:dG (fun k=>w.heap.size+1<=k) dd (w4.alloc (.cells #[ag ex.kind,ag ex.a,ag ex.b,.string ⟨ex.name.toArray⟩,.slice T ex.kids.length Q] 84)) (.slice T ex.kids.length Q) ex.kids:=(bp.of_below (g:=g) t).kids (fun k Y=>by omega) (N.mono fun k Y=>by omega);have c6:=FH _ dd ex _ _ u (by omega);unfold exV at c6⊢;have C:Rb ((if 40<hgt ex then Except.error (4,atP E (all.drop B)) else if isT s8 (all.drop B) then .ok ((nm,ex),(all.drop B).tail) else .error (2,atP E (all.drop B)))=X):=c;clear N h3 h4 r t hx c HX O ac x;generalize ar:w4.alloc (.cells #[ag ex.kind,ag ex.a,ag ex.b,.string ⟨ex.name.toArray⟩,.slice T ex.kids.length Q] 84)=w5 at*;go_wp2_with(refine aR rfl 84 _ rfl _ rfl _ _ _ _ L fo rfl (by kernel_rfl) ?_)
    refine c6.mono ?_;rintro e w6 ⟨rfl,m⟩;have h6:=h5.below m j;have W:=ai m L;have ae:=ai m ad;have f:=J.trans (bp.of_below m);have G:=(bp.of_below (g:=g) m).kids (fun k Y=>by omega) u;clear c6 m h5 L ad J u ar;by_cases U:40<hgt ex
    ·have V:(40:Int)<(hgt ex:Int):=(by omega);have c:=C.o;rw[aB U]at c;have P:Rb (X= .error (4,atP E (all.drop B))):=c.symm;generalize hgt ex=H at*;clear c C;go_wp2_with fail;refine(lA j h6 4).mono ?_;rintro e w7 ⟨rfl,al⟩;refine⟨rfl,?_⟩;rw[P.o];exact⟨rfl,f.trans (bp.of_below al)⟩
    ·have V: ¬(40:Int)<(hgt ex:Int):=(by omega);have c:=C.o;rw[ax U]at c;generalize hgt ex=H at*;clear C;by_cases S:isT s8 (all.drop B)=true
     ·rw[aB S,fJ]at c;have c7:=oV j h6 s8 (by decide) S;have P:Rb (X= .ok ((nm,ex),all.drop (B+1))):=c.symm;clear c S;go_wp2_with fail;refine c7.mono ?_;rintro e w7 ⟨rfl,h7,d⟩;have an:=d.at W (by omega);have aj:=d.at ae (by omega);have y:=f.trans d;have I:=d.kids (fun k Y=>by omega) G
      have HO:Rb (∀cs,OG all E g v w (fun k=>w.heap.size<=k) X (.returned (ruV (nm,ex) (.slice T ex.kids.length Q))) (w7.setRow w.heap.size cs)):=fun cs=>by
       rw[P.o];exact⟨B+1,nn,_,dd,rfl,rfl,(I.kept fun k Y _=>aW _ _ _ _ (by omega)).mono fun k Y=>by omega,h.of_kept j (y.setRow (aD _) cs) ((aW _ _ _ _ (by omega)).trans h7.blk) h7.le,ao,y.setRow (aD _) cs⟩
      unfold ruV at HO;clear c7 h6 h7 d f y G I W ae P
      go_wp2_with(first
       |(refine aR rfl 84 _ rfl _ rfl _ _ _ _ an fo rfl (by kernel_rfl) ?_)
       |(refine az rfl 86 _ _ rfl _ _ rfl rfl _ _ aj (by kernel_rfl) (by rfl) (by simp[Value.oneCell']) ?_))
      exact OH 2 (by kernel_rfl) w.heap.size _ _ _ _ _ _ rfl rfl (aL _ _ _ _ _ _ aj) (HO.o _)
     ·have aa:isT s8 (all.drop B)=false:=(by simpa using S);rw[ax S]at c;have c7:=qE j h6 s8 aa;have P:Rb (X= .error (2,atP E (all.drop B))):=c.symm;clear c S aa;go_wp2_with fail;refine c7.mono ?_;rintro e w7 ⟨rfl,d⟩;refine⟨rfl,?_⟩;rw[P.o];exact⟨rfl,f.trans d⟩
  ·have Z:isT wIs (all.drop (i+1))=false:=(by simpa using R);rw[ax R]at A;have c2:=fun(s:World) (z:PSt all E g v s (i+1) n)=>qE j z wIs Z;subst A;clear R Z l;go_enter func58,ntmps58;go_wp2_with fail;refine c1.mono ?_;rintro e s ⟨rfl,z,p⟩;go_wp2_with fail;refine(c2 _ z).mono ?_;rintro e w2 ⟨rfl,D⟩;exact⟨rfl,rfl,(F.trans p).trans D⟩
 ·rw[aB l]at A;have c1:=zO j hA 1 l;subst A;go_enter func58,ntmps58;go_wp2_with fail;refine c1.mono ?_;rintro e s ⟨rfl,p⟩;exact⟨rfl,rfl,F.trans p⟩
end
end Go.Proofs.YtlkehieagdkgiaaGreatDoor
