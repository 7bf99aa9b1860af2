/- Texts of the proof. -/
import Derived.Test.YtaoljfdfhggbbaaGreatDoorPc33
set_option maxRecDepth 100000
set_option maxHeartbeats 8000000
namespace Go.Proofs.YtaoljfdfhggbbaaGreatDoor
open Go.Proofs.Tryz Go.RowKit Lx Vx Mx Msk
def mJ {S:Type}(f:Int->S->Bool×S):List Int->Nat->S->Int×S
 |[],_,s=>(-1,s)
 |x::l,j,s=>if(f x s).1=true then((j:Int),(f x s).2) else mJ f l (j+1) (f x s).2
theorem B9 {S:Type}(f:Int->S->Bool×S): ∀(l:List Int) (j:Nat) (s:S),decide (0<=(mJ f l j s).1)=(jn f l s).1/\(mJ f l j s).2=(jn f l s).2
 |[],j,s=>⟨rfl,rfl⟩
 |x::l,j,s=>by
  unfold mJ jn;by_cases h:(f x s).1=true
  ·rw[aD h,aD h];exact⟨bm (by show(0:Int)<=(j:Int);omega),rfl⟩
  ·rw[ax h,ax h];exact B9 f l (j+1) _
theorem Im {S:Type}(f:Int->S->Bool×S){l:List Int}{j:Nat}{x:Int}(s:S)(h:l[j]? =some x):mJ f (l.drop j) j s=if(f x s).1=true then((j:Int),(f x s).2) else mJ f (l.drop (j+1)) (j+1) (f x s).2:=by
 obtain⟨a,b⟩:=aG.1 h;rw[bx a,b];rfl
theorem Fu {S:Type}(f:Int->S->Bool×S)(Φ:S->World->Prop)(F:Nat)(m:Array Value)(a:List Int)(v:Value)(s:S)(w:World)(Y: ∀l w,(callFunc F l).run prog w= .ok (.enter F l) w)(E:Φ s w)(i: ∀s w,Φ s w->dS w v a)
  (N: ∀x∈a,∀s w,Φ s w->Calls prog F (#[ag x]++m) w fun e w'=>e= .returned (.bool (f x s).1)/\Φ (f x s).2 w'):
  Calls prog 55 #[v,.func (.func F) #[] m] w fun e w'=>e= .returned (ag (mJ f a 0 s).1)/\Φ (mJ f a 0 s).2 w':=by
 obtain⟨p,c,rfl,u,J⟩:=i s w E;clear J;have L:=aF i;have P:=aF N;have O:=aF E;obtain⟨n,B⟩:=au a.length;have K:=aF B;rw[B]at u L;have W:(n:Int)<9223372036854775808:=by omega
 rw[B];clear i N E B;go_enter func55,ntmps55;go_wp2_with fail;go_loopw [5,8] (fun _ t wr=> ∃(j:Nat) (k:S),t=ag (j:Int)/\j<=n/\Φ k wr/\mJ f a 0 s=mJ f (a.drop j) j k) (fun _ t _=>n-(intOf t).toNat);case atStart=>exact⟨0,s,rfl,by omega,O.o,rfl⟩
 case round=>
  obtain⟨j,k,rfl,Z,C,r⟩:=hrel;have U:(0:Int)<=(j:Int):=(by omega);by_cases V:j<n
  ·have y:(j:Int)<(n:Int):=(by omega);obtain⟨x,D⟩: ∃x,a[j]? =some x:=⟨a[j]'(by have:=K.o;omega),az _⟩
   rw[Im f k D]at r;obtain⟨p',X,Q,H,d⟩:=L.o k wr C;injection Q with R T e2;subst R e2;clear T H;obtain⟨g,o,I,G⟩:=d j x D;subst I;have c1:=P.o x (aM D) k wr C;obtain⟨b,M⟩:=au ((f x k).1);rw[M]at c1 r;have A:=aF r;clear r M D d C;go_wp2_with fail;refine c1.mono ?_;rintro e w1 ⟨rfl,z⟩;clear c1 G;cases b with
   |true=>
    have q:PN (mJ f a 0 s=((j:Int),(f x k).2)):=A.o;clear A;go_wp2_with fail;go_ret;exact⟨by rw[q.o];rfl,by rw[q.o];exact z⟩
   |false=>
    have q:PN (mJ f a 0 s=mJ f (a.drop (j+1)) (j+1) (f x k).2):=A.o;clear A;go_wp2_with fail;go_roundw;case rel=>exact⟨j+1,_,by go_num,by omega,z,q.o⟩
    case measure=>simp[intOf];omega
  ·have y: ¬(j:Int)<(n:Int):=(by omega)
   have q:PN (mJ f a 0 s=(-1,k)):=by
    show _=_;rw[r,dg (by have:=K.o;omega)];rfl
   clear r;go_wp2_with fail;go_ret;exact⟨by rw[q.o];rfl,by rw[q.o];exact C⟩
theorem pD {S:Type}(f:Int->S->Bool×S)(Φ:S->World->Prop)(F:Nat)(a:Array Value)(i:List Int)(v:Value)(s:S)(w:World)(r: ∀d w,(callFunc F d).run prog w= .ok (.enter F d) w)(k:Φ s w)(g: ∀s w,Φ s w->dS w v i)
  (t: ∀x∈i,∀s w,Φ s w->Calls prog F (#[ag x]++a) w fun e w'=>e= .returned (.bool (f x s).1)/\Φ (f x s).2 w'):
  Calls prog 35 #[v,.func (.func F) #[] a] w fun e w'=>e= .returned (.bool (jn f i s).1)/\Φ (jn f i s).2 w':=by
 have c0:=Fu f Φ F a i v s w r k g t;obtain⟨p,c,rfl,y,u⟩:=g s w k;have j:=aF (B9 f i 0 s);go_enter func35,ntmps35;go_wp2_with fail;refine c0.mono ?_;rintro e A ⟨rfl,l⟩;have q:=j.o.1;rw[j.o.2]at l;generalize (mJ f i 0 s).1=z at*;obtain⟨b,m⟩:=au ((jn f i s).1);rw[m]at q;have n:=aF m;go_wp2_with fail;go_ret;exact⟨by rw[n.o];rfl,l⟩
theorem Dd (u:Ru)(i:Option Addr)(g e f:Nat)(x:List UInt8)(w:World)(j:w.heap[f]? =ah #[kO x] 9):
  Calls prog 46 #[.agg #[.string ⟨u.1.toArray⟩,ag u.2.kind,ag u.2.a,ag u.2.b,.string ⟨u.2.name.toArray⟩,.slice i g e],ab f 0] w fun r w'=>r= .returned (.bool (decide (u.1=x)))/\aq w w':=by
 obtain⟨n,m,d,k⟩:=nb w #[.string ⟨u.1.toArray⟩,ag u.2.kind,ag u.2.a,ag u.2.b,.string ⟨u.2.name.toArray⟩,.slice i g e] 104;have o:=cr 0 k rfl;have l:=cr 0 (bt d j) rfl;unfold kO at l;have c:=tz u.1 x;go_enter func46,ntmps46;go_wp2_with fail;go_ret;exact⟨by rw[<-c];rfl,d⟩
theorem Fv (f:List (Ru×Value))(v:Value)(x:List UInt8)(H:Nat)(w:World)(h:InR w v f)(N:w.heap[H]? =ah #[kO x] 9):
  Calls prog 45 #[v,.func (.func 46) #[] #[ab H 0]] w fun r w'=>r= .returned (ag (atP5 (f.map (fun p=>p.1)) x))/\aq w w':=by
 obtain⟨pv,cv,rfl⟩:=h.form;have L:=aF h.cells;have M:=h.len
 have K:PN (∀p∈f,∃q n c,p.2= .slice q n c):=fun p X=>by
  obtain⟨_,_,d,V⟩:=h.all p X;obtain⟨q,c,e⟩:=V.form;exact⟨q,_,c,e⟩
 have B:=aF N;clear h N;go_enter func45,ntmps45;go_wp2_with fail;go_loopw [5,8] (fun _ t wr=> ∃j:Nat,t=ag (j:Int)/\j<=f.length/\atP5 (f.map (fun p=>p.1)) x=atF ((f.map (fun p=>p.1)).drop j) j x/\aq w wr) (fun _ t _=>f.length-(intOf t).toNat);case atStart=>exact⟨0,rfl,by omega,rfl,aI _ _⟩
 case round=>
  obtain⟨j,rfl,hj,i,a⟩:=hrel;have W:(0:Int)<=(j:Int):=(by omega);by_cases I:j<f.length
  ·have y:(j:Int)<(f.length:Int):=(by omega);obtain⟨⟨u,sk⟩,k⟩: ∃p,f[j]? =some p:=⟨f[j],az I⟩
   have A:(f.map (fun p=>p.1))[j]? =some u:=(by rw[bg,k];rfl);rw[Js A]at i;obtain⟨g,o,J,c0,c1,C,D,E,F⟩:=L.o j _ k;obtain⟨Z,Y,O,z⟩:=K.o _ (aM k);dsimp only at c0 c1 C D E F z;subst z J;have P:=aj a c0;have Q:=aj a c1;have R:=aj a C;have S:=aj a D;have T:=aj a E;have U:=aj a F;have G:=Dd u Z Y O H x wr (bt a B.o);clear A k c0 c1 C D E F;obtain⟨b,m⟩:=au (decide (u.1=x));rw[m]at G;go_wp2_with fail;refine G.mono ?_;rintro e w1 ⟨rfl,b1⟩;have s:=aw a b1;clear G P Q R S T U;cases b with
   |true=>
    rw[aD (fE m)]at i;have l:=aF i;clear i m;go_wp2_with fail;go_ret;exact⟨by(rw[l.o])<;>rfl,s⟩
   |false=>
    rw[ax (of_decide_eq_false m)]at i;have l:=aF i;clear i m;go_wp2_with fail;go_roundw;case rel=>exact⟨j+1,by go_num,by omega,l.o,s⟩
    case measure=>simp[intOf];omega
  ·have y: ¬(j:Int)<(f.length:Int):=(by omega)
   have l:PN (atP5 (f.map (fun p=>p.1)) x= -1):=by
    show _=_;rw[i,dg (by simp;omega)];rfl
   clear i L K;go_wp2_with fail;go_ret;exact⟨by(rw[l.o])<;>rfl,a⟩
section
section
variable {B gD:Nat} {d:Dk} {t:Tr} {w w':World}
theorem ya (x:List UInt8)(w:World)(h:dt B gD d t w):Calls prog 24 #[ab gD 0,kO x] w fun r w'=>r= .returned (ag (atP5 d.rules x))/\aq w w':=by
 unfold kO;obtain⟨l,o,c,i⟩:=nb w #[.string ⟨x.toArray⟩] 9;obtain⟨_,j,n,s,kv,q,m,f⟩:=h.below c;obtain⟨k,a,b⟩:=f.rules.here;have c0:=Fv k j x w.heap.size l a i;rw[b]at c0;obtain⟨p,g,rfl⟩:=a.form;have v:=cr 0 f.blk rfl;go_enter func24,ntmps24;go_wp2_with fail;refine c0.mono ?_;rintro e u ⟨rfl,b1⟩;go_wp2_with fail;go_ret;exact⟨rfl,aw c b1⟩
theorem r7 {a e size n:Nat}{v:Value}{xs:List Value}(h:w.ownsRow a e size v n xs)(m:0<n): ∃g c,v= .slice (some (ae g 0)) n c/\a<=g/\ ∀(k:Nat) (u:Value),xs[k]? =some u->w.cell? (ae g k)=some u:=by
 rcases h.2 with⟨_,l⟩|⟨g,cap,d,rfl,f,i,_,_,_,j⟩
 ·omega
 ·refine⟨g,cap,rfl,f,fun k u b=> ?_⟩;rw[aZ _ _ k _ _ _ i,<-bp];rw[<-j]at b;exact(dK (by have:=(aG.1 b).1;simp at this;omega)).symm.trans b
theorem orZ {i k:Nat}{b:Bool}(a:i≠k):(decide (i=k)||b)=b:=by simp[a]
theorem Kl {c:List Cd}{l:List Vx.Kp}{runs v r b:Int}(f:l.length<=64):(jc c l runs v r b).l.length<=64:=by
 unfold jc;split
 ·rename_i a;unfold mZ at a;rw[bG,cg]at a;have d:=rU r b l 0;have e:=CZ (l:=l) a.1 (by omega);simp;omega
 ·split
  ·simp
  ·simp[sE];omega
theorem OZ {W:World}{g b:Nat}{c f:Array Value}{T a:TypeId}(h:W.heap[g]? =ah c T)(d:W.heap[b]? =ah f a)(j:T≠a):g≠b:=fun e=>by
 subst e;rw[h]at d;injection d with k;injection k with _ i _;exact j i
theorem Km {W W':World}{v:Value}{l:List Vx.Kp}(h:en W.heap.size W' v l):Rob (fun q=>W.heap.size<=q/\q<W'.heap.size) (fun u=>en 0 u v l) W':=fun u s ha=>by
 obtain⟨p,c,b,d,e,f⟩:=h;refine⟨p,c,b,d,e,fun k=> ?_⟩;obtain⟨g,o,m,i,n⟩:=f k;refine⟨g,o,m,dw _,fun j x r=> ?_⟩;have a:=n j x r;rw[<-a];exact ef (ha g ⟨i,bP a⟩ (bP a))
theorem Mw {lo hi g:Nat}{Φ:World->Prop}{W:World}{xs:Array Value}(h:Rob (fun q=>lo<=q/\q<hi) Φ W)(a:g<lo\/hi<=g):Rob (fun q=>lo<=q/\q<hi) Φ (W.setRow g xs):=h.move (by simp) (fun q b _=>aV _ _ _ _ (by omega)) fun _ _ h=>h
def mtT (G:Got)(p:Option Addr)(c:Nat):Value:= .tuple #[.agg (mv G.m),.agg #[.slice p G.l.length c,ag G.n],.agg #[ag G.er,ag (G.at_:Int)]]
def At (φ:Nat->Value)(k:Nat)(wX W:World)(c:Array Value)(T:TypeId):Prop:= ∃g:Nat,φ k=ab g 0/\wX.heap.size<=g/\W.heap[g]? =ah c T
theorem At.later {φ:Nat->Value}{k:Nat}{wX W W':World}{c:Array Value}{T:TypeId}(h:At φ k wX W c T)(e:aq W W'):At φ k wX W' c T:=by
 obtain⟨g,a,b,d⟩:=h;exact⟨g,a,b,bt e d⟩
theorem At.put {φ:Nat->Value}{k:Nat}{wX W:World}{c:Array Value}{T:TypeId}(h:At φ k wX W c T){s:Nat}{v:Value}(d:s≠k):At (jh φ (some s) v) k wX W c T:=by
 obtain⟨g,a,b⟩:=h;exact⟨g,(cY d).trans a,b⟩
theorem At.set {φ:Nat->Value}{k g:Nat}{wX W:World}{c d x:Array Value}{T a:TypeId}(h:At φ k wX W c T)(j:W.heap[g]? =ah d a)(i:T≠a):At φ k wX (W.setRow g x) c T:=by
 obtain⟨q,e,f,b⟩:=h;exact⟨q,e,f,(aV _ _ _ _ (OZ b j i)).trans b⟩
theorem Ca {φ:Nat->Value}{k:Nat}{wX W:World}{c:Array Value}{T:TypeId}(a:aq wX W):At (jh φ (some k) (ab W.heap.size 0)) k wX (W.alloc (.cells c T)) c T:=⟨_,dF,a.size,aE _ _⟩
def Out (φ:Nat->Value)(k lo hi:Nat):Prop:= ∃g:Nat,φ k=ab g 0/\(g<lo\/hi<=g)
theorem Out.put {φ:Nat->Value}{k lo hi s:Nat}{v:Value}(h:Out φ k lo hi)(c:s≠k):Out (jh φ (some s) v) k lo hi:=by
 obtain⟨g,a,b⟩:=h;exact⟨g,(cY c).trans a,b⟩
def wc (wX:World)(G:Got)(φ:Nat->Value)(W:World)(b8 b9 b0:Bool):Prop:= ∃p c lo hi,φ 42=mtT G p c/\wX.heap.size<=lo/\hi<=W.heap.size/\Rob (fun q=>lo<=q/\q<hi) (fun u=>en 0 u (.slice p G.l.length c) G.l) W/\(b8=true->Out φ 8 lo hi)/\(b9=true->Out φ 9 lo hi)/\(b0=true->Out φ 10 lo hi)
section
variable {wX:World} {G:Got} {φ:Nat->Value} {W W':World} {b8 b9 b0:Bool}
theorem wc.put (h:wc wX G φ W b8 b9 b0){s:Nat}{v:Value}(i:s≠42)(j:s≠8)(l:s≠9)(g:s≠10):wc wX G (jh φ (some s) v) W b8 b9 b0:=by
 obtain⟨p,k,lo,hi,a,e2,b,d,e,f,e7⟩:=h;exact⟨p,k,lo,hi,(cY i).trans a,e2,b,d,fun c=>(e c).put j,fun c=>(f c).put l,fun c=>(e7 c).put g⟩
theorem wc.set (h:wc wX G φ W b8 b9 b0){g:Nat}{x:Array Value}(f: ∀lo hi,(b8=true->Out φ 8 lo hi)->(b9=true->Out φ 9 lo hi)->(b0=true->Out φ 10 lo hi)->g<lo\/hi<=g):wc wX G φ (W.setRow g x) b8 b9 b0:=by
 obtain⟨p,k,lo,hi,c,e2,d,e,a,b,e7⟩:=h;exact⟨p,k,lo,hi,c,e2,by simpa using d,Mw e (f lo hi a b e7),a,b,e7⟩
theorem Cb {k lo hi g:Nat}(h:Out φ k lo hi)(e:φ k=ab g 0):g<lo\/hi<=g:=by
 obtain⟨q,a,b⟩:=h;rw[e]at a;injection a with a;injection a with a;injection a with a;rw[a];exact b
end
structure MtJ (wX:World)(G:Got)(M:Nat->Bool)(φ:Nat->Value)(W:World):Prop where
 bel:aq wX W
 get:M 17=true->wc wX G φ W (M 22) (M 23) (M 24)
 mov:M 18=true->φ 24=φ 42
 ext:M 20=true-> ∃p c,φ 42=mtT G p c/\φ 44= .agg #[.slice p G.l.length c,ag G.n]
 al8:M 22=true->At φ 8 wX W (bif M 25 then mv G.m else mv fun _=>false) 84
 al9:M 23=true->M 26=false->At φ 9 wX W #[af,ag 0] 51
 st9:M 26=true-> ∃p c,φ 42=mtT G p c/\At φ 9 wX W #[.slice p G.l.length c,ag G.n] 51
 al0:M 24=true->At φ 10 wX W (bif M 27 then #[ag G.er,ag (G.at_:Int)] else #[ag 0,ag 0]) 93
theorem MtJ.later {wX:World}{G:Got}{M:Nat->Bool}{φ:Nat->Value}{W W':World}(h:MtJ wX G M φ W)(a:aq W W'):MtJ wX G M φ W':=⟨aw h.bel a,fun c=>by
 obtain⟨p,k,lo,hi,b,e2,e,f,g⟩:=h.get c;exact⟨p,k,lo,hi,b,e2,bf e a.size,f.below a,g⟩,h.mov,h.ext,fun c=>(h.al8 c).later a,fun c d=>(h.al9 c d).later a,fun c=>by
 obtain⟨p,k,b,e2⟩:=h.st9 c;exact⟨p,k,b,e2.later a⟩,fun c=>(h.al0 c).later a⟩
theorem lZ {M:Nat->Bool}{i k:Nat}{p:Prop}(b:M k=false)(c:(decide (i=k)||M k)=true)(a:i≠k):p:=by rw[orZ a,b]at c;cases c
theorem upM {M:Nat->Bool}{i k:Nat}{b:Bool}(c:(decide (i=k)||M k)=b)(a:i≠k):M k=b:=by rwa[orZ a]at c
theorem pE {M:Nat->Bool}{i k:Nat}(a:i≠k):(decide (i=k)||M k)=M k:=orZ a
theorem iX {a b:Bool}(h:a=true->b=true)(c:b=false):a=false:=by
 cases a with
 |false=>rfl
 |true=>rw[h rfl]at c;cases c
theorem Aq (r day:Int)(w:World)(h:dt B gD d t w)(h0:0<=r)(hr:r<d.res.length):Calls prog 44 #[ab gD 0,ag r,ag day] w fun e w'=>e= .returned (.agg (mv (fi d r day).1))/\dt B gD (fi d r day).2 t w'/\Kd gD t t w w':=by
 obtain⟨ri,rfl⟩: ∃k:Nat,r=(k:Int):=⟨r.toNat,by omega⟩
 have hz:=eI;obtain⟨wA,X,bA,nA⟩:=nb w (mv fun _=>false) 84;have a7:=h.below bA;have a1:=aF a7;have H0:=aF h;obtain⟨bi,rv,cv,vv,kv,ss,aa,A⟩:=a7;obtain⟨x,hx⟩: ∃x,d.res[ri]? =some x:=⟨d.res[ri]'(by omega),az _⟩
 have c0:=ya x wA a1.o;have z1:=cr 1 A.blk rfl;obtain⟨ge,ce,he,_,ba⟩:=r7 A.res (by omega);have zx:=ba ri (kO x) (by rw[bg,hx];rfl);rw[he]at z1;obtain⟨n,hn⟩:=au d.res.length;rw[hn]at z1 hr;have ai:=aF bi;have HX:PN (d.res.getD ri []=x):=by show _=_;simp[List.getD,hx]
 obtain⟨k,hk⟩:=au (atP5 d.rules x);rw[hk]at c0;have HK:=aF hk;have aN:=aF bA
 have HM:PN (∀P:M×Dk->Prop,((k<0->P (noM,d))/\(¬k<0->P ((jc (eW d.rules) d.kept d.runs (d.vers.getD k.toNat 0) k day).m,{d with kept:=(jc (eW d.rules) d.kept d.runs (d.vers.getD k.toNat 0) k day).l,runs:=(jc (eW d.rules) d.kept d.runs (d.vers.getD k.toNat 0) k day).n})))->P (fi d ri day)):=fun P hP=>by
  unfold fi;simp only[cj,HX.o,HK.o];by_cases q:k<0
  ·rw[aD q];exact hP.1 q
  ·rw[ax q];exact hP.2 q
 have bx:(0:Int)<=(ri:Int):=by omega
 unfold kO at zx c0;go_enter func44,ntmps44;go_wp2_with fail;refine c0.mono ?_;rintro e w1 ⟨rfl,b1⟩;have Z:=bt b1 nA;have bq:=aF (a1.o.below b1);have ad:=aF (aw aN.o b1);by_cases bb:k<0
 ·have a5:=below_setRow ad.o (aB _) (mv fun _=>false);have HR:=aF (aL _ _ _ (mv fun _=>false) _ _ Z);have HO:=aF (HM.o (fun p=>(.agg (mv fun _=>false):Value)= .agg (mv p.1)/\dt B gD p.2 t (w1.setRow w.heap.size (mv fun _=>false))/\Kd gD t t w (w1.setRow w.heap.size (mv fun _=>false))) ⟨fun _=>⟨rfl,H0.o.below a5,Kd.of a5⟩,fun q=>absurd bb (by omega)⟩);go_wp2_with(refine ay rfl 84 _ _ rfl _ _ rfl rfl _ _ Z (bh _) (by simp[bO]) (dQ _) ?_)
  refine aW (v:= .agg (mv fun _=>false)) ?_ rfl ⟨by rw[HO.o.1],HO.o.2⟩;exact bc rfl _ _ w.heap.size _ _ _ _ rfl HR.o bV rfl (bh _)
 ·obtain⟨ki,rfl⟩: ∃q:Nat,k=(q:Int):=⟨k.toNat,by omega⟩
  have bd:ki<d.vers.length:=by
   have:=ol d.rules x;rw[HK.o]at this;have:=ai.o.vl;omega
  obtain⟨_,rv,cv,vv,kv,ss,aa,an⟩:=H0.o;have A:=an.below ad.o;have z4:=cr 4 A.blk rfl;have z5:=cr 5 A.blk rfl;have z7:=cr 7 A.blk rfl;have z8:=cr 8 A.blk rfl;obtain⟨pv,a2,rfl,bz,bj⟩:=A.vers.here;obtain⟨f,ac⟩: ∃q,d.vers[ki]? =some q:=⟨d.vers[ki],az bd⟩
  obtain⟨gv,ov,rfl,zv⟩:=bj ki f ac;obtain⟨pk,ck,rfl,_,_⟩:=A.kept.here;obtain⟨pc,cc,rfl,_,_⟩:=A.codes.here.form;obtain⟨nv,be⟩:=au d.vers.length;obtain⟨nq,aC⟩:=au d.kept.length;obtain⟨nc,a9⟩:=au ((eW d.rules).length);rw[be]at z5;rw[aC]at z7;rw[a9]at z4;have bp:(ki:Int)<(nv:Int):=(by omega);have bo:(0:Int)<=(ki:Int):=(by omega)
  have cG: ∀W,aq w1 W->Calls prog 71 #[.agg #[.slice pk nq ck,ag d.runs],.slice pc nc cc,ag f,ag (ki:Int),ag day] W (yJ (jc (eW d.rules) d.kept d.runs f ki day).m (jc (eW d.rules) d.kept d.runs f ki day).l (jc (eW d.rules) d.kept d.runs f ki day).n (jc (eW d.rules) d.kept d.runs f ki day).er ((jc (eW d.rules) d.kept d.runs f ki day).at_:Int) W):=fun W hW=>by
   have h1:=(A.kept.below hW).here;have h2:=(A.codes.below hW).here;rw[aC]at h1;rw[a9]at h2;exact Mu _ _ _ _ _ _ _ _ W h1 (by have:=ai.o.kl;omega) h2
  have aP:PN (d.vers.getD ki 0=f):=(by show _=_;simp[List.getD,ac]);have L:=aF an;obtain⟨G,hG⟩:=au (jc (eW d.rules) d.kept d.runs f ki day);rw[hG]at cG;have HG:=aF hG;have bs:=aH an.blk;go_upto_region 4 with fail;refine dh (MtJ w1 G) [kn 25 (ab gD 0),kn 26 (ab gD 0),kn 27 (ab gD 7),kn 28 (.agg #[.slice pk nq ck,ag d.runs]),kn 29 (ab gD 0),kn 30 (ab gD 0),kn 31 (ab gD 4),kn 32 (.slice pc nc cc),kn 33 (ab gD 0),kn 34 (ab gD 0),kn 35 (ab gD 5),kn 36 (.slice (some (ae gv ov)) nv a2),kn 37 (ag (ki:Int)),kn 38 (ab gv (ov+ki)),kn 39 (ag f),kn 40 (ag (ki:Int)),kn 41 (ag day),td 42,td 24,kn 43 (.agg (mv G.m)),td 44,kn 45 (.agg #[ag G.er,ag (G.at_:Int)]),td 8,td 9,td 10,nk,nk,nk] (fun _=>⟨(aI _ _).drew,nofun,nofun,nofun,nofun,nofun,nofun,nofun⟩) (fun _ _ _ _ b h=>h.later b) (by kernel_rfl) ?_ ?_
  ·rintro M φ W S hc F l hl y;have zz:=fun(q:Addr) (x:Value) (h:w1.cell? q=some x)=>aj S.bel h;have z4:=zz _ _ z4;have z5:=zz _ _ z5;have z7:=zz _ _ z7;have z8:=zz _ _ z8;have zv:=zz _ _ zv;have cG:=cG W S.bel;have HC:=aF hc;have i:=aF S;simp only[kn,td,nk,dW,aQ,aX,Act.put,aA,aK,aJ]at hl;subst hl;simp only[cZ,Nat.reduceAdd]at y;dsimp only[kn,td,nk,dB,eN,eg,Act.put];and_intros;all_goals first|exact trivial|intro Q hn A K J
   all_goals try (go_simp;with_reducible exact J _ _ ⟨rfl,aI _ _⟩)
   ·have a3:=hn 18 _ rfl (by kernel_rfl);have a4:M 20=false:=iX (fun h=>HC.o 20 _ rfl h ⟨18,.data⟩ (by simp) rfl rfl) a3;have ak:M 26=false:=iX (fun h=>HC.o 26 _ rfl h ⟨20,.data⟩ (by simp) rfl rfl) a4;go_simp;refine cG.mono ?_;rintro r' W' ⟨v',rfl,a8,aU⟩;obtain⟨p,c9,hv,_⟩:=id a8;subst hv;have hj:=i.o.later aU
    have ou: ∀{k:Nat} {c:Array Value} {T:TypeId},At φ k w1 W c T->k≠42->Out (jh φ (some 42) (mtT G p c9)) k W.heap.size W'.heap.size:=fun h hk=>by
     obtain⟨g,h1,_,h3⟩:=h;exact⟨g,(cY fun e=>hk e.symm).trans h1,.inl (aH h3)⟩
    exact J _ _ ⟨trivial,hj.bel,fun _=>⟨p,c9,W.heap.size,W'.heap.size,dF,i.o.bel.size,aB _,Km a8,fun c=>ou (i.o.al8 (upM c (by decide))) (by decide),fun c=>ou (i.o.al9 (upM c (by decide)) ak) (by decide),fun c=>ou (i.o.al0 (upM c (by decide))) (by decide)⟩,fun c=>lZ a3 c (by decide),fun c=>lZ a4 c (by decide),fun c=>by rw[pE (by decide)];exact(hj.al8 (upM c (by decide))).put (by decide),fun c E=>(hj.al9 (upM c (by decide)) ak).put (by decide),fun c=>lZ ak c (by decide),fun c=>by rw[pE (by decide)];exact(hj.al0 (upM c (by decide))).put (by decide)⟩
   ·have V:=Q ⟨17,.data⟩ (by simp) rfl rfl;have j:=i.o;go_simp
    exact J _ _ ⟨trivial,j.bel,fun c=>(j.get V).put (by decide) (by decide) (by decide) (by decide),fun _=>dF.trans (cY (by decide)).symm,fun c=>by rw[cY (by decide),cY (by decide)];exact j.ext (upM c (by decide)),fun c=>(j.al8 (upM c (by decide))).put (by decide),fun c E=>(j.al9 (upM c (by decide)) (upM E (by decide))).put (by decide),fun c=>by
     obtain⟨p,k,u,e2⟩:=j.st9 (upM c (by decide));exact⟨p,k,(cY (by decide)).trans u,e2.put (by decide)⟩,fun c=>(j.al0 (upM c (by decide))).put (by decide)⟩
   ·obtain⟨p,k,lo,hi,a,_⟩:=i.o.get (HC.o 18 _ rfl (Q ⟨18,.data⟩ (by simp) rfl rfl) ⟨17,.data⟩ (by simp) rfl rfl);rw[i.o.mov (Q ⟨18,.data⟩ (by simp) rfl rfl),a]at y;unfold mtT at y;go_simp;exact J _ _ ⟨rfl,aI _ _⟩
   ·have V:=HC.o 18 _ rfl (Q ⟨18,.data⟩ (by simp) rfl rfl) ⟨17,.data⟩ (by simp) rfl rfl;obtain⟨p,k,lo,hi,a,_⟩:=i.o.get V;rw[i.o.mov (Q ⟨18,.data⟩ (by simp) rfl rfl),a]at y;unfold mtT at y;have j:=i.o;go_simp
    exact J _ _ ⟨trivial,j.bel,fun c=>(j.get V).put (by decide) (by decide) (by decide) (by decide),fun c=>by rw[cY (by decide),cY (by decide)];exact j.mov (upM c (by decide)),fun _=>⟨p,k,(cY (by decide)).trans a,dF⟩,fun c=>(j.al8 (upM c (by decide))).put (by decide),fun c E=>(j.al9 (upM c (by decide)) (upM E (by decide))).put (by decide),fun c=>by
     obtain⟨p,k,u,e2⟩:=j.st9 (upM c (by decide));exact⟨p,k,(cY (by decide)).trans u,e2.put (by decide)⟩,fun c=>(j.al0 (upM c (by decide))).put (by decide)⟩
   ·obtain⟨p,k,lo,hi,a,_⟩:=i.o.get (HC.o 18 _ rfl (Q ⟨18,.data⟩ (by simp) rfl rfl) ⟨17,.data⟩ (by simp) rfl rfl);rw[i.o.mov (Q ⟨18,.data⟩ (by simp) rfl rfl),a]at y;unfold mtT at y;go_simp;exact J _ _ ⟨rfl,aI _ _⟩
   ·have hd:=hn 25 _ rfl (by kernel_rfl);have j:=i.o;have b:=am W (.cells (mv fun _=>false) 84);go_simp
    exact J _ _ ⟨trivial,aw j.bel b,fun c=>by
     obtain⟨p,k,lo,hi,u,e2,e3,e4,e5,e6,e7⟩:=j.get (upM c (by decide));exact⟨p,k,lo,hi,(cY (by decide)).trans u,e2,bf e3 b.size,e4.below b,fun _=>⟨W.heap.size,dF,.inr e3⟩,fun c=>(e6 (upM c (by decide))).put (by decide),fun c=>(e7 (upM c (by decide))).put (by decide)⟩,fun c=>by rw[cY (by decide),cY (by decide)];exact j.mov (upM c (by decide)),fun c=>by rw[cY (by decide),cY (by decide)];exact j.ext (upM c (by decide)),fun _=>by rw[pE (by decide),hd];exact Ca j.bel,fun c E=>((j.al9 (upM c (by decide)) (upM E (by decide))).later b).put (by decide),fun c=>by
     obtain⟨p,k,u,e2⟩:=j.st9 (upM c (by decide));exact⟨p,k,(cY (by decide)).trans u,(e2.later b).put (by decide)⟩,fun c=>by rw[pE (by decide)];exact((j.al0 (upM c (by decide))).later b).put (by decide)⟩
   ·have hd:=hn 26 _ rfl (by kernel_rfl);have j:=i.o;have b:=am W (.cells #[af,ag 0] 51);go_simp
    exact J _ _ ⟨trivial,aw j.bel b,fun c=>by
     obtain⟨p,k,lo,hi,u,e2,e3,e4,e5,e6,e7⟩:=j.get (upM c (by decide));exact⟨p,k,lo,hi,(cY (by decide)).trans u,e2,bf e3 b.size,e4.below b,fun c=>(e5 (upM c (by decide))).put (by decide),fun _=>⟨W.heap.size,dF,.inr e3⟩,fun c=>(e7 (upM c (by decide))).put (by decide)⟩,fun c=>by rw[cY (by decide),cY (by decide)];exact j.mov (upM c (by decide)),fun c=>by rw[cY (by decide),cY (by decide)];exact j.ext (upM c (by decide)),fun c=>by rw[pE (by decide)];exact((j.al8 (upM c (by decide))).later b).put (by decide),fun _ _=>Ca j.bel,fun c=>lZ hd c (by decide),fun c=>by rw[pE (by decide)];exact((j.al0 (upM c (by decide))).later b).put (by decide)⟩
   ·have hd:=hn 27 _ rfl (by kernel_rfl);have j:=i.o;have b:=am W (.cells #[ag 0,ag 0] 93);go_simp
    exact J _ _ ⟨trivial,aw j.bel b,fun c=>by
     obtain⟨p,k,lo,hi,u,e2,e3,e4,e5,e6,e7⟩:=j.get (upM c (by decide));exact⟨p,k,lo,hi,(cY (by decide)).trans u,e2,bf e3 b.size,e4.below b,fun c=>(e5 (upM c (by decide))).put (by decide),fun c=>(e6 (upM c (by decide))).put (by decide),fun _=>⟨W.heap.size,dF,.inr e3⟩⟩,fun c=>by rw[cY (by decide),cY (by decide)];exact j.mov (upM c (by decide)),fun c=>by rw[cY (by decide),cY (by decide)];exact j.ext (upM c (by decide)),fun c=>by rw[pE (by decide)];exact((j.al8 (upM c (by decide))).later b).put (by decide),fun c E=>((j.al9 (upM c (by decide)) (upM E (by decide))).later b).put (by decide),fun c=>by
     obtain⟨p,k,u,e2⟩:=j.st9 (upM c (by decide));exact⟨p,k,(cY (by decide)).trans u,(e2.later b).put (by decide)⟩,fun _=>by rw[pE (by decide),hd];exact Ca j.bel⟩
   ·have X:=Q ⟨22,.data⟩ (by simp) rfl rfl;have j:=i.o;obtain⟨g,e,z,s⟩:=j.al8 X;rw[A]at s;rw[e]at y;show Oper.wp _ _ _ _ _ _;refine iQ (ops:= #[]) rfl (ay rfl 84 _ _ rfl _ (mv G.m) (by simp[Act.eval,y]) (by simp[Act.eval,y]) _ _ s (bh _) (by simp[bO]) (dQ _) ?_)
    exact⟨rfl,J undef _ ⟨trivial,below_setRow j.bel z _,fun c=>(j.get (upM c (by decide))).set fun lo hi o8 o9 o0=>Cb (o8 X) e,fun c=>j.mov (upM c (by decide)),fun c=>j.ext (upM c (by decide)),fun _=>⟨g,e,z,aL _ _ _ _ _ _ s⟩,fun c E=>(j.al9 (upM c (by decide)) (upM E (by decide))).set s (by decide),fun c=>by
     obtain⟨p,k,u,e2⟩:=j.st9 (upM c (by decide));exact⟨p,k,u,e2.set s (by decide)⟩,fun c=>by rw[pE (by decide)];exact(j.al0 (upM c (by decide))).set s (by decide)⟩⟩
   ·have X:=Q ⟨23,.data⟩ (by simp) rfl rfl;have j:=i.o;obtain⟨g,e,z,s⟩:=j.al9 X A;obtain⟨p,k,a,aT⟩:=j.ext (Q ⟨20,.data⟩ (by simp) rfl rfl);rw[aT]at y;rw[e]at y;show Oper.wp _ _ _ _ _ _;refine iQ (ops:= #[]) rfl (ay rfl 51 _ _ rfl _ #[.slice p G.l.length k,ag G.n] (by simp[Act.eval,y]) (by simp[Act.eval,y]) _ _ s (by kernel_rfl) rfl (by simp[Value.oneCell']) ?_);exact⟨rfl,J undef _ ⟨trivial,below_setRow j.bel z _,fun c=>(j.get (upM c (by decide))).set fun lo hi o8 o9 o0=>Cb (o9 X) e,fun c=>j.mov (upM c (by decide)),fun c=>j.ext (upM c (by decide)),fun c=>by rw[pE (by decide)];exact(j.al8 (upM c (by decide))).set s (by decide),fun _ c=>by simp at c,fun _=>⟨p,k,a,g,e,z,aL _ _ _ _ _ _ s⟩,fun c=>by rw[pE (by decide)];exact(j.al0 (upM c (by decide))).set s (by decide)⟩⟩
   ·have X:=Q ⟨24,.data⟩ (by simp) rfl rfl;have j:=i.o;obtain⟨g,e,z,s⟩:=j.al0 X;rw[A]at s;rw[e]at y;show Oper.wp _ _ _ _ _ _;refine iQ (ops:= #[]) rfl (ay rfl 93 _ _ rfl _ #[ag G.er,ag (G.at_:Int)] (by simp[Act.eval,y]) (by simp[Act.eval,y]) _ _ s (by kernel_rfl) rfl (by simp[Value.oneCell']) ?_)
    exact⟨rfl,J undef _ ⟨trivial,below_setRow j.bel z _,fun c=>(j.get (upM c (by decide))).set fun lo hi o8 o9 o0=>Cb (o0 X) e,fun c=>j.mov (upM c (by decide)),fun c=>j.ext (upM c (by decide)),fun c=>by rw[pE (by decide)];exact(j.al8 (upM c (by decide))).set s (by decide),fun c E=>(j.al9 (upM c (by decide)) (upM E (by decide))).set s (by decide),fun c=>by
     obtain⟨p,k,u,e2⟩:=j.st9 (upM c (by decide));exact⟨p,k,u,e2.set s (by decide)⟩,fun _=>⟨g,e,z,aL _ _ _ _ _ _ s⟩⟩⟩
  ·rintro M φ C hM S;obtain⟨R,N,lo,hi,a,bv,bu,aE,_,o9,_⟩:=S.get (hM 17 (by decide) rfl);obtain⟨g8,e8,l8,k8⟩:=S.al8 (hM 22 (by decide) rfl);rw[hM 25 (by decide) rfl]at k8;obtain⟨p',E,O,g9,e9,l9,k9⟩:=S.st9 (hM 26 (by decide) rfl);obtain⟨br,aS,b2,b0⟩:=S.al0 (hM 24 (by decide) rfl)
   obtain⟨rfl,rfl⟩:R=p'/\N=E:=by
    rw[a]at O;simp only[mtT,Value.tuple.injEq,Value.agg.injEq,Array.mk.injEq,List.cons.injEq,Value.slice.injEq,and_true,true_and]at O;exact O
   have a6:=S.bel;simp only[kn,td,nk,eh,aQ,aX,Act.put,aA,aK,aJ];rw[a,S.mov (hM 18 (by decide) rfl),a,e8,e9,aS];generalize φ 44=b3;have I:=aw ad.o a6;have bn:=bt a6 Z;have D:=bt I L.o.blk;have bw:w.heap.size<w1.heap.size:=aH Z
   have th:C.there gD 7 2:=fun j hj=>by
    refine⟨?_,bl _ _ _ _ _ D⟩;match j,hj with
    |0,_=>exact Option.isSome_iff_exists.2 ⟨_,cr 7 D rfl⟩
    |1,_=>exact Option.isSome_iff_exists.2 ⟨_,cr 8 D rfl⟩
   have aZ:(C.setCells gD 7 [.slice R G.l.length N,ag G.n]).heap[gD]? =ah #[rv,t.ev,t.sv,t.av,.slice pc (eW d.rules).length cc,.slice (some (ae gv ov)) d.vers.length a2,ag d.given,.slice R G.l.length N,ag G.n] 53:=aY _ gD 8 _ _ _ (aY C gD 7 _ _ _ D);have ho: ∀q,q≠gD->(C.setCells gD 7 [.slice R G.l.length N,ag G.n]).heap[q]? =C.heap[q]? :=fun q Y=>fz gD _ _ C q Y;have aG:(C.setCells gD 7 [.slice R G.l.length N,ag G.n]).heap.size=C.heap.size:=(by simp[World.setCells]);have ao:(C.setCells gD 7 [.slice R G.l.length N,ag G.n]).os=C.os/\(C.setCells gD 7 [.slice R G.l.length N,ag G.n]).tape=C.tape/\(C.setCells gD 7 [.slice R G.l.length N,ag G.n]).output=C.output:=⟨rfl,rfl,rfl⟩
   have bm:=(ho g8 (by omega)).trans k8;have aM:=(ho w.heap.size (by omega)).trans bn;generalize bk:C.setCells gD 7 [.slice R G.l.length N,ag G.n]=W3 at*;have aO:=aF th;have HR:=aF (aL _ _ _ (mv G.m) _ _ aM)
   have HO:PN (dt B gD {d with kept:=G.l,runs:=G.n} t (W3.setRow w.heap.size (mv G.m))/\Kd gD t t w (W3.setRow w.heap.size (mv G.m))):=by
    have hk: ∀q,q<w.heap.size->q≠gD->(W3.setRow w.heap.size (mv G.m)).heap[q]? =w.heap[q]? :=fun q hl Y=>((aV _ _ _ _ (by omega)).trans (ho q Y)).trans (I.block q hl);have ar:w.heap.size<=(W3.setRow w.heap.size (mv G.m)).heap.size:=(by simp;rw[aG];exact I.size);have a0: ∀{Φ:World->Prop},Rob (Fx gD t) Φ w->Rob (Fx gD t) Φ (W3.setRow w.heap.size (mv G.m)):=fun hR=>hR.move ar (fun q Y hl=>hk q hl Y.1.1) fun _ _ h=>h;have U:=ai.o;refine⟨⟨⟨U.flt,U.vl,?_,U.rl,U.sl,U.al,U.gv,U.nm,U.sv,U.ap⟩,rv,_,_,.slice R G.l.length N,ss,aa,L.o.put ar hk ((aV _ _ _ _ (by omega)).trans aZ) rfl rfl rfl (a0 L.o.rules) (a0 L.o.codes) (a0 L.o.vers) ?_⟩,⟨?_,?_,?_,ar,fun q Y hl=>hk q hl Y.1,fun _ _ h=>h,rfl⟩⟩
    ·rw[<-HG.o];exact Kl U.kl
    ·refine aE.move (by simp;rw[aG];exact aB _) (fun q Y _=> ?_) (fun q _ Y=>H0.o.fx (.inr (by omega)));exact(aV _ _ _ _ (by omega)).trans (ho q (by omega))
    ·exact ao.1.trans I.os
    ·exact ao.2.1.trans I.tape
    ·exact ao.2.2.trans I.output
   have HP:=aF (HM.o (fun p=>(.agg (mv G.m):Value)= .agg (mv p.1)/\dt B gD p.2 t (W3.setRow w.heap.size (mv G.m))/\Kd gD t t w (W3.setRow w.heap.size (mv G.m))) ⟨fun q=>absurd q (by omega),fun _=>by
    have e:jc (eW d.rules) d.kept d.runs (d.vers.getD (ki:Int).toNat 0) ki day=G:=(by rw[cj,aP.o];exact HG.o);rw[e];exact⟨rfl,HO.o⟩⟩)
   go_wp2_with(first|(refine aR rfl 51 _ rfl _ rfl _ _ _ _ k9 zN rfl (by kernel_rfl) ?_;clear k9)|(refine wpList_store_mid rfl 51 _ _ rfl gD 7 #[.slice R G.l.length N,ag G.n] rfl rfl ?th (by kernel_rfl) (by simp[Value.oneCell']) ?_;(case th=>exact aO.o);rw[bk])|(refine aR rfl 84 _ rfl _ rfl _ _ _ _ bm bV rfl (bh _) ?_)|(refine ay rfl 84 _ _ rfl _ _ rfl rfl _ _ aM (bh _) (by simp[bO]) (dQ _) ?_))
   refine aW (v:= .agg (mv G.m)) ?_ rfl ⟨by rw[HP.o.1],HP.o.2⟩;exact bc rfl _ _ w.heap.size _ _ _ _ rfl HR.o bV rfl (bh _)
end
end
theorem iB {p:Array Oper}{f:List Oper}{o:Oper}{a:Act}{Q:Exit->Act->World->Prop}{w:World}(A:o.guard=none)(s x:Operand)(r T:TypeId){z:Value}{size d:Nat}(P:o.op= .call {callee:= .builtin .append,args:= #[s,x],argTypes:= #[r,r]})
  (D:prog.underlying r=some (.slice T)) (B:(prog.info? T).map (fun i=>(i.zero,i.size,i.bytes))=some (some z,size,d)) (U:z.cells.size=size) (C:0<size) (y:d<=1000)
  {e n:Nat} {v:Value} {xs:List Value} (R:a.eval s=v) (m:w.ownsRow e T size v n xs) {g c:Nat} {b:Array Value} (S:a.eval x= .slice (some (ae g 0)) 1 c) (O:w.heap[g]? =ah b T) (N:b.size=size) (K:b.all (·.oneCell')=true) (V:n<=100000) (k:e<=w.heap.size)
  (h: ∀l w',w'.ownsRow e T size l (n+1) (xs++b.toList)->w.grownBy w' v.ownBlock->(l.ownBlock=v.ownBlock\/l.ownBlock=some w.heap.size)->(∃t J,l= .slice (some (ae t 0)) (n+1) J)->wpList prog p Q f (a.put o.dst l) w'):wpList prog p Q (o::f) a w:=by
 obtain⟨i,hi,F,G,H⟩:=oA B;refine wpList_append_own_at w A s x r P e T i z size d D hi F G H U C v n xs R m ⟨g,0,none⟩ 1 c b.toList S (by rw[bQ,N,Nat.one_mul]) (fun j u E=> ?_) (fun u E=> ?_) (by unfold maxLen;omega) (bf (Nat.mul_le_mul (by omega:n+1<=100001) y) (by decide)) k fun l w' I L _ M=>h l w' I L M ?_
 ·rw[show(⟨g,0,none⟩:Addr).add j=⟨g,j,none⟩ by simp[Addr.add];exact fun h=>h.symm,aZ _ _ _ _ _ _ O,<-bp];exact E
 ·exact(Array.all_eq_true'.1 K) u (Array.mem_toList_iff.1 E)
 ·rcases I.2 with⟨_,q⟩|⟨t,cap,_,q,_⟩
  ·omega
  ·exact⟨t,cap,q⟩
theorem oH {α:Type}{m:Nat}{f:α->Array Value}(a: ∀p,(f p).size=m): ∀{l:List α} {j:Nat} {p:α},l[j]? =some p-> ∀k,k<m->(l.flatMap fun p=>(f p).toList)[j*m+k]? =(f p)[k]?
 |[],j,p,h,_,_=>by simp at h
 |x::l,0,p,h,k,b=>by
  have:x=p:=(by simpa using h);subst this;rw[List.flatMap_cons,Nat.zero_mul,bN,du (by rw[bQ,a];exact b),bp]
 |x::l,j+1,p,h,k,b=>by
  rw[List.flatMap_cons,dj (by rw[bQ,a,Nat.add_mul];omega),bQ,a];have:=oH a (l:=l) (j:=j) (p:=p) (by simpa using h) k b;rw[show(j+1)*m+k-m=j*m+k by rw[Nat.add_mul];omega];exact this
theorem jQ {α:Type}{m a e n:Nat}{f:α->Array Value}{w:World}{v:Value}{l:List α}(b: ∀p,(f p).size=m)(h:w.ownsRow a e m v n (l.flatMap fun p=>(f p).toList))(s:n=l.length){j:Nat}{p:α}(d:l[j]? =some p): ∃g c,v= .slice (some (ae g 0)) n c/\a<=g/\w.rangeAt g (j*m) (f p).toList:=by
 obtain⟨g,c,r,o,q⟩:=r7 h (by have:=(aG.1 d).1;omega);refine⟨g,c,r,o,fun k u i=>q _ u ?_⟩;rw[oH b d k (by have:=(aG.1 i).1;rw[bQ,b]at this;exact this),<-bp];exact i
theorem nbs (w:World)(z c:Array Value)(T:TypeId): ∃a W,w.alloc (.cells z T)=a/\a.heap[w.heap.size]? =ah z T/\a.setRow w.heap.size c=W/\aq w W/\W.heap[w.heap.size]? =ah c T:=by
 obtain⟨a,d,e,b⟩:=nb w z T;exact⟨a,_,d,b,rfl,below_setRow e (aB _) c,aL _ _ _ c _ _ b⟩
def apZ:Array Value:= #[ag 0,ag 0,ag 0,ag 0,ag 0,ag 0,ag 0,ag 0,ag 0,ag 0,af]
theorem iJ (a:Ap)(p:Option Addr)(n c:Nat):(apC (a,.slice p n c)).all (·.oneCell')=true:=by simp[apC,Value.oneCell']
theorem O0:(prog.info? 87).map (fun i=>(i.zero,i.size,i.bytes))=some (some (.agg #[ag 0,ag 0]),2,16):=by kernel_rfl
theorem sM (p:Ap×Value):(apC p).size=11:=rfl
theorem we (p:Sv×Value):(svC p).size=4:=rfl
def tkB (r day b:Int)(a:Ap)(i:Nat):Bool:=(((i:Int) !=b)&&((a.st !=3)&&((a.day==day)&&decide (r∈a.who))))
theorem Fw (r day b:Int){l:List Ap}{j:Nat}{a:Ap}(h:l[j]? =some a):ie r day b (l.drop j) j=if tkB r day b a j=true then(a.fr,a.to)::ie r day b (l.drop (j+1)) (j+1) else ie r day b (l.drop (j+1)) (j+1):=by
 obtain⟨c,d⟩:=aG.1 h;rw[bx c,d];have e:(tkB r day b a j=true)=((j:Int)≠b/\a.st≠3/\a.day=day/\r∈a.who):=by simp[tkB]
 simp only[ie,e]
end Go.Proofs.YtaoljfdfhggbbaaGreatDoor
