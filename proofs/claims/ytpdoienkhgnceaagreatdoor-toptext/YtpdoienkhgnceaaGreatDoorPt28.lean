/- Texts of the proof. -/
import Derived.Test.YtpdoienkhgnceaaGreatDoorPt27
import Derived.Lib.ItoaNum
import Derived.Lib.Join
set_option maxRecDepth 100000
set_option maxHeartbeats 8000000
namespace Go.Proofs.YtpdoienkhgnceaaGreatDoor
open Go.Proofs.Tryz Go.RowKit Lx Vx Mx Msk
theorem Je (t:List UInt8)(w:World):Calls prog 33 #[.string ⟨t.toArray⟩] w fun e f=>e= .returned (.agg (doC (cR t) (af) (af)))/\ao w f:=by
 obtain⟨i,g,a,b⟩:=nb w #[ag 0,ag 0,ag 0,ag 0,.string ⟨#[]⟩,.string ⟨#[]⟩,ag 0,ag 0,ag 0,af,ag 0,ag 0,af] 55;have d:=aG (aK _ _ _ #[ag 1,ag 0,ag 0,ag 0,.string ⟨t.toArray⟩,.string ⟨#[]⟩,ag 0,ag 0,ag 0,af,ag 0,ag 0,af] _ _ b);have c:=aG (below_setRow a (aA _) #[ag 1,ag 0,ag 0,ag 0,.string ⟨t.toArray⟩,.string ⟨#[]⟩,ag 0,ag 0,ag 0,af,ag 0,ag 0,af]);clear a;go_enter func33,ntmps33;go_wp2_with(refine aC rfl 55 _ _ rfl _ _ rfl rfl _ _ b (by kernel_rfl) rfl (by simp[Value.oneCell']) ?_)
 refine aX (v:= .agg #[ag 1,ag 0,ag 0,ag 0,.string ⟨t.toArray⟩,.string ⟨#[]⟩,ag 0,ag 0,ag 0,af,ag 0,ag 0,af]) ?_ rfl ⟨rfl,c.o⟩;exact bn rfl _ _ w.heap.size _ _ _ _ rfl d.o doT rfl (by kernel_rfl)
theorem LS (n day days:Int)(w:World):Calls prog 12 #[ag n,ag day,ag days] w fun e f=>e= .returned (.agg (doC (cF n day days) (af) (af)))/\ao w f:=by
 obtain⟨i,g,a,b⟩:=nb w #[ag 0,ag 0,ag 0,ag 0,.string ⟨#[]⟩,.string ⟨#[]⟩,ag 0,ag 0,ag 0,af,ag 0,ag 0,af] 55;have d:=aG (aK _ _ _ #[ag 4,ag n,ag day,ag days,.string ⟨#[]⟩,.string ⟨#[]⟩,ag 0,ag 0,ag 0,af,ag 0,ag 0,af] _ _ b);have c:=aG (below_setRow a (aA _) #[ag 4,ag n,ag day,ag days,.string ⟨#[]⟩,.string ⟨#[]⟩,ag 0,ag 0,ag 0,af,ag 0,ag 0,af]);clear a;go_enter func12,ntmps12;go_wp2_with(refine aC rfl 55 _ _ rfl _ _ rfl rfl _ _ b (by kernel_rfl) rfl (by simp[Value.oneCell']) ?_)
 refine aX (v:= .agg #[ag 4,ag n,ag day,ag days,.string ⟨#[]⟩,.string ⟨#[]⟩,ag 0,ag 0,ag 0,af,ag 0,ag 0,af]) ?_ rfl ⟨rfl,c.o⟩;exact bn rfl _ _ w.heap.size _ _ _ _ rfl d.o doT rfl (by kernel_rfl)
def oC (t:List UInt8)(len:Int)(a:Value):List (Cm×Value×Value):=[(cR t,af,af),(cAd,af,af),(cS (sv1 len),a,af)]
theorem Ql (t:List UInt8)(len:Int)(w:World)(z:t.length<=9223372036854775807):Calls prog 11 #[.string ⟨t.toArray⟩,ag len] w fun e C=> ∃v a,e= .returned v/\ao w C/\qB w.heap.size C v (oC t len a):=by
 have c1:=Je t w;go_enter func11,ntmps11;go_wp2_with fail;refine c1.mono ?_;rintro e wr ⟨rfl,y⟩;clear c1;obtain⟨D,K,b1,A⟩:=nb wr #[ag 0] 3;obtain⟨m,L,b2,B⟩:=nb D #[.slice (some (ae wr.heap.size 0)) 1 1] 43;have d:=aG y;have b:=aG b1;have c:=aG b2;have r:=aG A;have f:=aG B;have F:=aG z;clear b1 b2 A B y z;dsimp only[doC];go_wp2_with fail;go_ret;obtain⟨a,l⟩:=aq (.slice (some (ae D.heap.size 0)) 1 1:Value)
 suffices H: ∀W,m.alloc (.cells ((oC t len a).flatMap fun q=>(doC q.1 q.2.1 q.2.2).toList).toArray 55)=W->ao w W/\qB w.heap.size W (.slice (some (ae m.heap.size 0)) 3 3) (oC t len a) by
  rw[l];exact⟨_,a,rfl,H _ rfl⟩
 intro N G;obtain⟨J,g,b3,I⟩:=nb m ((oC t len a).flatMap fun q=>(doC q.1 q.2.1 q.2.2).toList).toArray 55;rw[G]at g;subst g;have x:=(au d.o b.o).trans (c.o.mono (bh d.o.size b.o.size));refine⟨au x b3,Cr (n:=3) I x.size rfl (by decide),fun q j u M ha=> ?_⟩;have i: ∀k,k<m.heap.size->u.heap[k]? =m.heap[k]? :=fun k s=>(ha k (fun e=>Nat.ne_of_lt s (ay e)) (aT s b3.size)).trans (b3.block k s);subst l;rcases bv.1 j with rfl|j
 ·exact Ez _ rfl rfl F.o (dU _)
 rcases bv.1 j with rfl|j
 ·exact Ez _ rfl rfl (dU _) (by decide)
 cases bJ.1 j;have E:=bt c.o r.o;exact⟨Qi ((i _ (aH f.o)).trans f.o) (NL ((i _ (aH E)).trans E)),LR,dU _,dU _,fun p n k e=>by cases e;exact aA _⟩
def Tm (c:List Cm)(w:World)(e:Ending)(b:World):Prop:= ∃(a:An) (d lv:Value),(fW dk0 c).1[c.length-1]? =some a/\e= .returned (.agg (anC a d lv))/\qz w.heap.size b d a.who/\fk b lv a.list/\ao w b
theorem Jf (l:List Cm):(fW dk0 l).1.length=l.length:=by rw[(LK l).1,Ct]
theorem NZ (b:List (Cm×Value×Value))(v:Value)(w:World)(N:qQ w v b)(h0:0<b.length)(I:b.length<=60)(Y:Tbs w.heap.size w)(z: ∀q∈b,NR q.1):Calls prog 10 #[v] w (Tm (b.map fun q=>q.1) w):=by
 obtain⟨wA,hA,l,Q⟩:=nb w #[ag 0,ag 0,ag 0,ag 0,af,af] 47
 have c1:=NY w.heap.size [w.heap.size] b v wA l.size (N.below l) (fun W hW=>Y W (l.trans hW)) z (fun q i u hu ha=>by
  obtain⟨_,_,_,_,h3⟩:=id N;obtain⟨j,hj⟩:=List.getElem?_of_mem i;exact FJ (h3 j q hj).1.who fun k x=>(ha k x (aT x l.size)).trans (l.block k x)) (fun q i=>by
  cases bJ.1 i;exact⟨aA _,_,_,_,Q,by decide⟩)
 have s:=aG l;have NA:=aG Q;obtain⟨n,Z⟩: ∃n,b.length=n+1:=⟨b.length-1,by omega⟩
 have m:(b.map fun q=>q.1).length=n+1:=by rw[bm,Z]
 obtain⟨L,X⟩:=aq (b.map fun q=>q.1);rw[X]at m c1⊢;have V:n+1<=60:=by omega
 clear l Q Y z N Z X h0 I;go_enter func10,ntmps10;go_wp2_with fail;refine c1.mono ?_;clear c1;rintro e w5 ⟨b5,h5⟩;rcases h5 with⟨F,_⟩|⟨F,ae,ev,sv,av,ab,ss,aa,ls,rfl,J⟩
 ·omega
 clear F;have d:=J.here
 have y:ls.length=n+1:=by
  have:=congrArg List.length d.ane;rw[bm,Jf,m]at this;exact this
 obtain⟨us,A,P⟩:=d.rules;obtain⟨p1,k1,rfl⟩:=A.form;obtain⟨p2,k2,rfl⟩:=dy d.res;obtain⟨p3,k3,rfl⟩:=dy d.svs;obtain⟨pa,ka,rfl⟩:=dy d.aps;obtain⟨q,i⟩: ∃q,ls[n]? =some q:=⟨_,az (by omega)⟩
 have H:(fW dk0 L).1[L.length-1]? =some q.1:=by
  rw[m,Nat.add_sub_cancel,<-d.ane,bf,i];rfl
 have r:Rob (fun k=>k∉[w.heap.size]) (fun u=>qz w.heap.size u q.2.1 q.1.who/\fk u q.2.2 q.1.list) w5:=J.imp fun u hu=>hu.anr q (aL i);obtain⟨K,M⟩:=d.anr q (aL i);obtain⟨⟨E,B,U,_,_⟩,_⟩:=K;obtain⟨D,kl,T,_,_⟩:=M;obtain⟨g,c,hv,O,R⟩:=qp (f:=fun p:An×Value×Value=>anC p.1 p.2.1 p.2.2) (fun _=>rfl) d.ans rfl i;subst hv;clear J d A O P i;obtain⟨a,wv,lv⟩:=q;dsimp only at r U T R H;subst U T;have G:=aG r;have HF:=aG H;rw[y];clear y r H;generalize us.length=n1;generalize ss.length=n3;generalize aa.length=n4;generalize (fW dk0 L).2.res.length=n2;generalize (fW dk0 L).2.runs=rn;obtain⟨wZ,wC,hZ,nZ,hC,t,nC⟩:=nbs w5 #[af,af,af,af] #[.slice p1 n1 k1,.slice p2 n2 k2,.slice p3 n3 k3,.slice pa n4 ka] 107;have r4:=gU R t;have C:=bt t (bt b5 NA.o);have HB:=aG (s.o.trans ((au b5 t).mono s.o.size));have HW:=aG (below_setRow HB.o (aA _) (anC a (.slice E a.who.length B) (.slice D a.list.length kl)));have HX:=aG (aK _ _ _ (anC a (.slice E a.who.length B) (.slice D a.list.length kl)) _ _ C);have S:=aG t;clear R t b5 nC;have ad:IntKind.i64.wrap (((n+1:Nat):Int)-1)=(n:Int):=by rw[bQ];omega
 have ac: ¬((n+1:Nat):Int)=0:=by omega
 go_wp2_with(first|(refine aC rfl 107 _ _ rfl _ _ rfl rfl _ _ nZ (by kernel_rfl) rfl (by simp[Value.oneCell']) ?_;rw[hC])|(refine wpList_load_mid rfl 47 _ rfl g (n*6) rfl (anC a (.slice E a.who.length B) (.slice D a.list.length kl)).toList _ r4 anT rfl (by kernel_rfl) ?_)|(refine aC rfl 47 _ _ rfl _ _ rfl rfl _ _ C (by kernel_rfl) rfl (by simp[anC,Value.oneCell']) ?_))
 refine aX (v:= .agg (anC a (.slice E a.who.length B) (.slice D a.list.length kl))) ?_ rfl (by
  have h:=G.o ((wC.setRow w.heap.size (anC a (.slice E a.who.length B) (.slice D a.list.length kl)))) ?_ ?_
  ·exact⟨a,_,_,HF.o,rfl,h.1,h.2,HW.o⟩
  ·exact bh S.o.size (below_setRow (aF 0 wC) (dU _) _).size
  ·exact fun k x F=>(aQ _ _ _ _ fun e=>x (bJ.2 e)).trans (S.o.block k F))
 ·exact bn rfl _ _ w.heap.size _ _ _ _ rfl HX.o anT rfl (by kernel_rfl)
theorem N0 {c f d:World}{v:Value}{g:List (Cm×Value×Value)}(l:qB c.heap.size f v g)(b1:ao c f)(b2:ao f d)(n day days:Int): ∃a,d.alloc (.cells (doC (cF n day days) (af) (af)) 55)=a/\ao c a/\qB c.heap.size a v g/\qQ a (.slice (some (ae d.heap.size 0)) 1 1) [(cF n day days,af,af)]/\ ∀q∈[((cF n day days,af,af):Cm×Value×Value)],Rob (fun k=>some k≠v.ownBlock) (fun u=>pP u q.1 q.2.1 q.2.2) a:=by
 obtain⟨a,j,b3,m⟩:=nb d (doC (cF n day days) (af) (af)) 55;have b:=au b2 b3
 have i: ∀(P:Nat->Prop),∀q∈[((cF n day days,af,af):Cm×Value×Value)],Rob P (fun u=>pP u q.1 q.2.1 q.2.2) a:=fun P q e u _ _=>by
  cases bJ.1 e;exact Ez _ rfl rfl (dU _) (dU _)
 exact⟨a,j,au b1 b,l.below b,GX (B:=0) (Cr (n:=1) m (dU _) rfl (by decide)) (fun q e=>(i (fun _=>True) q e).here) (by decide:1<9223372036854775808),i _⟩
theorem Qm {t:List UInt8}{L:List Ru}(h:ib t=(0,L))(ha:0<=atP5 L [97]){len:Int}(a:1<=len/\len<=1440)(day days:Int):(fW dk0 [cR t,cAd,cS (sv1 len),cF 0 day days]).1[3]? =some (sG (c1 L len []) 0 day days).1:=by
 rw[(LK _).1];show(jY co0 ([cR t,cAd,cS (sv1 len)]++[cF 0 day days])).1[3]? =_;rw[Cs,NW h ha a];rfl
theorem N1 {d c:World}{v:Value}{t:List UInt8}{len day days:Int}{u:Value}(n:qB d.heap.size c v (oC t len u++[(cF 0 day days,af,af)]))(s:ao d c)(o:Tbs d.heap.size d){A:An}(l:(fW dk0 [cR t,cAd,cS (sv1 len),cF 0 day days]).1[3]? =some A):Calls prog 10 #[v] c fun e g=> ∃(p q:Option Addr) (k m:Nat),e= .returned (.agg (anC A (.slice p A.who.length k) (.slice q A.list.length m)))/\ao c g:=by
 refine(NZ _ v c (n.row (by show 4<9223372036854775808;decide)) (by show 0<4;decide) (by show 4<=60;decide) (fun W r=>o W (au s r)) fun q f=>R9 _ ?_).mono ?_
 ·have:q.1.kind=1\/q.1.kind=2\/q.1.kind=3\/q.1.kind=4:=by
   simp only[oC,List.cons_append,List.nil_append,bv,List.not_mem_nil,or_false]at f;rcases f with rfl|rfl|rfl|rfl
   ·exact .inl rfl
   ·exact .inr (.inl rfl)
   ·exact .inr (.inr (.inl rfl))
   ·exact .inr (.inr (.inr rfl))
  omega
 ·rintro e g ⟨a,w,lv,i,rfl,⟨⟨p,k,rfl,_⟩,_⟩,⟨q,m,rfl,_⟩,j⟩;have b:(fW dk0 [cR t,cAd,cS (sv1 len),cF 0 day days]).1[3]? =some a:=i;rw[l]at b;cases ay b;exact⟨p,q,k,m,rfl,j⟩
theorem LU (w:World)(B:Tbs w.heap.size w):Calls prog 4 #[] w fun e O=>e= .returned (.bool true)/\ao w O:=by
 have c1:=Ql aS 30 w (by decide)
 have A:(fW dk0 [cR aS,cAd,cS (sv1 30),cF 0 7 1]).1[3]? =some ⟨0,0,7,540,[0],[]⟩:=by
  rw[Qm R7 (by decide) (by decide)];exact congrArg some ((R5 (a:=540) (b:=1020) (len:=30) (day:=7) (days:=1) (by decide) (by decide) (by decide) (by decide) (by decide)).trans (aw (by decide)))
 have F:=aG A;have G:=aG B;clear B A;go_enter func4,ntmps4;go_wp2_with fail;refine c1.mono ?_;rintro e P ⟨v,T,rfl,b1,n⟩;clear c1;have i:=aG b1;have r:=aG n;have y:=LS 0 7 1 P;obtain⟨p,k,I⟩:=dy n.1;subst I;clear n b1;go_wp2_with fail;refine y.mono ?_;rintro e V ⟨rfl,b2⟩;clear y;obtain⟨W,R,b3,C,E,D⟩:=N0 r.o i.o b2 0 7 1;have c:=aG b3;have f:=aG C;have t:=aG E;have s:=aG D;clear b3 C E D b2 r;dsimp only[doC,oC,List.length]at*;go_wp2_with(refine Ey rfl _ _ rfl rfl f.o rfl t.o (show 0<1 by decide) s.o (show 4<=100000 by decide) c.o.size ?_;intro U X g u _)
 have d:=c.o.trans u;have j:=aG d;have z:=N1 g d G.o F.o;clear g d u c f t s;refine z.mono ?_;clear z;rintro e Q ⟨M,N,J,K,rfl,b5⟩;obtain⟨Z,Y,S,L,H,x,q⟩:=nbs Q #[ag 0,ag 0,ag 0,ag 0,af,af] #[ag 0,ag 0,ag 7,ag 540,.slice M 1 J,.slice N 0 K] 47;have z0:=cr 0 q rfl;have z3:=cr 3 q rfl;have z4:=cr 4 q rfl;have l:=aG (au j.o b5);have m:=aG (au l.o x);clear b5 x;dsimp only[anC,List.length];go_wp2_with(refine aC rfl 47 _ _ rfl _ _ rfl rfl _ _ L (by kernel_rfl) rfl (by simp[Value.oneCell']) ?_;rw[H])
 go_ret;exact⟨rfl,m.o⟩
namespace Lx
def pad2 (n:Nat):List UInt8:=[UInt8.ofNat (48+n/10),UInt8.ofNat (48+n%10)]
def clockL (n:Int):List UInt8:=pad2 (n.toNat/60)++58::pad2 (n.toNat%60)
def CV (n:Int)(t:Int×Int×Int):Bool:=decide (1<=t.2.2/\t.2.2<=Cal.dim t.1 t.2.1/\Cal.num t.1 t.2.1 t.2.2=n)
def ymdAt (n:Int)(p:Nat×Nat):Int×Int×Int:=(2000+(p.1:Int),1+(p.2:Int),n-Cal.ys (2000+(p.1:Int))-Cal.cum (2000+(p.1:Int)) (1+(p.2:Int))+1)
def Jh:List (Nat×Nat):=(List.range 400).flatMap fun i=>(List.range 12).map fun j=>(i,j)
def ymd (n:Int):Int×Int×Int:=match Jh.find? (fun p=>CV n (ymdAt n p)) with
 |some p=>ymdAt n p
 |none=>(0,0,0)
theorem LW {n y m d:Int}(e:1<=d)(f:d<=Cal.dim y m)(a:Cal.num y m d=n):ymd n=(y,m,d):=by
 obtain⟨b1,b2,b3,w⟩:=Cal.AQ y m (by omega);obtain⟨i,hi⟩: ∃i:Nat,y=2000+(i:Int):=⟨(y-2000).toNat,by omega⟩
 obtain⟨j,r⟩: ∃j:Nat,m=1+(j:Int):=⟨(m-1).toNat,by omega⟩
 have b:ymdAt n (i,j)=(y,m,d):=by
  unfold ymdAt;dsimp only;rw[<-hi,<-r,<-a];unfold Cal.num;congr 2;omega
 have s:(i,j)∈Jh:=List.mem_flatMap.2 ⟨i,ip.2 (by omega),dB.2 ⟨j,ip.2 (by omega),rfl⟩⟩;have c:CV n (ymdAt n (i,j))=true:=by rw[b];exact bc ⟨e,f,a⟩
 unfold ymd;cases hf:Jh.find? (fun p=>CV n (ymdAt n p)) with
 |none=>exact absurd c (List.find?_eq_none.1 hf (i,j) s)
 |some p=>
  have g:=List.find?_some hf;dsimp only at g⊢;generalize ymdAt n p=t at*;obtain⟨v,u,q⟩:=t;obtain⟨k,l,o⟩:=dM g;obtain⟨rfl,rfl,rfl⟩:=Cal.TY v u q y m d k l e f (o.trans a.symm);rfl
def dateL (n:Int):List UInt8:=Lib.decDigits (ymd n).1.toNat++45::(pad2 (ymd n).2.1.toNat++45::pad2 (ymd n).2.2.toNat)
def datesL (a b:Int):List UInt8:=if a=b then dateL a else dateL a++([46,46]++dateL b)
def nt (a:Int)(i:Nat):Bool:=decide ((a.toNat/2^i)%2=1)
def bP (a:Int):Nat->List (List UInt8)
 |0=>[]
 |i+1=>if nt a i then bP a i++[dO.getD i []] else bP a i
def daysL (a:Int):List UInt8:=Lib.join (bP a 7) [44]
def holdP (k:Int):Nat:=if k=6\/k=7 then 0 else if k=8 then 1 else if k=4\/k=5 then 2 else 3
def bareP (e:Ex)(t:Nat->Nat->List UInt8):List UInt8:=
 if e.kind=1 then [110,101,118,101,114] else if e.kind=2 then [97,108,119,97,121,115]
 else if e.kind=3 then clockL e.a++45::clockL e.b else if e.kind=10 then e.name
 else if e.kind=6 then t 0 0++([32,43,32]++t 1 1) else if e.kind=7 then t 0 0++([32,45,32]++t 1 1) else if e.kind=8 then t 0 1++([32,38,32]++t 1 2)
 else if e.kind=9 then t 0 3++([32,115,104,105,102,116,32]++Lib.itoa e.a)
 else if e.kind=4 then [119,101,101,107,108,121,32]++daysL e.a++[58,32]++t 0 2
 else if e.kind=5 then [100,97,116,101,115,32]++datesL e.a e.b++[58,32]++t 0 2 else []
theorem Ak {e:Ex}{t:Nat->Nat->List UInt8}(h:e.kind=1):bareP e t=[110,101,118,101,114]:=by
 unfold bareP;rw[h];rfl
theorem Al {e:Ex}{t:Nat->Nat->List UInt8}(h:e.kind=2):bareP e t=[97,108,119,97,121,115]:=by
 unfold bareP;rw[h];rfl
theorem Am {e:Ex}{t:Nat->Nat->List UInt8}(h:e.kind=3):bareP e t=clockL e.a++45::clockL e.b:=by
 unfold bareP;rw[h];rfl
theorem wJ {e:Ex}{t:Nat->Nat->List UInt8}(h:e.kind=10):bareP e t=e.name:=by
 unfold bareP;rw[h];rfl
theorem Ao {e:Ex}{t:Nat->Nat->List UInt8}(h:e.kind=6):bareP e t=t 0 0++([32,43,32]++t 1 1):=by
 unfold bareP;rw[h];rfl
theorem Aq {e:Ex}{t:Nat->Nat->List UInt8}(h:e.kind=7):bareP e t=t 0 0++([32,45,32]++t 1 1):=by
 unfold bareP;rw[h];rfl
theorem Ar {e:Ex}{t:Nat->Nat->List UInt8}(h:e.kind=8):bareP e t=t 0 1++([32,38,32]++t 1 2):=by
 unfold bareP;rw[h];rfl
theorem As {e:Ex}{t:Nat->Nat->List UInt8}(h:e.kind=9):bareP e t=t 0 3++([32,115,104,105,102,116,32]++Lib.itoa e.a):=by
 unfold bareP;rw[h];rfl
theorem Au {e:Ex}{t:Nat->Nat->List UInt8}(h:e.kind=4):bareP e t=[119,101,101,107,108,121,32]++daysL e.a++[58,32]++t 0 2:=by
 unfold bareP;rw[h];rfl
theorem Av {e:Ex}{t:Nat->Nat->List UInt8}(h:e.kind=5):bareP e t=[100,97,116,101,115,32]++datesL e.a e.b++[58,32]++t 0 2:=by
 unfold bareP;rw[h];rfl
def brk (b:Bool)(s:List UInt8):List UInt8:=if b then [40]++s++[41] else s
def eJ (e:Ex)(a:Nat):List UInt8:=
 brk (decide (holdP e.kind<a)) (bareP e fun j l=>match e.kids.attach[j]? with|some k=>eJ k.1 l|none=>[])
 termination_by SizeOf.sizeOf e
 decreasing_by exact fy k.2
def fj (a:List Ex)(j l:Nat):List UInt8:=match a[j]? with|some k=>eJ k l|none=>[]
theorem uj (e:Ex)(a:Nat):eJ e a=brk (decide (holdP e.kind<a)) (bareP e (fj e.kids)):=by
 rw[eJ];congr 2;funext j l;unfold fj
 have h: ∀(o:Option {x//x∈e.kids}) (p:Option Ex),o.map Subtype.val=p->(match o with|some k=>eJ k.1 l|none=>[])=(match p with|some k=>eJ k l|none=>[]):=by
  intro o p h;subst h;cases o<;>rfl
 exact h _ _ (by rw[<-bf,eY])
theorem iI {a:List Ex}{j l:Nat}{k:Ex}(h:a[j]? =some k):fj a j l=eJ k l:=by unfold fj;rw[h]
theorem uk (n:Nat):(pad2 n).length=2:=rfl
theorem sH (n:Int):(clockL n).length=5:=by simp[clockL,pad2]
theorem tD {u:Nat}(h:u<10000):(Lib.decDigits u).length<=4:=by
 rw[Lib.decDigits_length];by_cases a:u<10
 ·rw[Lib.nDigits_small a];omega
 rw[Lib.nDigits_big a];by_cases b:u/10<10
 ·rw[Lib.nDigits_small b];omega
 rw[Lib.nDigits_big b];by_cases c:u/10/10<10
 ·rw[Lib.nDigits_small c];omega
 rw[Lib.nDigits_big c,Lib.nDigits_small (by omega)];omega
theorem Sc (n:Int):0<=(ymd n).1/\(ymd n).1<=2399:=by
 unfold ymd;cases hf:Jh.find? (fun p=>CV n (ymdAt n p)) with
 |none=>exact⟨by simp,by simp⟩
 |some p=>
  have a:=List.find?_some hf;dsimp only at a⊢;obtain⟨b,c,_⟩:=dM a;have:=Cal.AQ _ _ (Int.le_trans b c);omega
theorem um (n:Int):(dateL n).length<=10:=by
 have h:=Sc n;have:=tD (u:=(ymd n).1.toNat) (by omega);simp[dateL,pad2];omega
theorem Cu (a b:Int):(datesL a b).length<=22:=by
 have c:=um a;have d:=um b;unfold datesL;split
 ·omega
 ·simp;omega
theorem N3: ∀n:Fin 128,(daysL (n.1:Int)).length<=27:=by decide+kernel
theorem yx {a:Int}(b:0<=a)(c:a<128):(daysL a).length<=27:=by
 have:=N3 ⟨a.toNat,by omega⟩;rw[show(((⟨a.toNat,by omega⟩:Fin 128).1:Nat):Int)=a from by simp;omega]at this;exact this
theorem EE {a:Int}(b: -10000<a)(c:a<10000):(Lib.itoa a).length<=5:=by
 unfold Lib.itoa;split
 ·have:=tD (u:=a.natAbs) (by omega);simp;omega
 ·have:=tD (u:=a.toNat) (by omega);omega
theorem yz {l:List UInt8}(h:Go.Proofs.YtpdoienkhgnceaaGreatDoor.namedL l=true):l.length<=20:=by
 unfold Go.Proofs.YtpdoienkhgnceaaGreatDoor.namedL at h;rw[bx,bx]at h;exact dM h.2.1
theorem Qn (b:Bool)(s:List UInt8):(brk b s).length<=s.length+2:=by unfold brk;split<;>simp
theorem N4 {e:Ex}(h:OKE e)(t:Nat->Nat->List UInt8):
  (kidsP e.kind=0->(bareP e t).length<=40)/\(kidsP e.kind=1-> ∃l,(bareP e t).length<=40+(t 0 l).length)/\(kidsP e.kind=2-> ∃l j,(bareP e t).length<=40+(t 0 l).length+(t 1 j).length):=by
 obtain⟨n,o,_,f,i⟩:=h.kinds;have c1:=sH e.a;have k:=sH e.b;have m:=Cu e.a e.b;have g:e.kind=1\/e.kind=2\/e.kind=3\/e.kind=10\/e.kind=6\/e.kind=7\/e.kind=8\/e.kind=9\/e.kind=4\/e.kind=5:=by omega
 rcases g with d|d|d|d|d|d|d|d|d|d
 ·have c:kidsP e.kind=0:=by rw[d];rfl
  rw[Ak d,c];refine⟨fun _=> ?_,fun h=>(by omega),fun h=>(by omega)⟩;simp;try omega
 ·have c:kidsP e.kind=0:=by rw[d];rfl
  rw[Al d,c];refine⟨fun _=> ?_,fun h=>(by omega),fun h=>(by omega)⟩;simp;try omega
 ·have c:kidsP e.kind=0:=by rw[d];rfl
  rw[Am d,c];refine⟨fun _=> ?_,fun h=>(by omega),fun h=>(by omega)⟩;simp;try omega
 ·have:=yz (i d);have c:kidsP e.kind=0:=(by rw[d];rfl);rw[wJ d,c];refine⟨fun _=> ?_,fun h=>(by omega),fun h=>(by omega)⟩;omega
 ·have c:kidsP e.kind=2:=by rw[d];rfl
  rw[Ao d,c];refine⟨fun h=>(by omega),fun h=>(by omega),fun _=>⟨0,1,?_⟩⟩;simp;omega
 ·have c:kidsP e.kind=2:=by rw[d];rfl
  rw[Aq d,c];refine⟨fun h=>(by omega),fun h=>(by omega),fun _=>⟨0,1,?_⟩⟩;simp;omega
 ·have c:kidsP e.kind=2:=by rw[d];rfl
  rw[Ar d,c];refine⟨fun h=>(by omega),fun h=>(by omega),fun _=>⟨1,2,?_⟩⟩;simp;omega
 ·simp[rangeP,d]at f;have:=EE (a:=e.a) (by omega) (by omega);have c:kidsP e.kind=1:=(by rw[d];rfl);rw[As d,c];refine⟨fun h=>(by omega),fun _=>⟨3,?_⟩,fun h=>(by omega)⟩;simp;omega
 ·simp[rangeP,d]at f;have:=yx (a:=e.a) (by omega) (by omega);have c:kidsP e.kind=1:=(by rw[d];rfl);rw[Au d,c];refine⟨fun h=>(by omega),fun _=>⟨2,?_⟩,fun h=>(by omega)⟩;simp;omega
 ·have c:kidsP e.kind=1:=by rw[d];rfl
  rw[Av d,c];refine⟨fun h=>(by omega),fun _=>⟨2,?_⟩,fun h=>(by omega)⟩;simp;omega
theorem N5 (k:Int):kidsP k<=2:=by unfold kidsP;split;omega;split<;>omega
theorem wK: ∀(N:Nat) (e:Ex) (b n:Nat),SizeOf.sizeOf e<=N->(shapeP e b n).1=0->n+1<=(shapeP e b n).2/\ ∀a,(eJ e a).length+50*n<=50*(shapeP e b n).2
 |0,e,_,_,r,_=>by cases e;simp at r
 |N+1,e,b,n,r,h=>by
  have f:OKE e:=⟨b,n,h⟩
  obtain⟨b0,b1,b2⟩:=N4 f (fj e.kids);have c:=f.kinds.2.2.1;have v:=N5 e.kind;have ha:=f.alone;have d: ∀a,(eJ e a).length<=(bareP e (fj e.kids)).length+2:=fun a=>(by rw[uj];exact Qn _ _);rw[jd]at h⊢;split at h
  ·cases h
  rename_i u;rw[aw u];rw[aw (by simpa using ha)]at h⊢;match hk:e.kids,c with
  |[],c=>
   have:=b0 (by simp at c;omega);rw[hk]at this;rw[qH];refine⟨by simp,fun a=> ?_⟩;have:=d a;rw[hk]at this;simp;omega
  |[k],c=>
   obtain⟨l,g⟩:=b1 (by simp at c;omega);rw[hk]at h g;have o:=fy (e:=e) (k:=k) (by simp[hk]);rw[gT,aw (by simp),qH]at h⊢;dsimp only at h⊢;obtain⟨w,q⟩:=wK N k (b+1) (n+1) (by omega) h;have x:=q l;have m:fj [k] 0 l=eJ k l:=rfl;rw[m]at g;refine⟨by omega,fun a=> ?_⟩;have:=d a;rw[hk]at this;omega
  |[k,j],c=>
   obtain⟨l,p,g⟩:=b2 (by simp at c;omega);rw[hk]at h g;have o:=fy (e:=e) (k:=k) (by simp[hk]);have s:=fy (e:=e) (k:=j) (by simp[hk]);rw[gT,aw (by simp),gT,qH]at h⊢;dsimp only at h⊢
   have i:(shapeP k (b+1) (n+1)).1=0:=by
    by_cases i:(shapeP k (b+1) (n+1)).1=0
    ·exact i
    ·rw[ax i]at h;exact h
   rw[aw (by simpa using i)]at h⊢;obtain⟨w,q⟩:=wK N k (b+1) (n+1) (by omega) i;obtain⟨r1,y⟩:=wK N j (b+1) _ (by omega) h;have x:=q l;have z:=y p;have m:fj [k,j] 0 l=eJ k l:=rfl;have t:fj [k,j] 1 p=eJ j p:=rfl;rw[m,t]at g;refine⟨by omega,fun a=> ?_⟩;have:=d a;rw[hk]at this;omega
  |_::_::_::_,c=>simp at c;omega
theorem OKE.len {e:Ex}(h:OKE e)(a:Nat):(eJ e a).length<=30000:=by
 obtain⟨b,n,h⟩:=h;have c:=(wK _ e b n (aA _) h).2 a;have d:=sd h;omega
end Lx
def skp (l:List UInt8):List UInt8:=l.drop (eA false l)
def gz:List T1->List UInt8->List UInt8->Prop
 |[],l,a=>l=a
 |t::b,l,a=>0<l.length/\firstT l=t/\t.err=0/\gz b (skp (l.drop t.len)) a
theorem gz.trans: ∀{f i:List T1} {l m n:List UInt8},gz f l m->gz i m n->gz (f++i) l n
 |[],_,_,_,_,h,g=>by
  have e:_=_:=h;subst e;exact g
 |_::_,_,_,_,_,⟨a,b,c,d⟩,g=>⟨a,b,c,gz.trans d g⟩
theorem Aw {l:List UInt8}: ∀(c:List T1) {a:List (T1×Nat)} {k:Nat},eI l a k->gz c (l.drop k) []-> ∃d b,eI l (a++d) b/\d.map (fun p=>p.1)=c/\ ¬b<l.length
 |[],a,k,h,g=>by
  have e:l.drop k=[]:=g;have:=congrArg List.length e;simp at this;exact⟨[],k,by simpa using h,rfl,by omega⟩
 |t::c,a,k,h,⟨j,i,m,f⟩=>by
  simp only[fi]at j;have s:=h.step (by omega) (by rw[i];exact m);rw[i]at s;unfold skp at f;rw[List.drop_drop,List.drop_drop,List.drop_drop,<-Nat.add_assoc]at f;obtain⟨d,b,n,o,q⟩:=Aw c s f;exact⟨(t,k)::d,b,by simpa using n,by simp[o],q⟩
theorem N6 {l:List UInt8}{b:List T1}(h:gz b (skp l) []): ∃a k,eI l a k/\a.map (fun p=>p.1)=b/\ ¬k<l.length:=by
 have s:=eI.start (l:=l);simp only[List.drop_zero,bN]at s;obtain⟨a,k,c,d,e⟩:=Aw b s h;exact⟨a,k,by simpa using c,d,e⟩
def fJ (l:List UInt8):Prop:= ∃c r,l=c::r/\c.toNat≠32/\c.toNat≠9/\c.toNat≠10/\c.toNat≠35
theorem fJ.app {l:List UInt8}(h:fJ l)(r:List UInt8):fJ (l++r):=by
 obtain⟨c,q,rfl,h⟩:=h;exact⟨c,q++r,rfl,h⟩
theorem d8 {l:List UInt8}(h:fJ l):skp l=l:=by
 obtain⟨c,r,rfl,a,b,d,e⟩:=h;simp[skp,eA,a,b,d,e]
theorem j7 (r:List UInt8):skp (32::r)=skp r:=by simp[skp,eA]
theorem Sd (r:List UInt8):skp (10::r)=skp r:=by simp[skp,eA]
def lC (r:List UInt8):Prop:= ∃c q,r=c::q/\(c=32\/c=41\/c=59)
def sgT (c:UInt8):T1:=⟨3,0,[c],1,0⟩
def toT:T1:=⟨3,0,[46,46],2,0⟩
def wdT (x:List UInt8):T1:=⟨2,0,x,x.length,0⟩
def nmT (x:List UInt8):T1:=⟨1,0,x,x.length,0⟩
def tmT (n:Int):T1:=⟨4,n,[],5,0⟩
def dtT (n:Int):T1:=⟨5,n,[],10,0⟩
def nbT (n:Int)(k:Nat):T1:=⟨6,n,[],k,0⟩
theorem Cv {c:UInt8}{r m:List UInt8}(d:0<m.length)(a:(m.getD 0 0).toNat=48)(b:isD c=false):ir (c::r) m=false:=jK 0 d (by unfold Lx.okB;rw[ax a];simpa using b)
theorem pQ {t:T1}{l r:List UInt8}(a:0<l.length)(b:firstT l=t)(c:t.err=0)(d:l.drop t.len=r):gz [t] l (skp r):=⟨a,b,c,by rw[d];rfl⟩
theorem sX {c:UInt8}{r:List UInt8}(a:isD c=false):firstT (c::r)=if isL c then jW (c::r) else jg (c::r):=by
 unfold firstT;rw[Cv (by decide) (by decide) a,Cv (by decide) (by decide) a];simp[a]
theorem kW {c:UInt8}(r:List UInt8)(b:isD c=false)(d:isL c=false)(a:c≠46)(hi: ¬Lib.indexByte lq c<0):gz [sgT c] (c::r) (skp r):=by
 refine pQ (by simp) ?_ rfl rfl;rw[sX b,d];unfold jg
 have e:Lib.hasPrefix (c::r) [46,46]=false:=by
  unfold Lib.hasPrefix;simp[List.isPrefixOf,Ne.symm a]
 rw[e];simp only[List.getD_cons_zero];simp[hi,sgT]
theorem Qo (r:List UInt8):gz [toT] (46::46::r) (skp r):=by
 refine pQ (by simp) ?_ rfl rfl;rw[sX (by decide)];rw[show isL 46=false by decide];unfold jg
 have a:Lib.hasPrefix (46::46::r) [46,46]=true:=by
  unfold Lib.hasPrefix;simp[List.isPrefixOf]
 rw[a];rfl
theorem Cw {p:UInt8->Bool}{r:List UInt8}(a: ∀c q,r=c::q->p c=false): ∀y:List UInt8,fd p y=y.length->fd p (y++r)=y.length
 |[],_=>by
  cases r with
  |nil=>rfl
  |cons c q=>simp[fd,a c q rfl]
 |c::y,h=>by
  simp only[fd]at h;split at h
  ·rename_i b;have:=Cw a y (by simpa using h);simp[fd,b,this]
  ·simp at h
theorem EF {x r:List UInt8}(a:wordLen x=x.length)(b:x≠[])(e: ∀c q,r=c::q->isC c=false):wordLen (x++r)=x.length/\isL (x.getD 0 0)=true:=by
 cases x with
 |nil=>exact absurd rfl b
 |cons c y=>
  simp only[wordLen]at a;split at a
  ·rename_i d;have:=Cw e y (by simpa using a);simp[wordLen,d,this]
  ·simp at a
theorem Qp {c:UInt8}(h:isL c=true):isD c=false:=by
 unfold isL isD at*;simp at h⊢;omega
theorem Cx {x r:List UInt8}(i:wordLen x=x.length)(a:x≠[])(f:x.length<=20)(g: ∀c q,r=c::q->isC c=false):gz [⟨if isWordL x then 2 else 1,0,x,x.length,0⟩] (x++r) (skp r):=by
 obtain⟨d,e⟩:=EF i a g;cases x with
 |nil=>exact absurd rfl a
 |cons c y=>
  have b:isL c=true:=(by simpa using e);refine pQ (by simp) ?_ rfl (by simp);rw[List.cons_append,sX (Qp b),b,ax rfl];unfold jW;rw[<-List.cons_append,d,aw (by omega)];simp
theorem yA {r:List UInt8}(h:lC r): ∀c q,r=c::q->isC c=false:=by
 rintro c q rfl;obtain⟨a,b,e,h⟩:=h;cases e;rcases h with rfl|rfl|rfl<;>decide
theorem mP {x:List UInt8}(h:namedL x=true):wordLen x=x.length/\x≠[]/\x.length<=20/\isWordL x=false:=by
 unfold namedL at h;simp at h;exact⟨h.2.2.1,fun e=>h.1 e,h.2.1,h.2.2.2⟩
theorem Cy {x r:List UInt8}(h:namedL x=true)(f: ∀c q,r=c::q->isC c=false):gz [nmT x] (x++r) (skp r):=by
 obtain⟨a,b,d,e⟩:=mP h;have:=Cx a b d f;rw[e]at this;exact this
theorem ol {x r:List UInt8}(a:wordLen x=x.length)(b:x≠[])(d:x.length<=20)(e:isWordL x=true)(f: ∀c q,r=c::q->isC c=false):gz [wdT x] (x++r) (skp r):=by
 have:=Cx a b d f;rw[e]at this;exact this
theorem qq (q:List UInt8): ∀c r,(32::q:List UInt8)=c::r->isC c=false:=by
 rintro c r h;cases h;decide
theorem fJ.word {x:List UInt8}(d:wordLen x=x.length)(a:x≠[]):fJ x:=by
 cases x with
 |nil=>exact absurd rfl a
 |cons c y=>
  have h:=(EF (r:=[]) d a (by rintro c q h;cases h)).2;have b:isL c=true:=(by simpa using h);unfold isL at b;simp at b;exact⟨c,y,rfl,by omega,by omega,by omega,by omega⟩
theorem jH {k:Nat}(h:k<=9):(UInt8.ofNat (48+k)).toNat=48+k:=by
 rw[UInt8.toNat_ofNat'];omega
theorem jI {k:Nat}(h:k<=9):isD (UInt8.ofNat (48+k))=true:=by
 unfold isD;rw[jH h];simp;omega
theorem wN {a b:Nat}(ha:a<=9)(c:b<=9):valL [UInt8.ofNat (48+a),UInt8.ofNat (48+b)]=10*(a:Int)+b:=by
 simp only[valL,List.foldl_cons,List.foldl_nil,jH ha,jH c];omega
theorem Tn {a b c d e:UInt8}{r:List UInt8}(ha:isD a=true)(f:isD b=true)(g:c=58)(j:isD d=true)(k:isD e=true):ir (a::b::c::d::e::r) kM=true:=by
 subst g;refine uI (by simp[kM]) fun i hi=> ?_;have hi:i<5:=hi;match i,hi with
 |0,_=>simpa[kM,Lx.okB] using ha
 |1,_=>simpa[kM,Lx.okB] using f
 |2,_=>simp[kM,Lx.okB]
 |3,_=>simpa[kM,Lx.okB] using j
 |4,_=>simpa[kM,Lx.okB] using k
theorem Cz {a:Int}(g:0<=a)(i:a<=1440)(r:List UInt8):gz [tmT a] (clockL a++r) (skp r):=by
 refine pQ (by simp[clockL,pad2]) ?_ rfl (by simp[clockL,pad2,tmT]);have e:clockL a++r=UInt8.ofNat (48+a.toNat/60/10)::UInt8.ofNat (48+a.toNat/60%10)::58::UInt8.ofNat (48+a.toNat%60/10)::UInt8.ofNat (48+a.toNat%60%10)::r:=by simp[clockL,pad2]
 have b:=Tn (r:=r) (jI (k:=a.toNat/60/10) (by omega)) (jI (k:=a.toNat/60%10) (by omega)) rfl (jI (k:=a.toNat%60/10) (by omega)) (jI (k:=a.toNat%60%10) (by omega));rw[<-e]at b;unfold firstT;have c:ir (clockL a++r) iY=false:=jK 2 (by decide) (by rw[e];simp only[List.getD_cons_succ,List.getD_cons_zero];decide);rw[c,b]
 have d:valL (((clockL a++r).drop 0).take 2)=((a.toNat/60:Nat):Int):=by
  rw[e];show valL [_,_]=_;rw[wN (by omega) (by omega)];omega
 have f:valL (((clockL a++r).drop 3).take 2)=((a.toNat%60:Nat):Int):=by
  rw[e];show valL [_,_]=_;rw[wN (by omega) (by omega)];omega
 unfold ng;rw[d,f,aw (by simp),ax rfl,aw (by omega)];unfold tmT;congr 1;omega
theorem Bi: ∀(N u:Nat),u<=N->valL (Lib.decDigits u)=(u:Int)/\ ∀c∈Lib.decDigits u,isD c=true
 |N,u,e=>by
  by_cases h:u<10
  ·rw[Lib.decDigits_one h];refine⟨?_,?_⟩
   ·simp only[valL,List.foldl_cons,List.foldl_nil,jH (show u<=9 by omega)];omega
   ·intro c a;rw[bJ.1 a];exact jI (by omega)
  ·match N with
   |0=>omega
   |N+1=>
    obtain⟨b,d⟩:=Bi N (u/10) (by omega);rw[Lib.decDigits,dif_neg h];refine⟨?_,?_⟩
    ·rw[Br,b,jH (by omega)];omega
    ·intro c a;rcases cZ.1 a with a|a
     ·exact d c a
     ·rw[bJ.1 a];exact jI (by omega)
theorem EG {r:List UInt8}(a: ∀c q,r=c::q->isD c=false): ∀x:List UInt8,(∀c∈x,isD c=true)->fd isD (x++r)=x.length
 |[],_=>by
  cases r with
  |nil=>rfl
  |cons c q=>simp[fd,a c q rfl]
 |c::x,h=>by
  have:=EG a x fun c b=>h c (bj _ b);simp[fd,h c aV,this]
theorem N7 {x:List UInt8}{c:UInt8}{q:List UInt8}(f: ∀c∈x,isD c=true)(j:1<=x.length)(k:x.length<=4)(i:c=32\/c=41\/c=59):ir (x++c::q) iY=false/\ir (x++c::q) kM=false:=by
 have n:(x++c::q).getD x.length 0=c:=by simp
 have g:isD c=false:=by rcases i with rfl|rfl|rfl<;>decide
 have l:Lx.okB 45 c=false:=by rcases i with rfl|rfl|rfl<;>decide
 have m:Lx.okB 58 c=false:=by rcases i with rfl|rfl|rfl<;>decide
 match x,f,j,k with
 |[a],_,_,_=>exact⟨jK 1 (by decide) (by simpa[Lx.okB,iY] using g),jK 1 (by decide) (by simpa[Lx.okB,kM] using g)⟩
 |[a,b],_,_,_=>exact⟨jK 2 (by decide) (by simpa[Lx.okB,iY] using g),jK 2 (by decide) (by simpa[kM] using m)⟩
 |[a,b,d],f,_,_=>
  refine⟨jK 3 (by decide) (by simpa[Lx.okB,iY] using g),jK 2 (by decide) ?_⟩;have:=f d (by simp);unfold isD at this;simp at this;simp[Lx.okB,kM];omega
 |[a,b,d,e],f,_,_=>
  refine⟨jK 4 (by decide) (by simpa[iY] using l),jK 2 (by decide) ?_⟩;have:=f d (by simp);unfold isD at this;simp at this;simp[Lx.okB,kM];omega
theorem EH {k:Nat}(j:k<10000){r:List UInt8}(m:lC r):gz [nbT k (Lib.decDigits k).length] (Lib.decDigits k++r) (skp r):=by
 obtain⟨n,b⟩:=Bi k k (aA _);have l:=tD j;have f:1<=(Lib.decDigits k).length:=by rw[Lib.decDigits_length];exact Lib.nDigits_pos k
 obtain⟨c,q,rfl,e⟩:=m;refine pQ (by simp;omega) ?_ rfl (by simp[nbT]);obtain⟨f1,f2⟩:=N7 (q:=q) b f l e;have g:isD c=false:=by rcases e with rfl|rfl|rfl<;>decide
 have a:=EG (r:=c::q) (by rintro o p h;cases h;exact g) _ b;unfold firstT;rw[f1,f2]
 have i:isD ((Lib.decDigits k++c::q).getD 0 0)=true:=by
  generalize Lib.decDigits k=x at*;cases x with
  |nil=>simp at f
  |cons d x=>simpa using b d aV
 rw[i];unfold mj;rw[a,aw (by simp),aw (by simp),ax rfl,aw (by omega)];simp[nbT,n]
theorem N8 {y:Nat}(c:1000<=y)(d:y<=9999):Lib.decDigits y=[UInt8.ofNat (48+y/1000),UInt8.ofNat (48+y/100%10),UInt8.ofNat (48+y/10%10),UInt8.ofNat (48+y%10)]:=by
 rw[Lib.decDigits,dif_neg (by omega),Lib.decDigits,dif_neg (by omega),Lib.decDigits_two (by omega) (by omega)];have a:y/10/10/10=y/1000:=by omega
 have b:y/10/10%10=y/100%10:=by omega
 rw[a,b];rfl
theorem N9 {a b c d:Nat}(ha:a<=9)(e:b<=9)(f:c<=9)(g:d<=9):valL [UInt8.ofNat (48+a),UInt8.ofNat (48+b),UInt8.ofNat (48+c),UInt8.ofNat (48+d)]=1000*(a:Int)+100*b+10*c+d:=by
 simp only[valL,List.foldl_cons,List.foldl_nil,jH ha,jH e,jH f,jH g];omega
theorem Qq {n:Int}(i:0<=n)(j:n<146097): ∃y m d:Int,ymd n=(y,m,d)/\1<=d/\d<=Cal.dim y m/\Cal.num y m d=n:=by
 obtain⟨a,b,c,e⟩:=Cal.Tq n i j;rw[Cal.OW]at e;have r:=Cal.Hm (Cal.mq n)
 have l: ∀k:Nat,k<=11->n-Cal.ys (Cal.mq n)<Cal.cum (Cal.mq n) ((k:Int)+2)-> ∃m:Int,1<=m/\m<=12/\Cal.cum (Cal.mq n) m<=n-Cal.ys (Cal.mq n)/\n-Cal.ys (Cal.mq n)<Cal.cum (Cal.mq n) (m+1):=by
  intro k;induction k with
  |zero=>
   intro _ f;exact⟨1,by omega,by omega,by rw[Cal.TX];omega,by simpa using f⟩
  |succ k o=>
   intro q f;by_cases g:n-Cal.ys (Cal.mq n)<Cal.cum (Cal.mq n) ((k:Int)+2)
   ·exact o (by omega) g
   ·exact⟨(k:Int)+2,by omega,by omega,by omega,by rw[show(k:Int)+2+1=((k+1:Nat):Int)+2 by omega];exact f⟩
 obtain⟨m,m1,p,t,u⟩:=l 11 (by omega) (by rw[show((11:Nat):Int)+2=13 by omega,Cal.QV];omega);have s:=Cal.De (Cal.mq n) m a b m1 p;refine⟨Cal.mq n,m,n-Cal.ys (Cal.mq n)-Cal.cum (Cal.mq n) m+1,LW (by omega) (by omega) (by unfold Cal.num;omega),by omega,by omega,by unfold Cal.num;omega⟩
theorem Se {a b c d e f g h i j:UInt8}{r:List UInt8}(ha:isD a=true)(m:isD b=true)(n:isD c=true)(o:isD d=true)(p:e=45)(q:isD f=true)(s:isD g=true)(t:h=45)(hi:isD i=true)(u:isD j=true):ir (a::b::c::d::e::f::g::h::i::j::r) iY=true:=by
 subst p t;refine uI (by simp[iY]) fun k l=> ?_;have l:k<10:=l;match k,l with
 |0,_=>simpa[iY,Lx.okB] using ha
 |1,_=>simpa[iY,Lx.okB] using m
 |2,_=>simpa[iY,Lx.okB] using n
 |3,_=>simpa[iY,Lx.okB] using o
 |4,_=>simp[iY,Lx.okB]
 |5,_=>simpa[iY,Lx.okB] using q
 |6,_=>simpa[iY,Lx.okB] using s
 |7,_=>simp[iY,Lx.okB]
 |8,_=>simpa[iY,Lx.okB] using hi
 |9,_=>simpa[iY,Lx.okB] using u
theorem vJ {n:Int}(o:0<=n)(p:n<146097)(r:List UInt8):gz [dtT n] (dateL n++r) (skp r)/\fJ (dateL n):=by
 obtain⟨y,m,d,e,j,k,q⟩:=Qq o p;obtain⟨u,v,m1,t⟩:=Cal.AQ y m (by omega);have s:=(Cal.QU y m).2
 have l:dateL n=UInt8.ofNat (48+y.toNat/1000)::UInt8.ofNat (48+y.toNat/100%10)::UInt8.ofNat (48+y.toNat/10%10)::UInt8.ofNat (48+y.toNat%10)::45::UInt8.ofNat (48+m.toNat/10)::UInt8.ofNat (48+m.toNat%10)::45::UInt8.ofNat (48+d.toNat/10)::UInt8.ofNat (48+d.toNat%10)::[]:=by
  unfold dateL;rw[e];dsimp only;rw[N8 (by omega) (by omega)];rfl
 rw[l];refine⟨pQ (by simp) ?_ rfl (by simp[dtT]),⟨_,_,rfl,?_,?_,?_,?_⟩⟩
 ·simp only[List.cons_append,List.nil_append];unfold firstT;rw[Se (jI (by omega)) (jI (by omega)) (jI (by omega)) (jI (by omega)) rfl (jI (by omega)) (jI (by omega)) rfl (jI (by omega)) (jI (by omega)),ax rfl];have f:=N9 (a:=y.toNat/1000) (b:=y.toNat/100%10) (c:=y.toNat/10%10) (d:=y.toNat%10) (by omega) (by omega) (by omega) (by omega);have g:=wN (a:=m.toNat/10) (b:=m.toNat%10) (by omega) (by omega);have i:=wN (a:=d.toNat/10) (b:=d.toNat%10) (by omega) (by omega);rw[show 1000*((y.toNat/1000:Nat):Int)+100*((y.toNat/100%10:Nat):Int)+10*((y.toNat/10%10:Nat):Int)+((y.toNat%10:Nat):Int)=y by omega]at f;rw[show 10*((m.toNat/10:Nat):Int)+((m.toNat%10:Nat):Int)=m by omega]at g;rw[show 10*((d.toNat/10:Nat):Int)+((d.toNat%10:Nat):Int)=d by omega]at i;unfold kN;simp only[List.drop_zero,List.drop_succ_cons,List.take_succ_cons,List.take_zero];rw[f,g,i];have:mQ y m d=(n,0):=(by unfold mQ;rw[ax ⟨j,k⟩,q]);rw[this];rfl
 ·rw[jH (by omega)];omega
 ·rw[jH (by omega)];omega
 ·rw[jH (by omega)];omega
 ·rw[jH (by omega)];omega
def vK:List (List UInt8)->List T1
 |[]=>[]
 |[x]=>[wdT x]
 |x::y::l=>wdT x::sgT 44::vK (y::l)
theorem EI: ∀x∈dO,wordLen x=x.length/\x≠[]/\x.length<=20/\isWordL x=true:=by decide
theorem CA {q:List UInt8}: ∀(l:List (List UInt8)),l≠[]->(∀x∈l,x∈dO)->gz (vK l) (Lib.join l [44]++58::q) (58::q)/\fJ (Lib.join l [44])
 |[],h,_=>absurd rfl h
 |[x],_,d=>by
  obtain⟨a,b,e,f⟩:=EI x (d x aV);rw[Lib.join_one];have:=ol (r:=58::q) a b e f (by rintro c q h;cases h;decide);rw[d8 ⟨58,q,rfl,by decide,by decide,by decide,by decide⟩]at this;exact⟨this,fJ.word a b⟩
 |x::y::l,_,d=>by
  obtain⟨a,b,e,f⟩:=EI x (d x aV);obtain⟨m,n⟩:=CA (q:=q) (y::l) (by simp) fun z k=>d z (bj _ k);have j:Lib.join (x::y::l) [44]=x++44::Lib.join (y::l) [44]:=(by simp[Lib.join,List.intercalate]);rw[j,dw,List.cons_append];have g:=ol (r:=44::(Lib.join (y::l) [44]++58::q)) a b e f (by rintro c q h;cases h;decide);rw[d8 ⟨44,_,rfl,by decide,by decide,by decide,by decide⟩]at g;have i:=kW (c:=44) (Lib.join (y::l) [44]++58::q) (by decide) (by decide) (by decide) (by decide);rw[d8 (n.app _)]at i;exact⟨g.trans (i.trans m),(fJ.word a b).app _⟩
theorem Ji: ∀n:Fin 128,(∀x∈bP (n.1:Int) 7,x∈dO)/\(n.1=0\/bP (n.1:Int) 7≠[])/\(bP (n.1:Int) 7).foldl (fun s x=>s|||dayBit x) 0=n.1:=by decide+kernel
theorem CB {a:Int}(b:1<=a)(c:a<128):(∀x∈bP a 7,x∈dO)/\bP a 7≠[]/\(bP a 7).foldl (fun s x=>s|||dayBit x) 0=a.toNat:=by
 have:=Ji ⟨a.toNat,by omega⟩;rw[show(((⟨a.toNat,by omega⟩:Fin 128).1:Nat):Int)=a from by simp;omega]at this;refine⟨this.1,?_,this.2.2⟩;rcases this.2.1 with h|h
 ·simp at h;omega
 ·exact h
namespace Lx
def cnt (e:Ex):Nat:=(e.kids.attach.map fun k=>cnt k.1).sum+1
 termination_by SizeOf.sizeOf e
 decreasing_by exact fy k.2
theorem oY (e:Ex):cnt e=(e.kids.map cnt).sum+1:=by
 rw[cnt];show(List.map (cnt∘Subtype.val) e.kids.attach).sum+1=_;rw[<-iU,eY]
def Jj (k a:Int):Int:=if k=3\/k=4\/k=5\/k=9 then a else 0
def Jk (k b:Int):Int:=if k=3\/k=5 then b else 0
def CW (k:Int)(n:List UInt8):List UInt8:=if k=10 then n else []
def iK (e:Ex):Ex:=⟨e.kind,Jj e.kind e.a,Jk e.kind e.b,CW e.kind e.name,e.kids.attach.map fun k=>iK k.1⟩
 termination_by SizeOf.sizeOf e
 decreasing_by exact fy k.2
theorem jr (e:Ex):iK e=⟨e.kind,Jj e.kind e.a,Jk e.kind e.b,CW e.kind e.name,e.kids.map iK⟩:=by
 rw[iK];congr 1;show List.map (iK∘Subtype.val) e.kids.attach=_;rw[<-iU,eY]
def qC (e:Ex):Bool:=decide (aloneP e=0)&&(e.kids.attach.all fun k=>qC k.1)
 termination_by SizeOf.sizeOf e
 decreasing_by exact fy k.2
theorem rU (e:Ex):qC e=true↔aloneP e=0/\ ∀k∈e.kids,qC k=true:=by
 rw[qC,bx,bL,dl];refine and_congr_right fun _=>⟨fun h k a=>h ⟨k,a⟩ (List.mem_attach _ _),fun h k _=>h k.1 k.2⟩
theorem tE (e:Ex):1<=hgt e:=by rw[mr];omega
theorem Qr (e:Ex):1<=cnt e:=by rw[oY];omega
theorem Qs {ks:List Ex}{m:Nat}(h: ∀k∈ks,hgt k<=m):hgtL ks<=m:=by
 induction ks with
 |nil=>rw[xJ];omega
 |cons q ks b=>
  rw[mu];have c:=h q aV;have d:=b fun k a=>h k (bj _ a);omega
theorem EJ: ∀(N:Nat) (e:Ex) (a n:Nat),SizeOf.sizeOf e<=N->qC e=true->n+cnt e<=600->a+hgt e<=41->shapeP e a n=(0,n+cnt e)
 |0,e,_,_,f,_,_,_=>by cases e;simp at f
 |N+1,e,a,n,f,ha,j,t=>by
  obtain⟨g,i⟩:=(rU e).1 ha;have:=tE e;have:=Qr e;rw[jd,aw (by omega),aw (by simpa using g)]
  have d: ∀(b:List Ex),(∀k∈b,SizeOf.sizeOf k<=N/\qC k=true/\hgt k<hgt e)-> ∀m:Nat,m+(b.map cnt).sum<=600->gF b (a+1) (0,m)=(0,m+(b.map cnt).sum):=by
   intro b;induction b with
   |nil=>intro _ m _;rfl
   |cons k b p=>
    intro c m l;obtain⟨r,s,u⟩:=c k aV;simp only[cQ,il]at l⊢;rw[gT,aw (by simp),EJ N k (a+1) m r s (by omega) (by omega),p (fun q o=>c q (bj _ o)) _ (by omega),Nat.add_assoc]
  rw[oY]at j⊢;rw[d e.kids (fun k c=>⟨by have:=fy c;omega,i k c,lr c⟩) (n+1) (by omega)];congr 1;omega
theorem EK: ∀(N:Nat) (e:Ex) (a n:Nat),SizeOf.sizeOf e<=N->(shapeP e a n).1=0->(shapeP e a n).2=n+cnt e/\a+hgt e<=41
 |0,e,_,_,l,_=>by cases e;simp at l
 |N+1,e,a,n,l,h=>by
  rw[jd]at h⊢;by_cases c1:600<n+1\/40<a
  ·rw[ax c1]at h;cases h
  rw[aw c1]at h⊢;by_cases j:aloneP e≠0
  ·rw[ax j]at h;exact absurd h j
  rw[aw j]at h⊢
  have i: ∀(b:List Ex),(∀k∈b,SizeOf.sizeOf k<=N)-> ∀m:Nat,(gF b (a+1) (0,m)).1=0->(gF b (a+1) (0,m)).2=m+(b.map cnt).sum/\ ∀k∈b,a+1+hgt k<=41:=by
   intro b;induction b with
   |nil=>intro _ m _;exact⟨rfl,fun k c=>by cases c⟩
   |cons k b r=>
    intro c m d;rw[gT,aw (by simp)]at d⊢
    have g:(shapeP k (a+1) m).1=0:=by
     by_cases g:(shapeP k (a+1) m).1=0
     ·exact g
     ·rw[jX g]at d;exact d
    obtain⟨o,p⟩:=EK N k (a+1) m (c k aV) g;have e:shapeP k (a+1) m=(0,m+cnt k):=Prod.ext g o;rw[e]at d⊢;obtain⟨t,s⟩:=r (fun q f=>c q (bj _ f)) _ d;refine⟨by simp only[cQ,il];omega,fun q f=> ?_⟩;rcases bv.1 f with rfl|f
    ·exact p
    ·exact s q f
  obtain⟨b1,b2⟩:=i e.kids (fun k c=>by have:=fy c;omega) (n+1) h;rw[b1,oY,mr];refine⟨by omega,?_⟩;have:=Qs (ks:=e.kids) (m:=40-a) fun k c=>(by have:=b2 k c;omega);omega
theorem OKE.all: ∀(N:Nat) (e:Ex),SizeOf.sizeOf e<=N->OKE e->qC e=true
 |0,e,a,_=>by cases e;simp at a
 |N+1,e,a,h=>(rU e).2 ⟨h.alone,fun k b=>OKE.all N k (by have:=fy b;omega) (h.kid b)⟩
theorem D8 {c:List Ex}{j k:Ex}(f:c.length=2)(d:c[0]? =some j)(e:c[1]? =some k):c=[j,k]:=by
 match c,f with
 |[a,b],_=>
  simp at d e;rw[d,e]
theorem GB {b:List Ex}{j:Ex}(d:b.length=1)(c:b[0]? =some j):b=[j]:=by
 match b,d with
 |[a],_=>
  simp at c;rw[c]
end Lx
def Rs (a:List T1)(q r:List Tk):Prop:= ∃p:List Tk,p.map (fun x=>x.1)=a/\q=p++r
theorem Rs.nil {q r:List Tk}(h:Rs [] q r):q=r:=by
 obtain⟨p,a,rfl⟩:=h;have:p=[]:=by simpa using a
 subst this;rfl
theorem Rs.cons {t:T1}{c:List T1}{q r:List Tk}(h:Rs (t::c) q r): ∃k b,q=(t,k)::b/\Rs c b r:=by
 obtain⟨p,a,rfl⟩:=h;cases p with
 |nil=>cases a
 |cons x p=>
  obtain⟨e,d⟩:=x;simp only[cQ,List.cons.injEq]at a;obtain⟨rfl,a⟩:=a;exact⟨d,p++r,rfl,p,a,rfl⟩
theorem Rs.app: ∀{b c:List T1} {q r:List Tk},Rs (b++c) q r-> ∃a,Rs b q a/\Rs c a r
 |[],_,q,_,h=>⟨q,⟨[],rfl,rfl⟩,h⟩
 |t::b,c,q,r,h=>by
  obtain⟨k,g,rfl,d⟩:=Rs.cons h;obtain⟨a,⟨p,f,rfl⟩,e⟩:=Rs.app d;exact⟨a,⟨(t,k)::p,by simp[f],rfl⟩,e⟩
def Or4 (h d:Nat)(e:Ex)(x y:Res):Prop:=x=y\/(h<d+hgt e/\ ∃at_,x= .error (4,at_))
def K0 (e:Ex)(a:List T1)(h:Nat):Prop:= ∀(E d:Nat) (x:Ex) (q r:List Tk) (n:Nat),Rs a q r->n+cnt e<=600->isT qr r=false->isT fY r=false->Or4 h d e (rd E 0 d x q n) (rd E 1 d (iK e) r (n+cnt e))
def K1 (e:Ex)(a:List T1)(h:Nat):Prop:= ∀(E d:Nat) (x:Ex) (q r:List Tk) (n:Nat),Rs a q r->n+cnt e<=600->isT fY r=false->Or4 h d e (rd E 2 d x q n) (rd E 3 d (iK e) r (n+cnt e))
def K2 (e:Ex)(a:List T1)(h:Nat):Prop:= ∀(E d:Nat) (x:Ex) (q r:List Tk) (n:Nat),Rs a q r->n+cnt e<=600->isT fY r=false->Or4 h d e (rd E 4 d x q n) (rd E 5 d (iK e) r (n+cnt e))
def K3 (e:Ex)(a:List T1)(h:Nat):Prop:= ∀(E d:Nat) (x:Ex) (q r:List Tk) (n:Nat),Rs a q r->n+cnt e<=600->Or4 h d e (rd E 4 d x q n) (rd E 5 d (iK e) r (n+cnt e))
theorem Or4.mono {h a d:Nat}{e:Ex}{x y:Res}(H:Or4 h d e x y)(f:a<=h):Or4 a d e x y:=by
 rcases H with H|⟨c,b⟩
 ·exact .inl H
 ·exact .inr ⟨by omega,b⟩
theorem K0.mono {e:Ex}{g:List T1}{h f:Nat}(H:K0 e g h)(i:f<=h):K0 e g f:=fun E d x q r n a b c k=>(H E d x q r n a b c k).mono i
theorem K1.mono {e:Ex}{g:List T1}{h f:Nat}(H:K1 e g h)(i:f<=h):K1 e g f:=fun E d x q r n a b c=>(H E d x q r n a b c).mono i
theorem K2.mono {e:Ex}{g:List T1}{h f:Nat}(H:K2 e g h)(i:f<=h):K2 e g f:=fun E d x q r n a b c=>(H E d x q r n a b c).mono i
theorem K3.mono {e:Ex}{f:List T1}{h c:Nat}(H:K3 e f h)(g:c<=h):K3 e f c:=fun E d x q r n a b=>(H E d x q r n a b).mono g
theorem EL {E d:Nat}{e:Ex}{r:List Tk}{n:Nat}(a:isT mG r=false)(b:isT ft r=false):rd E 1 d e r n= .ok (e,r,n):=by
 rw[AO,aw (by rw[a];decide),aw (by rw[b];decide)]
theorem yB {E d:Nat}{e:Ex}{r:List Tk}{n:Nat}(a:isT qr r=false):rd E 3 d e r n= .ok (e,r,n):=by
 rw[Hf,aw (by rw[a];decide)]
theorem yC {E d:Nat}{e:Ex}{r:List Tk}{n:Nat}(a:isT fY r=false):rd E 5 d e r n= .ok (e,r,n):=by
 rw[Hh,aw (by rw[a];decide)]
theorem j8 {E:Nat}{e:Ex}{r:List Tk}{n:Nat}(h:n+1<=600):dp E e r n= .ok (e,r,n+1):=by
 unfold dp;rw[aw (by omega)]
theorem lE {x:List UInt8}{t:T1}{k:Nat}{q:List Tk}(h:(t.text==x)=false): ¬isT x ((t,k)::q)=true:=by
 show¬(t.text==x)=true;rw[h];decide
theorem jR {x:Res}{z:Int×Nat}{f:Ex->List Tk->Nat->Res}(h:x= .error z):dg x f= .error z:=by subst h;rfl
theorem K3.k2 {e:Ex}{c:List T1}{h:Nat}(H:K3 e c h):K2 e c h:=fun E d x q r n a b _=>H E d x q r n a b
theorem K2.k1 {e:Ex}{f:List T1}{h:Nat}(H:K2 e f h):K1 e f h:=fun E d x q r n a b c=>by
 rw[QS];rcases H E d ex0 q r n a b c with H|⟨g,at_,H⟩
 ·rw[H,yC c];exact .inl (lz rfl)
 ·exact .inr ⟨g,at_,jR H⟩
theorem K1.k0 {e:Ex}{f:List T1}{h:Nat}(H:K1 e f h):K0 e f h:=fun E d x q r n a b c k=>by
 rw[QR];rcases H E d ex0 q r n a b k with H|⟨g,at_,H⟩
 ·rw[H,yB c];exact .inl (lz rfl)
 ·exact .inr ⟨g,at_,jR H⟩
theorem K0.brackets {e:Ex}{g:List T1}{h:Nat}(H:K0 e g h)(p:h<=42):K3 e (sgT 40::(g++[sgT 41])) (h-1):=fun E d x q r n a b=>by
 obtain⟨k,f,rfl,i⟩:=a.cons;obtain⟨u,j,l⟩:=i.app;obtain⟨t,v,rfl,m⟩:=l.cons;obtain rfl:=m.nil;have s:=tE e;rw[AN,rt];by_cases c:40<d
 ·rw[ax c];exact .inr ⟨by omega,_,jR rfl⟩
 rw[aw c,ax (show isT g7 ((sgT 40,k)::f)=true from rfl)];simp only[List.tail_cons];rcases H E (d+1) ex0 f _ n j b rfl rfl with H|⟨o,at_,H⟩
 ·rw[H,EL rfl rfl];exact .inl rfl
 ·exact .inr ⟨by omega,at_,by rw[H];rfl⟩
theorem Bj {e k0 a:Ex}(h:e.kids=[k0,a]):cnt e=cnt k0+cnt a+1:=by rw[oY,h];simp
theorem GY {e k0:Ex}(h:e.kids=[k0]):cnt e=cnt k0+1:=by rw[oY,h];simp
theorem Oa {e:Ex}(h:e.kids=[]):cnt e=1:=by rw[oY,h];simp
theorem Sf {e k0 f:Ex}{t0 t1:List T1}(v:e.kind=6)(c:e.kids=[k0,f])(o:K0 k0 t0 41)(s:K1 f t1 41):K0 e (t0++sgT 43::t1) 42:=fun E d x q r n a b t u=>by
 obtain⟨A,k,l⟩:=a.app;obtain⟨p,i,rfl,m⟩:=l.cons;have z:=Bj c;have w:hgt k0<hgt e:=lr (by rw[c];simp);have y:hgt f<hgt e:=lr (by rw[c];simp);rcases o E d x q _ n k (by omega) rfl rfl with H|⟨j,at_,H⟩
 ·rw[H,AO,ax (show isT mG ((sgT 43,p)::i)=true from rfl)];simp only[List.tail_cons];rcases s E d ex0 i r (n+cnt k0) m (by omega) u with g|⟨j,at_,g⟩
  ·rw[g,yB t,lz rfl,j8 (by omega),lz rfl];refine .inl ?_;rw[jr e,v,c,show n+cnt k0+cnt f+1=n+cnt e by omega];rfl
  ·exact .inr ⟨by omega,at_,jR g⟩
 ·exact .inr ⟨by omega,at_,H⟩
theorem Qt {e k0 f:Ex}{t0 t1:List T1}(w:e.kind=7)(c:e.kids=[k0,f])(o:K0 k0 t0 41)(s:K1 f t1 41):K0 e (t0++sgT 45::t1) 42:=fun E d x q r n a b u v=>by
 obtain⟨B,k,l⟩:=a.app;obtain⟨p,i,rfl,m⟩:=l.cons;have A:=Bj c;have y:hgt k0<hgt e:=lr (by rw[c];simp);have z:hgt f<hgt e:=lr (by rw[c];simp);rcases o E d x q _ n k (by omega) rfl rfl with H|⟨j,at_,H⟩
 ·rw[H,AO,aw (lE (x:=mG) (t:=sgT 45) (by decide)),ax (show isT ft ((sgT 45,p)::i)=true from rfl)];simp only[List.tail_cons];rcases s E d ex0 i r (n+cnt k0) m (by omega) v with g|⟨j,at_,g⟩
  ·rw[g,yB u,lz rfl,j8 (by omega),lz rfl];refine .inl ?_;rw[jr e,w,c,show n+cnt k0+cnt f+1=n+cnt e by omega];rfl
  ·exact .inr ⟨by omega,at_,jR g⟩
 ·exact .inr ⟨by omega,at_,H⟩
theorem Sg {e k0 f:Ex}{t0 t1:List T1}(u:e.kind=8)(c:e.kids=[k0,f])(s:K1 k0 t0 41)(t:K2 f t1 41):K1 e (t0++sgT 38::t1) 42:=fun E d x q r n a b i=>by
 obtain⟨z,l,m⟩:=a.app;obtain⟨p,j,rfl,o⟩:=m.cons;have y:=Bj c;have v:hgt k0<hgt e:=lr (by rw[c];simp);have w:hgt f<hgt e:=lr (by rw[c];simp);rcases s E d x q _ n l (by omega) rfl with H|⟨k,at_,H⟩
 ·rw[H,Hf,ax (show isT qr ((sgT 38,p)::j)=true from rfl)];simp only[List.tail_cons];rcases t E d ex0 j r (n+cnt k0) o (by omega) i with g|⟨k,at_,g⟩
  ·rw[g,yC i,lz rfl,j8 (by omega),lz rfl];refine .inl ?_;rw[jr e,u,c,show n+cnt k0+cnt f+1=n+cnt e by omega];rfl
  ·exact .inr ⟨by omega,at_,jR g⟩
 ·exact .inr ⟨by omega,at_,H⟩
def EM (a:Int):List T1:=if a<0 then [sgT 45,nbT a.natAbs (Lib.decDigits a.natAbs).length] else [nbT a.toNat (Lib.decDigits a.toNat).length]
theorem Qu {e k0:Ex}{t0:List T1}(z:e.kind=9)(o:e.kids=[k0])(ha:e.a≠0/\ -1440<e.a/\e.a<1440)(y:K3 k0 t0 40):K3 e (t0++wdT fY::EM e.a) 41:=fun E d x q r n a b=>by
 obtain⟨F,u,v⟩:=a.app;obtain⟨p,A,rfl,i⟩:=v.cons;have D:=GY o;have C:hgt k0<hgt e:=lr (by rw[o];simp);rcases y E d x q _ n u (by omega) with H|⟨B,at_,H⟩
 ·rw[H,Hh,ax (show isT fY ((wdT fY,p)::A)=true from rfl)];refine .inl ?_;unfold EM at i;have s:iK e=⟨9,e.a,0,[],[iK k0]⟩:=(by rw[jr e,z,o];rfl);by_cases g:e.a<0
  ·rw[ax g]at i;obtain⟨t,G,rfl,w⟩:=i.cons;obtain⟨c,f,rfl,j⟩:=w.cons;obtain rfl:=j.nil;have m:eQ ((wdT fY,p)::(sgT 45,t)::(nbT e.a.natAbs (Lib.decDigits e.a.natAbs).length,c)::f)=(nbT e.a.natAbs (Lib.decDigits e.a.natAbs).length,c)::f:=rfl;have k:isT ft ((wdT fY,p)::(sgT 45,t)::(nbT e.a.natAbs (Lib.decDigits e.a.natAbs).length,c)::f).tail=true:=rfl;rw[m,k,aw (show¬kindP ((nbT e.a.natAbs (Lib.decDigits e.a.natAbs).length,c)::f)≠6 from fun h=>h rfl)];have l:numP ((nbT e.a.natAbs (Lib.decDigits e.a.natAbs).length,c)::f)=(e.a.natAbs:Int):=rfl;rw[l,aw (by omega),ax rfl,j8 (by omega),lz rfl];rw[s,show-(e.a.natAbs:Int)=e.a by omega,show n+cnt k0+1=n+cnt e by omega];rfl
  ·rw[aw g]at i;obtain⟨c,f,rfl,j⟩:=i.cons;obtain rfl:=j.nil;have m:eQ ((wdT fY,p)::(nbT e.a.toNat (Lib.decDigits e.a.toNat).length,c)::f)=(nbT e.a.toNat (Lib.decDigits e.a.toNat).length,c)::f:=rfl;have k:isT ft ((wdT fY,p)::(nbT e.a.toNat (Lib.decDigits e.a.toNat).length,c)::f).tail=false:=rfl;rw[m,k,aw (show¬kindP ((nbT e.a.toNat (Lib.decDigits e.a.toNat).length,c)::f)≠6 from fun h=>h rfl)];have l:numP ((nbT e.a.toNat (Lib.decDigits e.a.toNat).length,c)::f)=(e.a.toNat:Int):=rfl;rw[l,aw (by omega),aw (by decide),j8 (by omega),lz rfl];rw[s,show(e.a.toNat:Int)=e.a by omega,show n+cnt k0+1=n+cnt e by omega];rfl
 ·exact .inr ⟨by omega,at_,H⟩
theorem GZ {E d n:Nat}{e k0 g:Ex}{t0:List T1}{q r:List Tk}{p:Nat}(f:e.kids=[k0])(i:K2 k0 t0 41)(a:Rs t0 q r)(b:n+cnt e<=600)(c:isT fY r=false)(j:(⟨g.kind,g.a,g.b,[],[iK k0]⟩:Ex)=iK e):
  Or4 41 d e (rd E 8 d g ((sgT 58,p)::q) n) (.ok (iK e,r,n+cnt e)):=by
 have m:=GY f;have l:hgt k0<hgt e:=lr (by rw[f];simp);rw[QT,ax (show isT ml ((sgT 58,p)::q)=true from rfl)];simp only[List.tail_cons];rcases i E (d+1) ex0 q r n a (by omega) c with H|⟨k,at_,H⟩
 ·rw[H,yC c,lz rfl,j8 (by omega),j,show n+cnt k0+1=n+cnt e by omega];exact .inl rfl
 ·exact .inr ⟨by omega,at_,jR H⟩
theorem G0: ∀x∈dO,dayBit x≠0:=by decide
theorem EN {E d n p:Nat}{c:List Tk}: ∀(l:List (List UInt8)),l≠[]->(∀x∈l,x∈dO)-> ∀(q:List Tk) (s:Nat),Rs (vK l) q ((sgT 58,p)::c)->
  rd E 7 d ⟨0,(s:Int),0,[],[]⟩ q n=rd E 8 d ⟨4,((l.foldl (fun s x=>s|||dayBit x) s:Nat):Int),0,[],[]⟩ ((sgT 58,p)::c) n
 |[],h,_,_,_,_=>absurd rfl h
 |[x],_,b,q,s,a=>by
  obtain⟨k,o,rfl,e⟩:=Rs.cons a;obtain rfl:=e.nil;have f:=G0 x (b x aV);rw[Hi,aw (show¬dayBit (textP ((wdT x,k)::(sgT 58,p)::c))=0 from f),aw (show¬isT mW ((wdT x,k)::(sgT 58,p)::c).tail=true from lE (t:=sgT 58) (by decide))];rfl
 |x::y::l,_,b,q,s,a=>by
  obtain⟨k,o,rfl,e⟩:=Rs.cons a;obtain⟨i,g,rfl,j⟩:=e.cons;have f:=G0 x (b x aV);rw[Hi,aw (show¬dayBit (textP ((wdT x,k)::(sgT 44,i)::g))=0 from f),ax (show isT mW ((wdT x,k)::(sgT 44,i)::g).tail=true from rfl)];exact EN (y::l) (by simp) (fun z m=>b z (bj _ m)) g (s|||dayBit x) j
theorem Sh {e k0:Ex}{t0:List T1}(C:e.kind=4)(l:e.kids=[k0])(ha:1<=e.a/\e.a<128)(A:K2 k0 t0 41):K2 e (wdT eX::(vK (bP e.a 7)++sgT 58::t0)) 41:=fun E d x q r n a b B=>by
 obtain⟨k,f,rfl,o⟩:=a.cons;obtain⟨G,s,u⟩:=o.app;obtain⟨p,D,rfl,v⟩:=u.cons;have F:=tE e;obtain⟨w,y,z⟩:=CB ha.1 ha.2;rw[AN,rt];by_cases j:40<d
 ·rw[ax j];exact .inr ⟨by omega,_,jR rfl⟩
 rw[aw j,aw (lE (x:=g7) (t:=wdT eX) (by decide)),aw (lE (x:=fw) (t:=wdT eX) (by decide)),aw (lE (x:=eW) (t:=wdT eX) (by decide)),ax (show isT eX ((wdT eX,k)::f)=true from rfl)];simp only[List.tail_cons];have i:=EN (E:=E) (d:=d) (n:=n) (bP e.a 7) y w f 0 s;rw[z]at i;have c:rd E 7 d ex0 f n=rd E 8 d ⟨4,((e.a.toNat:Nat):Int),0,[],[]⟩ ((sgT 58,p)::D) n:=i;rw[c];rcases GZ (E:=E) (d:=d) (g:=⟨4,((e.a.toNat:Nat):Int),0,[],[]⟩) (p:=p) l A v b B (by rw[jr e,C,l,show((e.a.toNat:Nat):Int)=e.a by omega];rfl) with H|⟨m,at_,H⟩
 ·rw[H];exact .inl rfl
 ·exact .inr ⟨m,at_,jR H⟩
def EO (a b:Int):List T1:=if a=b then [dtT a] else [dtT a,toT,dtT b]
theorem CC {E d:Nat}{e:Ex}{r:List Tk}{n:Nat}(i: ¬40<d)(a: ¬isT g7 r=true)(b: ¬isT fw r=true)(c: ¬isT eW r=true)(f: ¬isT eX r=true)(g:isT fG r=true)(j: ¬kindP r.tail≠5):
  rd E 6 d e r n=if isT wTo r.tail.tail then
    if kindP r.tail.tail.tail≠5 then dN E 2 r.tail.tail.tail
    else if numP r.tail.tail.tail<numP r.tail then dN E 3 r.tail.tail.tail
    else rd E 8 d ⟨5,numP r.tail,numP r.tail.tail.tail,[],[]⟩ r.tail.tail.tail.tail n
   else rd E 8 d ⟨5,numP r.tail,numP r.tail,[],[]⟩ r.tail.tail n:=by
 rw[rt,aw i,aw a,aw b,aw c,aw f,ax g,aw j]
theorem Qv {E d:Nat}{e:Ex}{r:List Tk}{n:Nat}(i: ¬40<d)(a: ¬isT g7 r=true)(b: ¬isT fw r=true)(c: ¬isT eW r=true)(f: ¬isT eX r=true)(g:isT fG r=true)(j: ¬kindP r.tail≠5)(k: ¬isT wTo r.tail.tail=true):
  rd E 6 d e r n=rd E 8 d ⟨5,numP r.tail,numP r.tail,[],[]⟩ r.tail.tail n:=by
 rw[CC i a b c f g j,aw k]
theorem Qw {E d:Nat}{e:Ex}{r:List Tk}{n:Nat}(j: ¬40<d)(b: ¬isT g7 r=true)(c: ¬isT fw r=true)(f: ¬isT eW r=true)(g: ¬isT eX r=true)(i:isT fG r=true)(k: ¬kindP r.tail≠5)(m:isT wTo r.tail.tail=true)(a: ¬kindP r.tail.tail.tail≠5)(l: ¬numP r.tail.tail.tail<numP r.tail):
  rd E 6 d e r n=rd E 8 d ⟨5,numP r.tail,numP r.tail.tail.tail,[],[]⟩ r.tail.tail.tail.tail n:=by
 rw[CC j b c f g i k,ax m,aw a,aw l]
theorem Qx {e k0:Ex}{t0:List T1}(J:e.kind=5)(y:e.kids=[k0])(ha:e.a<=e.b)(G:K2 k0 t0 41):K2 e (wdT fG::(EO e.a e.b++sgT 58::t0)) 41:=fun E d x q r n a b I=>by
 obtain⟨k,f,rfl,A⟩:=a.cons;obtain⟨Q,i,B⟩:=A.app;obtain⟨p,L,rfl,C⟩:=B.cons;have N:=tE e;by_cases l:40<d
 ·rw[AN,rt,ax l];exact .inr ⟨by omega,_,jR rfl⟩
 have o:=lE (x:=g7) (t:=wdT fG) (k:=k) (q:=f) (by decide);have s:=lE (x:=fw) (t:=wdT fG) (k:=k) (q:=f) (by decide);have u:=lE (x:=eW) (t:=wdT fG) (k:=k) (q:=f) (by decide);have v:=lE (x:=eX) (t:=wdT fG) (k:=k) (q:=f) (by decide);have w:isT fG ((wdT fG,k)::f)=true:=rfl
 have m:rd E 6 d ex0 ((wdT fG,k)::f) n=rd E 8 d ⟨5,e.a,e.b,[],[]⟩ ((sgT 58,p)::L) n:=by
  unfold EO at i;by_cases c:e.a=e.b
  ·rw[ax c]at i;obtain⟨K,M,rfl,j⟩:=i.cons;obtain rfl:=j.nil;refine(Qv l o s u v w (fun h=>h rfl) (lE (x:=wTo) (t:=sgT 58) (by decide))).trans ?_;rw[<-c];rfl
  ·rw[aw c]at i;obtain⟨K,M,rfl,j⟩:=i.cons;obtain⟨O,R,rfl,D⟩:=j.cons;obtain⟨P,S,rfl,F⟩:=D.cons;obtain rfl:=F.nil;exact(Qw l o s u v w (fun h=>h rfl) rfl (fun h=>h rfl) (by show¬(e.b<e.a);omega)).trans rfl
 rw[AN,m];rcases GZ (E:=E) (d:=d) (g:=⟨5,e.a,e.b,[],[]⟩) (p:=p) y G C b I (by rw[jr e,J,y];rfl) with H|⟨z,at_,H⟩
 ·rw[H];exact .inl rfl
 ·exact .inr ⟨z,at_,jR H⟩
theorem Ax {e:Ex}{f:List T1}(j:e.kids=[])(g: ∀(E d:Nat) (q r:List Tk) (n:Nat),¬40<d->n+1<=600->Rs f q r->rd E 6 d ex0 q n= .ok (iK e,r,n+1)):K3 e f 41:=fun E d x q r n a b=>by
 have k:=tE e;have i:=Oa j;rw[AN];by_cases c:40<d
 ·rw[rt,ax c];exact .inr ⟨by omega,_,jR rfl⟩
 rw[g E d q r n c (by omega) a,i];exact .inl rfl
theorem Qy {e:Ex}(g:e.kind=1)(b:e.kids=[]):K3 e [wdT fw] 41:=Ax b fun E d q r n f i a=>by
 obtain⟨k,j,rfl,c⟩:=a.cons;obtain rfl:=c.nil;rw[rt,aw f,aw (lE (x:=g7) (t:=wdT fw) (by decide)),ax (show isT fw ((wdT fw,k)::j)=true from rfl),j8 i,jr e,g,b];rfl
theorem Ob {e:Ex}(g:e.kind=2)(b:e.kids=[]):K3 e [wdT eW] 41:=Ax b fun E d q r n f i a=>by
 obtain⟨k,j,rfl,c⟩:=a.cons;obtain rfl:=c.nil;rw[rt,aw f,aw (lE (x:=g7) (t:=wdT eW) (by decide)),aw (lE (x:=fw) (t:=wdT eW) (by decide)),ax (show isT eW ((wdT eW,k)::j)=true from rfl),j8 i,jr e,g,b];rfl
theorem Oc {E d:Nat}{e:Ex}{r:List Tk}{n:Nat}(i: ¬40<d)(a: ¬isT g7 r=true)(b: ¬isT fw r=true)(c: ¬isT eW r=true)(f: ¬isT eX r=true)(g: ¬isT fG r=true)(l: ¬kindP r=1)(m: ¬kindP r≠4)(j:isT ft r.tail=true)(o: ¬kindP r.tail.tail≠4)(k: ¬numP r.tail.tail<numP r+1):
  rd E 6 d e r n=dp E ⟨3,numP r,numP r.tail.tail,[],[]⟩ r.tail.tail.tail n:=by
 rw[rt,aw i,aw a,aw b,aw c,aw f,aw g,aw l,aw m,ax j,aw o,aw k]
theorem Si {e:Ex}(m:e.kind=3)(c:e.kids=[])(j:e.a<e.b):K3 e [tmT e.a,sgT 45,tmT e.b] 41:=Ax c fun E d q r n l o a=>by
 obtain⟨k,v,rfl,f⟩:=a.cons;obtain⟨s,w,rfl,g⟩:=f.cons;obtain⟨t,u,rfl,i⟩:=g.cons;obtain rfl:=i.nil
 have t0: ∀x:List UInt8,x≠[]-> ¬isT x ((tmT e.a,k)::(sgT 45,s)::(tmT e.b,t)::u)=true:=fun x p h=>by
  have:([]:List UInt8)=x:=(by simpa[isT,textP,tmT] using h);exact p this.symm
 refine(Oc l (t0 _ (by decide)) (t0 _ (by decide)) (t0 _ (by decide)) (t0 _ (by decide)) (t0 _ (by decide)) (show¬(4:Int)=1 by decide) (fun h=>h rfl) rfl (fun h=>h rfl) (show¬(e.b<e.a+1) by omega)).trans ?_;refine(j8 o).trans ?_;rw[jr e,m,c];rfl
theorem Od {x:List UInt8}(h:namedL x=true): ∀w∈jz,x≠w:=fun w a e=>by
 have:=(mP h).2.2.2;subst e;unfold isWordL at this;rw[List.any_eq_false]at this;exact this x a (by simp)
theorem Jl {x:List UInt8}(h:namedL x=true):x≠[40]:=fun e=>by
 subst e;exact absurd h (by decide)
theorem Sj {e:Ex}(m:e.kind=10)(f:e.kids=[])(g:namedL e.name=true):K3 e [nmT e.name] 41:=Ax f fun E d q r n l c a=>by
 obtain⟨k,i,rfl,j⟩:=a.cons;obtain rfl:=j.nil;have t0: ∀x:List UInt8,e.name≠x-> ¬isT x ((nmT e.name,k)::i)=true:=fun x o h=>o (by simpa[isT,textP,nmT] using h);have b:=Od g
 rw[rt,aw l,aw (t0 g7 (Jl g)),aw (t0 fw (b _ (by decide))),aw (t0 eW (b _ (by decide))),aw (t0 eX (b _ (by decide))),aw (t0 fG (b _ (by decide))),
  ax (show kindP ((nmT e.name,k)::i)=1 from rfl),j8 c,jr e,m,f]
 rfl
end Go.Proofs.YtpdoienkhgnceaaGreatDoor
