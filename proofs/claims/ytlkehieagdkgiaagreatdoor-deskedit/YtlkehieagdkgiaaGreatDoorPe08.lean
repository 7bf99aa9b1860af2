/- Texts of the proof. -/
import Derived.Test.YtlkehieagdkgiaaGreatDoorPe07
set_option maxRecDepth 100000
set_option maxHeartbeats 8000000
namespace Go.Proofs.YtlkehieagdkgiaaGreatDoor
open Go.Proofs.Tryz Go.RowKit Lx Vx Mx Msk
theorem OU (n:Int)(w:World)(a:0<=n)(b:n<146097):Calls prog 144 #[ag n] w fun e w'=>e= .returned (.bool true)/\w'=w:=by
 go_enter func144,ntmps144;go_wp2;go_ret;exact⟨rfl,rfl⟩
def xj (n:Int):Int:=(n+5).tmod 7
theorem Nd (n:Int)(a:0<=n):xj n=(n+5)%7:=by
 unfold xj;rw[Int.tmod_eq_emod_of_nonneg (by omega)]
theorem EL (n:Int)(a:0<=n):0<=xj n/\xj n<7:=by
 rw[Nd n a];omega
theorem Qa (n:Int)(w:World)(a:0<=n)(b:n<146097):Calls prog 117 #[ag n] w fun e w'=>e= .returned (ag (xj n))/\w'=w:=by
 have c1:=OU n w a b;have c:=EL n a;have d:(n+5).tmod 7=xj n:=rfl;go_enter func117,ntmps117;go_wp2_with fail;refine c1.mono ?_;rintro e w' ⟨rfl,rfl⟩;clear c1;go_wp2_with fail;go_ret;exact⟨rfl,rfl⟩
def eU (n a:Int):Bool:=bits BinOp.and IntKind.i64 (a/2^(xj n).toNat) 1==1
theorem KQ (l:World)(gm:Nat)(lv:Value)(n k:Int)(S:List M)(x b t:Int)(sv:Value)(W:World)(h:VSt l gm lv n S k W)(c:0<=n)(f:n<146097):
  Calls prog 218 #[ab gm 0,.agg #[ag 6,ag x,ag b,ag t,sv]] W fun r w'=>r= .returned (.bool (eU n x))/\aq W w':=by
 obtain⟨_,_,o,e,_⟩:=h;have k0:=ak 1 e;have d:=am W (.cells #[ag 6,ag x,ag b,ag t,sv] 216);have a:=aG W (.cells #[ag 6,ag x,ag b,ag t,sv] 216);have j:=aj d k0;have q:=ak 0 a;have s:=ak 1 a;have m:=EL n c;have g:=fun W=>Qa n W c f;generalize i:W.alloc (.cells #[ag 6,ag x,ag b,ag t,sv] 216)=p at*;clear e a k0;go_enter func218,ntmps218;go_wp2_with fail;go_quiet ((go_at_call 117;exact fF (g _)));go_wp2_with fail;go_ret;exact⟨rfl,du d nq⟩
theorem KR (m:World)(gm:Nat)(lv:Value)(n k:Int)(S:List M)(x b t:Int)(sv:Value)(W:World)(h:VSt m gm lv n S k W):
  Calls prog 218 #[ab gm 0,.agg #[ag 7,ag x,ag b,ag t,sv]] W fun r w'=>r= .returned (.bool (decide (x<=n)&&decide (n<=b)))/\aq W w':=by
 obtain⟨_,_,o,g,_⟩:=h;have k0:=ak 1 g;have a:=am W (.cells #[ag 7,ag x,ag b,ag t,sv] 216);have d:=aG W (.cells #[ag 7,ag x,ag b,ag t,sv] 216);have l:=aj a k0;have q:=ak 0 d;have s:=ak 1 d;have u:=ak 2 d;generalize j:W.alloc (.cells #[ag 7,ag x,ag b,ag t,sv] 216)=p at*;clear g d k0;by_cases c:x<=n
 ·by_cases e:n<=b
  ·rw[bh c,bh e];go_enter func218,ntmps218;go_wp2_with fail;go_quiet (fail);go_wp2_with fail;go_ret;exact⟨rfl,du a nq⟩
  ·rw[bh c,bn e];have f:decide (n<=b)=false:=bn e;go_enter func218,ntmps218;go_wp2_with fail;go_quiet (fail);go_wp2_with fail;go_ret
   first
    |exact⟨rfl,du a nq⟩
    |exact⟨congrArg (fun x=>Ending.returned (.bool x)) f,du a nq⟩
 ·rw[bn c];have i:decide (x<=n)=false:=bn c;go_enter func218,ntmps218;go_wp2_with fail;go_quiet (fail);go_wp2_with fail;go_ret;exact⟨rfl,du a nq⟩
theorem xk (K:Nat)(F:M->M->M)(eK: ∀a w,(callFunc K a).run prog w= .ok (.enter K a) w)(N: ∀(f g:M) (W:World),Calls prog K #[.agg (mv f),.agg (mv g)] W fun e w'=>e= .returned (.agg (mv (F f g)))/\aq W w')
  (i:World) (gm:Nat) (lv:Value) (day k:Int) (S:List M) (f g:M) (W:World) (h:VSt i gm lv day (S++[f,g]) k W) (hS:S.length<=900):
  Calls prog 217 #[ab gm 0,.func (.func K) #[] #[]] W fun e T=>e= .returned (.tuple #[])/\VSt i gm lv day (S++[F f g]) k T:=by
 have D:S++[f,g]=(S++[f])++[g]:=by simp
 rw[D]at h;have c1:=tz i gm lv day k (S++[f]) g W h (by rw[aP];simp;omega);have hz:=eR;have Q:=ba N;clear N h D;go_enter func217,ntmps217;go_wp2_with fail;refine c1.mono ?_;rintro e j ⟨rfl,E,_⟩;clear c1;have x:=am j (.cells (mv fun _=>false) 55);have t:=aG j (.cells (mv fun _=>false) 55);generalize p:j.alloc (.cells (mv fun _=>false) 55)=V at*;have y:=below_setRow x (aD _) (mv g);have u:=aL _ _ _ (mv g) _ _ t;have G:=E.below y;obtain⟨_,_,sv1,d,_⟩:=E
 have n:j.heap.size≠gm:=fun e=>by
  have:=aI d;omega
 generalize q:V.setRow j.heap.size (mv g)=X at*;have A:=tz i gm lv day k S f X G (by omega);clear G x y d;go_wp2_with(refine az rfl 55 _ _ rfl _ _ rfl rfl _ _ t (bl _) (by simp[di]) (dW _) ?_)
 refine A.mono ?_;rintro e l ⟨rfl,H,b⟩;have P:=(b _ (aI u) n).trans u;clear A p q t u b;have z:=am l (.cells (mv fun _=>false) 55);have v:=aG l (.cells (mv fun _=>false) 55);generalize r:l.alloc (.cells (mv fun _=>false) 55)=Y at*;have m:=below_setRow z (aD _) (mv f);have O:=aL _ _ _ (mv f) _ _ v;have c:=ai m P;have I:=H.below m;generalize s:Y.setRow l.heap.size (mv f)=Z at*;have B:=Q.o f g Z;clear H z m P
 go_wp2_with(first
  |(refine az rfl 55 _ _ rfl _ _ rfl rfl _ _ v (bl _) (by simp[di]) (dW _) ?_)
  |(refine aR rfl 55 _ rfl _ rfl _ _ _ _ O dm rfl (bl _) ?_)
  |(refine aR rfl 55 _ rfl _ rfl _ _ _ _ c dm rfl (bl _) ?_))
 refine B.mono ?_;rintro e U ⟨rfl,b5⟩;have J:=I.below b5;have C:=vD i gm lv day k S (F f g) U J (by omega);clear B I b5 J v O c r s;go_wp2_with fail;refine C.mono ?_;rintro e w6 ⟨rfl,L,_⟩;have R:=ba L;clear C L;go_wp2_with fail;exact⟨rfl,_,eW rfl _ _ _,rfl,R.o⟩
section
theorem OV (l:List (Int×Int)):spM l=inl l:=rfl
abbrev StO (w0:World)(gm:Nat)(lv:Value)(day op a b t:Int)(sv:Value)(k:Nat)(W:World)(f:Int)(S:List M)(c:Int):Prop:=Calls prog 198 #[ab gm 0,.agg #[ag op,ag a,ag b,ag t,sv],ag (k:Int)] W fun e d=>e= .returned (ag f)/\VSt w0 gm lv day S c d
section
variable (w0:World) (gm:Nat) (lv:Value) (day c:Int) (S:List M) (a b t:Int) (sv:Value) (k:Nat) (W:World)
theorem sR (op:Int): ∃c,W.alloc (.cells #[ag op,ag a,ag b,ag t,sv] 216)=c/\aq W c/\c.heap[W.heap.size]? =ah #[ag op,ag a,ag b,ag t,sv] 216/\c.cell? (ae W.heap.size 0)=some (ag op)/\c.cell? (ae W.heap.size 1)=some (ag a)/\c.cell? (ae W.heap.size 3)=some (ag t)/\c.cell? (ae W.heap.size 4)=some sv:=
 have n:=aG W (.cells #[ag op,ag a,ag b,ag t,sv] 216)
 ⟨_,rfl,am _ _,n,ak 0 n,ak 1 n,ak 3 n,ak 4 n⟩
theorem CC {k:Nat}(h:k<=2000):(0:Int)<=(k:Int)/\(k:Int)<=2000:=by omega
theorem OW (sp:List (Int×Int))(h:VSt w0 gm lv day S c W)(m:oi W sv sp)(p:k<=2000)(A:S.length<=900):StO w0 gm lv day 1 a b t sv k W ((k+1:Nat):Int) (S++[spM sp]) c:=by
 obtain⟨v,f,d,s,w,x,y,z⟩:=sR a b t sv W 1;obtain⟨q,r⟩:=CC p;have l:=h.below d;have c1:=EH sv sp v (m.later d);rw[<-OV]at c1;clear h m d;go_enter func198,ntmps198;go_wp2_with fail;refine c1.mono ?_;rintro e u ⟨rfl,b1⟩;have i:=l.below b1;have g:=vD w0 gm lv day c S (spM sp) u i (by omega);clear c1 l b1 i w x y z s f;go_wp2_with fail;refine g.mono ?_;rintro e B ⟨rfl,j,_⟩;have n:=ba j;clear g j;go_wp2_with fail;go_ret;exact⟨by go_num,n.o⟩
theorem CD (f g:M)(op:Int)(o:M->M->M)(s:op=2/\o=unM\/op=3/\o=dfM\/op=4/\o=boM)(h:VSt w0 gm lv day (S++[f,g]) c W)(p:k<=2000)(z:S.length<=900):StO w0 gm lv day op a b t sv k W ((k+1:Nat):Int) (S++[o f g]) c:=by
 obtain⟨j,i,l,u,v,w,x,y⟩:=sR a b t sv W op;obtain⟨q,r⟩:=CC p;have d:=h.below l;rcases s with⟨rfl,rfl⟩|⟨rfl,rfl⟩|⟨rfl,rfl⟩;case' inl=>have c1:=xk 81 unM (fun _ _=>by simp[go_sem]) (fun f g W=>Au f g W) w0 gm lv day c S f g j d (by omega)
 case' inr.inl=>have c1:=xk 23 dfM (fun _ _=>by simp[go_sem]) (fun f g W=>qN f g W) w0 gm lv day c S f g j d (by omega)
 case' inr.inr=>have c1:=xk 82 boM (fun _ _=>by simp[go_sem]) (fun f g W=>BP f g W) w0 gm lv day c S f g j d (by omega)
 all_goals
  clear h l d u
  go_enter func198,ntmps198
  go_wp2_with fail
  refine c1.mono ?_
  rintro e A ⟨rfl,m⟩
  have n:=ba m
  clear c1 m v w x y i
  go_wp2_with fail
  go_ret
  exact⟨by go_num,n.o⟩
structure ShJ (w0:World)(gm:Nat)(lv:Value)(day c:Int)(S:List M)(g g':M)(gx:Nat)(X:Array Value)(M:Nat->Bool)(W:World):Prop where
 box:W.heap[gx]? =ah X 216
 ahead:M 2=false->VSt w0 gm lv day (S++[g]) c W
 mid:M 2=true->M 6=false->VSt w0 gm lv day S c W
 fin:M 6=true->VSt w0 gm lv day (S++[g']) c W
theorem OX (g:M)(h:VSt w0 gm lv day (S++[g]) c W)(L:k<=2000)(Y:S.length<=900)(I: -1439<=a)(J:a<=1439):StO w0 gm lv day 5 a b t sv k W ((k+1:Nat):Int) (S++[shM g a]) c:=by
 obtain⟨wX,y,B,z,R,T,U,V⟩:=sR a b t sv W 5;obtain⟨N,O⟩:=CC L;have C:=h.below B;have s:Rb (∀W,Calls prog 83 #[.agg (mv g),ag a] W fun e w'=>e= .returned (.agg (mv (shM g a)))/\aq W w'):=fun W=>xV g a W (by omega) (by omega)
 have n:W.heap.size≠gm:=fun e=>by
  obtain⟨_,_,_,q,_⟩:=h;have:=aI q;omega
 clear h B T U V;go_enter func198,ntmps198;go_wp2_with fail;obtain⟨gx,f⟩: ∃b,W.heap.size=b:=⟨_,rfl⟩
 rw[f]at z n;simp only[f];clear f y R;refine dl (fun M _=>ShJ w0 gm lv day c S g (shM g a) gx #[ag 5,ag a,ag b,ag t,sv] M) [kn 30 (ab gm 0),kn 31 (ab gm 0),dk 32 (.agg (mv g)),kn 33 (ab gx 1),kn 34 (ag a),dk 35 (.agg (mv (shM g a))),dk 36 (.tuple #[])] (fun _=>⟨z,fun _=>C.below (aH _ _).drew,(fun h=>by cases h),(fun h=>by cases h)⟩) (fun _ _ _ _ v h=>⟨ai v h.box,fun e=>(h.ahead e).below v,fun e p=>(h.mid e p).below v,fun e=>(h.fin e).below v⟩) (by kernel_rfl) (fun M φ x d j F l D H=> ?_) (fun M φ X r d=> ?_)
 ·simp only[kn,dk,dX,aQ,aT,Act.put,aA,aK,aJ]at D;subst D;simp only[dn,Nat.reduceAdd]at H;have zz:=ak 1 d.box;dsimp only[kn,dk,dy,eJ,dY,Act.put];and_intros;all_goals first|exact trivial|intro P Z w K u
  all_goals try (go_simp;with_reducible exact u _ _ ⟨rfl,aH _ _⟩)
  ·go_simp;refine(tz w0 gm lv day c S g x (d.ahead w) (by omega)).mono ?_;rintro p A ⟨rfl,r,m⟩
   have Q:M 6=false:=by
    cases h:M 6 with
    |false=>rfl
    |true=>rw[j 5 _ rfl (j 6 _ rfl h ⟨5,.data⟩ (by simp) rfl rfl) ⟨2,.data⟩ (by simp) rfl rfl]at w;cases w
   exact u _ _ ⟨rfl,(m _ (aI d.box) n).trans d.box,(fun e=>by simp at e),fun _ _=>r,(fun e=>by simp[Q]at e)⟩
  ·go_simp;refine(s.o x).mono ?_;rintro p A ⟨rfl,i⟩;exact u _ _ ⟨rfl,ai i d.box,fun e=>(d.ahead (by simpa using e)).below i,fun e p=>(d.mid (by simpa using e) (by simpa using p)).below i,fun e=>(d.fin (by simpa using e)).below i⟩
  ·have E:=j 5 _ rfl (P ⟨5,.data⟩ (by simp) rfl rfl) ⟨2,.data⟩ (by simp) rfl rfl;go_simp;refine(vD w0 gm lv day c S (shM g a) x (d.mid E w) (by omega)).mono ?_;rintro p A ⟨rfl,r,m⟩;exact u _ _ ⟨rfl,m _ _ _ d.box (by decide) n,(fun e=>by simp[E]at e),(fun _ e=>by simp at e),fun _=>r⟩
 ·have G:=ba (d.fin (r 6 (by decide) rfl));simp only[kn,dk,d8,aQ,aT,Act.put,aA,aK,aJ];clear r d s C z;go_wp2_with fail;go_ret;exact⟨by go_num,G.o⟩
theorem OY (g:List M)(j:Int)(h:VSt w0 gm lv day S c W)(p:k<=2000)(d: ∀W,VSt w0 gm lv day S c W->Calls prog 181 #[ab gm 0,ag a] W fun e n=>e= .returned (.tuple #[])/\VSt w0 gm lv day g j n):StO w0 gm lv day 8 a b t sv k W ((k+1:Nat):Int) g j:=by
 obtain⟨u,f,i,s,v,w,x,y⟩:=sR a b t sv W 8;obtain⟨q,r⟩:=CC p;have c1:=d u (h.below i);clear h i s d;go_enter func198,ntmps198;go_wp2_with fail;refine c1.mono ?_;rintro e z ⟨rfl,l⟩;have m:=ba l;clear c1 l v w x y f;go_wp2_with fail;go_ret;exact⟨by go_num,m.o⟩
theorem IJ (op:Int)(q:Bool)(G:op=6/\q=eU day a\/op=7/\q=(decide (a<=day)&&decide (day<=b)))(m:Option Addr)(l i:Nat)(h:VSt w0 gm lv day S c W)(D:k<=2000)(L:S.length<=900)(y:0<=day)(z:day<146097):StO w0 gm lv day op a b t (.slice m l i) k W (if q=true then((k+1:Nat):Int) else t) (if q=true then S else S++[noM]) c:=by
 obtain⟨B,v,x,w,I,J,C,K⟩:=sR a b t (.slice m l i) W op;obtain⟨E,F⟩:=CC D;have j:=h.below x
 have s:W.heap.size≠gm:=fun e=>by
  obtain⟨_,_,_,q,_⟩:=h;have:=aI q;omega
 have M:=eR;rcases G with⟨rfl,u⟩|⟨rfl,u⟩;case' inl=>have c1:=KQ w0 gm lv day c S a b t (.slice m l i) B j y z
 case' inr=>have c1:=KR w0 gm lv day c S a b t (.slice m l i) B j
 all_goals
  rw[<-u]at c1
  clear h x y z u
  go_enter func198,ntmps198
  go_wp2_with(refine aR rfl 216 _ rfl _ rfl _ _ _ _ w sL rfl (by kernel_rfl) ?_)
  refine c1.mono ?_
  rintro e H ⟨rfl,b1⟩
  have r:=j.below b1
  have f:=ai b1 w
  have p:=vD w0 gm lv day c S noM H r (by omega)
  unfold noM at p
  have n:=ba r
  clear c1 j b1 r I J C K v w
  cases q with
  |true=>
   simp only
   go_wp2_with fail
   go_ret
   exact⟨by go_num,n.o⟩
  |false=>
   simp only
   go_wp2_with fail
   refine p.mono ?_
   rintro e N ⟨rfl,A,d⟩
   have g:=d _ _ _ f (by decide) s
   have C:=ak 3 g
   have n:=ba A
   clear p A d f g
   go_wp2_with fail
   go_ret
   exact⟨rfl,n.o⟩
end
end
theorem il {d:World}{gm:Nat}{lv:Value}{day c b:Int}{S a:List M}{W:World}(h:VSt d gm lv day S c W)(e:S=a)(f:c=b):VSt d gm lv day a b W:=by
 subst e f;exact h
theorem KS {ev:Nat->M×Nat}{x:In}{sv:Value}{s:Vx.St}{B:List M}{c:Int}{W j:World}{gm:Nat}{lv:Value}{day:Int}{n r:Nat}(h:VSt j gm lv day (B++s.S) c W)(F:oi W sv x.sp)(hi:gg x s.k n r=0)(o:s.k<=2000)(J:B.length+s.S.length<=900)(K:tk x<=s.S.length)
  (C:0<=day) (D:day<146097)
  (w:x.op=8-> ∀W,VSt j gm lv day (B++s.S) c W->Calls prog 181 #[ab gm 0,ag x.a] W fun e l=>e= .returned (.tuple #[])/\VSt j gm lv day (B++s.S++[(ev x.a.toNat).1]) (c+(ev x.a.toNat).2) l):
  Calls prog 198 #[ab gm 0,.agg #[ag x.op,ag x.a,ag x.b,ag x.to,sv],ag (s.k:Int)] W fun e l=>e= .returned (ag ((dN (eU day) day ev x s).k:Int))/\VSt j gm lv day (B++(dN (eU day) day ev x s).S) (c+(((dN (eU day) day ev x s).n:Int)-(s.n+1))) l:=by
 have m:(B++s.S).length<=900:=by rw[aP];exact J
 rcases uo hi with d|d|d|d|d|d|d
 ·have e:dN (eU day) day ev x s=⟨s.k+1,s.S++[spM x.sp],s.n+1⟩:=by simp[dN,d]
  rw[e,d];refine(OW j gm lv day c (B++s.S) x.a x.b x.to sv s.k W x.sp h F o m).mono ?_;rintro u l ⟨rfl,i⟩;exact⟨rfl,il i (by simp) (by simp)⟩
 ·have e:dN (eU day) day ev x s=⟨s.k+1,og unM s.S,s.n+1⟩:=by simp[dN,d]
  have y:tk x=2:=(by simp[tk,d]);obtain⟨T,f,g,v⟩:=vy (S:=s.S) (by omega);rw[e,d];dsimp only;rw[v]at h m⊢;rw[mx];refine(CD j gm lv day c (B++T) x.a x.b x.to sv s.k W f g 2 unM (.inl ⟨rfl,rfl⟩) (il h (by simp) rfl) o (by simp at m⊢;omega)).mono ?_;rintro u l ⟨rfl,i⟩;exact⟨rfl,il i (by simp) (by simp)⟩
 ·have e:dN (eU day) day ev x s=⟨s.k+1,og dfM s.S,s.n+1⟩:=by simp[dN,d]
  have y:tk x=2:=(by simp[tk,d]);obtain⟨T,f,g,v⟩:=vy (S:=s.S) (by omega);rw[e,d];dsimp only;rw[v]at h m⊢;rw[mx];refine(CD j gm lv day c (B++T) x.a x.b x.to sv s.k W f g 3 dfM (.inr (.inl ⟨rfl,rfl⟩)) (il h (by simp) rfl) o (by simp at m⊢;omega)).mono ?_;rintro u l ⟨rfl,i⟩;exact⟨rfl,il i (by simp) (by simp)⟩
 ·have e:dN (eU day) day ev x s=⟨s.k+1,og boM s.S,s.n+1⟩:=by simp[dN,d]
  have y:tk x=2:=(by simp[tk,d]);obtain⟨T,f,g,v⟩:=vy (S:=s.S) (by omega);rw[e,d];dsimp only;rw[v]at h m⊢;rw[mx];refine(CD j gm lv day c (B++T) x.a x.b x.to sv s.k W f g 4 boM (.inr (.inr ⟨rfl,rfl⟩)) (il h (by simp) rfl) o (by simp at m⊢;omega)).mono ?_;rintro u l ⟨rfl,i⟩;exact⟨rfl,il i (by simp) (by simp)⟩
 ·have e:dN (eU day) day ev x s=⟨s.k+1,zV (fun f=>shM f x.a) s.S,s.n+1⟩:=by simp[dN,d]
  have y:tk x=1:=(by simp[tk,d])
  have p: -1439<=x.a/\x.a<=1439:=by
   simp only[gg,d]at hi;simp only[show¬((5:Int)=2\/(5:Int)=3\/(5:Int)=4) by omega,show¬(5:Int)=1 by omega,if_false,if_true]at hi;by_cases E:x.a≠0/\ -1439<=x.a/\x.a<=1439
   ·exact E.2
   ·rw[ax E]at hi;simp at hi
  obtain⟨T,g,v⟩:=yB (S:=s.S) (by omega);rw[e,d];dsimp only;rw[v]at h m⊢;rw[zW];refine(OX j gm lv day c (B++T) x.a x.b x.to sv s.k W g (il h (by simp) rfl) o (by simp at m⊢;omega) p.1 p.2).mono ?_;rintro u l ⟨rfl,i⟩;exact⟨rfl,il i (by simp) (by simp)⟩
 ·have e:dN (eU day) day ev x s=⟨s.k+1,s.S++[(ev x.a.toNat).1],s.n+1+(ev x.a.toNat).2⟩:=by simp[dN,d]
  rw[e];have z:=w d;rw[d];refine(OY j gm lv day c (B++s.S) x.a x.b x.to sv s.k W (B++s.S++[(ev x.a.toNat).1]) (c+(ev x.a.toNat).2) h o z).mono ?_;rintro u l ⟨rfl,i⟩;exact⟨rfl,il i (by simp) (by push_cast;omega)⟩
 ·have L:=sK hi d;obtain⟨G,A,rfl,_,_⟩:=F.form
  have e:dN (eU day) day ev x s=if onD (eU day) day x=true then⟨s.k+1,s.S,s.n+1⟩ else⟨x.to.toNat,s.S++[noM],s.n+1⟩:=by
   unfold isG at d;unfold dN;rw[ax (by omega),ax (by omega),ax (by omega),ax (by omega),ax (by omega),ax (by omega)]
  rw[e];have t:((x.to.toNat:Nat):Int)=x.to:=(by omega);rcases d with d|d
  ·have H:onD (eU day) day x=eU day x.a:=(by simp[onD,d]);rw[d,H];refine(IJ j gm lv day c (B++s.S) x.a x.b x.to s.k W 6 _ (.inl ⟨rfl,rfl⟩) G x.sp.length A h o m C D).mono ?_;rintro u l ⟨rfl,i⟩;cases hq:eU day x.a with
   |true=>
    rw[hq]at i;exact⟨rfl,il i rfl (by simp)⟩
   |false=>
    rw[hq]at i;exact⟨congrArg (fun q=>Ending.returned (ag q)) t.symm,il i (by simp) (by simp)⟩
  ·have I:onD (eU day) day x=(decide (x.a<=day)&&decide (day<=x.b)):=by
    unfold onD;rw[ax (by omega)]
   rw[d,I];refine(IJ j gm lv day c (B++s.S) x.a x.b x.to s.k W 7 _ (.inr ⟨rfl,rfl⟩) G x.sp.length A h o m C D).mono ?_;rintro u l ⟨rfl,i⟩;cases hq:(decide (x.a<=day)&&decide (day<=x.b)) with
   |true=>
    rw[hq]at i;exact⟨rfl,il i rfl (by simp)⟩
   |false=>
    rw[hq]at i;exact⟨congrArg (fun q=>Ending.returned (ag q)) t.symm,il i (by simp) (by simp)⟩
theorem VSt.count {g W:World}{gm:Nat}{lv:Value}{day k:Int}{S:List M}(h:VSt g gm lv day S k W)(f:Int):VSt g gm lv day S f (W.setCell ⟨gm,3,none⟩ (ag f)):=by
 obtain⟨i,b,sv,c,d⟩:=h;have a:=lj d c (by decide);refine⟨i.setCell (p:=⟨gm,3,none⟩) b _,b,sv,aY W gm 3 _ _ _ c,?_⟩;exact d.kept (row:=some gm) ⟨rfl,rfl,rfl,by simp,fun q l j=>aO W ⟨gm,3,none⟩ q _ fun e=>j (congrArg some e)⟩ (.inr fun e=>a e.symm)
def OZ (d:Int->Bool)(day:Int)(ev:Nat->M×Nat)(a:List Cd)(l:List In)(R:Vx.St)(b:World)(gm:Nat)(lv:Value)(B:List M)(c:Int)(t:Value)(wr:World):Prop:= ∃s:Vx.St,t=ag (s.k:Int)/\oh a l s/\runV d day ev l s=R/\VSt b gm lv day (B++s.S) (c+s.n) wr
theorem EM (b:List Cd)(lv:Value)(I:World)(gm:Nat)(day:Int)(A:mM b)(Y:InV I lv b)(d0:0<=day)(d1:day<146097): ∀(d r:Nat) (B:List M) (c:Int) (W:World),r<b.length->rk (gL b) b.length r<d->VSt I gm lv day B c W->(B.length:Int)+(b.getD r cd0).high<=800->0<=c->c+(b.getD r cd0).steps<=1000000->
  Calls prog 181 #[ab gm 0,ag (r:Int)] W fun e T=>e= .returned (.tuple #[])/\VSt I gm lv day (B++[(evV (eU day) day b d r).1]) (c+(evV (eU day) day b d r).2) T
 |0,_,_,_,_,_,hd,_,_,_,_=>by omega
 |d+1,r,B,c,W,hr,hd,U,hB,a6,av=>by
  have ih:=EM b lv I gm day A Y d0 d1 d;obtain⟨u,H⟩: ∃u,b[r]? =some u:=⟨b[r],ay hr⟩
  rw[jl H]at hB av;have y:=jD (A.alone r u H);have E:=A.fit r u H;obtain⟨ax,az,an,ao,Z,aa⟩:=A.run (wk:=eU day) (day:=day) (d+1) r u H hd;rw[Nat.add_sub_cancel]at an ao Z aa;have aq:Up (eU day) day (evV (eU day) day b d) u.ins:=FX y.2.2;obtain⟨p,cp,ad,a1,ae⟩:=Y.form;obtain⟨sv,F,g,o,rfl,e0,_,_⟩:=ae r u H;obtain⟨pu,cu,rfl,aE,af⟩:=F.form;have K:=ba af;have N:=ba ih;have J:=ba y.2.2;have f:=ba E;have R:=ba aq;have Q:=ba A;have HU:=ba H;have w:Rb (∀i,0<=(b.getD i cd0).steps):=A.steps0
  have L:Rb (∀(j:Nat) (x:In),u.ins[j]? =some x->x.op=8->((evV (eU day) day b d x.a.toNat).2:Int)<=(b.getD x.a.toNat cd0).steps):=fun j x v ho=>by
   obtain⟨q1,_,q3⟩:=A.call H v ho;have hg:b[x.a.toNat]? =some b[x.a.toNat]:=ay q1;rw[jl hg];exact(A.run (wk:=eU day) (day:=day) d _ _ hg (by omega)).2.1
  have aD:u.ins.length<=2000:=y.1.2;have a5:u.steps<=20000:=y.2.1.2.2;have f0:=aj U.bel e0;have a9:(0:Int)<=(r:Int):=(by omega);have aA:(r:Int)<(b.length:Int):=(by omega);have aH:(0:Int)<=(u.ins.length:Int):=(by omega)
  have nM: ∃sv,W.heap[gm]? =ah #[lv,ag day,sv,ag c] 240:=by
   obtain⟨_,_,s1,q,_⟩:=U;exact⟨s1,q⟩
  obtain⟨s1,nM⟩:=nM;rw[ad]at nM;have zM:=ak 0 nM;have HM:=ba U;have O:=ba Z;have P:=ba aa;clear y E ax az an ao Z aa aq ae F af ih A H U nM Y ad;go_enter func181,ntmps181;go_wp2_with fail;have U:=HM.o;clear HM zM f0 e0;go_loopw [5] (fun t wr=>OZ (eU day) day (evV (eU day) day b d) b u.ins (runV (eU day) day (evV (eU day) day b d) u.ins ⟨0,[],0⟩) I gm lv B c t wr) (fun t _=>u.ins.length-(intOf t).toNat);case atStart=>exact⟨⟨0,[],0⟩,rfl,oh.nil,rfl,il U (by simp) (by simp)⟩
  case round=>
   obtain⟨s,rfl,hI,C,z⟩:=hrel;clear U;have aC:(0:Int)<=(s.k:Int):=(by omega);have a3:=hI.le;have a4:=hI.st;have a2:=hI.hi;by_cases al:s.k<u.ins.length
   ·have am:(s.k:Int)<(u.ins.length:Int):=(by omega);obtain⟨x,v⟩: ∃x,u.ins[s.k]? =some x:=⟨u.ins[s.k],ay al⟩
    obtain⟨sk,G,g2,o2,aw,k0,k1,k2,k3,k4⟩:=K.o s.k _ v;subst aw;have X:=J.o _ _ v;have m:=hI.step (wk:=eU day) (day:=day) (ev:=evV (eU day) day b d) f.o.well v X w.o (L.o _ _ v);have ap:=mf R.o v
    have aF:stS b u.ins s.k<=u.steps:=by
     rw[<-f.o.steps];exact wT w.o (by omega)
    have aG:hAt u.ins s.k<=u.high:=by
     rw[<-f.o.high];exact MS (by omega)
    have a0:=f.o.well.tk _ _ v;have l:=z.count (c+s.n+1);obtain⟨_,_,s2,ac,_⟩:=z;have z3:=ak 3 ac;have y3:=bo _ _ 3 _ _ ac;have q0:=aj l.bel k0;have q1:=aj l.bel k1;have q2:=aj l.bel k2;have q3:=aj l.bel k3;have q4:=aj l.bel k4
    have cS:=KS (ev:=evV (eU day) day b d) (x:=x) (sv:=sk) (s:=s) (B:=B) (r:=b.length) l (G.later l.bel) X (by omega) (by omega) (by omega) d0 d1 (fun ho T V=>by
     obtain⟨v1,v2,v3⟩:=Q.o.call HU.o v ho;have h8:=kh (cs:=b) v;rw[aB ho]at h8
     have h9:stS b u.ins (s.k+1)<=u.steps:=by
      rw[<-f.o.steps];exact wT w.o (by omega)
     have au:=KM (cs:=b) v al ho;rw[f.o.high]at au;have:=N.o x.a.toNat (B++s.S) (c+s.n+1) T v1 (by omega) V (by rw[aP];push_cast;omega) (by omega) (by omega);rw[v2]at this;exact this)
    have HN:Rb (∀T,VSt I gm lv day (B++(dN (eU day) day (evV (eU day) day b d) x s).S) (c+s.n+1+(((dN (eU day) day (evV (eU day) day b d) x s).n:Int)-(s.n+1))) T->OZ (eU day) day (evV (eU day) day b d) b u.ins (runV (eU day) day (evV (eU day) day b d) u.ins ⟨0,[],0⟩) I gm lv B c (ag ((dN (eU day) day (evV (eU day) day b d) x s).k:Int)) T):=fun T V=>⟨_,rfl,m.1,ap.symm.trans C,il V rfl (by omega)⟩
    have hgt:=m.2;have a7:c+s.n+1<=2000000:=(by omega);have a8:0<=c+s.n:=(by omega);obtain⟨k',ai⟩: ∃q,(dN (eU day) day (evV (eU day) day b d) x s).k=q:=⟨_,rfl⟩
    rw[ai]at cS HN hgt;generalize (dN (eU day) day (evV (eU day) day b d) x s).S=S' at*;generalize (dN (eU day) day (evV (eU day) day b d) x s).n=n' at*;clear ai m ap hI C v X a0 l ac N Q J f R L w HU K O P G;generalize aI:wr.setCell ⟨gm,3,none⟩ (ag (c+s.n+1))=wS at*;go_wp2_with fail;refine cS.mono ?_;rintro e w2 ⟨rfl,h2⟩;have ar:=ba (HN.o _ h2);clear cS h2 HN;go_wp2_with fail;go_roundw;case rel=>exact ar.o
    case measure=>simp[intOf];omega
   ·have am: ¬(s.k:Int)<(u.ins.length:Int):=(by omega);have D:=xg (wk:=eU day) (day:=day) (ev:=evV (eU day) day b d) (show s.k=u.ins.length by omega);have hs:s=runV (eU day) day (evV (eU day) day b d) u.ins ⟨0,[],0⟩:=D.symm.trans C
    have HN:Rb (VSt I gm lv day (B++[(evV (eU day) day b (d+1) r).1]) (c+(evV (eU day) day b (d+1) r).2) wr):=by
     show VSt _ _ _ _ _ _ _;rw[<-O.o,<-P.o,<-hs];exact z
    clear z hs D C hI N Q J f R L w HU K O P;go_wp2_with fail;exact⟨rfl,_,eW rfl _ _ _,rfl,HN.o⟩
def jh (b:List Cd)(a day:Int):Int×Nat:=if(jT b).1≠0 then jT b else if¬(0<=a/\a<b.length) then(6,0) else if¬(0<=day/\day<146097) then(3,0) else(0,0)
def oZ (b:List Cd)(a day:Int):M:=if(jh b a day).1=0 then(evV (eU day) day b (b.length+1) a.toNat).1 else fun _=>false
def xl (b:List Cd)(a day:Int):Nat:=if(jh b a day).1=0 then(evV (eU day) day b (b.length+1) a.toNat).2 else 0
def F9 (f:M)(n er at_:Int)(w:World)(e:Ending)(w':World):Prop:=e= .returned (.tuple #[.agg (mv f),ag n,.agg #[ag er,ag at_]])/\aq w w'
theorem xm {R:Ending->World->Prop}{a:Act}{w:World}(g b:Nat)(f:M)(n er at_:Int)(p:a.defers=[])(k:a.tmps.getD 6 undef=ab g 0)(l:a.tmps.getD 7 undef=ag n)(m:a.tmps.getD 8 undef=ab b 0)
  (q:w.heap[g]? =ah (mv f) 55) (i:w.heap[b]? =ah #[ag er,ag at_] 48) (o:R (.returned (.tuple #[.agg (mv f),ag n,.agg #[ag er,ag at_]])) w):bodyPost prog f165 R .ret a w:=by
 refine aX (v:= .tuple #[.agg (mv f),ag n,.agg #[ag er,ag at_]]) ?_ p o;have c:a.tmps[6]?.getD undef=ab g 0:=by simpa using k
 have d:a.tmps[7]?.getD undef=ag n:=by simpa using l
 have e:a.tmps[8]?.getD undef=ab b 0:=by simpa using m
 have r:=en (P:=prog) w g 55 55 _ _ _ q dm rfl (bl _);have j:=en (P:=prog) w b 48 48 _ _ _ i mz rfl (by kernel_rfl);simp[results,results165,c,d,e,asAddr,r,j]
structure FtJ (w:World)(rr rf:Nat)(er at_:Int)(M:Nat->Bool)(W:World):Prop where
 bel:aq w W
 msk:W.heap[rr]? =ah (mv fun _=>false) 55
 src:W.heap[rf]? =ah #[ag er,ag at_] 48
 flt: ∃a b,W.heap[rr+1]? =ah #[ag a,ag b] 48/\(M 4=true->a=er/\b=at_)
structure RnJ (w w0:World)(gm:Nat)(lv:Value)(day k:Int)(f:Vx.M)(rr:Nat)(M:Nat->Bool)(W:World):Prop where
 bel:aq w W
 mach: ∃sv,W.heap[gm]? =ah #[lv,ag day,sv,ag k] 240
 ahead:M 0=false->VSt w0 gm lv day [f] k W
 m0:M 4=false->W.heap[rr]? =ah (mv fun _=>false) 55
 m1:M 4=true->W.heap[rr]? =ah (mv f) 55
 flt:W.heap[rr+1]? =ah #[ag 0,ag 0] 48
theorem CE (b:List Cd)(lv:Value)(a day:Int)(w:World)(h:InV w lv b):
  Calls prog 165 #[lv,ag a,ag day] w (F9 (oZ b a day) (xl b a day:Int) (jh b a day).1 ((jh b a day).2:Int) w):=by
 obtain⟨p,Q,u,aF,aO⟩:=h.form;have hz:=eR;have bA:aq w ((w.alloc (.cells (mv fun _=>false) 55)).alloc (.cells #[ag 0,ag 0] 48)):=(am _ _).alloc (by simp) _;have a1:((w.alloc (.cells (mv fun _=>false) 55)).alloc (.cells #[ag 0,ag 0] 48)).heap[w.heap.size]? =ah (mv fun _=>false) 55:=by(repeat (first|refine dt _ _ _ (by simp only[aV];omega) ?_|exact dJ _ _ _ (by first|rfl|simp only[aV])))
 have ar:((w.alloc (.cells (mv fun _=>false) 55)).alloc (.cells #[ag 0,ag 0] 48)).heap[w.heap.size+1]? =ah #[ag 0,ag 0] 48:=by(repeat (first|refine dt _ _ _ (by simp only[aV];omega) ?_|exact dJ _ _ _ (by first|rfl|simp only[aV])))
 generalize aX:(w.alloc (.cells (mv fun _=>false) 55)).alloc (.cells #[ag 0,ag 0] 48)=wA at*;have P:=F8 b lv wA (h.below bA);have aS:(0:Int)<=(b.length:Int):=by omega
 by_cases g:(jT b).1=0
 ·have hR:=DP g
  have O:jT b=(0,0):=by
   unfold jT at g⊢;by_cases R:40<b.length
   ·rw[aB R]at g;simp at g
   ·rw[ax R]at g⊢;by_cases G:(gW (fun i=>aloneE (b.getD i cd0) b.length) b.length 0).1≠0
    ·rw[aB G]at g;exact absurd g G
    ·rw[ax G]at g⊢;exact(pR _ _ g).1
  rw[O]at P;have c2:=fun W=>rg a (b.length:Int) W;have c3:=fun W=>rg day 146097 W;have z:jh b a day=if¬(0<=a/\a<b.length) then(6,0) else if¬(0<=day/\day<146097) then(3,0) else(0,0):=ax (fun e=>e g);have Y:=ba h;have ac:=ba hR;have HE:=ba z;obtain⟨f0,ae⟩:=au (oZ b a day);obtain⟨k0,ao⟩:=au (xl b a day:Int);obtain⟨X,hX⟩:=au (jh b a day);rw[ae,ao,hX];have V:=ba ae;have Z:=ba ao;have HX:=ba hX;subst u;go_enter func165,ntmps165;go_wp2_with fail;refine P.mono ?_;rintro e C ⟨rfl,j⟩;dsimp only;have b1:=aw bA j;have B:=ai j a1;have A:=ai j ar;have a3:=am C (.cells #[ag 0,ag 0] 48);have a0:=aG C (.cells #[ag 0,ag 0] 48);generalize aU:C.alloc (.cells #[ag 0,ag 0] 48)=aE at*;have D:=below_setRow a3 (aD _) #[ag 0,ag 0];have nG:=aL _ _ _ #[ag 0,ag 0] _ _ a0;have r:=ai D B;have v:=ai D A;have b2:=aw b1 D;generalize O:aE.setRow C.heap.size #[ag 0,ag 0]=w2 at*;have zG:=ak 0 nG;have d2:=c2 w2;have d3:=c3 w2;go_wp2_with(refine az rfl 48 _ _ rfl _ _ rfl rfl _ _ a0 (by kernel_rfl) (by simp) (by simp[Value.oneCell']) ?_)
  refine d2.mono ?_;rintro e s ⟨rfl,rfl⟩;by_cases N:0<=a/\a<b.length
  case' neg=>
   have J:X=(6,0):=HX.o.symm.trans (HE.o.trans (aB N));rw[bn N];clear d3 N
  case' pos=>
   rw[bh N];go_wp2_with fail;refine d3.mono ?_;rintro e s ⟨rfl,rfl⟩;by_cases S:0<=day/\day<146097
   case' neg=>
    have J:X=(3,0):=HX.o.symm.trans (HE.o.trans ((ax fun e=>e N).trans (aB S)));rw[bn S];clear N S
   case pos=>
    have z:jh b a day=(0,0):=HE.o.trans ((ax fun e=>e N).trans (ax fun e=>e S));have x:oZ b a day=(evV (eU day) day b (b.length+1) a.toNat).1:=aB (by rw[z]);have E:xl b a day=(evV (eU day) day b (b.length+1) a.toNat).2:=aB (by rw[z]);rw[bh S];obtain⟨lv,u⟩:=au (Value.slice p b.length Q);rw[u]at Y;obtain⟨y,rfl⟩: ∃y:Nat,a=(y:Int):=⟨a.toNat,by omega⟩
    have ap:y<b.length:=(by omega);rw[dj]at x E;obtain⟨a7,a8⟩:=S;obtain⟨fM,aj⟩:=au (evV (eU day) day b (b.length+1) y)
    have aa:Rb (∀(w0:World) (gm:Nat) (W:World),aq w w0->VSt w0 gm lv day [] 0 W->Calls prog 181 #[ab gm 0,ag (y:Int)] W fun e W'=>e= .returned (.tuple #[])/\VSt w0 gm lv day [fM.1] (fM.2:Int) W'):=fun w0 gm W n H=>by
     have hu:b[y]? =some b[y]:=ay ap;have ha:=(jD (ac.o.alone y _ hu)).2.1;have:=EM b lv w0 gm day ac.o (Y.o.below n) a7 a8 (b.length+1) y [] 0 W ap (by have:=P2 (gL b) b.length y;omega) H (by rw[jl hu];simp;omega) (by omega) (by rw[jl hu];omega);rw[aj]at this;refine this.mono ?_;rintro e W' ⟨rfl,h'⟩;exact⟨rfl,il h' (by simp) (by simp)⟩
    rw[aj]at x E;obtain⟨f,k⟩:=fM;rw[V.o]at x;have a4:k0=(k:Int):=(by rw[<-Z.o,E]);have e3:X=(0,0):=HX.o.symm.trans z;replace x:=x.symm;subst x a4 e3;dsimp only at aa⊢;subst u;have bX:=am s (.cells #[af,ag 0,af,ag 0] 240);have nX:=aG s (.cells #[af,ag 0,af,ag 0] 240);generalize aY:s.alloc (.cells #[af,ag 0,af,ag 0] 240)=wX at*;have bY:=below_setRow bX (aD _) #[.slice p b.length Q,ag day,af,ag 0];have nY:=aL _ _ _ #[.slice p b.length Q,ag day,af,ag 0] _ _ nX;generalize aZ:wX.setRow s.heap.size #[.slice p b.length Q,ag day,af,ag 0]=wY at*;have a5:VSt s s.heap.size (.slice p b.length Q) day [] 0 wY:=⟨bY,aD _,_,nY,dp _ _ _ _⟩
    have cR:=aa.o s s.heap.size wY b2 a5;go_wp2_with(refine az rfl 240 _ _ rfl _ _ rfl rfl _ _ nX (by kernel_rfl) (by simp) (by simp[Value.oneCell']) ?_)
    refine cR.mono ?_;rintro e w4 ⟨rfl,I⟩;go_wp2_with fail;obtain⟨lv,a9⟩:=au (Value.slice p b.length Q);rw[a9]at I;have l1:=aI r;have l2:=aI v;have hgt:w.heap.size+1<s.heap.size:=l2;obtain⟨gm,an⟩:=au s.heap.size;rw[an]at I hgt;simp only[an];refine dl (fun M _=>RnJ w s gm lv day (k:Int) f w.heap.size M) [dk 35 (.agg (mv f)),kn 36 (ab gm 3),kn 37 (ag (k:Int)),kn 38 (.agg #[ag 0,ag 0]),nk,dk 7 (ag (k:Int)),nk] (fun _=> ?_) (fun _ _ _ _ n h=>⟨aw h.bel n,h.mach.imp fun _ q=>ai n q,fun e=>(h.ahead e).below n,fun e=>(n.block _ (aI (h.m0 e))).trans (h.m0 e),fun e=>(n.block _ (aI (h.m1 e))).trans (h.m1 e),ai n h.flt⟩) (by kernel_rfl) (fun M φ W2 d L F l hl t=> ?_) (fun M φ W5 H d=> ?_)
    ·obtain⟨T,q2,sv,q3,q4⟩:=I.below (aH _ _).drew;exact⟨aw b2 T,⟨sv,q3⟩,fun _=>⟨T,q2,sv,q3,q4⟩,fun _=>(T.block _ l1).trans r,(fun e=>by cases e),(T.block _ l2).trans v⟩
    ·simp only[kn,dk,nk,dX,aQ,aT,Act.put,aA,aK,aJ]at hl;subst hl;simp only[dn,Nat.reduceAdd]at t;obtain⟨s0,nM⟩:=d.mach;have zz:=ak 3 nM;dsimp only[kn,dk,nk,dy,eJ,dY,Act.put];and_intros;all_goals first|exact trivial|intro hw hn hm K m
     ·go_simp;refine(tz s gm lv day (k:Int) [] f W2 (d.ahead hm) (by simp)).mono ?_;rintro e' W' ⟨rfl,H,al⟩;have n4:=hn 4 _ rfl (by kernel_rfl);obtain⟨T,q2,sv,q3,q4⟩:=H;exact m _ _ ⟨rfl,aw b2 T,⟨sv,q3⟩,(fun e=>by simp at e),fun _=>(al _ (aI (d.m0 n4)) (by omega)).trans (d.m0 n4),(fun e=>by simp[n4]at e),(al _ (aI d.flt) (by omega)).trans d.flt⟩
     ·go_simp;exact m _ _ ⟨rfl,aH _ _⟩
     ·go_simp;exact m _ _ ⟨rfl,aH _ _⟩
     ·go_simp;exact m _ _ ⟨rfl,aH _ _⟩
     ·have q0:=hw ⟨0,.data⟩ (by simp) rfl rfl;refine eQ 55 _ _ rfl _ (mv f) (by simp[Act.eval,t]) (by simp[Act.eval,t]) _ _ (d.m0 hm) (bl _) (by simp[di]) (dW _) ?_;exact m undef _ ⟨trivial,below_setRow d.bel (aD _) _,⟨_,(aW _ _ _ _ (by omega)).trans nM⟩,(fun e=>by simp[q0]at e),(fun e=>by simp at e),fun _=>aL _ _ _ _ _ _ (d.m0 hm),(aW _ _ _ _ (by omega)).trans d.flt⟩
     ·go_simp;exact m _ _ ⟨rfl,d.bel,d.mach,fun e=>d.ahead (by simpa using e),fun e=>d.m0 (by simpa using e),fun e=>d.m1 (by simpa using e),d.flt⟩
     ·have q5:=hw ⟨5,.chain⟩ (by simp) rfl rfl;have q0:=L 5 _ rfl q5 ⟨0,.phase⟩ (by simp) rfl rfl;have q4:=L 5 _ rfl q5 ⟨4,.chain⟩ (by simp) rfl rfl;refine eQ 48 _ _ rfl _ #[ag 0,ag 0] (by simp[Act.eval,t]) (by simp[Act.eval,t]) _ _ d.flt (by kernel_rfl) (by simp) (by simp[Value.oneCell']) ?_;exact m undef _ ⟨trivial,below_setRow d.bel (Nat.le_succ _) _,⟨_,(aW _ _ _ _ (by omega)).trans nM⟩,(fun e=>by simp[q0]at e),(fun e=>by simp[q4]at e),fun _=>(aW _ _ _ _ (by omega)).trans (d.m1 q4),aL _ _ _ _ _ _ d.flt⟩
    ·have R:=d.m1 (H 4 (by decide) rfl);have G:=d.flt;have U:=ba d.bel;simp only[kn,dk,nk,d8,aQ,aT,Act.put,aA,aK,aJ];go_wp2_with fail;exact xm w.heap.size (w.heap.size+1) f (k:Int) 0 0 rfl rfl rfl rfl R G ⟨rfl,U.o⟩
  all_goals
   have ad:(jh b a day).1≠0:=by rw[HX.o,J];decide
   have x:f0=fun _=>false:=V.o.symm.trans (ax ad)
   have E:k0=0:=by rw[<-Z.o,show xl b a day=0 from ax ad];rfl
   subst x E J
   have aC:=aL _ _ _ (mv fun _=>false) _ _ r
   have av:=(aW _ w.heap.size (w.heap.size+1) (mv fun _=>false) (by omega)).trans v
   have b3:=below_setRow b2 (aD _) (mv fun _=>false)
   have U:=ba fun c=>below_setRow b3 (by omega:w.heap.size<=w.heap.size+1) c
   have HM:=ba fun c=>(aW _ (w.heap.size+1) w.heap.size c (by omega)).trans aC
   have HS:=ba fun c=>aL _ _ _ c _ _ av
   go_wp2_with(first
    |(refine az rfl 55 _ _ rfl _ _ rfl rfl _ _ r (bl _) (by simp[di]) (dW _) ?_)
    |(refine az rfl 48 _ _ rfl _ _ rfl rfl _ _ av (by kernel_rfl) (by simp) (by simp[Value.oneCell']) ?_))
   exact xm w.heap.size (w.heap.size+1) (fun _=>false) 0 _ 0 rfl rfl rfl rfl (HM.o _) (HS.o _) ⟨rfl,U.o _⟩
 ·have z:jh b a day=jT b:=aB g;have x:oZ b a day=fun _=>false:=ax (by rw[z];exact g);have E:xl b a day=0:=ax (by rw[z];exact g);rw[z,x,E];obtain⟨X,hX⟩:=au (jT b);rw[hX]at g P⊢;obtain⟨er,a2⟩:=X;dsimp only at g P⊢;obtain⟨at_,a6⟩: ∃q:Int,(a2:Int)=q:=⟨_,rfl⟩
  rw[a6]at P⊢;have aM:(er==0)=false:=bm.2 g;have aN:(er !=0)=true:=(by simpa using g);subst u;go_enter func165,ntmps165;go_wp2_with fail;refine P.mono ?_;rintro e C ⟨rfl,j⟩;have b1:=aw bA j;have B:=ai j a1;have A:=ai j ar;have D:=am C (.cells #[ag er,ag at_] 48);have nG:=aG C (.cells #[ag er,ag at_] 48);have r:=ai D B;have v:=ai D A;have b2:=aw b1 D;have aP:=aI B;have aR:=aI A;generalize O:C.alloc (.cells #[ag er,ag at_] 48)=w2 at*;have zG:=ak 0 nG;go_wp2_with fail;refine dl (fun M _=>FtJ w w.heap.size C.heap.size er at_ M) [kn 16 (.agg (mv fun _=>false)),kn 17 (.agg #[ag er,ag at_]),nk,kn 7 (ag 0),nk] (fun _=>⟨b2.trans ((aH w2.heap.size w2).drew.mono b2.size),r,nG,_,_,v,(fun e=>by cases e)⟩) (fun _ _ _ _ n h=>⟨aw h.bel n,ai n h.msk,ai n h.src,h.flt.imp fun _ q=>q.imp fun _ q=>⟨ai n q.1,q.2⟩⟩) (by kernel_rfl) (fun M φ W2 d L F l hl t=> ?_) (fun M φ W5 H d=> ?_)
  ·simp only[kn,nk,dX,aQ,aT,Act.put,aA,aK,aJ]at hl;subst hl;simp only[dn,Nat.reduceAdd]at t;obtain⟨xa,xb,nf,hf⟩:=d.flt;dsimp only[kn,nk,dy,eJ,dY,Act.put];and_intros;all_goals first|exact trivial|intro hw hn hm K m
   ·go_simp;exact m _ _ ⟨rfl,aH _ _⟩
   ·refine eN 48 _ rfl _ (by simp[Act.eval,t]) _ _ _ _ d.src mz rfl (by kernel_rfl) ?_;exact m _ _ ⟨rfl,aH _ _⟩
   ·refine eQ 55 _ _ rfl _ (mv fun _=>false) (by simp[Act.eval,t]) (by simp[Act.eval,t]) _ _ d.msk (bl _) (by simp[di]) (dW _) ?_;exact m undef _ ⟨trivial,below_setRow d.bel (aD _) _,aL _ _ _ _ _ _ d.msk,(aW _ _ _ _ (by omega)).trans d.src,_,_,(aW _ _ _ _ (by omega)).trans nf,fun e=>hf (by simpa using e)⟩
   ·go_simp;exact m _ _ ⟨rfl,aH _ _⟩
   ·refine eQ 48 _ _ rfl _ #[ag er,ag at_] (by simp[Act.eval,t]) (by simp[Act.eval,t]) _ _ nf (by kernel_rfl) (by simp) (by simp[Value.oneCell']) ?_;exact m undef _ ⟨trivial,below_setRow d.bel (Nat.le_succ _) _,(aW _ _ _ _ (by omega)).trans d.msk,(aW _ _ _ _ (by omega)).trans d.src,_,_,aL _ _ _ _ _ _ nf,fun _=>⟨rfl,rfl⟩⟩
  ·have R:=d.msk;obtain⟨xa,xb,G,hf⟩:=d.flt;obtain⟨rfl,rfl⟩:=hf (H 4 (by decide) rfl);have U:=ba d.bel;simp only[kn,nk,d8,aQ,aT,Act.put,aA,aK,aJ];go_wp2_with fail;exact xm w.heap.size (w.heap.size+1) (fun _=>false) 0 _ _ rfl rfl rfl rfl R G ⟨rfl,U.o⟩
end Go.Proofs.YtlkehieagdkgiaaGreatDoor
