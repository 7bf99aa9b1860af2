/- Texts of the proof. -/
import Derived.Test.YtlkehieagdkgiaaGreatDoorPe28
set_option maxRecDepth 100000
set_option maxHeartbeats 8000000
namespace Go.Proofs.YtlkehieagdkgiaaGreatDoor
open Go.Proofs.Tryz Go.RowKit Lx Vx Mx Msk
section
theorem NR (n c:Nat)(w:World):(binOp .eql 37 (.slice none n c) (af)).run prog w= .ok (.bool true) w:=by rfl
theorem Po (q:Addr)(n c:Nat)(w:World):(binOp .eql 37 (.slice (some q) n c) (af)).run prog w= .ok (.bool false) w:=by rfl
attribute [local go_sem] NR Po
theorem zk (a:List Int)(v:Value)(w:World)(h:dM w v a)(D:a.length<=1000):Calls prog 73 #[v] w fun e w'=> ∃d,e= .returned d/\w'.ownsRow w.heap.size 3 1 d a.length (dz a)/\aq w w':=by
 have j:=aE h;obtain⟨p,c,rfl,E,s⟩:=h;cases p with
 |none=>
  have u:a=[]:=by
   cases a with
   |nil=>rfl
   |cons x l=>
    obtain⟨g,o,e,_⟩:=s 0 x rfl;cases e
  subst u;go_enter func73,ntmps73;go_wp2_with fail;go_ret;exact⟨_,rfl,dp _ _ _ _,aH _ _⟩
 |some q=>
  obtain⟨B,n,b,A⟩:=nb w #[] 3;have i:=Jo B A w.heap.size (aD _);have y:=j.o.below b;go_enter func73,ntmps73;go_wp2_with(first|(refine tV rfl rfl ?_;rw[n])|(at_builtin;refine pX rfl _ _ rfl w.heap.size [] a _ _ rfl i rfl y (by simp;omega) b.size ?_))
  intro d w' f m;have r:=b.grown m b.size (fun k t=>(i.lt k t).1);obtain⟨F,C,z⟩:=cg f;subst z;go_wp2_with fail;go_ret;exact⟨_,rfl,f,r⟩
theorem Jp {w:World}{p:Option Addr}{n c:Nat}{d:List Int}(h:dM w (.slice p n c) d){j:Nat}(q:j<=d.length):dM w (.slice p j c) (d.take j):=by
 obtain⟨s,m,e,r,l⟩:=h;injection e with g o i;subst g i;have a:(d.take j).length=j:=by rw[eI];omega
 refine⟨p,c,by rw[a],by omega,fun k x f=>l k x ?_⟩;have b:=(aF.1 f).1;rw[a]at b;rw[dP b]at f;exact f
theorem Jq {who:List Int}{roles:List (List Int)}{n j:Nat}{x:Int}{l:List Int}(d:j<n)(c:who[j]? =some x)(b:roles[j]? =some l):qh who roles (n-j) j=if decide (x∈l)=false then 6 else if decide (x∈who.take j)=true then 7 else qh who roles (n-(j+1)) (j+1):=by
 rw[show n-j=(n-(j+1))+1 by omega];simp only[qh,List.getD,c,b,Option.getD_some];by_cases a:x∈l<;>simp[a]
theorem C6 (who:List Int)(roles:List (List Int))(p:Option Addr)(c:Nat)(Z:Value)(w:World)(h:dM w (.slice p who.length c) who)(F:who.length<=c)(Y:fu w Z roles):Calls prog 68 #[.slice p who.length c,Z] w fun e w'=>e= .returned (ag (jO who roles))/\aq w w':=by
 have W:=aE h;have HR:=aE Y;obtain⟨p0,c0,e0,hl,L⟩:=h;injection e0 with J e3 K;subst J K;clear e3;obtain⟨q,cq,rfl,N,s⟩:=Y;obtain⟨n,A⟩:=au who.length;obtain⟨m,z⟩:=au roles.length;have V:=aE A;have HM:=aE z;have U:=aE L;have B:=aE s;rw[A]at W hl F⊢;rw[z]at HR N⊢;have ae:(n:Int)<9223372036854775808:=by omega
 have ad:(m:Int)<9223372036854775808:=by omega
 by_cases b:n=m
 ·have I:Rb (jO who roles=qh who roles n 0):=by
   show _=_;unfold jO;rw[A,z,ax (by simpa using b)]
  subst b;clear L s A z;go_enter func68,ntmps68;go_wp2_with fail;go_loopw [5,6,14] (fun _ _ t wr=> ∃j:Nat,t=ag (j:Int)/\j<=n/\aq w wr/\jO who roles=qh who roles (n-j) j) (fun _ _ t _=>n-(intOf t).toNat);case atStart=>exact⟨0,rfl,by omega,aH _ _,I.o⟩
  case round=>
   obtain⟨j,rfl,hj,y,k⟩:=hrel;have ab:(0:Int)<=(j:Int):=(by omega);by_cases M:j<n
   ·have G:(j:Int)<(n:Int):=(by omega);have ac:j<=n:=hj;obtain⟨x,R⟩: ∃x,who[j]? =some x:=⟨who[j]'(by have:=V.o;omega),ay _⟩
    obtain⟨l,u⟩: ∃l,roles[j]? =some l:=⟨roles[j]'(by have:=HM.o;omega),ay _⟩
    rw[Jq M R u]at k;obtain⟨g,o,J,c1⟩:=U.o j x R;obtain⟨g2,o2,sv,K,X,f⟩:=B.o j l u;subst J K;have d1:=aj y c1;have d2:=aj y X;have S:=jM l sv x wr (f.below y);obtain⟨ps,cs,Q,O,P⟩:=f;subst Q;clear O P;have HT:=aE (Jp W.o (j:=j) (by have:=V.o;omega));obtain⟨b1,E⟩:=au (decide (x∈l));obtain⟨b2,r⟩:=au (decide (x∈who.take j));rw[E]at S k;rw[r]at k;have H:=aE r;have v:=aE k;clear k E r R u c1 X;go_wp2_with fail;refine S.mono ?_;rintro e w1 ⟨rfl,C⟩;have a:=aw y C;clear S d1 d2 C y;cases b1 with
    |false=>
     have i:Rb (jO who roles=6):=v.o;clear v;go_wp2_with fail;go_ret;exact⟨by rw[i.o];rfl,a⟩
    |true=>
     have T:=jM (who.take j) _ x w1 (HT.o.below a);rw[H.o]at T;have aa:(j:Int)<=(c:Int):=(by omega);go_wp2_with fail;refine T.mono ?_;rintro e w2 ⟨rfl,D⟩;have d:=aw a D;clear T D a;cases b2 with
     |true=>
      have i:Rb (jO who roles=7):=v.o;clear v;go_wp2_with fail;go_ret;exact⟨by rw[i.o];rfl,d⟩
     |false=>
      have i:Rb (jO who roles=qh who roles (n-(j+1)) (j+1)):=v.o;clear v;go_wp2_with fail;go_roundw;case rel=>exact⟨j+1,by go_num,by omega,d,i.o⟩
      case measure=>simp[intOf];omega
   ·have G: ¬(j:Int)<(n:Int):=(by omega)
    have i:Rb (jO who roles=0):=by
     show _=_;rw[k,show n-j=0 by omega];rfl
    clear k;go_wp2_with fail;go_ret;exact⟨by rw[i.o];rfl,y⟩
 ·have I:Rb (jO who roles=5):=by
   show _=_;unfold jO;rw[A,z,aB b]
  have af:((n:Int) !=(m:Int))=true:=(by simpa using(by omega: ¬(n:Int)=(m:Int)));clear L s A z b U B;go_enter func68,ntmps68;go_wp2_with fail;go_ret;exact⟨by rw[I.o];rfl,aH _ _⟩
end
section
section
variable {B gD:Nat} {d d':Dk} {t t':Tr} {rv cv vv kv:Value} {ss ss':List (Sv×Value)} {aa aa':List (Ap×Value)} {w w':World}
theorem DkM.turn (h:DkM B gD d t rv cv vv kv ss aa w)(c:Kd gD t t' w w')(l:w'.heap[gD]? =ah #[rv,t'.ev,t'.sv,t'.av,cv,vv,ag d'.given,kv,ag d'.runs] 73)(g:d'.rules=d.rules)(j:d'.vers=d.vers)(k:d'.kept=d.kept)
  (r1:w'.ownsRow B 9 1 t'.ev d'.res.length (d'.res.map jU)) (v:w'.ownsRow B 36 4 t'.sv ss'.length (svF ss')) (x:w'.ownsRow B 45 11 t'.av aa'.length (apF aa')) (r:ss'.map (fun p=>p.1)=d'.svs) (s:aa'.map (fun p=>p.1)=d'.aps)
  (n: ∀p∈ss',p∈ss\/Rob (Fx gD t') (fun u=>fu u p.2 p.1.roles) w') (o: ∀p∈aa',(∃a,(a,p.2)∈aa/\a.who=p.1.who)\/Rob (Fx gD t') (fun u=>dM u p.2 p.1.who) w'):DkM B gD d' t' rv cv vv kv ss' aa' w':=by
 refine⟨l,h.lo,by rw[g];exact c.rob h.rules,by rw[g];exact c.rob h.codes,by rw[j];exact c.rob h.vers,by rw[k];exact c.rob h.kept,r1,v,r,fun p b=> ?_,x,s,fun p b=> ?_,fun q i=> ?_⟩
 ·rcases n p b with b|b
  ·exact c.rob (h.svr p b)
  ·exact b
 ·rcases o p b with⟨a,b,e⟩|b
  ·rw[<-e];exact c.rob (h.apr (a,p.2) b)
  ·exact b
 ·rw[c.xs]at i;have f:=h.nx q i;have m:=c.gx q f.1 f.2.2;exact⟨aU f.1 c.size,f.2.1,m⟩
theorem C7 {k:Nat}{v:Value}(_:DkM B gD d t rv cv vv kv ss aa w){l:World}{b:Value}(m:b=t.ev\/b=t.sv\/b=t.av)(g:w.grownBy l b.ownBlock)(n:v.ownBlock=b.ownBlock\/v.ownBlock=some w.heap.size)(j:(t'={t with ev:=v}/\b=t.ev)\/(t'={t with sv:=v}/\b=t.sv)\/(t'={t with av:=v}/\b=t.av)):Kd gD t t' w (l.setCell ⟨gD,k,none⟩ v):=by
 have i: ∀q,Gx gD t q->some q≠b.ownBlock:=fun q a=>by
  rcases m with rfl|rfl|rfl
  ·exact a.2.1
  ·exact a.2.2.1
  ·exact a.2.2.2
 have c: ∀q,q<w.heap.size->Gx gD t q->some q≠v.ownBlock:=fun q f a=>by
  rcases n with e|e
  ·rw[e];exact i q a
  ·rw[e];intro e;have:=aN e;omega
 refine⟨g.os,g.tape,g.output,by simpa using g.size,fun q a f=>((aO _ _ _ _ a.1).trans (g.block q f (i q a))),fun q f a=> ?_,?_⟩
 ·rcases j with⟨rfl,_⟩|⟨rfl,_⟩|⟨rfl,_⟩
  ·exact⟨a.1,c q f a,a.2.2.1,a.2.2.2⟩
  ·exact⟨a.1,a.2.1,c q f a,a.2.2.2⟩
  ·exact⟨a.1,a.2.1,a.2.2.1,c q f a⟩
 ·rcases j with⟨rfl,_⟩|⟨rfl,_⟩|⟨rfl,_⟩<;>rfl
theorem pY {b1 b2 T1 c p q n o:Nat}{d f:Value}{r s:List Value}(j:w.ownsRow b1 T1 p d n r)(k:w.ownsRow b2 c q f o s)(l:T1≠c){b:Nat}(a:d.ownBlock=some b):f.ownBlock≠some b:=by
 rcases j.2 with⟨e,_⟩|⟨g,cap,i,e,_,m,_⟩
 ·rw[e]at a;cases a
 ·rw[e]at a;have:g=b:=aN a;subst this;exact iI k m l
theorem qI {T1 g j v i t:Nat}{l m:Value}{o x:List Value}{k:Nat}{u:Value}{n:World}(a: ∃c,w.heap[gD]? =ah c 73)(d:w.ownsRow B T1 j l i o)(p:w.ownsRow B g v m t x)(r:T1≠g)(q:(73:Nat)≠T1)(s:w.grownBy n m.ownBlock):(n.setCell ⟨gD,k,none⟩ u).ownsRow B T1 j l i o:=by
 obtain⟨c,a⟩:=a;refine br d fun b f=> ?_;exact(aO _ _ _ _ (fun e=>iI d a q (by rw[f,e]))).trans (s.block b (d.lt b f).2 (fun e=>pY d p r f e.symm))
theorem zl {p:List Int}{n a:Int}(c:n<=a): ∀(m i:Nat),oy p n m i=0->oy p a m i=0
 |0,_,_=>rfl
 |m+1,i,h=>by
  unfold oy at h⊢;split at h
  ·cases h
  ·rename_i d;rw[ax (by omega)];split at h
   ·cases h
   ·rename_i b;rw[ax b];exact zl c m (i+1) h
theorem wg {n b:Int}(c:n<=b): ∀(l:List (List Int)),kP n l=0->kP b l=0
 |[],_=>rfl
 |p::l,h=>by
  unfold kP at h⊢;by_cases a:iV p n=0
  ·rw[ax (by simpa using a)]at h
   have d:iV p b=0:=by
    unfold iV at a⊢;split at a
    ·cases a
    ·rename_i e;rw[ax e];exact zl c _ _ a
   rw[ax (by simpa using d)];exact wg c l h
  ·rw[aB a]at h;exact absurd h a
theorem D8 {s:Sv}{n a:Int}(d:n<=a)(h:fD s n=0):fD s a=0:=by
 unfold fD at h⊢;split at h
 ·cases h
 ·rename_i b;rw[ax b];split at h
  ·cases h
  ·rename_i c;rw[ax c];exact wg d _ h
def rC (B:Nat)(w:World)(v:Value)(l:List Int):Prop:=dM w v l/\(∀p n k,v= .slice p n k->n<=k)/\ ∀b,v.ownBlock=some b->B<=b
def rD (B gD:Nat)(p:An×Dk)(t:Tr)(w:World)(e:Ending)(w':World):Prop:= ∃(t':Tr) (a lv:Value),e= .returned (.agg (anC p.1 a lv))/\dE B gD p.2 t' w'/\Kd gD t t' w w'/\Rob (Fx gD t') (fun u=>rC B u a p.1.who) w'/\Rob (Fx gD t') (fun u=>dM u lv p.1.list) w'
theorem eE (P:Nat->Prop)(w:World):Rob P (fun u=>dM u (af) []) w:=fun u _ _=>⟨none,0,rfl,by simp,fun j n a=>by simp at a⟩
theorem fp {B:Nat}(P:Nat->Prop)(w:World):Rob P (fun u=>rC B u (af) []) w:=fun u _ _=>⟨⟨none,0,rfl,by simp,fun j n a=>by simp at a⟩,(fun p n k e=>by cases e;exact aD _),fun b e=>by cases e⟩
theorem fK {q:Nat}{W:World}(b:dE B gD d (t'.add q) W)(e:Kd gD t t' w W)(f:w.heap.size<=q)(c:Array Value):dE B gD d t' (W.setRow q c)/\Kd gD t t' w (W.setRow q c):=
 ⟨b.closed (by simp) fun k _ a=>aW _ _ _ _ a,e.closed f rfl rfl rfl (by simp) fun k _ a=>aW _ _ _ _ a⟩
theorem QT:(prog.info? 9).map (fun i=>(i.zero,i.size,i.bytes))=some (some (.string ⟨#[]⟩),1,16):=by kernel_rfl
theorem Qp:prog.underlying 25=some (.slice 9):=by kernel_rfl
theorem GB (x:List UInt8)(w:World)(h:dE B gD d t w)(hx:x.length<=9223372036854775807):Calls prog 30 #[ab gD 0,jU x] w (rD B gD (sA d x) t w):=by
 obtain⟨Z,hA,bA,nA⟩:=nb w #[ag 0,ag 0,ag 0,ag 0,af,af] 43;have ay:Z.heap.size=w.heap.size+1:=by rw[<-hA];simp
 have P:=h.opened (aD _) ay bA;have D:=aE P;obtain⟨c,rv,cv,vv,kv,ss,aa,hm⟩:=P;obtain⟨pe,ce,Q⟩:=cg hm.res;obtain⟨n,Y⟩:=au d.res.length
 have z1:Z.cell? (ae gD 1)=some (.slice pe n ce):=by
  have:=cr (v:=t.ev) 1 hm.blk rfl;rw[this,<-Y];exact congrArg some Q
 have a0:n<=12:=by rw[<-Y];exact c.rl
 have F:=aE Y;have cR:=fun(e:Int) (W:World)=>fj e W;have J:=aE bA;have E:Rb (t.ev= .slice pe n ce):=by show _=_;rw[<-Y];exact Q
 have HM:=aE hm;have HX:=aE hx;have ai:=aE c;unfold jU;by_cases G:12<=n
 ·have M:(12:Int)<=(n:Int):=by omega
  have K:Rb (sA d x=(noA 5,d)):=(by show _=_;unfold sA;rw[aB (by rw[F.o];exact G)]);go_enter func30,ntmps30;go_wp2_with fail;refine(cR 5 Z).mono ?_;rintro e w1 ⟨rfl,b1⟩;have U:=bt b1 nA;have N:=aw J.o b1;have z:=aE (fK (D.o.below b1) (Kd.of (t:=t) (gD:=gD) N) (aD _) (anC (noA 5) (af) (af)));have L:=aE (aL _ _ _ (anC (noA 5) (af) (af)) _ _ U);go_wp2_with(refine az rfl 43 _ _ rfl _ _ rfl rfl _ _ U (by kernel_rfl) rfl (by simp[anC,Value.oneCell']) ?_)
  refine aX (v:= .agg (anC (noA 5) (af) (af))) ?_ rfl ?_
  ·exact bf rfl _ _ w.heap.size _ _ _ _ rfl L.o anT rfl (by kernel_rfl)
  ·rw[K.o];exact⟨t,_,_,rfl,z.o.1,z.o.2,fp _ _,eE _ _⟩
 ·have M: ¬(12:Int)<=(n:Int):=by omega
  have cC:=zi x Z D.o;unfold jU at cC;obtain⟨k,hk⟩:=au (atP5 d.rules x);rw[hk]at cC;have HK:=aE hk;go_enter func30,ntmps30;go_wp2_with fail;refine cC.mono ?_;rintro e w1 ⟨rfl,b1⟩;have U:=bt b1 nA;have I:=aE (aw J.o b1);have ad:=aE (D.o.below b1);have ah:=aE (HM.o.below b1);have a5:=aj b1 z1;by_cases R:k<0
  ·have K:Rb (sA d x=(noA 7,d)):=(by show _=_;unfold sA;rw[ax (by rw[F.o];exact G),HK.o,aB R]);have ak:=cR 7 w1;go_wp2_with fail;refine ak.mono ?_;rintro e q ⟨rfl,b2⟩;have n2:=bt b2 U;have N:=aw I.o b2;have z:=aE (fK (ad.o.below b2) (Kd.of (t:=t) (gD:=gD) N) (aD _) (anC (noA 7) (af) (af)));have L:=aE (aL _ _ _ (anC (noA 7) (af) (af)) _ _ n2);go_wp2_with(refine az rfl 43 _ _ rfl _ _ rfl rfl _ _ n2 (by kernel_rfl) rfl (by simp[anC,Value.oneCell']) ?_)
   refine aX (v:= .agg (anC (noA 7) (af) (af))) ?_ rfl ?_
   ·exact bf rfl _ _ w.heap.size _ _ _ _ rfl L.o anT rfl (by kernel_rfl)
   ·rw[K.o];exact⟨t,_,_,rfl,z.o.1,z.o.2,fp _ _,eE _ _⟩
  ·have K:Rb (sA d x=(jd n,{d with res:=d.res++[x]})):=(by show _=_;unfold sA;rw[ax (by rw[F.o];exact G),HK.o,ax R,F.o]);obtain⟨X,hB,bB,nB⟩:=nb w1 #[.string ⟨x.toArray⟩] 9;have u:=ah.o.below bB
   have S:X.ownsRow B 9 1 (.slice pe n ce) n (d.res.map jU):=by
    have:=u.res;rw[F.o]at this;rw[<-E.o];exact this
   have am:B<=X.heap.size:=(by have:=u.lo;have:=aI u.blk;omega);have f:=aE u;have ac:=aE (aw I.o bB);have V:=bt bB U;go_wp2_with(at_builtin;refine iN rfl _ _ 25 9 rfl Qp QT rfl (by decide) (by decide) rfl S rfl nB rfl (by simp[Value.oneCell']) (by omega) am ?_)
   rintro v' q C ao O m l rfl;have g:=f.o.blk;have av:=f.o.nx w.heap.size (bq ..)
   have j:X.grownBy q (t.add w.heap.size).ev.ownBlock:=by
    show X.grownBy q t.ev.ownBlock;rw[E.o];exact ao
   have H:Kd gD (t.add w.heap.size) (({t with ev:= .slice (some (ae m 0)) (n+1) l}:Tr).add w.heap.size) X (q.setCell ⟨gD,1,none⟩ (.slice (some (ae m 0)) (n+1) l)):=C7 f.o (.inl rfl) j (by show _=t.ev.ownBlock\/_;rw[E.o];exact O) (.inl ⟨rfl,rfl⟩);have i:=(j.block gD (aI g) (fun e=>iI f.o.res g (by decide) e.symm)).trans g;have A:=aY q gD 1 _ _ (.slice (some (ae m 0)) (n+1) l) i;have y1:=cr 1 i rfl;have x1:=bo _ _ 1 _ _ i;have n3:=(H.blk w.heap.size av.2.2 (aI V)).trans V
   have ar:DkM B gD {d with res:=d.res++[x]} (({t with ev:= .slice (some (ae m 0)) (n+1) l}:Tr).add w.heap.size) rv cv vv kv ss aa (q.setCell ⟨gD,1,none⟩ (.slice (some (ae m 0)) (n+1) l)):=by
    refine f.o.turn H A rfl rfl rfl ?_ (qI ⟨_,g⟩ f.o.svs f.o.res (by decide) (by decide) j) (qI ⟨_,g⟩ f.o.aps f.o.res (by decide) (by decide) j) f.o.sve f.o.ape (fun p hp=> .inl hp) (fun p hp=> .inl ⟨p.1,hp,rfl⟩);refine br ?_ fun b N=>aO q ⟨gD,1,none⟩ b _ (fun e=>iI C i (by decide) (by rw[<-show b=gD from e];exact N));show q.ownsRow B _ 1 (.slice (some (ae m 0)) (n+1) l) (d.res++[x]).length ((d.res++[x]).map jU);rw[aP,F.o,dZ];exact C
   have c:=ai.o;have a1:((d.res++[x]).length:Int)=(d.res.length:Int)+1:=(by simp)
   have an:dE B gD {d with res:=d.res++[x]} (({t with ev:= .slice (some (ae m 0)) (n+1) l}:Tr).add w.heap.size) (q.setCell ⟨gD,1,none⟩ (.slice (some (ae m 0)) (n+1) l)):=⟨⟨c.flt,c.vl,c.kl,by show(d.res++[x]).length<=12;rw[aP,F.o];simp;omega,c.sl,c.al,c.gv,fun y T=>by
    rcases da.1 T with T|T
    ·exact c.nm y T
    ·rw[cQ.1 T];exact HX.o,fun s hs=>D8 (by show(d.res.length:Int)<=((d.res++[x]).length:Int);omega) (c.sv s hs),fun a ha=>by
    obtain⟨q1,q2,q3,q4,q5,q6,q7⟩:=c.ap a ha;exact⟨q1,q2,q3,q4,q5,q6,fun r hr=>⟨(q7 r hr).1,by have:=(q7 r hr).2;show r<((d.res++[x]).length:Int);omega⟩⟩⟩,_,_,_,_,_,_,ar⟩
   have aq:=Kd.opened ac.o H;have z:=aE (fK an aq (aD _) (anC (jd n) (af) (af)));have y3:=cr 1 A rfl;generalize a3:q.setCell ⟨gD,1,none⟩ (.slice (some (ae m 0)) (n+1) l)=w3 at*;have L:=aE (aL _ _ _ (anC (jd n) (af) (af)) _ _ n3);have a2:IntKind.i64.wrap ((n:Int)+1-1)=(n:Int):=(by rw[bU];omega);have a4:w3.cell? (ae gD 1)=some (.slice (some (ae m 0)) (n+1) l):=y3;go_wp2_with(refine az rfl 43 _ _ rfl _ _ rfl rfl _ _ n3 (by kernel_rfl) rfl (by simp[Value.oneCell']) ?_)
   refine aX (v:= .agg (anC (jd n) (af) (af))) ?_ rfl ?_
   ·exact bf rfl _ _ w.heap.size _ _ _ _ rfl L.o anT rfl (by kernel_rfl)
   ·rw[K.o];exact⟨_,_,_,rfl,z.o.1,z.o.2,fp _ _,eE _ _⟩
end
end
section
def uN (c:Array Value):Nat->List Value->Array Value
 |_,[]=>c
 |o,v::a=>uN (c.setIfInBounds o v) (o+1) a
theorem Bh: ∀(a:List Value) (c:Array Value) (o:Nat),(uN c o a).size=c.size
 |[],_,_=>rfl
 |v::a,c,o=>by rw[uN,Bh a,ig]
theorem E0: ∀(a:List Value) (c:Array Value) (o k:Nat),o+a.length<=c.size->(uN c o a)[k]? =if o<=k/\k<o+a.length then a[k-o]? else c[k]?
 |[],c,o,k,_=>by rw[ax (by rintro⟨b,d⟩;rw[gU]at d;omega)];rfl
 |v::a,c,o,k,h=>by
  rw[bV]at h;rw[uN,E0 a _ (o+1) k (by rw[ig];omega),bV];by_cases b:o+1<=k/\k<o+1+a.length
  ·rw[aB b,aB (by omega),show k-o=(k-(o+1))+1 by omega,List.getElem?_cons_succ]
  ·rw[ax b];by_cases d:k=o
   ·subst d;rw[aB (by omega),gN (by omega),iM];rfl
   ·rw[ax (by omega),dx (by omega)]
theorem uO {g:Nat}{T:TypeId}: ∀(a:List Value) (o:Nat) (w:World) (c:Array Value),w.heap[g]? =ah c T->(w.setCells g o a).heap[g]? =ah (uN c o a) T
 |[],_,_,_,h=>h
 |v::a,o,w,c,h=>by
  rw[World.setCells,uN];exact uO a (o+1) _ _ (aY w g o _ _ v h)
theorem eY (g:Nat): ∀(a:List Value) (o:Nat) (w:World),(w.setCells g o a).os=w.os/\(w.setCells g o a).tape=w.tape/\(w.setCells g o a).output=w.output/\(w.setCells g o a).heap.size=w.heap.size
 |[],_,_=>⟨rfl,rfl,rfl,rfl⟩
 |v::a,o,w=>by
  rw[World.setCells];obtain⟨b,c,d,e⟩:=eY g a (o+1) (w.setCell ⟨g,o,none⟩ v);exact⟨b,c,d,e.trans (by simp)⟩
theorem pB {α:Type}{m:Nat}{f:α->Array Value}(a: ∀p,(f p).size=m): ∀l:List α,(l.flatMap fun p=>(f p).toList).length=l.length*m
 |[]=>by simp
 |x::l=>by rw[List.flatMap_cons,aP,pB a l,df,a,bV,Nat.add_mul];omega
theorem E1 {α:Type}{m b e:Nat}{f:α->Array Value}{w:World}{v:Value}{l:List α}(A:0<m)(c: ∀p,(f p).size=m)(h:w.ownsRow b e m v l.length (l.flatMap fun p=>(f p).toList)){j g:Nat}{p:α}(z:j<l.length)(n:v.ownBlock=some g):(w.setCells g (j*m) (f p).toList).ownsRow b e m v (l.set j p).length ((l.set j p).flatMap fun p=>(f p).toList):=by
 rcases h.2 with⟨i,_⟩|⟨t,cap,o,i,F,J,B,G,L,M⟩
 ·rw[i]at n;cases n
 ·rw[i]at n;have:t=g:=aN n;subst this
  have K:j*m+m<=l.length*m:=by
   have:(j+1)*m<=l.length*m:=Nat.mul_le_mul_right m z;rw[Nat.add_mul,Nat.one_mul]at this;exact this
  have H:l.length*m<=cap*m:=Nat.mul_le_mul_right m B;refine⟨pB c _,.inr ⟨t,cap,uN o (j*m) (f p).toList,by rw[iE];exact i,F,uO _ _ _ _ J,by rw[iE];exact B,G,by rw[Bh];exact L,?_⟩⟩;rw[iE];apply List.ext_getElem?;intro k;by_cases q:k<l.length*m
  ·rw[dP q,bx,E0 _ _ _ _ (by rw[df,c];omega),df,c];have C:k=(k/m)*m+k%m:=(by rw[Nat.mul_comm];exact(Nat.div_add_mod k m).symm);have D:k%m<m:=Nat.mod_lt _ A;have I:k/m<l.length:=(Nat.div_lt_iff_lt_mul A).2 q;by_cases a:j*m<=k/\k<j*m+m
   ·rw[aB a]
    have s:k/m=j:=by
     apply Nat.div_eq_of_lt_le
     ·exact a.1
     ·rw[Nat.succ_mul];exact a.2
    have d:(l.set j p)[j]? =some p:=(by rw[eP z]);have:=py c d (k-j*m) (by omega);rw[show j*m+(k-j*m)=k by omega]at this;rw[this,<-bx]
   ·rw[ax a]
    have r:k/m≠j:=fun s=>by
     rw[s]at C;omega
    obtain⟨x,E⟩: ∃x,l[k/m]? =some x:=⟨l[k/m],ay I⟩
    have u:=py c E (k%m) D;have y:=py c (show(l.set j p)[k/m]? =some x by rw[fW (fun e=>r e.symm)];exact E) (k%m) D;rw[<-C]at u y;rw[y,<-u,<-M,dP q,bx]
  ·rw[eO (by rw[eI];omega),eO (by rw[pB c,iE];omega)]
section
variable {B gD:Nat} {d:Dk} {t:Tr} {w:World}
theorem DkM.setAp {s r x kv:Value}{v:List (Sv×Value)}{i:List (Ap×Value)}(h:DkM B gD d t s r x kv v i w){j g:Nat}(y:j<i.length)(k:t.av.ownBlock=some g)(p:Ap×Value)(c:(∃a,(a,p.2)∈i/\a.who=p.1.who)\/Rob (Fx gD t) (fun u=>dM u p.2 p.1.who) w):
  DkM B gD {d with aps:=d.aps.set j p.1} t s r x kv v (i.set j p) (w.setCells g (j*11) (apC p).toList)/\Kd gD t t w (w.setCells g (j*11) (apC p).toList):=by
 have l:=E1 (p:=p) (by decide) pA h.aps y k;have m: ∀q,q≠g->(w.setCells g (j*11) (apC p).toList).heap[q]? =w.heap[q]? :=fun q f=>fI g _ _ w q f;obtain⟨A,C,D,z⟩:=eY g (apC p).toList (j*11) w;have o:Kd gD t t w (w.setCells g (j*11) (apC p).toList):=⟨A,C,D,j9 z.symm,fun q f _=>m q (fun e=>f.2.2.2 (by rw[e];exact k.symm)),fun _ _ h=>h,rfl⟩
 generalize w.setCells g (j*11) (apC p).toList=w' at*;refine⟨h.turn o ((m gD (fun e=>iI h.aps h.blk (by decide) (by rw[k,e]))).trans h.blk) rfl rfl rfl ?_ ?_ ?_ h.sve ?_ (fun p c=> .inl c) (fun q f=> ?_),o⟩
 ·exact br h.res fun b n=>m b (fun e=>pY h.res h.aps (by decide) n (by rw[k,e]))
 ·exact br h.svs fun b n=>m b (fun e=>pY h.svs h.aps (by decide) n (by rw[k,e]))
 ·exact l
 ·show(i.set j p).map (fun p=>p.1)=d.aps.set j p.1;rw[List.map_set,h.ape]
 ·rcases List.mem_or_eq_of_mem_set f with f|rfl
  ·exact .inl ⟨q.1,f,rfl⟩
  ·rcases c with c|c
   ·exact .inl c
   ·exact .inr (o.rob c)
end
end
section
theorem D9 {w w':World}{g o n:Nat}(h:w.there g o n)(a:aq w w'):w'.there g o n:=fun j b=>by
 obtain⟨v,d⟩:=Option.isSome_iff_exists.1 (h j b).1;have c:=cZ d;exact⟨Option.isSome_iff_exists.2 ⟨v,(a.cell c).trans d⟩,(a.frozen c).trans (h j b).2⟩
theorem Jr (k:Int)(a:Ap):(ib k a).who=a.who:=by
 unfold ib fy;split
 ·rfl
 ·split<;>rfl
def lH (d:Dk)(k:Int)(j:Nat):Dk:={d with aps:=(d.aps.take j).map (ib k)++d.aps.drop j}
theorem xB {d:Dk}{k:Int}{j:Nat}{a:Ap}(h:d.aps[j]? =some a):(lH d k j).aps[j]? =some a:=by
 have b:=(aF.1 h).1;unfold lH;dsimp only;rw[dB (by simp;omega)];simp[fg (Nat.le_of_lt b),h]
theorem zn {d:Dk}{k:Int}{j:Nat}{a:Ap}(h:d.aps[j]? =some a):({lH d k j with aps:=(lH d k j).aps.set j (ib k a)}:Dk)=lH d k (j+1):=by
 obtain⟨b,e⟩:=aF.1 h;unfold lH;dsimp only;congr 1;rw[List.set_append_right _ _ (by simp;omega),bJ b,e];simp only[bc,eI,fg (Nat.le_of_lt b),iM,aJ];rw[eX,h];simp
theorem NS {d:Dk}{k:Int}{j:Nat}{a:Ap}(h:uK d)(e:0<=k)(ha:d.aps[j]? =some a):uK {d with aps:=d.aps.set j (ib k a)}:=by
 refine⟨h.flt,h.vl,h.kl,h.rl,h.sl,by simpa using h.al,h.gv,h.nm,h.sv,fun b c=> ?_⟩;rcases List.mem_or_eq_of_mem_set c with c|rfl
 ·exact h.ap b c
 ·have:=h.ap a (aM ha);unfold ib fy;split
  ·exact this
  ·split
   ·exact⟨this.1,this.2.1,⟨io _,by show(0:Int)<=10;omega⟩,this.2.2.2⟩
   ·exact⟨this.1,this.2.1,⟨by dsimp only;omega,by dsimp only;have:=this.2.2.1;omega⟩,this.2.2.2⟩
def C8 (b:World)(g o:Nat)(c:Array Value)(i:Nat)(M:Nat->Bool)(_:Nat->Value)(W:World):Prop:=
 (M i=false->aq b W)/\(M i=true-> ∃a,aq b a/\Below a.heap.size (a.setCells g o c.toList) W)
theorem C8.on {e:World}{g o i:Nat}{c:Array Value}(M:Nat->Bool)(φ:Nat->Value)(W a:World)(d:aq W a)(h:C8 e g o c i M φ W):C8 e g o c i M φ a:=by
 refine⟨fun x=>(h.1 x).trans (d.mono (h.1 x).size),fun x=> ?_⟩;obtain⟨f,j,b⟩:=h.2 x;exact⟨f,j,b.trans (d.mono (by have:=b.size;rw[(eY _ _ _ _).2.2.2]at this;exact this))⟩
theorem uP {m a e n:Nat}{w:World}{v:Value}{xs:List Value}(h:w.ownsRow a e m v n xs){j g c:Nat}(r:j<n)(o:v= .slice (some (ae g 0)) n c):w.there g (j*m) m:=fun k s=>by
 rcases h.2 with⟨_,q⟩|⟨p,cap,i,d,_,f,t,_,u,_⟩
 ·omega
 ·rw[o]at d;injection d with b _ _;injection b with b;injection b with b;subst b;have l:(j+1)*m<=cap*m:=Nat.mul_le_mul_right m (by omega);rw[Nat.add_mul,Nat.one_mul]at l;refine⟨?_,bo _ _ _ _ _ f⟩;rw[aZ _ _ _ _ _ _ f,gh (by omega)];rfl
theorem Ls {α:Type}{l:List α}{j:Nat}{a:α}(h:l[j]? =some a):l.set j a=l:=by
 apply List.ext_getElem?;intro i;by_cases e:j=i
 ·subst e;rw[eP (aF.1 h).1,h]
 ·rw[fW e]
section
variable {B gD:Nat} {d:Dk} {t:Tr}
theorem Lt (k:Int)(w:World)(h:dE B gD d t w):Calls prog 40 #[ab gD 0,ag k] w (rD B gD (rX d k) t w):=by
 obtain⟨U,hA,bA,nA⟩:=nb w #[ag 0,ag 0,ag 0,ag 0,af,af] 43;have aP:U.heap.size=w.heap.size+1:=by rw[<-hA];simp
 have a4:=h.opened (aD _) aP bA;have Y:=aE a4;have ar:=aE bA;have H0:=aE h;obtain⟨ak,rv,cv,vv,kv,ss,aa,R⟩:=a4;have aC:aa.length=d.aps.length:=by rw[<-R.ape,bc]
 obtain⟨n,hn⟩:=au d.aps.length;obtain⟨pa,ca,m⟩:=cg R.aps;rw[aC,hn]at m;have C:t.av= .slice pa n ca:=m
 have z3:U.cell? (ae gD 3)=some (.slice pa n ca):=by
  have:=cr (v:=t.av) 3 R.blk rfl;rw[this,C]
 have bv:n<=30:=by rw[<-hn];exact ak.al
 have O:=aE hn;have aq:=aE C;have bw:=aE ak;have b4:w.heap.size<U.heap.size:=by omega
 clear h R aC hn m C ak aP bA;by_cases hk:k<0\/1000<k
 ·have HP:Rb (rX d k=(noA 3,d)):=by show _=_;unfold rX;rw[aB hk]
  have cR:=fj 3 U;have br:k<0\/ ¬k<0/\1000<k:=(by omega);clear hk
  rcases br with a7|⟨a7,G⟩<;>
   (go_enter func40,ntmps40
    go_wp2_with fail
    refine cR.mono ?_
    rintro e w1 ⟨rfl,b1⟩
    have n1:=bt b1 nA
    have L:=aw ar.o b1
    have HO:=aE (fK (Y.o.below b1) (Kd.of (t:=t) (gD:=gD) L) (aD _) (anC (noA 3) (af) (af)))
    have HR:=aE (aL _ _ _ (anC (noA 3) (af) (af)) _ _ n1)
    clear cR z3 b1 L nA
    go_wp2_with(refine az rfl 43 _ _ rfl _ _ rfl rfl _ _ n1 (by kernel_rfl) rfl (by simp[anC,Value.oneCell']) ?_)
    refine aX (v:= .agg (anC (noA 3) (af) (af))) ?_ rfl ?_
    ·exact bf rfl _ _ w.heap.size _ _ _ _ rfl HR.o anT rfl (by kernel_rfl)
    ·rw[HP.o]
     exact⟨t,_,_,rfl,HO.o.1,HO.o.2,fp _ _,eE _ _⟩)
 ·have a7: ¬k<0:=fun e=>hk (.inl e);have G: ¬1000<k:=fun e=>hk (.inr e);have bd:Rb (0<=k):=(by show(0:Int)<=k;omega)
  have HP:Rb (rX d k=(noA 0,lH d k n)):=by
   show _=_;unfold rX lH;rw[ax hk,dh (by rw[O.o];exact aD _),dq (by rw[O.o];exact aD _),gH]
  clear hk;go_enter func40,ntmps40;go_wp2_with fail;clear hA z3;go_loopw [5,6,20] (fun _ _ q wr=> ∃j:Nat,q=ag (j:Int)/\j<=n/\dE B gD (lH d k j) (t.add w.heap.size) wr/\Kd gD (t.add w.heap.size) (t.add w.heap.size) U wr) (fun _ _ q _=>n-(intOf q).toNat);case atStart=>exact⟨0,rfl,by omega,Y.o,Kd.of (aH _ _)⟩
  case round=>
   obtain⟨j,rfl,hj,hd,H⟩:=hrel;have b0:(0:Int)<=(j:Int):=(by omega);by_cases b2:j<n
   ·have a6:(j:Int)<(n:Int):=(by omega);obtain⟨a,ha⟩: ∃a,d.aps[j]? =some a:=⟨d.aps[j]'(by have:=O.o;omega),ay _⟩
    have ai:(lH d k j).aps.length=n:=(by unfold lH;simp;have:=O.o;omega);have m:(lH d k j).aps[j]? =some a:=xB ha;obtain⟨a',i,f,z,bp,ad,an,_,s,S⟩:=DkM.ap hd.2 (j:=j) (by omega);rw[m]at ad;have:a=a':=aN ad;subst this;rw[ai]at an;have J:t.av= .slice (some (ae z 0)) n bp:=an;have e0:=aq.o.symm.trans J;injection e0 with e1 e3 e2;subst e1 e2;clear e3 ad an;obtain⟨wZ,b,hZ,T,P,bB,nB⟩:=nbs wr apZ (apC (a,.slice i a.who.length f)) 45;unfold apZ at hZ T;obtain⟨gx,E⟩:=au wr.heap.size;have am:b.heap.size=gx+1:=(by rw[<-P,<-hZ,<-E];simp);rw[E]at T P;have a5:=hd.opened (q:=gx) (by omega) am bB;have y0:b.cell? (ae gx 0)=some (ag a.st):=(by rw[<-E];exact cr 0 nB rfl);have y1:b.cell? (ae gx 1)=some (ag a.left):=(by rw[<-E];exact cr 1 nB rfl);have a3:=hd.1.ap a (aM m);have b3:=a3.2.2.1;have HA:=aE ha;have bh:=aE ai;have V:=aE J;have Z:=aE E;have X:=aE bB;have HD:=aE hd;have bb:=aE a5;have a0:=aE H;have bl:=aE S;have bx:=aE am;have bu:gx<b.heap.size:=(by omega);clear a3 hd H S am a5 bB ha ai J m;by_cases x:a.st=1
    ·have aS:(a.st !=1)=false:=(by rw[x];rfl);have a1:=aE x;clear x;have b7:IntKind.i64.wrap (a.left-k)=a.left-k:=(by rw[bU];omega);have ao:b.heap[gx]? =ah (apC (a,.slice i a.who.length f)) 45:=(by rw[<-Z.o];exact nB);have x1:=bo _ _ 1 _ _ ao;have nC:(b.setCell ⟨gx,1,none⟩ (ag (a.left-k))).heap[gx]? =ah (apC ({a with left:=a.left-k},.slice i a.who.length f)) 45:=aY b gx 1 _ _ _ ao;have oC: ∀q,q≠gx->(b.setCell ⟨gx,1,none⟩ (ag (a.left-k))).heap[q]? =b.heap[q]? :=fun q hq=>aO _ _ _ _ hq;have sC:(b.setCell ⟨gx,1,none⟩ (ag (a.left-k))).heap.size=b.heap.size:=(by simp);have kC:(b.setCell ⟨gx,1,none⟩ (ag (a.left-k))).os=b.os/\(b.setCell ⟨gx,1,none⟩ (ag (a.left-k))).tape=b.tape/\(b.setCell ⟨gx,1,none⟩ (ag (a.left-k))).output=b.output:=⟨rfl,rfl,rfl⟩
     generalize b6:b.setCell ⟨gx,1,none⟩ (ag (a.left-k))=wC at*;have bs:wC.cell? (ae gx 1)=some (ag (a.left-k)):=cr 1 nC rfl
     have A:Rb (∀r:World,b.heap.size<=r.heap.size->(∀q,q<b.heap.size->q≠gx->r.heap[q]? =b.heap[q]?)->r.os=b.os->r.tape=b.tape->r.output=b.output->dE B gD (lH d k j) (t.add w.heap.size) r/\Kd gD (t.add w.heap.size) (t.add w.heap.size) U r/\Rob (Fx gD (t.add w.heap.size)) (fun u=>dM u (.slice i a.who.length f) a.who) r):=fun r h1 h2 h3 h4 h5=>by
      have L:=X.o;refine⟨bb.o.closed h1 h2,a0.o.trans ((Kd.of L).closed (q:=gx) (by rw[Z.o];exact aD _) h3 h4 h5 h1 h2),bl.o.move (bg L.size h1) (fun q _ hl=> ?_) fun _ _ h=>h⟩;have:=Z.o;exact(h2 q (aU hl L.size) (by omega)).trans (L.block q hl)
     by_cases aF:a.left-k<=0
     case' pos=>
      have HT:Rb (ib k a=fy a 3):=(by show _=_;unfold ib;rw[ax (by simpa using a1.o),aB aF]);have cS:=sE {a with left:=a.left-k} 3 i f wC;dsimp only at cS;have aZ:=nC;go_wp2_with(first|(refine wpList_load_mid rfl 45 _ rfl z (j*11) rfl (apC (a,.slice i a.who.length f)).toList _ s apT rfl (by kernel_rfl) ?_;clear s)|(refine az rfl 45 _ _ rfl _ _ rfl rfl _ _ T (by kernel_rfl) rfl (gQ _ _ _ _) ?_;rw[P];clear T P)|(refine aR rfl 45 _ rfl _ rfl _ _ _ _ nC apT rfl (by kernel_rfl) ?_;clear nC))
      refine cS.mono ?_;rintro e w5 ⟨rfl,b5⟩;have n5:=bt b5 aZ
      have nX:(w5.setRow gx (apC (fy {a with left:=a.left-k} 3,.slice i a.who.length f))).heap[gx]? =ah (apC (ib k a,.slice i a.who.length f)) 45:=by
       rw[HT.o];exact aL _ _ _ _ _ _ n5
      have Q:=A.o (w5.setRow gx (apC (fy {a with left:=a.left-k} 3,.slice i a.who.length f))) (by simp;rw[<-sC];exact b5.size) (fun q hl hq=>((aW _ _ _ _ hq).trans (b5.block q (by omega))).trans (oC q hq)) (b5.os.trans kC.1) (b5.tape.trans kC.2.1) (b5.output.trans kC.2.2);generalize aV:w5.setRow gx (apC (fy {a with left:=a.left-k} 3,.slice i a.who.length f))=r at*;clear cS aZ b5 bs y0 y1 nB x1 hZ
     case' neg=>
      have HT:Rb (ib k a={a with left:=a.left-k}):=(by show _=_;unfold ib;rw[ax (by simpa using a1.o),ax aF])
      have nX:wC.heap[gx]? =ah (apC (ib k a,.slice i a.who.length f)) 45:=by
       rw[HT.o];exact nC
      have Q:=A.o wC (by rw[sC];exact aD _) (fun q _ hq=>oC q hq) kC.1 kC.2.1 kC.2.2;obtain⟨r,rfl⟩: ∃q,q=wC:=⟨_,rfl⟩
      clear nC
     all_goals
      obtain⟨⟨ba,b9,bz,bD,b8,bC,bn,I⟩,a8,aG⟩:=Q
      have a9:bn.length=n:=by have:=congrArg List.length I.ape;rw[bc]at this;exact this.trans bh.o
      have zA:r.cell? (ae gD 3)=some (.slice (some (ae z 0)) n ca):=(cr (v:=t.av) 3 I.blk rfl).trans (congrArg some V.o)
      have bm:Rb (r.there z (j*11) 11):=uP I.aps (c:=ca) (by omega) (by rw[a9];exact V.o)
      have bi:=aE I
      have bj:=aE ba
      have be:=aE a8
      have bk:=aE aG
      obtain⟨cA,D⟩:=au (apC (ib k a,.slice i a.who.length f))
      have a2:cA.all (·.oneCell')=true:=by rw[<-D];exact gQ _ _ _ _
      have p:cA.size=11:=by rw[<-D];rfl
      rw[D]at nX
      clear I ba a8 aG oC sC kC A ao
      go_upto_region 10 with(first|(refine wpList_load_mid rfl 45 _ rfl z (j*11) rfl (apC (a,.slice i a.who.length f)).toList _ s apT rfl (by kernel_rfl) ?_;clear s)|(refine az rfl 45 _ _ rfl _ _ rfl rfl _ _ T (by kernel_rfl) rfl (gQ _ _ _ _) ?_;rw[P];clear T P)|(refine az rfl 45 _ _ rfl _ _ rfl rfl _ _ n5 (by kernel_rfl) rfl (gQ _ _ _ _) ?_;rw[aV];clear n5 aV))
      refine dl (C8 r z (j*11) cA 8) [kn 38 (ab gD 0),kn 39 (ab gD 0),kn 40 (ab gD 0),kn 41 (ab gD 3),kn 42 (.slice (some (ae z 0)) n ca),kn 43 (ag (j:Int)),kn 44 (.agg cA),kn 45 (ab z (j*11)),nk] (fun _=>⟨fun _=>(aH _ _).drew,(fun h=>by cases h)⟩) C8.on (by kernel_rfl) ?_ ?_
      ·rintro M φ W hJ hc F l hl hF
       have HJ:=aE hJ
       clear hc hJ
       simp only[kn,nk,dX,aQ,aT,Act.put,aA,aK,aJ]at hl
       subst hl
       simp only[dn,Nat.reduceAdd]at hF
       dsimp only[kn,nk,dy,eJ,dY,Act.put]
       and_intros
       all_goals first|exact trivial|intro hw hn R K hK
       all_goals try (go_simp;with_reducible exact hK _ _ ⟨rfl,aH _ _⟩)
       ·have y:=((HJ.o.1 (hn 8 _ rfl (by kernel_rfl))).cell (cZ zA)).trans zA
        go_simp
        exact hK _ _ ⟨rfl,aH _ _⟩
       ·have nW:=bt (HJ.o.1 (hn 8 _ rfl (by kernel_rfl))) nX
        show Oper.wp _ _ _ _ _ _
        refine eN 45 _ rfl _ (by simp[Act.eval,hF]) _ _ _ _ nW apT rfl (by rw[p];kernel_rfl) ?_
        exact hK _ _ ⟨rfl,aH _ _⟩
       ·have L:=HJ.o.1 R
        show Oper.wp _ _ _ _ _ _
        refine wp_store_mid 45 _ _ rfl z (j*11) cA (by simp[Act.eval,hF]) (by simp[Act.eval,hF]) (by rw[p];exact D9 bm.o L) (by rw[p];kernel_rfl) a2 ?_
        exact hK undef _ ⟨trivial,fun c=>by simp at c,fun _=>⟨W,L,aH _ _⟩⟩
      ·rintro M φ W hM hJ
       obtain⟨W0,N,h2⟩:=hJ.2 (hM 8 (by decide) rfl)
       simp only[kn,nk,d8,aQ,aT,Act.put,aA,aK,aJ]
       obtain⟨aj,G⟩:=(bi.o.below N).setAp (j:=j) (g:=z) (by omega) (by show t.av.ownBlock=_;rw[V.o];rfl) (ib k a,.slice i a.who.length f) (.inr (by
        show Rob _ (fun u=>dM u (.slice i a.who.length f) (ib k a).who) W0;rw[Jr];exact bk.o.below N))
       rw[D]at aj G
       have ac:=h2.mono (j9 (eY z cA.toList (j*11) W0).2.2.2)
       have O:Rb (dE B gD (lH d k (j+1)) (t.add w.heap.size) W/\Kd gD (t.add w.heap.size) (t.add w.heap.size) U W):=by
        refine⟨dE.below ?_ ac,((be.o.trans (Kd.of N)).trans G).trans (Kd.of ac)⟩;rw[<-zn HA.o];exact⟨NS bj.o bd.o (by rw[xB HA.o]),_,_,_,_,_,_,aj⟩
       clear hM hJ aj G N h2 ac a9 nX zA D a2 p
       go_wp2_with fail
       go_roundw
       case rel=>exact⟨j+1,by go_num,by omega,O.o⟩
       case measure=>simp[intOf];omega
    ·have aS:(a.st !=1)=true:=(by simpa using x)
     have O:Rb (dE B gD (lH d k (j+1)) (t.add w.heap.size) b/\Kd gD (t.add w.heap.size) (t.add w.heap.size) U b):=by
      refine⟨?_,a0.o.trans (Kd.of X.o)⟩;rw[<-zn HA.o];have e:ib k a=a:=(by unfold ib;rw[aB x]);rw[e,Ls (xB HA.o)];exact HD.o.below X.o
     clear x y1 nB;go_wp2_with(first|(refine wpList_load_mid rfl 45 _ rfl z (j*11) rfl (apC (a,.slice i a.who.length f)).toList _ s apT rfl (by kernel_rfl) ?_;clear s)|(refine az rfl 45 _ _ rfl _ _ rfl rfl _ _ T (by kernel_rfl) rfl (gQ _ _ _ _) ?_;rw[P];clear T P))
     go_roundw;case rel=>exact⟨j+1,by go_num,by omega,O.o⟩
     case measure=>simp[intOf];omega
   ·have a6: ¬(j:Int)<(n:Int):=(by omega);obtain rfl:n=j:=(by omega)
    have nq:wr.heap[w.heap.size]? =ah #[ag 0,ag 0,ag 0,ag 0,af,af] 43:=by
     obtain⟨_,_,_,_,_,_,_,R⟩:=Y.o;exact(H.blk w.heap.size (R.nx w.heap.size (bq ..)).2.2 (aI nA)).trans nA
    have HO:=aE (fK hd (Kd.opened ar.o H) (aD _) (anC (noA 0) (af) (af)));have HR:=aE (aL _ _ _ (anC (noA 0) (af) (af)) _ _ nq);clear hd H nA;go_wp2_with(refine az rfl 43 _ _ rfl _ _ rfl rfl _ _ nq (by kernel_rfl) rfl (by simp[Value.oneCell']) ?_)
    refine aX (v:= .agg (anC (noA 0) (af) (af))) ?_ rfl ?_
    ·exact bf rfl _ _ w.heap.size _ _ _ _ rfl HR.o anT rfl (by kernel_rfl)
    ·rw[HP.o];exact⟨_,_,_,rfl,HO.o.1,HO.o.2,fp _ _,eE _ _⟩
end
end
theorem wh {e:Func}(m:e.results= #[ResultVar.cell 2 45,ResultVar.tmp 3]){R:Ending->World->Prop}{a:Act}{w:World}(g:Nat)(c:Array Value)(er:Int)(k:c.size=11)(l:a.defers=[])(f:a.tmps.getD 2 undef=ab g 0)(i:a.tmps.getD 3 undef=ag er)
  (n:w.heap[g]? =ah c 45) (j:R (.returned (.tuple #[.agg c,ag er])) w):bodyPost prog e R .ret a w:=by
 refine aX (v:= .tuple #[.agg c,ag er]) ?_ l j;have b:a.tmps[2]?.getD undef=ab g 0:=by simpa using f
 have d:a.tmps[3]?.getD undef=ag er:=by simpa using i
 have o:=en (P:=prog) w g 45 45 _ _ _ n apT rfl (by rw[k];kernel_rfl);simp[results,m,b,d,asAddr,o]
theorem Ea (a:Ap)(p:Option Addr)(c:Nat)(w:World):Calls prog 35 #[.agg (apC (a,.slice p a.who.length c))] w fun e w'=>e= .returned (.tuple #[.agg (apC (fy a 2,.slice p a.who.length c)),ag 0])/\aq w w':=by
 obtain⟨l,s,f,k⟩:=nb w (apC (a,.slice p a.who.length c)) 45;obtain⟨r,q,g,d⟩:=nb l apZ 45;unfold apZ at q d;have b:=bt g k;have i:=aw f g;have cS:=sE a 2 p c r;go_enter func35,ntmps35;go_wp2_with(refine aR rfl 45 _ rfl _ rfl _ _ _ _ b apT rfl (by kernel_rfl) ?_)
 refine cS.mono ?_;rintro e t ⟨rfl,b1⟩;have j:=bt b1 d;have m:=aE (below_setRow (aw i b1) f.size (apC (fy a 2,.slice p a.who.length c)));have n:=aE (aL _ _ _ (apC (fy a 2,.slice p a.who.length c)) _ _ j);clear cS b1 d k b i;go_wp2_with(refine az rfl 45 _ _ rfl _ _ rfl rfl _ _ j (by kernel_rfl) rfl (gQ _ _ _ _) ?_)
 exact wh rfl l.heap.size _ 0 rfl rfl rfl rfl n.o ⟨rfl,m.o⟩
theorem GC (a:Ap)(p:Option Addr)(c:Nat)(w:World):Calls prog 37 #[.agg (apC (a,.slice p a.who.length c))] w fun e w'=>e= .returned (.tuple #[.agg (apC (fy a 3,.slice p a.who.length c)),ag 0])/\aq w w':=by
 obtain⟨l,s,f,k⟩:=nb w (apC (a,.slice p a.who.length c)) 45;obtain⟨r,q,g,d⟩:=nb l apZ 45;unfold apZ at q d;have b:=bt g k;have i:=aw f g;have cS:=sE a 3 p c r;go_enter func37,ntmps37;go_wp2_with(refine aR rfl 45 _ rfl _ rfl _ _ _ _ b apT rfl (by kernel_rfl) ?_)
 refine cS.mono ?_;rintro e t ⟨rfl,b1⟩;have j:=bt b1 d;have m:=aE (below_setRow (aw i b1) f.size (apC (fy a 3,.slice p a.who.length c)));have n:=aE (aL _ _ _ (apC (fy a 3,.slice p a.who.length c)) _ _ j);clear cS b1 d k b i;go_wp2_with(refine az rfl 45 _ _ rfl _ _ rfl rfl _ _ j (by kernel_rfl) rfl (gQ _ _ _ _) ?_)
 exact wh rfl l.heap.size _ 0 rfl rfl rfl rfl n.o ⟨rfl,m.o⟩
theorem Qq:(prog.info? 37).map (fun i=>(i.zero,i.size,i.bytes))=some (some (af),1,24):=by kernel_rfl
theorem svT:prog.underlying 36=some (.struct (prog.fieldsOf 36)):=by kernel_rfl
theorem qJ (s:Sv)(p:Option Addr)(n c:Nat):(svC (s,.slice p n c)).all (·.oneCell')=true:=by simp[svC,Value.oneCell']
structure GD (B:Nat)(v:Value)(ls:List (List Int))(vs:List Value)(w:World):Prop where
 o:w.ownsRow B 37 1 v ls.length vs
 each: ∀(i:Nat) (l:List Int) (u:Value),ls[i]? =some l->vs[i]? =some u->w.ownsRow B 3 1 u l.length (dz l)
theorem nK {w:World}{B:Nat}{v:Value}{l:List Int}(h:w.ownsRow B 3 1 v l.length (dz l))(i:l.length<9223372036854775808):dM w v l:=by
 obtain⟨p,c,b⟩:=cg h;refine⟨p,c,b,i,fun j x a=> ?_⟩;obtain⟨g,k,e,_,f⟩:=nJ h (by have:=(aF.1 a).1;omega);rw[b]at e;injection e with d _ _;refine⟨g,0,d,?_⟩;rw[cY];exact f j _ (by unfold dz;rw[a8,a];rfl)
theorem GD.rob {B:Nat}{v:Value}{a:List (List Int)}{d:List Value}{w:World}(h:GD B v a d w)(A:a.length<9223372036854775808)(D: ∀l∈a,l.length<9223372036854775808):Rob (fun q=>B<=q) (fun u=>fu u v a) w:=fun u _ ha=>by
 have m: ∀{e n:Nat} {x:Value} {xs:List Value},w.ownsRow B e 1 x n xs->u.ownsRow B e 1 x n xs:=fun h=>br h fun b k=>ha b (h.lt b k).1 (h.lt b k).2;have f:=m h.o;have C:d.length=a.length:=by have:=f.1;omega
 obtain⟨p,c,r⟩:=cg f;refine⟨p,c,r,A,fun j l i=> ?_⟩;have z:=(aF.1 i).1;obtain⟨x,s⟩: ∃x,d[j]? =some x:=⟨d[j]'(by omega),ay _⟩
 obtain⟨g,E,e,_,y⟩:=nJ f (by omega);rw[r]at e;injection e with t _ _;exact⟨g,0,x,t,by rw[cY];exact y j x s,nK (m (h.each j l x i s)) (D l (aM i))⟩
theorem GF (s:Sv)(p:Option Addr)(c:Nat)(w:World)(h:fu w (.slice p s.roles.length c) s.roles)(hl:s.roles.length<=1000)(hp: ∀l∈s.roles,l.length<=1000):Calls prog 64 #[.agg (svC (s,.slice p s.roles.length c))] w fun e w'=> ∃p' c',e= .returned (.agg (svC (s,.slice p' s.roles.length c')))/\Rob (fun q=>w.heap.size<=q) (fun u=>fu u (.slice p' s.roles.length c') s.roles) w'/\aq w w':=by
 obtain⟨P,hA,bA,nA⟩:=nb w (svC (s,.slice p s.roles.length c)) 36;obtain⟨wB,hB,bB,nB⟩:=nb P #[ag 0,ag 0,ag 0,af] 36;have O:=bt bB nA;have y:=aw bA bB;have hr:=h.below y;obtain⟨n,hn⟩:=au s.roles.length;have z3:wB.cell? (ae w.heap.size 3)=some (.slice p n c):=by rw[<-hn];exact cr 3 O rfl
 have F:=aE hn;have HR:=aE hr;have HB:=aE y;have HP:=aE hp;have av:w.heap.size<=wB.heap.size:=y.size;rw[hn]at hl;have a2:(n:Int)<=1000:=by omega
 clear h hn hr hp nA bA bB y;go_enter func64,ntmps64;go_wp2_with fail;go_loopw [3,5,9] (fun v _ q wr=> ∃(j:Nat) (vs:List Value),q=ag (j:Int)/\j<=n/\aq wB wr/\GD wB.heap.size v (s.roles.take j) vs wr) (fun _ _ q _=>n-(intOf q).toNat);case atStart=>exact⟨0,[],rfl,by omega,aH _ _,dp _ _ _ _,fun i l u hi=>by simp at hi⟩
 case round=>
  obtain⟨j,vs,rfl,hj,a,r⟩:=hrel;have a0:(0:Int)<=(j:Int):=(by omega);by_cases a1:j<n
  ·have V:(j:Int)<(n:Int):=(by omega);obtain⟨l,C⟩: ∃l,s.roles[j]? =some l:=⟨s.roles[j]'(by have:=F.o;omega),ay _⟩
   obtain⟨p0,c0,e0,N,U⟩:=HR.o;injection e0 with e1 e3 e2;subst e1 e2;obtain⟨g,o,sv,e4,hc,I⟩:=U j l C;subst e4;clear e3 N U;have ad:=aj a hc;have cC:=zk l sv wr (I.below a) (HP.o l (aM C));obtain⟨ps,cs,ao,N,an⟩:=I;subst ao;have HL:=aE C;have L:=aE r;have S:=aE a;clear N an C hc r a;go_wp2_with fail;refine cC.mono ?_;rintro e w1 ⟨v1,rfl,D,b1⟩;obtain⟨p1,c1,ap⟩:=cg D;subst ap;obtain⟨wC,hC,bC,nC⟩:=nb w1 #[.slice p1 l.length c1] 37;have A:=aw b1 bC;have f:=br L.o.o fun b G=>A.block b (L.o.o.lt b G).2;have B:=aw S.o A;have al:(s.roles.take j).length=j:=(by rw[eI,F.o];omega);rw[al]at f;have K:=aE (br D fun b G=>bC.block b (D.lt b G).2);have R:=aE A;clear cC D b1 bC ad A;go_wp2_with(at_builtin;refine iN rfl _ _ 34 37 rfl CN Qq rfl (by decide) (by decide) rfl f rfl nC rfl (by simp[Value.oneCell']) (by omega) B.size ?_)
   rintro v2 w2 X M _ g2 c2 rfl;have z:=B.grown M B.size (fun k hk=>(f.lt k hk).1)
   have T:Rb (GD wB.heap.size (.slice (some (ae g2 0)) (j+1) c2) (s.roles.take (j+1)) (vs++[.slice p1 l.length c1]) w2):=by
    have W: ∀{x:Value} {m:Nat} {xs:List Value} {B':Nat},wC.ownsRow B' 3 1 x m xs->w2.ownsRow B' 3 1 x m xs:=fun Q=>br Q fun b y=>M.block b (Q.lt b y).2 (fun e=>pY Q f (by decide) y e.symm);have ar:vs.length=j:=(by have:=f.1;omega);refine⟨?_,fun i l' u hi hu=> ?_⟩
    ·rw[eI,F.o,fg (by omega)];exact X
    ·by_cases e:i=j
     ·subst e;rw[dP (by omega),HL.o]at hi;have:l=l':=aN hi;subst this;rw[dB (by omega),ar,iM]at hu;have:Value.slice p1 l.length c1=u:=aN hu;subst this;refine W ⟨K.o.1,?_⟩;rcases K.o.2 with q|⟨gq,cq,cu,q1,q2,q3⟩
      ·exact .inl q
      ·exact .inr ⟨gq,cq,cu,q1,bg S.o.size q2,q3⟩
     ·have ai:i<j:=by
       have:=(aF.1 hi).1;rw[eI]at this;omega
      rw[dP (by omega)]at hi;rw[dT (by omega)]at hu;have Q:=L.o.each i l' u (by rw[dP ai];exact hi) hu;exact W (br Q fun b y=>R.o.block b (Q.lt b y).2)
   clear f X M B nC hC K R;go_wp2_with fail;go_roundw;case rel=>exact⟨j+1,_,by go_num,by omega,z,T.o⟩
   case measure=>simp[intOf];omega
  ·have V: ¬(j:Int)<(n:Int):=(by omega);obtain rfl:n=j:=(by omega);have aa:s.roles.take n=s.roles:=dh (by rw[F.o];exact aD _);rw[aa]at r;have ho:=r.o;rw[F.o]at ho;obtain⟨t,d,hv⟩:=cg ho;subst hv;have E:=bt a O;have ab:=bt a nB
   have ax:w.heap.size<P.heap.size:=by
    have:=hA▸(aI (aG w (.cells (svC (s,.slice p s.roles.length c)) 36)));omega
   have J:w.heap.size≠P.heap.size:=(by omega);have x3:=bo _ _ 3 _ _ E;have y3:wr.cell? (ae w.heap.size 3)=some (.slice p n c):=aj a z3;have nC:(wr.setCell ⟨w.heap.size,3,none⟩ (.slice t n d)).heap[w.heap.size]? =ah (svC (s,.slice t n d)) 36:=aY wr w.heap.size 3 _ _ _ E;have nD:=(aO wr ⟨w.heap.size,3,none⟩ P.heap.size (.slice t n d) (fun e=>J e.symm)).trans ab;have z:=(aw HB.o a).setCell (p:=⟨w.heap.size,3,none⟩) (aD _) (.slice t n d);have H:=r.rob (by rw[F.o];omega) (fun l ak=>by have:=HP.o l ak;omega);have Y: ∀q,q≠w.heap.size->(wr.setCell ⟨w.heap.size,3,none⟩ (.slice t n d)).heap[q]? =wr.heap[q]? :=fun q G=>aO _ _ _ _ G;have Z:(wr.setCell ⟨w.heap.size,3,none⟩ (.slice t n d)).heap.size=wr.heap.size:=(by simp);generalize a3:wr.setCell ⟨w.heap.size,3,none⟩ (.slice t n d)=wC at*;have a4:=aI nB
   have HO:Rb (Rob (fun q=>w.heap.size<=q) (fun u=>fu u (.slice t n d) s.roles) (wC.setRow P.heap.size (svC (s,.slice t n d)))/\aq w (wC.setRow P.heap.size (svC (s,.slice t n d)))):=by
    refine⟨H.move (by simp;rw[Z];exact aD _) (fun q G _=> ?_) (fun q _ G=>bg av G),below_setRow z (by have:=aI E;have:=hA▸(am w (.cells (svC (s,.slice p s.roles.length c)) 36)).size;exact this) _⟩;exact(aW _ _ _ _ (by omega)).trans (Y q (by omega))
   have ac:=aE (aL _ _ _ (svC (s,.slice t n d)) _ _ nD);clear r ho H Y Z z E ab O J aa z3;go_wp2_with(first|(refine aR rfl 36 _ rfl _ rfl _ _ _ _ nC svT rfl (by kernel_rfl) ?_)|(refine az rfl 36 _ _ rfl _ _ rfl rfl _ _ nD (by kernel_rfl) rfl (qJ _ _ _ _) ?_))
   refine aX (v:= .agg (svC (s,.slice t n d))) ?_ rfl ⟨t,d,by rw[F.o],by rw[F.o];exact HO.o.1,HO.o.2⟩;exact bf rfl _ _ P.heap.size _ _ _ _ rfl ac.o svT rfl (by kernel_rfl)
end Go.Proofs.YtlkehieagdkgiaaGreatDoor
