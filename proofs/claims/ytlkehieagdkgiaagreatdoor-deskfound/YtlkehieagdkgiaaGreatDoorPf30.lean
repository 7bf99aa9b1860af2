/- Texts of the proof. -/
import Derived.Test.YtlkehieagdkgiaaGreatDoorPf29
set_option maxRecDepth 100000
set_option maxHeartbeats 8000000
namespace Go.Proofs.YtlkehieagdkgiaaGreatDoor
open Go.Proofs.Tryz Go.RowKit Lx Vx Mx Msk
section
theorem N7 (n c:Nat)(w:World):(binOp .eql 37 (.slice none n c) (af)).run prog w= .ok (.bool true) w:=by rfl
theorem Pw (q:Addr)(n c:Nat)(w:World):(binOp .eql 37 (.slice (some q) n c) (af)).run prog w= .ok (.bool false) w:=by rfl
attribute [local go_sem] N7 Pw
theorem zj (a:List Int)(v:Value)(w:World)(h:dT w v a)(D:a.length<=1000):Calls prog 73 #[v] w fun e w'=> ∃d,e= .returned d/\w'.ownsRow w.heap.size 3 1 d a.length (dB a)/\aq w w':=by
 have j:=aF h;obtain⟨p,c,rfl,E,s⟩:=h;cases p with
 |none=>
  have u:a=[]:=by
   cases a with
   |nil=>rfl
   |cons x l=>
    obtain⟨g,o,e,_⟩:=s 0 x rfl;cases e
  subst u;go_enter func73,ntmps73;go_wp2_with fail;go_ret;exact⟨_,rfl,dl _ _ _ _,aH _ _⟩
 |some q=>
  obtain⟨B,n,b,A⟩:=nb w #[] 3;have i:=JM B A w.heap.size (aD _);have y:=j.o.below b;go_enter func73,ntmps73;go_wp2_with(first|(refine tP rfl rfl ?_;rw[n])|(at_builtin;refine uK rfl _ _ rfl w.heap.size [] a _ _ rfl i rfl y (by simp;omega) b.size ?_))
  intro d w' f m;have r:=b.grown m b.size (fun k t=>(i.lt k t).1);obtain⟨F,C,z⟩:=dj f;subst z;go_wp2_with fail;go_ret;exact⟨_,rfl,f,r⟩
theorem JN {w:World}{p:Option Addr}{n c:Nat}{d:List Int}(h:dT w (.slice p n c) d){j:Nat}(o:j<=d.length):dT w (.slice p j c) (d.take j):=by
 obtain⟨r,l,e,q,i⟩:=h;injection e with g m e2;subst g e2;have a:(d.take j).length=j:=by rw[eR];omega
 refine⟨p,c,by rw[a],by omega,fun k x f=>i k x ?_⟩;have b:=(aE.1 f).1;rw[a]at b;rw[dH b]at f;exact f
theorem JO {who:List Int}{roles:List (List Int)}{n j:Nat}{x:Int}{l:List Int}(d:j<n)(c:who[j]? =some x)(b:roles[j]? =some l):pV who roles (n-j) j=if decide (x∈l)=false then 6 else if decide (x∈who.take j)=true then 7 else pV who roles (n-(j+1)) (j+1):=by
 rw[show n-j=(n-(j+1))+1 by omega];simp only[pV,List.getD,c,b,Option.getD_some];by_cases a:x∈l<;>simp[a]
theorem C9 (who:List Int)(roles:List (List Int))(p:Option Addr)(c:Nat)(Y:Value)(w:World)(h:dT w (.slice p who.length c) who)(F:who.length<=c)(X:fG w Y roles):Calls prog 68 #[.slice p who.length c,Y] w fun e w'=>e= .returned (ag (jQ who roles))/\aq w w':=by
 have V:=aF h;have HR:=aF X;obtain⟨p0,c0,e0,hl,K⟩:=h;injection e0 with J e3 e2;subst J e2;clear e3;obtain⟨q,cq,rfl,M,s⟩:=X;obtain⟨n,A⟩:=au who.length;obtain⟨m,z⟩:=au roles.length;have U:=aF A;have Z:=aF z;have T:=aF K;have B:=aF s;rw[A]at V hl F⊢;rw[z]at HR M⊢;have ae:(n:Int)<9223372036854775808:=by omega
 have ad:(m:Int)<9223372036854775808:=by omega
 by_cases b:n=m
 ·have I:Rg (jQ who roles=pV who roles n 0):=by
   show _=_;unfold jQ;rw[A,z,ax (by simpa using b)]
  subst b;clear K s A z;go_enter func68,ntmps68;go_wp2_with fail;go_loopw [5,6,14] (fun _ _ t wr=> ∃j:Nat,t=ag (j:Int)/\j<=n/\aq w wr/\jQ who roles=pV who roles (n-j) j) (fun _ _ t _=>n-(intOf t).toNat);case atStart=>exact⟨0,rfl,by omega,aH _ _,I.o⟩
  case round=>
   obtain⟨j,rfl,hj,y,k⟩:=hrel;have ab:(0:Int)<=(j:Int):=(by omega);by_cases L:j<n
   ·have G:(j:Int)<(n:Int):=(by omega);have ac:j<=n:=hj;obtain⟨x,Q⟩: ∃x,who[j]? =some x:=⟨who[j]'(by have:=U.o;omega),ay _⟩
    obtain⟨l,u⟩: ∃l,roles[j]? =some l:=⟨roles[j]'(by have:=Z.o;omega),ay _⟩
    rw[JO L Q u]at k;obtain⟨g,o,J,c1⟩:=T.o j x Q;obtain⟨g2,o2,sv,e2,W,f⟩:=B.o j l u;subst J e2;have d1:=aj y c1;have d2:=aj y W;have R:=jO l sv x wr (f.below y);obtain⟨ps,cs,P,N,O⟩:=f;subst P;clear N O;have HT:=aF (JN V.o (j:=j) (by have:=U.o;omega));obtain⟨b1,E⟩:=au (decide (x∈l));obtain⟨b2,r⟩:=au (decide (x∈who.take j));rw[E]at R k;rw[r]at k;have H:=aF r;have v:=aF k;clear k E r Q u c1 W;go_wp2_with fail;refine R.mono ?_;rintro e w1 ⟨rfl,C⟩;have a:=aw y C;clear R d1 d2 C y;cases b1 with
    |false=>
     have i:Rg (jQ who roles=6):=v.o;clear v;go_wp2_with fail;go_ret;exact⟨by rw[i.o];rfl,a⟩
    |true=>
     have S:=jO (who.take j) _ x w1 (HT.o.below a);rw[H.o]at S;have aa:(j:Int)<=(c:Int):=(by omega);go_wp2_with fail;refine S.mono ?_;rintro e w2 ⟨rfl,D⟩;have d:=aw a D;clear S D a;cases b2 with
     |true=>
      have i:Rg (jQ who roles=7):=v.o;clear v;go_wp2_with fail;go_ret;exact⟨by rw[i.o];rfl,d⟩
     |false=>
      have i:Rg (jQ who roles=pV who roles (n-(j+1)) (j+1)):=v.o;clear v;go_wp2_with fail;go_roundw;case rel=>exact⟨j+1,by go_num,by omega,d,i.o⟩
      case measure=>simp[intOf];omega
   ·have G: ¬(j:Int)<(n:Int):=(by omega)
    have i:Rg (jQ who roles=0):=by
     show _=_;rw[k,show n-j=0 by omega];rfl
    clear k;go_wp2_with fail;go_ret;exact⟨by rw[i.o];rfl,y⟩
 ·have I:Rg (jQ who roles=5):=by
   show _=_;unfold jQ;rw[A,z,aB b]
  have af:((n:Int) !=(m:Int))=true:=(by simpa using(by omega: ¬(n:Int)=(m:Int)));clear K s A z b T B;go_enter func68,ntmps68;go_wp2_with fail;go_ret;exact⟨by rw[I.o];rfl,aH _ _⟩
end
section
section
variable {B gD:Nat} {d d':Dk} {t t':Tr} {rv cv vv kv:Value} {ss ss':List (Sv×Value)} {aa aa':List (Ap×Value)} {w w':World}
theorem DkM.turn (h:DkM B gD d t rv cv vv kv ss aa w)(c:Kd gD t t' w w')(k:w'.heap[gD]? =ah #[rv,t'.ev,t'.sv,t'.av,cv,vv,ag d'.given,kv,ag d'.runs] 73)(g:d'.rules=d.rules)(e2:d'.vers=d.vers)(j:d'.kept=d.kept)
  (r1:w'.ownsRow B 9 1 t'.ev d'.res.length (d'.res.map lg)) (s:w'.ownsRow B 36 4 t'.sv ss'.length (svF ss')) (v:w'.ownsRow B 45 11 t'.av aa'.length (apF aa')) (o:ss'.map (fun p=>p.1)=d'.svs) (r:aa'.map (fun p=>p.1)=d'.aps)
  (m: ∀p∈ss',p∈ss\/Rob (Fx gD t') (fun u=>fG u p.2 p.1.roles) w') (n: ∀p∈aa',(∃a,(a,p.2)∈aa/\a.who=p.1.who)\/Rob (Fx gD t') (fun u=>dT u p.2 p.1.who) w'):DkM B gD d' t' rv cv vv kv ss' aa' w':=by
 refine⟨k,h.lo,by rw[g];exact c.rob h.rules,by rw[g];exact c.rob h.codes,by rw[e2];exact c.rob h.vers,by rw[j];exact c.rob h.kept,r1,s,o,fun p b=> ?_,v,r,fun p b=> ?_,fun q i=> ?_⟩
 ·rcases m p b with b|b
  ·exact c.rob (h.svr p b)
  ·exact b
 ·rcases n p b with⟨a,b,e⟩|b
  ·rw[<-e];exact c.rob (h.apr (a,p.2) b)
  ·exact b
 ·rw[c.xs]at i;have f:=h.nx q i;have l:=c.gx q f.1 f.2.2;exact⟨aU f.1 c.size,f.2.1,l⟩
theorem Da {k:Nat}{v:Value}(_:DkM B gD d t rv cv vv kv ss aa w){l:World}{b:Value}(m:b=t.ev\/b=t.sv\/b=t.av)(g:w.grownBy l b.ownBlock)(n:v.ownBlock=b.ownBlock\/v.ownBlock=some w.heap.size)(j:(t'={t with ev:=v}/\b=t.ev)\/(t'={t with sv:=v}/\b=t.sv)\/(t'={t with av:=v}/\b=t.av)):Kd gD t t' w (l.setCell ⟨gD,k,none⟩ v):=by
 have i: ∀q,Gx gD t q->some q≠b.ownBlock:=fun q a=>by
  rcases m with rfl|rfl|rfl
  ·exact a.2.1
  ·exact a.2.2.1
  ·exact a.2.2.2
 have c: ∀q,q<w.heap.size->Gx gD t q->some q≠v.ownBlock:=fun q f a=>by
  rcases n with e|e
  ·rw[e];exact i q a
  ·rw[e];intro e;have:=aM e;omega
 refine⟨g.os,g.tape,g.output,by simpa using g.size,fun q a f=>((aP _ _ _ _ a.1).trans (g.block q f (i q a))),fun q f a=> ?_,?_⟩
 ·rcases j with⟨rfl,_⟩|⟨rfl,_⟩|⟨rfl,_⟩
  ·exact⟨a.1,c q f a,a.2.2.1,a.2.2.2⟩
  ·exact⟨a.1,a.2.1,c q f a,a.2.2.2⟩
  ·exact⟨a.1,a.2.1,a.2.2.1,c q f a⟩
 ·rcases j with⟨rfl,_⟩|⟨rfl,_⟩|⟨rfl,_⟩<;>rfl
theorem pO {b1 b2 T1 c p q n o:Nat}{d f:Value}{r s:List Value}(j:w.ownsRow b1 T1 p d n r)(k:w.ownsRow b2 c q f o s)(l:T1≠c){b:Nat}(a:d.ownBlock=some b):f.ownBlock≠some b:=by
 rcases j.2 with⟨e,_⟩|⟨g,cap,i,e,_,m,_⟩
 ·rw[e]at a;cases a
 ·rw[e]at a;have:g=b:=aM a;subst this;exact iL k m l
theorem qC {T1 g j v i t:Nat}{l m:Value}{o x:List Value}{k:Nat}{u:Value}{n:World}(a: ∃c,w.heap[gD]? =ah c 73)(d:w.ownsRow B T1 j l i o)(p:w.ownsRow B g v m t x)(r:T1≠g)(q:(73:Nat)≠T1)(s:w.grownBy n m.ownBlock):(n.setCell ⟨gD,k,none⟩ u).ownsRow B T1 j l i o:=by
 obtain⟨c,a⟩:=a;refine bJ d fun b f=> ?_;exact(aP _ _ _ _ (fun e=>iL d a q (by rw[f,e]))).trans (s.block b (d.lt b f).2 (fun e=>pO d p r f e.symm))
theorem zk {p:List Int}{n a:Int}(c:n<=a): ∀(m i:Nat),oe p n m i=0->oe p a m i=0
 |0,_,_=>rfl
 |m+1,i,h=>by
  unfold oe at h⊢;split at h
  ·cases h
  ·rename_i d;rw[ax (by omega)];split at h
   ·cases h
   ·rename_i b;rw[ax b];exact zk c m (i+1) h
theorem wh {n b:Int}(c:n<=b): ∀(l:List (List Int)),kT n l=0->kT b l=0
 |[],_=>rfl
 |p::l,h=>by
  unfold kT at h⊢;by_cases a:iY p n=0
  ·rw[ax (by simpa using a)]at h
   have d:iY p b=0:=by
    unfold iY at a⊢;split at a
    ·cases a
    ·rename_i e;rw[ax e];exact zk c _ _ a
   rw[ax (by simpa using d)];exact wh c l h
  ·rw[aB a]at h;exact absurd h a
theorem Em {s:Sv}{n a:Int}(d:n<=a)(h:fo s n=0):fo s a=0:=by
 unfold fo at h⊢;split at h
 ·cases h
 ·rename_i b;rw[ax b];split at h
  ·cases h
  ·rename_i c;rw[ax c];exact wh d _ h
def rt (B:Nat)(w:World)(v:Value)(l:List Int):Prop:=dT w v l/\(∀p n k,v= .slice p n k->n<=k)/\ ∀b,v.ownBlock=some b->B<=b
def ru (B gD:Nat)(p:An×Dk)(t:Tr)(w:World)(e:Ending)(w':World):Prop:= ∃(t':Tr) (a lv:Value),e= .returned (.agg (anC p.1 a lv))/\dC B gD p.2 t' w'/\Kd gD t t' w w'/\Rob (Fx gD t') (fun u=>rt B u a p.1.who) w'/\Rob (Fx gD t') (fun u=>dT u lv p.1.list) w'
theorem eO (P:Nat->Prop)(w:World):Rob P (fun u=>dT u (af) []) w:=fun u _ _=>⟨none,0,rfl,by simp,fun j n a=>by simp at a⟩
theorem fu {B:Nat}(P:Nat->Prop)(w:World):Rob P (fun u=>rt B u (af) []) w:=fun u _ _=>⟨⟨none,0,rfl,by simp,fun j n a=>by simp at a⟩,(fun p n k e=>by cases e;exact aD _),fun b e=>by cases e⟩
theorem fT {q:Nat}{W:World}(b:dC B gD d (t'.add q) W)(e:Kd gD t t' w W)(f:w.heap.size<=q)(c:Array Value):dC B gD d t' (W.setRow q c)/\Kd gD t t' w (W.setRow q c):=
 ⟨b.closed (by simp) fun k _ a=>aW _ _ _ _ a,e.closed f rfl rfl rfl (by simp) fun k _ a=>aW _ _ _ _ a⟩
theorem QY:(prog.info? 9).map (fun i=>(i.zero,i.size,i.bytes))=some (some (.string ⟨#[]⟩),1,16):=by kernel_rfl
theorem Qw:prog.underlying 25=some (.slice 9):=by kernel_rfl
theorem GP (x:List UInt8)(w:World)(h:dC B gD d t w)(hx:x.length<=9223372036854775807):Calls prog 30 #[ab gD 0,lg x] w (ru B gD (ro d x) t w):=by
 obtain⟨Z,hA,bA,nA⟩:=nb w #[ag 0,ag 0,ag 0,ag 0,af,af] 43;have ay:Z.heap.size=w.heap.size+1:=by rw[<-hA];simp
 have P:=h.opened (aD _) ay bA;have D:=aF P;obtain⟨c,rv,cv,vv,kv,ss,aa,hm⟩:=P;obtain⟨pe,ce,Q⟩:=dj hm.res;obtain⟨n,Y⟩:=au d.res.length
 have z1:Z.cell? (ae gD 1)=some (.slice pe n ce):=by
  have:=cr (v:=t.ev) 1 hm.blk rfl;rw[this,<-Y];exact congrArg some Q
 have az:n<=12:=by rw[<-Y];exact c.rl
 have F:=aF Y;have cR:=fun(e:Int) (W:World)=>fp e W;have J:=aF bA;have E:Rg (t.ev= .slice pe n ce):=by show _=_;rw[<-Y];exact Q
 have HM:=aF hm;have HX:=aF hx;have ai:=aF c;unfold lg;by_cases G:12<=n
 ·have M:(12:Int)<=(n:Int):=by omega
  have K:Rg (ro d x=(noA 5,d)):=(by show _=_;unfold ro;rw[aB (by rw[F.o];exact G)]);go_enter func30,ntmps30;go_wp2_with fail;refine(cR 5 Z).mono ?_;rintro e w1 ⟨rfl,b1⟩;have U:=bt b1 nA;have N:=aw J.o b1;have z:=aF (fT (D.o.below b1) (Kd.of (t:=t) (gD:=gD) N) (aD _) (anC (noA 5) (af) (af)));have L:=aF (aL _ _ _ (anC (noA 5) (af) (af)) _ _ U);go_wp2_with(refine aA rfl 43 _ _ rfl _ _ rfl rfl _ _ U (by kernel_rfl) rfl (by simp[anC,Value.oneCell']) ?_)
  refine aY (v:= .agg (anC (noA 5) (af) (af))) ?_ rfl ?_
  ·exact bc rfl _ _ w.heap.size _ _ _ _ rfl L.o anT rfl (by kernel_rfl)
  ·rw[K.o];exact⟨t,_,_,rfl,z.o.1,z.o.2,fu _ _,eO _ _⟩
 ·have M: ¬(12:Int)<=(n:Int):=by omega
  have cC:=zg x Z D.o;unfold lg at cC;obtain⟨k,hk⟩:=au (atP5 d.rules x);rw[hk]at cC;have HK:=aF hk;go_enter func30,ntmps30;go_wp2_with fail;refine cC.mono ?_;rintro e w1 ⟨rfl,b1⟩;have U:=bt b1 nA;have I:=aF (aw J.o b1);have ad:=aF (D.o.below b1);have ah:=aF (HM.o.below b1);have a4:=aj b1 z1;by_cases R:k<0
  ·have K:Rg (ro d x=(noA 7,d)):=(by show _=_;unfold ro;rw[ax (by rw[F.o];exact G),HK.o,aB R]);have ak:=cR 7 w1;go_wp2_with fail;refine ak.mono ?_;rintro e q ⟨rfl,b2⟩;have n2:=bt b2 U;have N:=aw I.o b2;have z:=aF (fT (ad.o.below b2) (Kd.of (t:=t) (gD:=gD) N) (aD _) (anC (noA 7) (af) (af)));have L:=aF (aL _ _ _ (anC (noA 7) (af) (af)) _ _ n2);go_wp2_with(refine aA rfl 43 _ _ rfl _ _ rfl rfl _ _ n2 (by kernel_rfl) rfl (by simp[anC,Value.oneCell']) ?_)
   refine aY (v:= .agg (anC (noA 7) (af) (af))) ?_ rfl ?_
   ·exact bc rfl _ _ w.heap.size _ _ _ _ rfl L.o anT rfl (by kernel_rfl)
   ·rw[K.o];exact⟨t,_,_,rfl,z.o.1,z.o.2,fu _ _,eO _ _⟩
  ·have K:Rg (ro d x=(je n,{d with res:=d.res++[x]})):=(by show _=_;unfold ro;rw[ax (by rw[F.o];exact G),HK.o,ax R,F.o]);obtain⟨X,hB,bB,nB⟩:=nb w1 #[.string ⟨x.toArray⟩] 9;have u:=ah.o.below bB
   have S:X.ownsRow B 9 1 (.slice pe n ce) n (d.res.map lg):=by
    have:=u.res;rw[F.o]at this;rw[<-E.o];exact this
   have am:B<=X.heap.size:=(by have:=u.lo;have:=aI u.blk;omega);have f:=aF u;have ac:=aF (aw I.o bB);have V:=bt bB U;go_wp2_with(at_builtin;refine iO rfl _ _ 25 9 rfl Qw QY rfl (by decide) (by decide) rfl S rfl nB rfl (by simp[Value.oneCell']) (by omega) am ?_)
   rintro v' q C ao O m l rfl;have g:=f.o.blk;have av:=f.o.nx w.heap.size (bf ..)
   have j:X.grownBy q (t.add w.heap.size).ev.ownBlock:=by
    show X.grownBy q t.ev.ownBlock;rw[E.o];exact ao
   have H:Kd gD (t.add w.heap.size) (({t with ev:= .slice (some (ae m 0)) (n+1) l}:Tr).add w.heap.size) X (q.setCell ⟨gD,1,none⟩ (.slice (some (ae m 0)) (n+1) l)):=Da f.o (.inl rfl) j (by show _=t.ev.ownBlock\/_;rw[E.o];exact O) (.inl ⟨rfl,rfl⟩);have i:=(j.block gD (aI g) (fun e=>iL f.o.res g (by decide) e.symm)).trans g;have A:=aZ q gD 1 _ _ (.slice (some (ae m 0)) (n+1) l) i;have y1:=cr 1 i rfl;have x1:=bp _ _ 1 _ _ i;have n3:=(H.blk w.heap.size av.2.2 (aI V)).trans V
   have ar:DkM B gD {d with res:=d.res++[x]} (({t with ev:= .slice (some (ae m 0)) (n+1) l}:Tr).add w.heap.size) rv cv vv kv ss aa (q.setCell ⟨gD,1,none⟩ (.slice (some (ae m 0)) (n+1) l)):=by
    refine f.o.turn H A rfl rfl rfl ?_ (qC ⟨_,g⟩ f.o.svs f.o.res (by decide) (by decide) j) (qC ⟨_,g⟩ f.o.aps f.o.res (by decide) (by decide) j) f.o.sve f.o.ape (fun p hp=> .inl hp) (fun p hp=> .inl ⟨p.1,hp,rfl⟩);refine bJ ?_ fun b N=>aP q ⟨gD,1,none⟩ b _ (fun e=>iL C i (by decide) (by rw[<-show b=gD from e];exact N));show q.ownsRow B _ 1 (.slice (some (ae m 0)) (n+1) l) (d.res++[x]).length ((d.res++[x]).map lg);rw[aO,F.o,dO];exact C
   have c:=ai.o;have a0:((d.res++[x]).length:Int)=(d.res.length:Int)+1:=(by simp)
   have an:dC B gD {d with res:=d.res++[x]} (({t with ev:= .slice (some (ae m 0)) (n+1) l}:Tr).add w.heap.size) (q.setCell ⟨gD,1,none⟩ (.slice (some (ae m 0)) (n+1) l)):=⟨⟨c.flt,c.vl,c.kl,by show(d.res++[x]).length<=12;rw[aO,F.o];simp;omega,c.sl,c.al,c.gv,fun y T=>by
    rcases bN.1 T with T|T
    ·exact c.nm y T
    ·rw[bL.1 T];exact HX.o,fun s hs=>Em (by show(d.res.length:Int)<=((d.res++[x]).length:Int);omega) (c.sv s hs),fun a ha=>by
    obtain⟨q1,q2,q3,q4,q5,q6,q7⟩:=c.ap a ha;exact⟨q1,q2,q3,q4,q5,q6,fun r hr=>⟨(q7 r hr).1,by have:=(q7 r hr).2;show r<((d.res++[x]).length:Int);omega⟩⟩⟩,_,_,_,_,_,_,ar⟩
   have aq:=Kd.opened ac.o H;have z:=aF (fT an aq (aD _) (anC (je n) (af) (af)));have y3:=cr 1 A rfl;generalize a2:q.setCell ⟨gD,1,none⟩ (.slice (some (ae m 0)) (n+1) l)=w3 at*;have L:=aF (aL _ _ _ (anC (je n) (af) (af)) _ _ n3);have a1:IntKind.i64.wrap ((n:Int)+1-1)=(n:Int):=(by rw[bx];omega);have a3:w3.cell? (ae gD 1)=some (.slice (some (ae m 0)) (n+1) l):=y3;go_wp2_with(refine aA rfl 43 _ _ rfl _ _ rfl rfl _ _ n3 (by kernel_rfl) rfl (by simp[Value.oneCell']) ?_)
   refine aY (v:= .agg (anC (je n) (af) (af))) ?_ rfl ?_
   ·exact bc rfl _ _ w.heap.size _ _ _ _ rfl L.o anT rfl (by kernel_rfl)
   ·rw[K.o];exact⟨_,_,_,rfl,z.o.1,z.o.2,fu _ _,eO _ _⟩
end
end
section
def uL (c:Array Value):Nat->List Value->Array Value
 |_,[]=>c
 |o,v::a=>uL (c.setIfInBounds o v) (o+1) a
theorem Bm: ∀(a:List Value) (c:Array Value) (o:Nat),(uL c o a).size=c.size
 |[],_,_=>rfl
 |v::a,c,o=>by rw[uL,Bm a,il]
theorem Fc: ∀(a:List Value) (c:Array Value) (o k:Nat),o+a.length<=c.size->(uL c o a)[k]? =if o<=k/\k<o+a.length then a[k-o]? else c[k]?
 |[],c,o,k,_=>by rw[ax (by rintro⟨b,d⟩;rw[fF]at d;omega)];rfl
 |v::a,c,o,k,h=>by
  rw[bO]at h;rw[uL,Fc a _ (o+1) k (by rw[il];omega),bO];by_cases b:o+1<=k/\k<o+1+a.length
  ·rw[aB b,aB (by omega),show k-o=(k-(o+1))+1 by omega,List.getElem?_cons_succ]
  ·rw[ax b];by_cases d:k=o
   ·subst d;rw[aB (by omega),gT (by omega),iN];rfl
   ·rw[ax (by omega),dt (by omega)]
theorem uM {g:Nat}{T:TypeId}: ∀(a:List Value) (o:Nat) (w:World) (c:Array Value),w.heap[g]? =ah c T->(w.setCells g o a).heap[g]? =ah (uL c o a) T
 |[],_,_,_,h=>h
 |v::a,o,w,c,h=>by
  rw[World.setCells,uL];exact uM a (o+1) _ _ (aZ w g o _ _ v h)
theorem fg (g:Nat): ∀(a:List Value) (o:Nat) (w:World),(w.setCells g o a).os=w.os/\(w.setCells g o a).tape=w.tape/\(w.setCells g o a).output=w.output/\(w.setCells g o a).heap.size=w.heap.size
 |[],_,_=>⟨rfl,rfl,rfl,rfl⟩
 |v::a,o,w=>by
  rw[World.setCells];obtain⟨b,c,d,e⟩:=fg g a (o+1) (w.setCell ⟨g,o,none⟩ v);exact⟨b,c,d,e.trans (by simp)⟩
theorem oX {α:Type}{m:Nat}{f:α->Array Value}(a: ∀p,(f p).size=m): ∀l:List α,(l.flatMap fun p=>(f p).toList).length=l.length*m
 |[]=>by simp
 |x::l=>by rw[List.flatMap_cons,aO,oX a l,cQ,a,bO,Nat.add_mul];omega
theorem Fd {α:Type}{m b e:Nat}{f:α->Array Value}{w:World}{v:Value}{l:List α}(z:0<m)(c: ∀p,(f p).size=m)(h:w.ownsRow b e m v l.length (l.flatMap fun p=>(f p).toList)){j g:Nat}{p:α}(y:j<l.length)(i:v.ownBlock=some g):(w.setCells g (j*m) (f p).toList).ownsRow b e m v (l.set j p).length ((l.set j p).flatMap fun p=>(f p).toList):=by
 rcases h.2 with⟨e0,_⟩|⟨s,cap,n,e0,E,I,A,F,K,L⟩
 ·rw[e0]at i;cases i
 ·rw[e0]at i;have:s=g:=aM i;subst this
  have J:j*m+m<=l.length*m:=by
   have:(j+1)*m<=l.length*m:=Nat.mul_le_mul_right m y;rw[Nat.add_mul,Nat.one_mul]at this;exact this
  have G:l.length*m<=cap*m:=Nat.mul_le_mul_right m A;refine⟨oX c _,.inr ⟨s,cap,uL n (j*m) (f p).toList,by rw[jH];exact e0,E,uM _ _ _ _ I,by rw[jH];exact A,F,by rw[Bm];exact K,?_⟩⟩;rw[jH];apply List.ext_getElem?;intro k;by_cases o:k<l.length*m
  ·rw[dH o,bv,Fc _ _ _ _ (by rw[cQ,c];omega),cQ,c];have B:k=(k/m)*m+k%m:=(by rw[Nat.mul_comm];exact(Nat.div_add_mod k m).symm);have C:k%m<m:=Nat.mod_lt _ z;have H:k/m<l.length:=(Nat.div_lt_iff_lt_mul z).2 o;by_cases a:j*m<=k/\k<j*m+m
   ·rw[aB a]
    have r:k/m=j:=by
     apply Nat.div_eq_of_lt_le
     ·exact a.1
     ·rw[Nat.succ_mul];exact a.2
    have d:(l.set j p)[j]? =some p:=(by rw[fz y]);have:=oW c d (k-j*m) (by omega);rw[show j*m+(k-j*m)=k by omega]at this;rw[this,<-bv]
   ·rw[ax a]
    have q:k/m≠j:=fun r=>by
     rw[r]at B;omega
    obtain⟨x,D⟩: ∃x,l[k/m]? =some x:=⟨l[k/m],ay H⟩
    have t:=oW c D (k%m) C;have u:=oW c (show(l.set j p)[k/m]? =some x by rw[gc (fun e=>q e.symm)];exact D) (k%m) C;rw[<-B]at t u;rw[u,<-t,<-L,dH o,bv]
  ·rw[eU (by rw[eR];omega),eU (by rw[oX c,jH];omega)]
section
variable {B gD:Nat} {d:Dk} {t:Tr} {w:World}
theorem DkM.setAp {s r x kv:Value}{v:List (Sv×Value)}{i:List (Ap×Value)}(h:DkM B gD d t s r x kv v i w){j g:Nat}(y:j<i.length)(k:t.av.ownBlock=some g)(p:Ap×Value)(c:(∃a,(a,p.2)∈i/\a.who=p.1.who)\/Rob (Fx gD t) (fun u=>dT u p.2 p.1.who) w):
  DkM B gD {d with aps:=d.aps.set j p.1} t s r x kv v (i.set j p) (w.setCells g (j*11) (apC p).toList)/\Kd gD t t w (w.setCells g (j*11) (apC p).toList):=by
 have l:=Fd (p:=p) (by decide) xo h.aps y k;have m: ∀q,q≠g->(w.setCells g (j*11) (apC p).toList).heap[q]? =w.heap[q]? :=fun q f=>fP g _ _ w q f;obtain⟨A,C,D,z⟩:=fg g (apC p).toList (j*11) w;have o:Kd gD t t w (w.setCells g (j*11) (apC p).toList):=⟨A,C,D,kh z.symm,fun q f _=>m q (fun e=>f.2.2.2 (by rw[e];exact k.symm)),fun _ _ h=>h,rfl⟩
 generalize w.setCells g (j*11) (apC p).toList=w' at*;refine⟨h.turn o ((m gD (fun e=>iL h.aps h.blk (by decide) (by rw[k,e]))).trans h.blk) rfl rfl rfl ?_ ?_ ?_ h.sve ?_ (fun p c=> .inl c) (fun q f=> ?_),o⟩
 ·exact bJ h.res fun b n=>m b (fun e=>pO h.res h.aps (by decide) n (by rw[k,e]))
 ·exact bJ h.svs fun b n=>m b (fun e=>pO h.svs h.aps (by decide) n (by rw[k,e]))
 ·exact l
 ·show(i.set j p).map (fun p=>p.1)=d.aps.set j p.1;rw[List.map_set,h.ape]
 ·rcases List.mem_or_eq_of_mem_set f with f|rfl
  ·exact .inl ⟨q.1,f,rfl⟩
  ·rcases c with c|c
   ·exact .inl c
   ·exact .inr (o.rob c)
end
end
section
theorem En {w w':World}{g o n:Nat}(h:w.there g o n)(a:aq w w'):w'.there g o n:=fun j b=>by
 obtain⟨v,d⟩:=Option.isSome_iff_exists.1 (h j b).1;have c:=cg d;exact⟨Option.isSome_iff_exists.2 ⟨v,(a.cell c).trans d⟩,(a.frozen c).trans (h j b).2⟩
theorem JP (k:Int)(a:Ap):(iK k a).who=a.who:=by
 unfold iK fC;split
 ·rfl
 ·split<;>rfl
def lK (d:Dk)(k:Int)(j:Nat):Dk:={d with aps:=(d.aps.take j).map (iK k)++d.aps.drop j}
theorem xr {d:Dk}{k:Int}{j:Nat}{a:Ap}(h:d.aps[j]? =some a):(lK d k j).aps[j]? =some a:=by
 have b:=(aE.1 h).1;unfold lK;dsimp only;rw[df (by simp;omega)];simp[fE (Nat.le_of_lt b),h]
theorem zl {d:Dk}{k:Int}{j:Nat}{a:Ap}(h:d.aps[j]? =some a):({lK d k j with aps:=(lK d k j).aps.set j (iK k a)}:Dk)=lK d k (j+1):=by
 obtain⟨b,e⟩:=aE.1 h;unfold lK;dsimp only;congr 1;rw[List.set_append_right _ _ (by simp;omega),bK b,e];simp only[aX,eR,fE (Nat.le_of_lt b),iN,aJ];rw[fV,h];simp
theorem N8 {d:Dk}{k:Int}{j:Nat}{a:Ap}(h:uH d)(e:0<=k)(ha:d.aps[j]? =some a):uH {d with aps:=d.aps.set j (iK k a)}:=by
 refine⟨h.flt,h.vl,h.kl,h.rl,h.sl,by simpa using h.al,h.gv,h.nm,h.sv,fun b c=> ?_⟩;rcases List.mem_or_eq_of_mem_set c with c|rfl
 ·exact h.ap b c
 ·have:=h.ap a (aN ha);unfold iK fC;split
  ·exact this
  ·split
   ·exact⟨this.1,this.2.1,⟨gh _,by show(0:Int)<=10;omega⟩,this.2.2.2⟩
   ·exact⟨this.1,this.2.1,⟨by dsimp only;omega,by dsimp only;have:=this.2.2.1;omega⟩,this.2.2.2⟩
def Db (b:World)(g o:Nat)(c:Array Value)(i:Nat)(M:Nat->Bool)(_:Nat->Value)(W:World):Prop:=
 (M i=false->aq b W)/\(M i=true-> ∃a,aq b a/\Below a.heap.size (a.setCells g o c.toList) W)
theorem Db.on {e:World}{g o i:Nat}{c:Array Value}(M:Nat->Bool)(φ:Nat->Value)(W a:World)(d:aq W a)(h:Db e g o c i M φ W):Db e g o c i M φ a:=by
 refine⟨fun x=>(h.1 x).trans (d.mono (h.1 x).size),fun x=> ?_⟩;obtain⟨f,j,b⟩:=h.2 x;exact⟨f,j,b.trans (d.mono (by have:=b.size;rw[(fg _ _ _ _).2.2.2]at this;exact this))⟩
theorem uN {m a e n:Nat}{w:World}{v:Value}{xs:List Value}(h:w.ownsRow a e m v n xs){j g c:Nat}(q:j<n)(l:v= .slice (some (ae g 0)) n c):w.there g (j*m) m:=fun k r=>by
 rcases h.2 with⟨_,p⟩|⟨o,cap,f,e0,_,d,s,_,t,_⟩
 ·omega
 ·rw[l]at e0;injection e0 with b _ _;injection b with b;injection b with b;subst b;have i:(j+1)*m<=cap*m:=Nat.mul_le_mul_right m (by omega);rw[Nat.add_mul,Nat.one_mul]at i;refine⟨?_,bp _ _ _ _ _ d⟩;rw[a8 _ _ _ _ _ _ d,gu (by omega)];rfl
theorem LV {α:Type}{l:List α}{j:Nat}{a:α}(h:l[j]? =some a):l.set j a=l:=by
 apply List.ext_getElem?;intro i;by_cases e:j=i
 ·subst e;rw[fz (aE.1 h).1,h]
 ·rw[gc e]
section
variable {B gD:Nat} {d:Dk} {t:Tr}
theorem LW (k:Int)(w:World)(h:dC B gD d t w):Calls prog 40 #[ab gD 0,ag k] w (ru B gD (qq d k) t w):=by
 obtain⟨V,hA,bA,nA⟩:=nb w #[ag 0,ag 0,ag 0,ag 0,af,af] 43;have aS:V.heap.size=w.heap.size+1:=by rw[<-hA];simp
 have a5:=h.opened (aD _) aS bA;have Z:=aF a5;have a0:=aF bA;have H0:=aF h;obtain⟨am,rv,cv,vv,kv,ss,aa,S⟩:=a5;have aE:aa.length=d.aps.length:=by rw[<-S.ape,aX]
 obtain⟨n,hn⟩:=au d.aps.length;obtain⟨pa,ca,p⟩:=dj S.aps;rw[aE,hn]at p;have D:t.av= .slice pa n ca:=p
 have z3:V.cell? (ae gD 3)=some (.slice pa n ca):=by
  have:=cr (v:=t.av) 3 S.blk rfl;rw[this,D]
 have bw:n<=30:=by rw[<-hn];exact am.al
 have P:=aF hn;have ar:=aF D;have bz:=aF am;have b7:w.heap.size<V.heap.size:=by omega
 clear h S aE hn p D am aS bA;by_cases hk:k<0\/1000<k
 ·have HP:Rg (qq d k=(noA 3,d)):=by show _=_;unfold qq;rw[aB hk]
  have cR:=fp 3 V;have bs:k<0\/ ¬k<0/\1000<k:=(by omega);clear hk
  rcases bs with a8|⟨a8,H⟩<;>
   (go_enter func40,ntmps40
    go_wp2_with fail
    refine cR.mono ?_
    rintro e w1 ⟨rfl,b1⟩
    have n1:=bt b1 nA
    have N:=aw a0.o b1
    have HO:=aF (fT (Z.o.below b1) (Kd.of (t:=t) (gD:=gD) N) (aD _) (anC (noA 3) (af) (af)))
    have HR:=aF (aL _ _ _ (anC (noA 3) (af) (af)) _ _ n1)
    clear cR z3 b1 N nA
    go_wp2_with(refine aA rfl 43 _ _ rfl _ _ rfl rfl _ _ n1 (by kernel_rfl) rfl (by simp[anC,Value.oneCell']) ?_)
    refine aY (v:= .agg (anC (noA 3) (af) (af))) ?_ rfl ?_
    ·exact bc rfl _ _ w.heap.size _ _ _ _ rfl HR.o anT rfl (by kernel_rfl)
    ·rw[HP.o]
     exact⟨t,_,_,rfl,HO.o.1,HO.o.2,fu _ _,eO _ _⟩)
 ·have a8: ¬k<0:=fun e=>hk (.inl e);have H: ¬1000<k:=fun e=>hk (.inr e);have bh:Rg (0<=k):=(by show(0:Int)<=k;omega)
  have HP:Rg (qq d k=(noA 0,lK d k n)):=by
   show _=_;unfold qq lK;rw[ax hk,dg (by rw[P.o];exact aD _),dn (by rw[P.o];exact aD _),gJ]
  clear hk;go_enter func40,ntmps40;go_wp2_with fail;clear hA z3;go_loopw [5,6,20] (fun _ _ q wr=> ∃j:Nat,q=ag (j:Int)/\j<=n/\dC B gD (lK d k j) (t.add w.heap.size) wr/\Kd gD (t.add w.heap.size) (t.add w.heap.size) V wr) (fun _ _ q _=>n-(intOf q).toNat);case atStart=>exact⟨0,rfl,by omega,Z.o,Kd.of (aH _ _)⟩
  case round=>
   obtain⟨j,rfl,hj,hd,I⟩:=hrel;have b3:(0:Int)<=(j:Int):=(by omega);by_cases b4:j<n
   ·have a7:(j:Int)<(n:Int):=(by omega);obtain⟨a,ha⟩: ∃a,d.aps[j]? =some a:=⟨d.aps[j]'(by have:=P.o;omega),ay _⟩
    have aj:(lK d k j).aps.length=n:=(by unfold lK;simp;have:=P.o;omega);have p:(lK d k j).aps[j]? =some a:=xr ha;obtain⟨a',m,i,A,br,ai,ao,_,x,T⟩:=DkM.ap hd.2 (j:=j) (by omega);rw[p]at ai;have:a=a':=aM ai;subst this;rw[aj]at ao;have L:t.av= .slice (some (ae A 0)) n br:=ao;have e0:=ar.o.symm.trans L;injection e0 with e1 e3 e2;subst e1 e2;clear e3 ai ao;obtain⟨wZ,f,hZ,U,Q,bB,nB⟩:=nbs wr apZ (apC (a,.slice m a.who.length i)) 45;unfold apZ at hZ U;obtain⟨gx,G⟩:=au wr.heap.size;have an:f.heap.size=gx+1:=(by rw[<-Q,<-hZ,<-G];simp);rw[G]at U Q;have a6:=hd.opened (q:=gx) (by omega) an bB;have y0:f.cell? (ae gx 0)=some (ag a.st):=(by rw[<-G];exact cr 0 nB rfl);have y1:f.cell? (ae gx 1)=some (ag a.left):=(by rw[<-G];exact cr 1 nB rfl);have a4:=hd.1.ap a (aN p);have b6:=a4.2.2.1;have HA:=aF ha;have bj:=aF aj;have X:=aF L;have ac:=aF G;have Y:=aF bB;have HD:=aF hd;have be:=aF a6;have a1:=aF I;have bn:=aF T;have b0:=aF an;have bv:gx<f.heap.size:=(by omega);clear a4 hd I T an a6 bB ha aj L p;by_cases z:a.st=1
    ·have aV:(a.st !=1)=false:=(by rw[z];rfl);have a2:=aF z;clear z;have b9:IntKind.i64.wrap (a.left-k)=a.left-k:=(by rw[bx];omega);have aq:f.heap[gx]? =ah (apC (a,.slice m a.who.length i)) 45:=(by rw[<-ac.o];exact nB);have x1:=bp _ _ 1 _ _ aq;have nC:(f.setCell ⟨gx,1,none⟩ (ag (a.left-k))).heap[gx]? =ah (apC ({a with left:=a.left-k},.slice m a.who.length i)) 45:=aZ f gx 1 _ _ _ aq;have oC: ∀q,q≠gx->(f.setCell ⟨gx,1,none⟩ (ag (a.left-k))).heap[q]? =f.heap[q]? :=fun q hq=>aP _ _ _ _ hq;have sC:(f.setCell ⟨gx,1,none⟩ (ag (a.left-k))).heap.size=f.heap.size:=(by simp);have kC:(f.setCell ⟨gx,1,none⟩ (ag (a.left-k))).os=f.os/\(f.setCell ⟨gx,1,none⟩ (ag (a.left-k))).tape=f.tape/\(f.setCell ⟨gx,1,none⟩ (ag (a.left-k))).output=f.output:=⟨rfl,rfl,rfl⟩
     generalize b8:f.setCell ⟨gx,1,none⟩ (ag (a.left-k))=wC at*;have bu:wC.cell? (ae gx 1)=some (ag (a.left-k)):=cr 1 nC rfl
     have C:Rg (∀s:World,f.heap.size<=s.heap.size->(∀q,q<f.heap.size->q≠gx->s.heap[q]? =f.heap[q]?)->s.os=f.os->s.tape=f.tape->s.output=f.output->dC B gD (lK d k j) (t.add w.heap.size) s/\Kd gD (t.add w.heap.size) (t.add w.heap.size) V s/\Rob (Fx gD (t.add w.heap.size)) (fun u=>dT u (.slice m a.who.length i) a.who) s):=fun s h1 h2 h3 h4 h5=>by
      have N:=Y.o;refine⟨be.o.closed h1 h2,a1.o.trans ((Kd.of N).closed (q:=gx) (by rw[ac.o];exact aD _) h3 h4 h5 h1 h2),bn.o.move (bg N.size h1) (fun q _ hl=> ?_) fun _ _ h=>h⟩;have:=ac.o;exact(h2 q (aU hl N.size) (by omega)).trans (N.block q hl)
     by_cases aG:a.left-k<=0
     case' pos=>
      have HT:Rg (iK k a=fC a 3):=(by show _=_;unfold iK;rw[ax (by simpa using a2.o),aB aG]);have cS:=si {a with left:=a.left-k} 3 m i wC;dsimp only at cS;have bb:=nC;go_wp2_with(first|(refine wpList_load_mid rfl 45 _ rfl A (j*11) rfl (apC (a,.slice m a.who.length i)).toList _ x apT rfl (by kernel_rfl) ?_;clear x)|(refine aA rfl 45 _ _ rfl _ _ rfl rfl _ _ U (by kernel_rfl) rfl (iV _ _ _ _) ?_;rw[Q];clear U Q)|(refine aR rfl 45 _ rfl _ rfl _ _ _ _ nC apT rfl (by kernel_rfl) ?_;clear nC))
      refine cS.mono ?_;rintro e w5 ⟨rfl,b5⟩;have n5:=bt b5 bb
      have nX:(w5.setRow gx (apC (fC {a with left:=a.left-k} 3,.slice m a.who.length i))).heap[gx]? =ah (apC (iK k a,.slice m a.who.length i)) 45:=by
       rw[HT.o];exact aL _ _ _ _ _ _ n5
      have R:=C.o (w5.setRow gx (apC (fC {a with left:=a.left-k} 3,.slice m a.who.length i))) (by simp;rw[<-sC];exact b5.size) (fun q hl hq=>((aW _ _ _ _ hq).trans (b5.block q (by omega))).trans (oC q hq)) (b5.os.trans kC.1) (b5.tape.trans kC.2.1) (b5.output.trans kC.2.2);generalize ba:w5.setRow gx (apC (fC {a with left:=a.left-k} 3,.slice m a.who.length i))=s at*;clear cS bb b5 bu y0 y1 nB x1 hZ
     case' neg=>
      have HT:Rg (iK k a={a with left:=a.left-k}):=(by show _=_;unfold iK;rw[ax (by simpa using a2.o),ax aG])
      have nX:wC.heap[gx]? =ah (apC (iK k a,.slice m a.who.length i)) 45:=by
       rw[HT.o];exact nC
      have R:=C.o wC (by rw[sC];exact aD _) (fun q _ hq=>oC q hq) kC.1 kC.2.1 kC.2.2;obtain⟨s,rfl⟩: ∃q,q=wC:=⟨_,rfl⟩
      clear nC
     all_goals
      obtain⟨⟨bd,bD,b2,bF,bC,bE,bq,J⟩,a9,aO⟩:=R
      have aC:bq.length=n:=by have:=congrArg List.length J.ape;rw[aX]at this;exact this.trans bj.o
      have zA:s.cell? (ae gD 3)=some (.slice (some (ae A 0)) n ca):=(cr (v:=t.av) 3 J.blk rfl).trans (congrArg some X.o)
      have bo:Rg (s.there A (j*11) 11):=uN J.aps (c:=ca) (by omega) (by rw[aC];exact X.o)
      have bk:=aF J
      have bl:=aF bd
      have bi:=aF a9
      have bm:=aF aO
      obtain⟨cA,E⟩:=au (apC (iK k a,.slice m a.who.length i))
      have a3:cA.all (·.oneCell')=true:=by rw[<-E];exact iV _ _ _ _
      have r:cA.size=11:=by rw[<-E];rfl
      rw[E]at nX
      clear J bd a9 aO oC sC kC C aq
      go_upto_region 10 with(first|(refine wpList_load_mid rfl 45 _ rfl A (j*11) rfl (apC (a,.slice m a.who.length i)).toList _ x apT rfl (by kernel_rfl) ?_;clear x)|(refine aA rfl 45 _ _ rfl _ _ rfl rfl _ _ U (by kernel_rfl) rfl (iV _ _ _ _) ?_;rw[Q];clear U Q)|(refine aA rfl 45 _ _ rfl _ _ rfl rfl _ _ n5 (by kernel_rfl) rfl (iV _ _ _ _) ?_;rw[ba];clear n5 ba))
      refine cZ (Db s A (j*11) cA 8) [kn 38 (ab gD 0),kn 39 (ab gD 0),kn 40 (ab gD 0),kn 41 (ab gD 3),kn 42 (.slice (some (ae A 0)) n ca),kn 43 (ag (j:Int)),kn 44 (.agg cA),kn 45 (ab A (j*11)),nk] (fun _=>⟨fun _=>(aH _ _).drew,(fun h=>by cases h)⟩) Db.on (by kernel_rfl) ?_ ?_
      ·rintro M φ W hJ hc F l hl hF
       have HJ:=aF hJ
       clear hc hJ
       simp only[kn,nk,eh,aQ,aT,Act.put,az,aK,aJ]at hl
       subst hl
       simp only[dc,Nat.reduceAdd]at hF
       dsimp only[kn,nk,dz,eV,eo,Act.put]
       and_intros
       all_goals first|exact trivial|intro hw hn S K hK
       all_goals try (go_simp;with_reducible exact hK _ _ ⟨rfl,aH _ _⟩)
       ·have y:=((HJ.o.1 (hn 8 _ rfl (by kernel_rfl))).cell (cg zA)).trans zA
        go_simp
        exact hK _ _ ⟨rfl,aH _ _⟩
       ·have nW:=bt (HJ.o.1 (hn 8 _ rfl (by kernel_rfl))) nX
        show Oper.wp _ _ _ _ _ _
        refine dX 45 _ rfl _ (by simp[Act.eval,hF]) _ _ _ _ nW apT rfl (by rw[r];kernel_rfl) ?_
        exact hK _ _ ⟨rfl,aH _ _⟩
       ·have N:=HJ.o.1 S
        show Oper.wp _ _ _ _ _ _
        refine wp_store_mid 45 _ _ rfl A (j*11) cA (by simp[Act.eval,hF]) (by simp[Act.eval,hF]) (by rw[r];exact En bo.o N) (by rw[r];kernel_rfl) a3 ?_
        exact hK undef _ ⟨trivial,fun c=>by simp at c,fun _=>⟨W,N,aH _ _⟩⟩
      ·rintro M φ W hM hJ
       obtain⟨W0,O,h2⟩:=hJ.2 (hM 8 (by decide) rfl)
       simp only[kn,nk,eD,aQ,aT,Act.put,az,aK,aJ]
       obtain⟨ak,H⟩:=(bk.o.below O).setAp (j:=j) (g:=A) (by omega) (by show t.av.ownBlock=_;rw[X.o];rfl) (iK k a,.slice m a.who.length i) (.inr (by
        show Rob _ (fun u=>dT u (.slice m a.who.length i) (iK k a).who) W0;rw[JP];exact bm.o.below O))
       rw[E]at ak H
       have ad:=h2.mono (kh (fg A cA.toList (j*11) W0).2.2.2)
       have P:Rg (dC B gD (lK d k (j+1)) (t.add w.heap.size) W/\Kd gD (t.add w.heap.size) (t.add w.heap.size) V W):=by
        refine⟨dC.below ?_ ad,((bi.o.trans (Kd.of O)).trans H).trans (Kd.of ad)⟩;rw[<-zl HA.o];exact⟨N8 bl.o bh.o (by rw[xr HA.o]),_,_,_,_,_,_,ak⟩
       clear hM hJ ak H O h2 ad aC nX zA E a3 r
       go_wp2_with fail
       go_roundw
       case rel=>exact⟨j+1,by go_num,by omega,P.o⟩
       case measure=>simp[intOf];omega
    ·have aV:(a.st !=1)=true:=(by simpa using z)
     have P:Rg (dC B gD (lK d k (j+1)) (t.add w.heap.size) f/\Kd gD (t.add w.heap.size) (t.add w.heap.size) V f):=by
      refine⟨?_,a1.o.trans (Kd.of Y.o)⟩;rw[<-zl HA.o];have e:iK k a=a:=(by unfold iK;rw[aB z]);rw[e,LV (xr HA.o)];exact HD.o.below Y.o
     clear z y1 nB;go_wp2_with(first|(refine wpList_load_mid rfl 45 _ rfl A (j*11) rfl (apC (a,.slice m a.who.length i)).toList _ x apT rfl (by kernel_rfl) ?_;clear x)|(refine aA rfl 45 _ _ rfl _ _ rfl rfl _ _ U (by kernel_rfl) rfl (iV _ _ _ _) ?_;rw[Q];clear U Q))
     go_roundw;case rel=>exact⟨j+1,by go_num,by omega,P.o⟩
     case measure=>simp[intOf];omega
   ·have a7: ¬(j:Int)<(n:Int):=(by omega);obtain rfl:n=j:=(by omega)
    have nq:wr.heap[w.heap.size]? =ah #[ag 0,ag 0,ag 0,ag 0,af,af] 43:=by
     obtain⟨_,_,_,_,_,_,_,S⟩:=Z.o;exact(I.blk w.heap.size (S.nx w.heap.size (bf ..)).2.2 (aI nA)).trans nA
    have HO:=aF (fT hd (Kd.opened a0.o I) (aD _) (anC (noA 0) (af) (af)));have HR:=aF (aL _ _ _ (anC (noA 0) (af) (af)) _ _ nq);clear hd I nA;go_wp2_with(refine aA rfl 43 _ _ rfl _ _ rfl rfl _ _ nq (by kernel_rfl) rfl (by simp[Value.oneCell']) ?_)
    refine aY (v:= .agg (anC (noA 0) (af) (af))) ?_ rfl ?_
    ·exact bc rfl _ _ w.heap.size _ _ _ _ rfl HR.o anT rfl (by kernel_rfl)
    ·rw[HP.o];exact⟨_,_,_,rfl,HO.o.1,HO.o.2,fu _ _,eO _ _⟩
end
end
theorem wi {e:Func}(m:e.results= #[ResultVar.cell 2 45,ResultVar.tmp 3]){R:Ending->World->Prop}{a:Act}{w:World}(g:Nat)(c:Array Value)(er:Int)(k:c.size=11)(l:a.defers=[])(f:a.tmps.getD 2 undef=ab g 0)(i:a.tmps.getD 3 undef=ag er)
  (n:w.heap[g]? =ah c 45) (j:R (.returned (.tuple #[.agg c,ag er])) w):bodyPost prog e R .ret a w:=by
 refine aY (v:= .tuple #[.agg c,ag er]) ?_ l j;have b:a.tmps[2]?.getD undef=ab g 0:=by simpa using f
 have d:a.tmps[3]?.getD undef=ag er:=by simpa using i
 have o:=eE (P:=prog) w g 45 45 _ _ _ n apT rfl (by rw[k];kernel_rfl);simp[results,m,b,d,asAddr,o]
theorem Eo (a:Ap)(p:Option Addr)(c:Nat)(w:World):Calls prog 35 #[.agg (apC (a,.slice p a.who.length c))] w fun e w'=>e= .returned (.tuple #[.agg (apC (fC a 2,.slice p a.who.length c)),ag 0])/\aq w w':=by
 obtain⟨l,s,f,k⟩:=nb w (apC (a,.slice p a.who.length c)) 45;obtain⟨r,q,g,d⟩:=nb l apZ 45;unfold apZ at q d;have b:=bt g k;have i:=aw f g;have cS:=si a 2 p c r;go_enter func35,ntmps35;go_wp2_with(refine aR rfl 45 _ rfl _ rfl _ _ _ _ b apT rfl (by kernel_rfl) ?_)
 refine cS.mono ?_;rintro e t ⟨rfl,b1⟩;have j:=bt b1 d;have m:=aF (below_setRow (aw i b1) f.size (apC (fC a 2,.slice p a.who.length c)));have n:=aF (aL _ _ _ (apC (fC a 2,.slice p a.who.length c)) _ _ j);clear cS b1 d k b i;go_wp2_with(refine aA rfl 45 _ _ rfl _ _ rfl rfl _ _ j (by kernel_rfl) rfl (iV _ _ _ _) ?_)
 exact wi rfl l.heap.size _ 0 rfl rfl rfl rfl n.o ⟨rfl,m.o⟩
theorem GQ (a:Ap)(p:Option Addr)(c:Nat)(w:World):Calls prog 37 #[.agg (apC (a,.slice p a.who.length c))] w fun e w'=>e= .returned (.tuple #[.agg (apC (fC a 3,.slice p a.who.length c)),ag 0])/\aq w w':=by
 obtain⟨l,s,f,k⟩:=nb w (apC (a,.slice p a.who.length c)) 45;obtain⟨r,q,g,d⟩:=nb l apZ 45;unfold apZ at q d;have b:=bt g k;have i:=aw f g;have cS:=si a 3 p c r;go_enter func37,ntmps37;go_wp2_with(refine aR rfl 45 _ rfl _ rfl _ _ _ _ b apT rfl (by kernel_rfl) ?_)
 refine cS.mono ?_;rintro e t ⟨rfl,b1⟩;have j:=bt b1 d;have m:=aF (below_setRow (aw i b1) f.size (apC (fC a 3,.slice p a.who.length c)));have n:=aF (aL _ _ _ (apC (fC a 3,.slice p a.who.length c)) _ _ j);clear cS b1 d k b i;go_wp2_with(refine aA rfl 45 _ _ rfl _ _ rfl rfl _ _ j (by kernel_rfl) rfl (iV _ _ _ _) ?_)
 exact wi rfl l.heap.size _ 0 rfl rfl rfl rfl n.o ⟨rfl,m.o⟩
theorem Qx:(prog.info? 37).map (fun i=>(i.zero,i.size,i.bytes))=some (some (af),1,24):=by kernel_rfl
theorem svT:prog.underlying 36=some (.struct (prog.fieldsOf 36)):=by kernel_rfl
theorem vN (s:Sv)(p:Option Addr)(n c:Nat):(svC (s,.slice p n c)).all (·.oneCell')=true:=by simp[svC,Value.oneCell']
structure GR (B:Nat)(v:Value)(ls:List (List Int))(vs:List Value)(w:World):Prop where
 o:w.ownsRow B 37 1 v ls.length vs
 each: ∀(i:Nat) (l:List Int) (u:Value),ls[i]? =some l->vs[i]? =some u->w.ownsRow B 3 1 u l.length (dB l)
theorem pP {w:World}{B:Nat}{v:Value}{l:List Int}(h:w.ownsRow B 3 1 v l.length (dB l))(i:l.length<9223372036854775808):dT w v l:=by
 obtain⟨p,c,b⟩:=dj h;refine⟨p,c,b,i,fun j x a=> ?_⟩;obtain⟨g,k,e,_,f⟩:=sP h (by have:=(aE.1 a).1;omega);rw[b]at e;injection e with d _ _;refine⟨g,0,d,?_⟩;rw[bQ];exact f j _ (by unfold dB;rw[bj,a];rfl)
theorem GR.rob {B:Nat}{v:Value}{a:List (List Int)}{d:List Value}{w:World}(h:GR B v a d w)(A:a.length<9223372036854775808)(D: ∀l∈a,l.length<9223372036854775808):Rob (fun q=>B<=q) (fun u=>fG u v a) w:=fun u _ ha=>by
 have m: ∀{e n:Nat} {x:Value} {xs:List Value},w.ownsRow B e 1 x n xs->u.ownsRow B e 1 x n xs:=fun h=>bJ h fun b k=>ha b (h.lt b k).1 (h.lt b k).2;have f:=m h.o;have C:d.length=a.length:=by have:=f.1;omega
 obtain⟨p,c,r⟩:=dj f;refine⟨p,c,r,A,fun j l i=> ?_⟩;have z:=(aE.1 i).1;obtain⟨x,s⟩: ∃x,d[j]? =some x:=⟨d[j]'(by omega),ay _⟩
 obtain⟨g,E,e,_,y⟩:=sP f (by omega);rw[r]at e;injection e with t _ _;exact⟨g,0,x,t,by rw[bQ];exact y j x s,pP (m (h.each j l x i s)) (D l (aN i))⟩
theorem GS (s:Sv)(p:Option Addr)(c:Nat)(w:World)(h:fG w (.slice p s.roles.length c) s.roles)(hl:s.roles.length<=1000)(hp: ∀l∈s.roles,l.length<=1000):Calls prog 64 #[.agg (svC (s,.slice p s.roles.length c))] w fun e w'=> ∃p' c',e= .returned (.agg (svC (s,.slice p' s.roles.length c')))/\Rob (fun q=>w.heap.size<=q) (fun u=>fG u (.slice p' s.roles.length c') s.roles) w'/\aq w w':=by
 obtain⟨P,hA,bA,nA⟩:=nb w (svC (s,.slice p s.roles.length c)) 36;obtain⟨wB,hB,bB,nB⟩:=nb P #[ag 0,ag 0,ag 0,af] 36;have O:=bt bB nA;have y:=aw bA bB;have hr:=h.below y;obtain⟨n,hn⟩:=au s.roles.length;have z3:wB.cell? (ae w.heap.size 3)=some (.slice p n c):=by rw[<-hn];exact cr 3 O rfl
 have F:=aF hn;have HR:=aF hr;have HB:=aF y;have HP:=aF hp;have av:w.heap.size<=wB.heap.size:=y.size;rw[hn]at hl;have a1:(n:Int)<=1000:=by omega
 clear h hn hr hp nA bA bB y;go_enter func64,ntmps64;go_wp2_with fail;go_loopw [3,5,9] (fun v _ q wr=> ∃(j:Nat) (vs:List Value),q=ag (j:Int)/\j<=n/\aq wB wr/\GR wB.heap.size v (s.roles.take j) vs wr) (fun _ _ q _=>n-(intOf q).toNat);case atStart=>exact⟨0,[],rfl,by omega,aH _ _,dl _ _ _ _,fun i l u hi=>by simp at hi⟩
 case round=>
  obtain⟨j,vs,rfl,hj,a,r⟩:=hrel;have az:(0:Int)<=(j:Int):=(by omega);by_cases a0:j<n
  ·have V:(j:Int)<(n:Int):=(by omega);obtain⟨l,C⟩: ∃l,s.roles[j]? =some l:=⟨s.roles[j]'(by have:=F.o;omega),ay _⟩
   obtain⟨p0,c0,e0,N,U⟩:=HR.o;injection e0 with e1 e3 e2;subst e1 e2;obtain⟨g,o,sv,e4,hc,I⟩:=U j l C;subst e4;clear e3 N U;have ad:=aj a hc;have cC:=zj l sv wr (I.below a) (HP.o l (aN C));obtain⟨ps,cs,ao,N,an⟩:=I;subst ao;have HL:=aF C;have L:=aF r;have S:=aF a;clear N an C hc r a;go_wp2_with fail;refine cC.mono ?_;rintro e w1 ⟨v1,rfl,D,b1⟩;obtain⟨p1,c1,ap⟩:=dj D;subst ap;obtain⟨wC,hC,bC,nC⟩:=nb w1 #[.slice p1 l.length c1] 37;have A:=aw b1 bC;have f:=bJ L.o.o fun b G=>A.block b (L.o.o.lt b G).2;have B:=aw S.o A;have al:(s.roles.take j).length=j:=(by rw[eR,F.o];omega);rw[al]at f;have K:=aF (bJ D fun b G=>bC.block b (D.lt b G).2);have R:=aF A;clear cC D b1 bC ad A;go_wp2_with(at_builtin;refine iO rfl _ _ 34 37 rfl CS Qx rfl (by decide) (by decide) rfl f rfl nC rfl (by simp[Value.oneCell']) (by omega) B.size ?_)
   rintro v2 w2 X M _ g2 c2 rfl;have z:=B.grown M B.size (fun k hk=>(f.lt k hk).1)
   have T:Rg (GR wB.heap.size (.slice (some (ae g2 0)) (j+1) c2) (s.roles.take (j+1)) (vs++[.slice p1 l.length c1]) w2):=by
    have W: ∀{x:Value} {m:Nat} {xs:List Value} {B':Nat},wC.ownsRow B' 3 1 x m xs->w2.ownsRow B' 3 1 x m xs:=fun Q=>bJ Q fun b y=>M.block b (Q.lt b y).2 (fun e=>pO Q f (by decide) y e.symm);have ar:vs.length=j:=(by have:=f.1;omega);refine⟨?_,fun i l' u hi hu=> ?_⟩
    ·rw[eR,F.o,fE (by omega)];exact X
    ·by_cases e:i=j
     ·subst e;rw[dH (by omega),HL.o]at hi;have:l=l':=aM hi;subst this;rw[df (by omega),ar,iN]at hu;have:Value.slice p1 l.length c1=u:=aM hu;subst this;refine W ⟨K.o.1,?_⟩;rcases K.o.2 with q|⟨gq,cq,cu,q1,q2,q3⟩
      ·exact .inl q
      ·exact .inr ⟨gq,cq,cu,q1,bg S.o.size q2,q3⟩
     ·have ai:i<j:=by
       have:=(aE.1 hi).1;rw[eR]at this;omega
      rw[dH (by omega)]at hi;rw[dV (by omega)]at hu;have Q:=L.o.each i l' u (by rw[dH ai];exact hi) hu;exact W (bJ Q fun b y=>R.o.block b (Q.lt b y).2)
   clear f X M B nC hC K R;go_wp2_with fail;go_roundw;case rel=>exact⟨j+1,_,by go_num,by omega,z,T.o⟩
   case measure=>simp[intOf];omega
  ·have V: ¬(j:Int)<(n:Int):=(by omega);obtain rfl:n=j:=(by omega);have aa:s.roles.take n=s.roles:=dg (by rw[F.o];exact aD _);rw[aa]at r;have ho:=r.o;rw[F.o]at ho;obtain⟨t,d,hv⟩:=dj ho;subst hv;have E:=bt a O;have ab:=bt a nB
   have ax:w.heap.size<P.heap.size:=by
    have:=hA▸(aI (aG w (.cells (svC (s,.slice p s.roles.length c)) 36)));omega
   have J:w.heap.size≠P.heap.size:=(by omega);have x3:=bp _ _ 3 _ _ E;have y3:wr.cell? (ae w.heap.size 3)=some (.slice p n c):=aj a z3;have nC:(wr.setCell ⟨w.heap.size,3,none⟩ (.slice t n d)).heap[w.heap.size]? =ah (svC (s,.slice t n d)) 36:=aZ wr w.heap.size 3 _ _ _ E;have nD:=(aP wr ⟨w.heap.size,3,none⟩ P.heap.size (.slice t n d) (fun e=>J e.symm)).trans ab;have z:=(aw HB.o a).setCell (p:=⟨w.heap.size,3,none⟩) (aD _) (.slice t n d);have H:=r.rob (by rw[F.o];omega) (fun l ak=>by have:=HP.o l ak;omega);have Y: ∀q,q≠w.heap.size->(wr.setCell ⟨w.heap.size,3,none⟩ (.slice t n d)).heap[q]? =wr.heap[q]? :=fun q G=>aP _ _ _ _ G;have Z:(wr.setCell ⟨w.heap.size,3,none⟩ (.slice t n d)).heap.size=wr.heap.size:=(by simp);generalize a2:wr.setCell ⟨w.heap.size,3,none⟩ (.slice t n d)=wC at*;have a3:=aI nB
   have HO:Rg (Rob (fun q=>w.heap.size<=q) (fun u=>fG u (.slice t n d) s.roles) (wC.setRow P.heap.size (svC (s,.slice t n d)))/\aq w (wC.setRow P.heap.size (svC (s,.slice t n d)))):=by
    refine⟨H.move (by simp;rw[Z];exact aD _) (fun q G _=> ?_) (fun q _ G=>bg av G),below_setRow z (by have:=aI E;have:=hA▸(am w (.cells (svC (s,.slice p s.roles.length c)) 36)).size;exact this) _⟩;exact(aW _ _ _ _ (by omega)).trans (Y q (by omega))
   have ac:=aF (aL _ _ _ (svC (s,.slice t n d)) _ _ nD);clear r ho H Y Z z E ab O J aa z3;go_wp2_with(first|(refine aR rfl 36 _ rfl _ rfl _ _ _ _ nC svT rfl (by kernel_rfl) ?_)|(refine aA rfl 36 _ _ rfl _ _ rfl rfl _ _ nD (by kernel_rfl) rfl (vN _ _ _ _) ?_))
   refine aY (v:= .agg (svC (s,.slice t n d))) ?_ rfl ⟨t,d,by rw[F.o],by rw[F.o];exact HO.o.1,HO.o.2⟩;exact bc rfl _ _ P.heap.size _ _ _ _ rfl ac.o svT rfl (by kernel_rfl)
end Go.Proofs.YtlkehieagdkgiaaGreatDoor
