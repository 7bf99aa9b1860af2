/- Texts of the proof. -/
import Derived.Test.YtlkehieagdkgiaaGreatDoorPr13
import Derived.Test.YtlkehieagdkgiaaGreatDoorPr37
set_option maxRecDepth 100000
set_option maxHeartbeats 8000000
namespace Go.Proofs.YtlkehieagdkgiaaGreatDoor
open Go.Proofs.Tryz Go.RowKit Lx Vx Mx Msk
theorem fL.len {B:Nat->Prop}{d:Nat}{w:World}{sl:Value}{a:List Ex}(h:fL B d w sl a):a.length<9223372036854775808:=by
 cases d with
 |zero=>rw[h.1];decide
 |succ d=>
  rcases h with⟨h,_⟩|⟨_,_,_,_,_,b,_⟩
  ·rw[h];decide
  ·exact b
theorem ND (d:Nat): ∀(B Q:Nat->Prop) (d':Nat) (e:Ex) (O P:Option Addr) (s u:Nat) (w:World),fL B d w (.slice O e.kids.length s) e.kids->fL Q d' w (.slice P e.kids.length u) e.kids->Calls prog 53 #[.agg #[ag e.kind,ag e.a,ag e.b,.string ⟨e.name.toArray⟩,.slice O e.kids.length s],.agg #[ag e.kind,ag e.a,ag e.b,.string ⟨e.name.toArray⟩,.slice P e.kids.length u]] w fun r w'=>r= .returned (.bool true)/\aq w w':=by
 induction d using Nat.strongRecOn with
 |ind d ih=>
 intro B Q d' e O P s u w ha m;have A:=ha.len;obtain⟨n,N⟩:=au e.kids.length;rw[N]at ha m A⊢;obtain⟨wA,hA,bA,nA⟩:=nb w #[ag e.kind,ag e.a,ag e.b,.string ⟨e.name.toArray⟩,.slice O n s] 84;obtain⟨wB,hB,R,v⟩:=nb wA #[ag e.kind,ag e.a,ag e.b,.string ⟨e.name.toArray⟩,.slice P n u] 84;have f:=aw bA R;have i:=bt R nA;have x0:=cr 0 i rfl;have x1:=cr 1 i rfl;have x2:=cr 2 i rfl;have x3:=cr 3 i rfl;have x4:=cr 4 i rfl;have y0:=cr 0 v rfl;have y1:=cr 1 v rfl;have y2:=cr 2 v rfl;have y3:=cr 3 v rfl;have y4:=cr 4 v rfl;have HA:=aD (ha.kept fun g _ p=>f.block g p);have HB:=aD (m.kept fun g _ p=>f.block g p);have HW:=aD f;have HN:=aD N;have HI:=aD ih;have y: ∀z:Int,(z !=z)=false:=fun z=>by simp
 have h1:=y e.kind;have h2:=y e.a;have h3:=y e.b;have h4:(e.name !=e.name)=false:=by simp
 have h5:=y (n:Int);clear bA R nA v i f ih ha m N y;go_enter func53,ntmps53;go_wp2_with fail;clear x0 x1 x2 x3 y0 y1 y2 y3 h1 h2 h3 h4 h5;go_loopw [5,44] (fun _ t wr=> ∃j:Nat,t=ag (j:Int)/\j<=n/\aq wB wr) (fun _ t _=>n-(intOf t).toNat);case atStart=>exact⟨0,rfl,by omega,aH _ _⟩
 case round=>
  obtain⟨j,rfl,hj,c⟩:=hrel;have aa:(0:Int)<=(j:Int):=(by omega);by_cases ac:j<n
  ·have C:(j:Int)<(n:Int):=(by omega);have D: ∃x,e.kids[j]? =some x/\True:=⟨e.kids[j]'(by have:=HN.o;omega),ay _,trivial⟩
   obtain⟨x,D,_⟩:=D;obtain⟨d1,S,V,c1,p1,q1,e1,Y,E,G,H,I,J,r1⟩:=HA.o.at D;obtain⟨d2,T,X,c2,p2,q2,e2,Z,b0,b1,b2,b3,L,r2⟩:=HB.o.at D;injection Y with Y s0 s3;injection Z with Z s5 s4;clear s0 s5;subst Y Z s3 s4;have z2:wr.cell? (ae w.heap.size 4)=some (.slice (some (ae S V)) n s):=aj c x4;have z3:wr.cell? (ae wA.heap.size 4)=some (.slice (some (ae T X)) n u):=aj c y4;replace E:=aj c E;replace G:=aj c G;replace H:=aj c H;replace I:=aj c I;replace J:=aj c J;replace b0:=aj c b0;replace b1:=aj c b1;replace b2:=aj c b2;replace b3:=aj c b3;replace L:=aj c L;have cE:=fun(W:World) (hW:aq wr W)=>HI.o d1 (by omega) B Q d2 x p1 p2 q1 q2 W (r1.kept fun g _ p=>(aw c hW).block g p) (r2.kept fun g _ p=>(aw c hW).block g p);clear r1 r2 D e1 e2 x4 y4;go_upto_region 6 with fail;refine dh (fun _ _ W=>aq wr W) [kn 47 (ab w.heap.size 4),kn 48 (.slice (some (ae S V)) n s),kn 49 (ag (j:Int)),kn 50 (ab S (V+j*5)),kn 51 (.agg #[ag x.kind,ag x.a,ag x.b,.string ⟨x.name.toArray⟩,.slice p1 x.kids.length q1]),kn 52 (ab wA.heap.size 4),kn 53 (.slice (some (ae T X)) n u),kn 54 (ag (j:Int)),kn 55 (ab T (X+j*5)),kn 56 (.agg #[ag x.kind,ag x.a,ag x.b,.string ⟨x.name.toArray⟩,.slice p2 x.kids.length q2]),kn 57 (.bool true),kn 58 (.bool false)] (fun _=>(aH _ _).drew) (fun _ _ _ _ m h=>aw h m) (by kernel_rfl) ?_ ?_
   ·rintro M φ W m _ F l p hF;have k:=fun(q:Addr) (x:Value) (h:wr.cell? q=some x)=>aj m h;have E:=k _ _ E;have G:=k _ _ G;have H:=k _ _ H;have I:=k _ _ I;have J:=k _ _ J;have b0:=k _ _ b0;have b1:=k _ _ b1;have b2:=k _ _ b2;have b3:=k _ _ b3;have L:=k _ _ L;have z2:=k _ _ z2;have z3:=k _ _ z3;have cS:=cE W m;simp only[kn,dV,aP,aT,Act.put,aA,aK,aJ]at p;subst p;simp only[di,Nat.reduceAdd]at hF;dsimp only[kn,du,eG,dY,Act.put];and_intros;all_goals first|exact trivial|intro hw N hm K hK
    all_goals try (go_simp;with_reducible exact hK _ _ ⟨rfl,aH _ _⟩)
    ·go_simp;refine cS.mono ?_;rintro r' W' ⟨rfl,U⟩;exact hK _ _ ⟨rfl,U⟩
   ·rintro M φ W hM m;simp only[kn,d7,aP,aT,Act.put,aA,aK,aJ];have f:=aw c m;clear m c z2 z3;go_wp2_with fail;go_roundw;case rel=>exact⟨j+1,by go_num,by omega,f⟩
    case measure=>simp[intOf];omega
  ·have C: ¬(j:Int)<(n:Int):=(by omega);have f:=aw HW.o c;go_wp2_with fail;go_ret;exact⟨rfl,f⟩
theorem Jn (C i:List (Ru×Value))(va vb:Value)(w:World)(ha:InR w va C)(f:InR w vb i)(V:C.map (fun p=>p.1)=i.map (fun p=>p.1)):Calls prog 25 #[va,vb] w fun r w'=>r= .returned (.bool true)/\aq w w':=by
 obtain⟨pa,Y,rfl⟩:=ha.form;obtain⟨pb,Z,rfl⟩:=f.form;have N:=ha.len;have k:i.length=C.length:=by simpa using(congrArg List.length V).symm
 obtain⟨n,P⟩:=au C.length;have R:=aD ha;have S:=aD f;have X:=aD V;rw[k,P];rw[P]at N k;have HL:=aD k;have HN:=aD P;have h5:((n:Int) !=(n:Int))=false:=by simp
 clear ha f V k P;go_enter func25,ntmps25;go_wp2_with fail;clear h5;go_loopw [5,13] (fun _ t wr=> ∃j:Nat,t=ag (j:Int)/\j<=n/\aq w wr) (fun _ t _=>n-(intOf t).toNat);case atStart=>exact⟨0,rfl,by omega,aH _ _⟩
 case round=>
  obtain⟨j,rfl,hj,c⟩:=hrel;have aa:(0:Int)<=(j:Int):=(by omega);by_cases ac:j<n
  ·have O:(j:Int)<(n:Int):=(by omega);have y: ∃x,C[j]? =some x:=⟨C[j]'(by have:=HN.o;omega),ay _⟩
   have z: ∃x,i[j]? =some x:=⟨i[j]'(by have:=HL.o;omega),ay _⟩
   obtain⟨⟨u,v1⟩,y⟩:=y;obtain⟨⟨d,v2⟩,z⟩:=z
   have hu:d=u:=by
    have:=congrArg (fun l=>l[j]?) X.o;rw[aZ,aZ,y,z]at this;exact(aN this).symm
   subst hu;obtain⟨m,A,e1,D,E,G,H,I,J⟩:=R.o.cells j _ y;obtain⟨s,B,e2,b0,b1,b2,b3,L,b5⟩:=S.o.cells j _ z;obtain⟨_,_,d1,r1⟩:=R.o.all _ (aM y);obtain⟨_,_,d2,Q⟩:=S.o.all _ (aM z);obtain⟨p1,q1,g1⟩:=r1.form;obtain⟨p2,q2,g2⟩:=Q.form;dsimp only at D E G H I J b0 b1 b2 b3 L b5 g1 g2 r1 Q;subst g1 g2 e1 e2;replace D:=aj c D;replace E:=aj c E;replace G:=aj c G;replace H:=aj c H;replace I:=aj c I;replace J:=aj c J;replace b0:=aj c b0;replace b1:=aj c b1;replace b2:=aj c b2;replace b3:=aj c b3;replace L:=aj c L;replace b5:=aj c b5;have cE:=fun(W:World) (hW:aq wr W)=>ND d1 _ _ d2 d.2 p1 p2 q1 q2 W (r1.kept fun g _ v=>(aw c hW).block g v) (Q.kept fun g _ v=>(aw c hW).block g v);have h1:(d.1 !=d.1)=false:=(by simp);clear r1 Q y z;go_upto_region 6 with fail;refine dh (fun _ _ W=>aq wr W) [kn 16 (.slice (some (ae m A)) n Y),kn 17 (ag (j:Int)),kn 18 (ab m (A+j*6)),kn 19 (ab m (A+j*6)),kn 20 (.string ⟨d.1.toArray⟩),kn 21 (.slice (some (ae s B)) n Z),kn 22 (ag (j:Int)),kn 23 (ab s (B+j*6)),kn 24 (ab s (B+j*6)),kn 25 (.string ⟨d.1.toArray⟩),kn 26 (.bool false),kn 27 (.bool false),kn 28 (.slice (some (ae m A)) n Y),kn 29 (ag (j:Int)),kn 30 (ab m (A+j*6)),kn 31 (ab m (A+j*6+1)),kn 32 (.agg #[ag d.2.kind,ag d.2.a,ag d.2.b,.string ⟨d.2.name.toArray⟩,.slice p1 d.2.kids.length q1]),kn 33 (.slice (some (ae s B)) n Z),kn 34 (ag (j:Int)),kn 35 (ab s (B+j*6)),kn 36 (ab s (B+j*6+1)),kn 37 (.agg #[ag d.2.kind,ag d.2.a,ag d.2.b,.string ⟨d.2.name.toArray⟩,.slice p2 d.2.kids.length q2]),kn 38 (.bool true),kn 39 (.bool false),kn 40 (.bool false)] (fun _=>(aH _ _).drew) (fun _ _ _ _ f h=>aw h f) (by kernel_rfl) ?_ ?_
   ·rintro M φ W f _ F l v hF;have e:=fun(q:Addr) (x:Value) (h:wr.cell? q=some x)=>aj f h;have D:=e _ _ D;have E:=e _ _ E;have G:=e _ _ G;have H:=e _ _ H;have I:=e _ _ I;have J:=e _ _ J;have b0:=e _ _ b0;have b1:=e _ _ b1;have b2:=e _ _ b2;have b3:=e _ _ b3;have L:=e _ _ L;have b5:=e _ _ b5;have cS:=cE W f;simp only[kn,dV,aP,aT,Act.put,aA,aK,aJ]at v;subst v;simp only[di,Nat.reduceAdd]at hF;dsimp only[kn,du,eG,dY,Act.put];and_intros;all_goals first|exact trivial|intro hw P hm K hK
    all_goals try (go_simp;with_reducible exact hK _ _ ⟨rfl,aH _ _⟩)
    ·go_simp;refine cS.mono ?_;rintro r' W' ⟨rfl,T⟩;exact hK _ _ ⟨rfl,T⟩
   ·rintro M φ W hM f;simp only[kn,d7,aP,aT,Act.put,aA,aK,aJ];have U:=aw c f;clear f c;go_wp2_with fail;go_roundw;case rel=>exact⟨j+1,by go_num,by omega,U⟩
    case measure=>simp[intOf];omega
  ·have O: ¬(j:Int)<(n:Int):=(by omega);clear R S X;go_wp2_with fail;go_ret;exact⟨rfl,c⟩
theorem Jp (x y i j:Int)(p q:Value)(l f:List Int)(w:World)(ha:dH w p l)(u:dH w q f):Calls prog 16 #[.agg #[ag x,ag y,p],.agg #[ag i,ag j,q]] w fun e w'=>e= .returned (.bool (decide (x=i/\y=j/\l=f)))/\aq w w':=by
 obtain⟨B,D,t,v⟩:=nb w #[ag x,ag y,p] 39;obtain⟨C,E,s,n⟩:=nb B #[ag i,ag j,q] 39;have a:=aw t s;have c:=Jo l f p q C (ha.below a) (u.below a);have d:=bt s v;have G:=cr 0 d rfl;have H:=cr 1 d rfl;have I:=cr 2 d rfl;have J:=cr 0 n rfl;have K:=cr 1 n rfl;have L:=cr 2 n rfl;have r:=aD a;obtain⟨_,_,rfl,_,_⟩:=ha;obtain⟨_,_,rfl,_,_⟩:=u;clear t s v n d a;by_cases k:x=i
 ·subst k;have z:(x==x)=true:=(by simp);by_cases m:y=j
  ·subst m;have A:(y==y)=true:=(by simp);rw[show decide (x=x/\y=y/\l=f)=decide (l=f) by simp];generalize decide (l=f)=b at*;go_enter func16,ntmps16;go_wp2_with fail;refine c.mono ?_;rintro e F ⟨rfl,g⟩;have a:=aw r.o g;clear c g;go_wp2_with fail;go_ret;exact⟨rfl,a⟩
  ·have A:(y==j)=false:=(by simpa using m);rw[bm (fun h=>m h.2.1)];clear c m;go_enter func16,ntmps16;go_wp2_with fail;go_ret;exact⟨rfl,r.o⟩
 ·have z:(x==i)=false:=by simpa using k
  rw[bm (fun h=>k h.1)];clear c k;go_enter func16,ntmps16;go_wp2_with fail;go_ret;exact⟨rfl,r.o⟩
section
structure TwJ (w0:World)(T:TypeId)(z c1 c2:Array Value)(a sa sb:Nat)(M:Nat->Bool)(φ:Nat->Value)(W:World):Prop where
 bel:aq w0 W
 ea:M a=true-> ∃g,φ sa=ab g 0/\w0.heap.size<=g/\W.heap[g]? =ah (bif M (a+2) then c1 else z) T
 eb:M (a+1)=true-> ∃g,φ sb=ab g 0/\w0.heap.size<=g/\W.heap[g]? =ah (bif M (a+3) then c2 else z) T
 ne:M a=true->M (a+1)=true->φ sa≠φ sb
section
variable {w0 W W':World} {T:TypeId} {z c1 c2:Array Value} {a sa sb k:Nat} {M:Nat->Bool} {φ:Nat->Value} {s:Option Nat} {u:Value}
theorem TwJ.start (h:aq w0 W):TwJ w0 T z c1 c2 a sa sb (fun _=>false) φ W:=⟨h,(fun h=>by cases h),(fun h=>by cases h),fun h=>by cases h⟩
theorem TwJ.below (h:TwJ w0 T z c1 c2 a sa sb M φ W)(f:aq W W'):TwJ w0 T z c1 c2 a sa sb M φ W' where
 bel:=aw h.bel f
 ea c:=by obtain⟨g,e,b,d⟩:=h.ea c;exact⟨g,e,b,bt f d⟩
 eb c:=by obtain⟨g,e,b,d⟩:=h.eb c;exact⟨g,e,b,bt f d⟩
 ne:=h.ne
theorem TwJ.alA (h:TwJ w0 T z c1 c2 a sa sb M φ W)(f:sa≠sb)(k:M (a+2)=false):TwJ w0 T z c1 c2 a sa sb (fun x=>decide (a=x)||M x) (oI φ (some sa) (ab W.heap.size 0)) (W.alloc (.cells z T)):=by
 have d:=am W (.cells z T);refine⟨aw h.bel d,fun _=>⟨_,dR,h.bel.size,?_⟩,fun c=> ?_,fun _ c e=> ?_⟩
 ·rw[orZ (by omega),k];exact aG _ _
 ·rw[orZ (by omega)]at c⊢;rw[dC f];obtain⟨g,e,j,b⟩:=h.eb c;exact⟨g,e,j,bt d b⟩
 ·rw[orZ (by omega)]at c;obtain⟨g,i,_,b⟩:=h.eb c;rw[dR,dC f,i]at e;injection e with e;injection e with e;injection e with e;have:=aI b;omega
theorem TwJ.alB (h:TwJ w0 T z c1 c2 a sa sb M φ W)(f:sa≠sb)(k:M (a+3)=false):TwJ w0 T z c1 c2 a sa sb (fun x=>decide (a+1=x)||M x) (oI φ (some sb) (ab W.heap.size 0)) (W.alloc (.cells z T)):=by
 have d:=am W (.cells z T);refine⟨aw h.bel d,fun c=> ?_,fun _=>⟨_,dR,h.bel.size,?_⟩,fun c _ e=> ?_⟩
 ·rw[orZ (by omega)]at c⊢;rw[dC f.symm];obtain⟨g,e,j,b⟩:=h.ea c;exact⟨g,e,j,bt d b⟩
 ·rw[orZ (by omega),k];exact aG _ _
 ·rw[orZ (by omega)]at c;obtain⟨g,i,_,b⟩:=h.ea c;rw[dR,dC f.symm,i]at e;injection e with e;injection e with e;injection e with e;have:=aI b;omega
theorem TwJ.stA (h:TwJ w0 T z c1 c2 a sa sb M φ W)(k:M a=true)(n:M (a+2)=false): ∃g,φ sa=ab g 0/\W.heap[g]? =ah z T/\TwJ w0 T z c1 c2 a sa sb (fun x=>decide (a+2=x)||M x) φ (W.setRow g c1):=by
 obtain⟨g,e,l,f⟩:=h.ea k;rw[n]at f;refine⟨g,e,f,below_setRow h.bel l _,fun _=>⟨g,e,l,?_⟩,fun c=> ?_,fun c d=> ?_⟩
 ·rw[bj rfl,Bool.true_or];exact aL _ _ _ _ _ _ f
 ·rw[orZ (by omega)]at c⊢;obtain⟨m,j,b,i⟩:=h.eb c;exact⟨m,j,b,(aW _ _ _ _ fun q=>h.ne k c (by rw[e,j,q])).trans i⟩
 ·exact h.ne (by rwa[orZ (by omega)]at c) (by rwa[orZ (by omega)]at d)
theorem TwJ.stB (h:TwJ w0 T z c1 c2 a sa sb M φ W)(k:M (a+1)=true)(n:M (a+3)=false): ∃g,φ sb=ab g 0/\W.heap[g]? =ah z T/\TwJ w0 T z c1 c2 a sa sb (fun x=>decide (a+3=x)||M x) φ (W.setRow g c2):=by
 obtain⟨g,e,l,f⟩:=h.eb k;rw[n]at f;refine⟨g,e,f,below_setRow h.bel l _,fun c=> ?_,fun _=>⟨g,e,l,?_⟩,fun c d=> ?_⟩
 ·rw[orZ (by omega)]at c⊢;obtain⟨m,j,b,i⟩:=h.ea c;exact⟨m,j,b,(aW _ _ _ _ fun q=>h.ne c k (by rw[e,j,q])).trans i⟩
 ·rw[bj rfl,Bool.true_or];exact aL _ _ _ _ _ _ f
 ·exact h.ne (by rwa[orZ (by omega)]at c) (by rwa[orZ (by omega)]at d)
end
end
structure Ab (B:Nat)(w:World)(c:Co)(rv ev sv av:Value)(ss:List (Sv×Value))(aa:List (Ap×Value)):Prop where
 rules: ∃us,InR w rv us/\us.map (fun p=>p.1)=c.rules
 res:w.ownsRow B 9 1 ev c.res.length (c.res.map jB)
 svs:w.ownsRow B 36 4 sv ss.length (svF ss)
 sve:ss.map (fun p=>p.1)=c.svs
 svr: ∀q∈ss,fj w q.2 q.1.roles
 aps:w.ownsRow B 45 11 av aa.length (apF aa)
 ape:aa.map (fun p=>p.1)=c.aps
 apr: ∀q∈aa,dH w q.2 q.1.who
theorem po.ds {B:Nat}{w:World}{p:List An×Dk}{c ev sv av a:Value}{d:List (Sv×Value)}{b:List (Ap×Value)}{e:List (An×Value×Value)}(h:po B w p c ev sv av a d b e):Ab B w (coD p.2) c ev sv av d b:=⟨h.rules,h.res,h.svs,h.sve,h.svr,h.aps,h.ape,h.apr⟩
theorem Ab.below {B:Nat}{w w':World}{c:Co}{i ev sv av:Value}{j:List (Sv×Value)}{f:List (Ap×Value)}(h:Ab B w c i ev sv av j f)(d:aq w w'):Ab B w' c i ev sv av j f:=by
 have rk: ∀{e s n:Nat} {u:Value} {xs:List Value},w.ownsRow B e s u n xs->w'.ownsRow B e s u n xs:=fun g=>br g fun b a=>d.block b (g.lt b a).2;obtain⟨m,k,l⟩:=h.rules;exact⟨⟨m,k.below d,l⟩,rk h.res,rk h.svs,h.sve,fun q a=>(h.svr q a).below d,rk h.aps,h.ape,fun q a=>(h.apr q a).below d⟩
theorem E5 {α β:Type}{l c:List (α×β)}(h:c.map (fun p=>p.1)=l.map (fun p=>p.1)){j:Nat}{a:α}{u:β}(g:l[j]? =some (a,u)): ∃b,c[j]? =some (a,b):=by
 have e:=congrArg (fun l=>l[j]?) h;rw[aZ,aZ,g]at e;obtain⟨⟨i,b⟩,d,f⟩:=dU.1 e;cases f;exact⟨b,d⟩
theorem NS (s:List UInt8):((s !=s):Bool)=false:=by simp
theorem JJ (B B':Nat)(c:Co)(rv ev sv av aG a8 aI a5:Value)(ss ai:List (Sv×Value))(aa ac:List (Ap×Value))(w:World)(ha:Ab B w c rv ev sv av ss aa)(k:Ab B' w c aG a8 aI a5 ai ac):Calls prog 13 #[.agg #[rv,ev,sv,av],.agg #[aG,a8,aI,a5]] w fun e w'=>e= .returned (.bool true)/\aq w w':=by
 obtain⟨us,hu,aC⟩:=ha.rules;obtain⟨aL,a3,ak⟩:=k.rules;obtain⟨pr,ba,rfl⟩:=hu.form;obtain⟨bs,aY,rfl⟩:=a3.form;obtain⟨pe,ce,rfl⟩:=bK ha.res;obtain⟨br,aX,rfl⟩:=bK k.res;obtain⟨ps,cs,bn⟩:=bK ha.svs;obtain⟨bu,a7,aF⟩:=bK k.svs;obtain⟨pa,ca,bm⟩:=bK ha.aps;obtain⟨bq,a6,aE⟩:=bK k.aps;subst bn aF bm aE;obtain⟨wA,hA,bA,nA⟩:=nb w #[.slice pr us.length ba,.slice pe c.res.length ce,.slice ps ss.length cs,.slice pa aa.length ca] 29;obtain⟨wB,hB,bB,S⟩:=nb wA #[.slice bs aL.length aY,.slice br c.res.length aX,.slice bu ai.length a7,.slice bq ac.length a6] 29;have m:=aw bA bB;have A:=bt bB nA;have HA:=aD (ha.below m);have HB:=aD (k.below m);have cR:=Jn us aL _ _ wB (hu.below m) (a3.below m) (aC.trans ak.symm);have es:ai.map (fun p=>p.1)=ss.map (fun p=>p.1):=k.sve.trans ha.sve.symm;have ea:ac.map (fun p=>p.1)=aa.map (fun p=>p.1):=k.ape.trans ha.ape.symm;have ls:ai.length=ss.length:=by simpa using congrArg List.length es
 have la:ac.length=aa.length:=by simpa using congrArg List.length ea
 have ar:=xE ha.res;have bj:=xE ha.svs;have bk:=xE ha.aps;rw[ls,la]at hB S⊢;obtain⟨n2,ax⟩:=au c.res.length;obtain⟨n3,a0⟩:=au ss.length;obtain⟨n4,a1⟩:=au aa.length;rw[ax]at ar hA hB A nA S⊢;rw[a0]at bj hA hB A nA S⊢;rw[a1]at bk hA hB A nA S⊢;have aS:=aD es;have aR:=aD ea;have bx:=aD ls;have bw:=aD la;have ao:=aD ax;have aU:=aD a0;have aV:=aD a1;have x0:=cr 0 A rfl;have x1:=cr 1 A rfl;have x2:=cr 2 A rfl;have O:=cr 3 A rfl;have y0:=cr 0 S rfl;have y1:=cr 1 S rfl;have y2:=cr 2 S rfl;have P:=cr 3 S rfl;have HW:=aD m;have NA:=aD A;have NB:=aD S;have h2:((n2:Int) !=(n2:Int))=false:=by simp
 have h3:((n3:Int) !=(n3:Int))=false:=by simp
 have h4:((n4:Int) !=(n4:Int))=false:=by simp
 clear ha k hu a3 aC ak es ea ls la ax a0 a1 bA bB nA S A m;go_enter func13,ntmps13;go_wp2_with fail;refine cR.mono ?_;rintro e wC ⟨rfl,bC⟩;clear cR;replace x1:=aj bC x1;replace x2:=aj bC x2;replace O:=aj bC O;replace y1:=aj bC y1;replace y2:=aj bC y2;replace P:=aj bC P;have HC:=aD bC;clear x0 y0 bC;go_wp2_with fail;clear h2 h3 h4;go_loopw [5,49] (fun _ t wr=> ∃j:Nat,t=ag (j:Int)/\j<=n2/\aq wC wr) (fun _ t _=>n2-(intOf t).toNat);case atStart=>exact⟨0,rfl,dz _,aH _ _⟩
 case round=>
  obtain⟨j,rfl,hj,b⟩:=hrel;have ad:(0:Int)<=(j:Int):=(by omega);by_cases ah:j<n2
  ·have r:(j:Int)<(n2:Int):=(by omega);have n: ∃x,c.res[j]? =some x:=⟨c.res[j]'(by have:=ao.o;omega),ay _⟩
   obtain⟨s,n⟩:=n;have hs:(c.res.map jB)[j]? =some (jB s):=(by rw[aZ,n];rfl);obtain⟨ga,c1,v,_,k1⟩:=np HA.o.res (by have:=ao.o;omega);obtain⟨gb,c2,y,_,k2⟩:=np HB.o.res (by have:=ao.o;omega);injection v with v e5 e3;injection y with y e6 e4;clear e5 e6;subst v y e3 e4;have f:=aw HC.o b;have u1:wr.cell? (ae ga j)=some (.string ⟨s.toArray⟩):=(f.cell (bN (k1 _ _ hs))).trans (k1 _ _ hs);have u2:wr.cell? (ae gb j)=some (.string ⟨s.toArray⟩):=(f.cell (bN (k2 _ _ hs))).trans (k2 _ _ hs);have z2:=aj b x1;have z3:=aj b y1;have b0:=NS s;clear n hs k1 k2 f x1 x2 O y1 y2 P;go_wp2_with fail;go_quiet (fail);have bc:=dp b nq;clear b u1 u2 z2 z3;go_wp2_with fail;go_roundw;case rel=>exact⟨j+1,by go_num,by omega,bc⟩
   case measure=>simp[intOf];omega
  ·have r: ¬(j:Int)<(n2:Int):=(by omega);replace x2:=aj b x2;replace O:=aj b O;replace y2:=aj b y2;replace P:=aj b P;have an:=aD (aw HC.o b);clear b x1 y1 HC;go_wp2_with fail;clear ah r ad;obtain⟨wD,rfl⟩: ∃q,q=wr:=⟨_,rfl⟩
   go_loopw [6,7,8,9,67] (fun _ _ _ _ t wr=> ∃j:Nat,t=ag (j:Int)/\j<=n3/\aq wD wr) (fun _ _ _ _ t _=>n3-(intOf t).toNat);case atStart=>exact⟨0,rfl,dz _,aH _ _⟩
   case round=>
    obtain⟨j,rfl,hj,b⟩:=hrel;have ad:(0:Int)<=(j:Int):=(by omega);by_cases ah:j<n3
    ·have r:(j:Int)<(n3:Int):=(by omega);have n: ∃x,ss[j]? =some x:=⟨ss[j]'(by have:=aU.o;omega),ay _⟩
     obtain⟨⟨s,v1⟩,n⟩:=n;obtain⟨v2,hy⟩:=E5 aS.o n;have r1:=HA.o.svr _ (aM n);have r2:=HB.o.svr _ (aM hy);dsimp only at r1 r2;obtain⟨p1,T,rfl,bl,a9⟩:=r1;obtain⟨p2,U,rfl,_,aB⟩:=r2;obtain⟨ga,c1,v,_,J⟩:=iD ru HA.o.svs rfl n;obtain⟨gb,c2,y,_,L⟩:=iD ru HB.o.svs rfl hy;injection v with v e5 e3;injection y with y e6 e4;clear e5 e6;subst v y e3 e4;have f:=aw an.o b;replace J:=dS J f;replace L:=dS L f;have z2:=aj b x2;have z3:=aj b y2;have al:=aD b;have aN:=aD f;have Y:=aD a9;have Z:=aD aB;clear n hy f a9 aB b x2 O y2 P;go_upto_region 12 with fail;refine dh (TwJ wr 36 #[ag 0,ag 0,ag 0,af] (svC (s,.slice p1 s.roles.length T)) (svC (s,.slice p2 s.roles.length U)) 10 7 8) [kn 70 (ab w.heap.size 2),kn 71 (.slice (some (ae ga 0)) n3 cs),kn 72 (ag (j:Int)),kn 73 (ab ga (j*4)),kn 74 (.agg (svC (s,.slice p1 s.roles.length T))),kn 75 (ab wA.heap.size 2),kn 76 (.slice (some (ae gb 0)) n3 a7),kn 77 (ag (j:Int)),kn 78 (ab gb (j*4)),kn 79 (.agg (svC (s,.slice p2 s.roles.length U))),td 7,td 8,nk,nk] (fun _=>TwJ.start (aH _ _).drew) (fun _ _ _ _ k h=>h.below k) (by kernel_rfl) ?_ ?_
     ·rintro M φ W E _ F l hl D;have k:=E.bel;have V:=fun(q:Addr) (x:Value) (h:wr.cell? q=some x)=>aj k h;have z2:=V _ _ z2;have z3:=V _ _ z3;have J:=dS J k;have L:=dS L k;have X:=aD E;clear E;simp only[kn,td,nk,dV,aP,aT,Act.put,aA,aK,aJ]at hl;subst hl;simp only[di,Nat.reduceAdd]at D;dsimp only[kn,td,nk,du,eG,dY,Act.put];and_intros;all_goals first|exact trivial|intro R Q hm K C
      all_goals try (go_simp;with_reducible exact C _ _ ⟨rfl,aH _ _⟩)
      ·show Oper.wp _ _ _ _ _ _;exact gQ (ops:= #[]) rfl (wpList_load_mid rfl 36 _ rfl ga (j*4) (by simp[Act.eval,D]) ((svC (s,.slice p1 s.roles.length T))).toList _ J svT rfl (by kernel_rfl) ⟨rfl,C _ _ ⟨rfl,aH _ _⟩⟩)
      ·show Oper.wp _ _ _ _ _ _;exact gQ (ops:= #[]) rfl (wpList_load_mid rfl 36 _ rfl gb (j*4) (by simp[Act.eval,D]) ((svC (s,.slice p2 s.roles.length U))).toList _ L svT rfl (by kernel_rfl) ⟨rfl,C _ _ ⟨rfl,aH _ _⟩⟩)
      ·have h2:=Q 12 _ rfl (by kernel_rfl);clear R Q;go_simp;exact C _ _ ⟨trivial,X.o.alA (by decide) h2⟩
      ·have h2:=Q 13 _ rfl (by kernel_rfl);clear R Q;go_simp;exact C _ _ ⟨trivial,X.o.alB (by decide) h2⟩
      ·obtain⟨g,e,hg,h⟩:=X.o.stA (R ⟨10,.data⟩ (by simp) rfl rfl) hm;show Oper.wp _ _ _ _ _ _;exact gQ (ops:= #[]) rfl (az rfl 36 _ _ rfl g ((svC (s,.slice p1 s.roles.length T))) (by simp[Act.eval,D,e]) (by simp[Act.eval,D]) _ _ hg (by kernel_rfl) rfl (qD _ _ _ _) ⟨rfl,C undef _ ⟨trivial,h⟩⟩)
      ·obtain⟨g,e,hg,h⟩:=X.o.stB (R ⟨11,.data⟩ (by simp) rfl rfl) hm;show Oper.wp _ _ _ _ _ _;exact gQ (ops:= #[]) rfl (az rfl 36 _ _ rfl g ((svC (s,.slice p2 s.roles.length U))) (by simp[Act.eval,D,e]) (by simp[Act.eval,D]) _ _ hg (by kernel_rfl) rfl (qD _ _ _ _) ⟨rfl,C undef _ ⟨trivial,h⟩⟩)
     ·rintro M φ WS N E;obtain⟨g1,v,_,u⟩:=E.ea (N 10 (by decide) rfl);obtain⟨g2,y,_,d⟩:=E.eb (N 11 (by decide) rfl);rw[show M (10+2)=true from N 12 (by decide) rfl,cond_true]at u;rw[show M (10+3)=true from N 13 (by decide) rfl,cond_true]at d;have G:=E.bel;simp only[kn,td,nk,d7,aP,aT,Act.put,aA,aK,aJ];rw[v,y];dsimp only[svC]at u d;have bh:=cr 0 u rfl;have bi:=cr 1 u rfl;have ar:=cr 2 u rfl;have bd:=cr 0 d rfl;have be:=cr 1 d rfl;have bf:=cr 2 d rfl;have m3:=cr 3 u rfl;have m4:=cr 3 d rfl;have bg:s.roles.length<9223372036854775808:=bl;obtain⟨nr,a2⟩:=au s.roles.length;have aW:=aD a2;rw[a2]at bg m3 m4;have H: ∀z:Int,(z !=z)=false:=fun z=>(by simp);have t1:=H s.len;have t2:=H s.bef;have t3:=H s.aft;have t4:=H (nr:Int);have am:=aD (aw al.o G);have aQ:=aD (aw aN.o G);clear E N v y a2 H u d G J L z2 z3;go_wp2_with fail;clear t1 t2 t3 t4 bh bi ar bd be bf;obtain⟨wo,rfl⟩: ∃q,q=wr:=⟨_,rfl⟩
      go_loopw [9,111] (fun _ t wr=> ∃i:Nat,t=ag (i:Int)/\i<=nr/\aq WS wr) (fun _ t _=>nr-(intOf t).toNat);case atStart=>exact⟨0,rfl,dz _,aH _ _⟩
      case round=>
       obtain⟨i,rfl,hi,I⟩:=hrel;have bz:(0:Int)<=(i:Int):=(by omega);by_cases bv:i<nr
       ·have ap:(i:Int)<(nr:Int):=(by omega);have n: ∃x,s.roles[i]? =some x:=⟨s.roles[i]'(by have:=aW.o;omega),ay _⟩
        obtain⟨x,n⟩:=n;obtain⟨gc,oc,sc,v,xc,rc⟩:=Y.o i x n;obtain⟨gd,od,sd,y,xd,rd⟩:=Z.o i x n;subst v y;have f:=aw aQ.o I;replace xc:=aj f xc;replace xd:=aj f xd;replace rc:=rc.below f;replace rd:=rd.below f;replace m3:=aj I m3;replace m4:=aj I m4;have aO:=aD I;clear n f I;go_upto_region 18 with fail;refine dh (fun _ _ W=>aq wr W) [kn 114 (ab g1 3),kn 115 (.slice (some (ae gc oc)) nr T),kn 116 (ag (i:Int)),kn 117 (ab gc (oc+i)),kn 118 (sc),kn 119 (ab g2 3),kn 120 (.slice (some (ae gd od)) nr U),kn 121 (ag (i:Int)),kn 122 (ab gd (od+i)),kn 123 (sd),kn 124 (.bool true),kn 125 (.bool false)] (fun _=>(aH _ _).drew) (fun _ _ _ _ k h=>aw h k) (by kernel_rfl) ?_ ?_
        ·rintro M φ W k _ F l hl D;have V:=fun(q:Addr) (x:Value) (h:wr.cell? q=some x)=>aj k h;have m3:=V _ _ m3;have m4:=V _ _ m4;have xc:=V _ _ xc;have xd:=V _ _ xd;have cS:=Lq x sc sd W (rc.below k) (rd.below k);simp only[kn,dV,aP,aT,Act.put,aA,aK,aJ]at hl;subst hl;simp only[di,Nat.reduceAdd]at D;dsimp only[kn,du,eG,dY,Act.put];and_intros;all_goals first|exact trivial|intro R Q hm K C
         all_goals try (go_simp;with_reducible exact C _ _ ⟨rfl,aH _ _⟩)
         ·go_simp;refine cS.mono ?_;rintro r' W' ⟨rfl,bb⟩;exact C _ _ ⟨rfl,bb⟩
        ·rintro M φ WR N k;simp only[kn,d7,aP,aT,Act.put,aA,aK,aJ];have m:=aw aO.o k;clear k;go_wp2_with fail;go_roundw;case rel=>exact⟨i+1,by go_num,by omega,m⟩
         case measure=>simp[intOf];omega
       ·have ap: ¬(i:Int)<(nr:Int):=(by omega);have m:=aw am.o I;clear I m3 m4;go_wp2_with fail;go_roundw;case rel=>exact⟨j+1,by go_num,by omega,m⟩
        case measure=>simp[intOf];omega
    ·have r: ¬(j:Int)<(n3:Int):=(by omega);replace O:=aj b O;replace P:=aj b P;have a4:=aD (aw an.o b);clear b x2 y2 an;go_wp2_with fail;clear ah r ad;obtain⟨wE,rfl⟩: ∃q,q=wr:=⟨_,rfl⟩
     go_loopw [10,11,12,131] (fun _ _ _ t wr=> ∃j:Nat,t=ag (j:Int)/\j<=n4/\aq wE wr) (fun _ _ _ t _=>n4-(intOf t).toNat);case atStart=>exact⟨0,rfl,dz _,aH _ _⟩
     case round=>
      obtain⟨j,rfl,hj,b⟩:=hrel;have ad:(0:Int)<=(j:Int):=(by omega);by_cases ah:j<n4
      ·have r:(j:Int)<(n4:Int):=(by omega);have n: ∃x,aa[j]? =some x:=⟨aa[j]'(by have:=aV.o;omega),ay _⟩
       obtain⟨⟨a,v1⟩,n⟩:=n;obtain⟨v2,hy⟩:=E5 aR.o n;have r1:=HA.o.apr _ (aM n);have r2:=HB.o.apr _ (aM hy);obtain⟨p1,T,f1,_,_⟩:=id r1;obtain⟨p2,U,f2,_,_⟩:=id r2;dsimp only at f1 f2;subst f1 f2;obtain⟨ga,c1,v,_,J⟩:=iD o7 HA.o.aps rfl n;obtain⟨gb,c2,y,_,L⟩:=iD o7 HB.o.aps rfl hy;injection v with v e5 e3;injection y with y e6 e4;clear e5 e6;subst v y e3 e4;have f:=aw a4.o b;replace J:=dS J f;replace L:=dS L f;have Y:=aD (r1.below f);have Z:=aD (r2.below f);have z2:=aj b O;have z3:=aj b P;have al:=aD b;clear n hy f b r1 r2 O P;go_upto_region 25 with fail;refine dh (TwJ wr 45 #[ag 0,ag 0,ag 0,ag 0,ag 0,ag 0,ag 0,ag 0,ag 0,ag 0,af] (apC (a,.slice p1 a.who.length T)) (apC (a,.slice p2 a.who.length U)) 10 11 12) [kn 134 (ab w.heap.size 3),kn 135 (.slice (some (ae ga 0)) n4 ca),kn 136 (ag (j:Int)),kn 137 (ab ga (j*11)),kn 138 (.agg (apC (a,.slice p1 a.who.length T))),kn 139 (ab wA.heap.size 3),kn 140 (.slice (some (ae gb 0)) n4 a6),kn 141 (ag (j:Int)),kn 142 (ab gb (j*11)),kn 143 (.agg (apC (a,.slice p2 a.who.length U))),td 11,td 12,nk,nk] (fun _=>TwJ.start (aH _ _).drew) (fun _ _ _ _ k h=>h.below k) (by kernel_rfl) ?_ ?_
       ·rintro M φ W E _ F l hl D;have k:=E.bel;have V:=fun(q:Addr) (x:Value) (h:wr.cell? q=some x)=>aj k h;have z2:=V _ _ z2;have z3:=V _ _ z3;have J:=dS J k;have L:=dS L k;have X:=aD E;clear E;simp only[kn,td,nk,dV,aP,aT,Act.put,aA,aK,aJ]at hl;subst hl;simp only[di,Nat.reduceAdd]at D;dsimp only[kn,td,nk,du,eG,dY,Act.put];and_intros;all_goals first|exact trivial|intro R Q hm K C
        all_goals try (go_simp;with_reducible exact C _ _ ⟨rfl,aH _ _⟩)
        ·show Oper.wp _ _ _ _ _ _;exact gQ (ops:= #[]) rfl (wpList_load_mid rfl 45 _ rfl ga (j*11) (by simp[Act.eval,D]) ((apC (a,.slice p1 a.who.length T))).toList _ J apT rfl (by kernel_rfl) ⟨rfl,C _ _ ⟨rfl,aH _ _⟩⟩)
        ·show Oper.wp _ _ _ _ _ _;exact gQ (ops:= #[]) rfl (wpList_load_mid rfl 45 _ rfl gb (j*11) (by simp[Act.eval,D]) ((apC (a,.slice p2 a.who.length U))).toList _ L apT rfl (by kernel_rfl) ⟨rfl,C _ _ ⟨rfl,aH _ _⟩⟩)
        ·have h2:=Q 12 _ rfl (by kernel_rfl);clear R Q;go_simp;exact C _ _ ⟨trivial,X.o.alA (by decide) h2⟩
        ·have h2:=Q 13 _ rfl (by kernel_rfl);clear R Q;go_simp;exact C _ _ ⟨trivial,X.o.alB (by decide) h2⟩
        ·obtain⟨g,e,hg,h⟩:=X.o.stA (R ⟨10,.data⟩ (by simp) rfl rfl) hm;show Oper.wp _ _ _ _ _ _;exact gQ (ops:= #[]) rfl (az rfl 45 _ _ rfl g ((apC (a,.slice p1 a.who.length T))) (by simp[Act.eval,D,e]) (by simp[Act.eval,D]) _ _ hg (by kernel_rfl) rfl (gU _ _ _ _) ⟨rfl,C undef _ ⟨trivial,h⟩⟩)
        ·obtain⟨g,e,hg,h⟩:=X.o.stB (R ⟨11,.data⟩ (by simp) rfl rfl) hm;show Oper.wp _ _ _ _ _ _;exact gQ (ops:= #[]) rfl (az rfl 45 _ _ rfl g ((apC (a,.slice p2 a.who.length U))) (by simp[Act.eval,D,e]) (by simp[Act.eval,D]) _ _ hg (by kernel_rfl) rfl (gU _ _ _ _) ⟨rfl,C undef _ ⟨trivial,h⟩⟩)
       ·rintro M φ WS N E;obtain⟨g1,v,_,u⟩:=E.ea (N 10 (by decide) rfl);obtain⟨g2,y,_,d⟩:=E.eb (N 11 (by decide) rfl);rw[show M (10+2)=true from N 12 (by decide) rfl,cond_true]at u;rw[show M (10+3)=true from N 13 (by decide) rfl,cond_true]at d;have G:=E.bel;simp only[kn,td,nk,d7,aP,aT,Act.put,aA,aK,aJ];rw[v,y];dsimp only[apC]at u d;have i0:=cr 0 u rfl;have i1:=cr 1 u rfl;have i2:=cr 2 u rfl;have i3:=cr 3 u rfl;have i4:=cr 4 u rfl;have i5:=cr 5 u rfl;have i6:=cr 6 u rfl;have i7:=cr 7 u rfl;have i8:=cr 8 u rfl;have i9:=cr 9 u rfl;have bo:=cr 10 u rfl;have l0:=cr 0 d rfl;have l1:=cr 1 d rfl;have l2:=cr 2 d rfl;have l3:=cr 3 d rfl;have l4:=cr 4 d rfl;have l5:=cr 5 d rfl;have l6:=cr 6 d rfl;have l7:=cr 7 d rfl;have l8:=cr 8 d rfl;have l9:=cr 9 d rfl;have bp:=cr 10 d rfl;have cS:=Jp a.day a.min a.day a.min _ _ a.who a.who WS (Y.o.below G) (Z.o.below G);rw[show decide (a.day=a.day/\a.min=a.min/\a.who=a.who)=true by simp]at cS;have H: ∀z:Int,(z !=z)=false:=fun z=>(by simp);have t0:=H a.st;have t1:=H a.left;have t2:=H a.fr;have t3:=H a.to;have t4:=H a.sv;have t5:=H a.bef;have t6:=H a.aft;have t7:=H a.len;have am:=aD (aw al.o G);clear E N v y H u d G J L z2 z3 Y Z;go_wp2_with fail;refine cS.mono ?_;rintro e wQ ⟨rfl,bQ⟩;have m:=aw am.o bQ;clear cS bQ i0 i1 i2 i3 i4 i5 i6 i7 i8 i9 bo l0 l1 l2 l3 l4 l5 l6 l7 l8 l9 bp t0 t1 t2 t3 t4 t5 t6 t7;go_wp2_with fail;go_roundw;case rel=>exact⟨j+1,by go_num,by omega,m⟩
        case measure=>simp[intOf];omega
      ·have r: ¬(j:Int)<(n4:Int):=(by omega);have m:=HW.o.trans ((aw a4.o b).mono HW.o.size);clear b O P;go_wp2_with fail;go_ret;exact⟨rfl,m⟩
theorem NZ {e wr:World}{m:Value}{d:List (Cm×Value×Value)}(j:jR e m d)(g:aq e wr){q:Cm×Value×Value}(i:q∈d): ∃a,wr.alloc (.cells (doC q.1 q.2.1 q.2.2) 41)=a/\aq wr a/\jR a (.slice (some (ae wr.heap.size 0)) 1 1) [q]:=by
 obtain⟨a,f,c,l⟩:=nb wr (doC q.1 q.2.1 q.2.2) 41;have b:=aw g c;refine⟨a,f,c,vO (B:=0) (uR (n:=1) l (dz _) rfl (by decide)) (fun x k=> ?_) (show 1<9223372036854775808 by decide)⟩;cases da.1 k;exact((JO j _ i).below b).here
theorem E9 {a wr:World}{l:Value}{b c:List (Cm×Value×Value)}{B:Nat}(j:jR a l b)(e:aq a wr)(d:a.heap.size<=B)(f: ∀q∈c,q∈b):DoB B wr c:=fun q i=>((JO j _ (f q i)).below e).move (aE _) (fun _ _ _=>rfl) fun _ _ g=>aU g d
theorem Bs (t:List (Cm×Value×Value))(v:Value)(w:World)(hs:jR w v t)(hT:Tbs w.heap.size w):Calls prog 7 #[v] w fun e w'=>e= .returned (.bool true)/\aq w w':=by
 have c1:=wf w hT;have HS:=aD hs;have HT:=aD hT;obtain⟨p,k,rfl,aS,J⟩:=id hs;have a1:=aD J;clear hT hs J;go_enter func7,ntmps7;go_wp2_with fail;refine c1.mono ?_;rintro e w1 ⟨rfl,b1⟩;clear c1;have c2:=rA t _ w1 (HS.o.below b1) (fun W hW=>HT.o W (aw b1 hW)) (fun q _=>rD q.1);have a4:=aD b1;clear b1;go_wp2_with fail;refine c2.mono ?_;clear c2;rintro e w5 ⟨b5,h5⟩;have ab:=aD (aw a4.o b5);clear b5;rcases h5 with⟨_,rfl⟩|⟨ah,rv,ev,sv,av,bb,ss,aa,ls,rfl,f⟩
 ·obtain⟨wZ,wC,hZ,nZ,hC,V,nC⟩:=nbs w5 #[af,af,af,af] #[af,af,af,af] 29;have a5:=aD (aw ab.o V);clear V nC;go_wp2_with(refine az rfl 29 _ _ rfl _ _ rfl rfl _ _ nZ (by kernel_rfl) rfl (by simp[Value.oneCell']) ?_;rw[hC])
  go_ret;exact⟨rfl,a5.o⟩
 ·replace f:=f.here;rw[ba]at ah;have E:=f.ds;have F:=uS (t.map fun q=>q.1);rw[ba]at F;obtain⟨us,a0,_⟩:=f.rules;obtain⟨p1,k1,rfl⟩:=a0.form;obtain⟨p2,k2,rfl⟩:=bK f.res;obtain⟨p3,k3,T⟩:=bK f.svs;obtain⟨p4,k4,U⟩:=bK f.aps;subst T U;obtain⟨px,cx,rfl,G⟩:=f.at7;obtain⟨m,hm⟩:=au t.length;rw[F];rw[hm]at ah F aS⊢;have HM:=aD hm
  have a2:QR (∀j<m,∃(g:Nat) (a:An),px=some ⟨g,0,none⟩/\(playP dk0 (t.map fun q=>q.1)).1[j]? =some a/\w5.cell? (ae g (j*6))=some (ag a.err)):=fun j hj=>by
   obtain⟨a,ha⟩: ∃a,(playP dk0 (t.map fun q=>q.1)).1[j]? =some a:=⟨_,ay (by omega)⟩
   obtain⟨g,Y,lv,e,r,_,_⟩:=G j a ha;exact⟨g,a,e,ha,r 0 _ rfl⟩
  obtain⟨n1,am⟩:=au us.length;obtain⟨n2,an⟩:=au ((playP dk0 (t.map fun q=>q.1)).2.res.length);obtain⟨n3,ao⟩:=au ss.length;obtain⟨n4,ap⟩:=au aa.length;rw[am,an,ao,ap]at E⊢;have aC:=aD E;generalize (playP dk0 (t.map fun q=>q.1)).2.runs=rn;obtain⟨wZ,wC,hZ,nZ,hC,V,nC⟩:=nbs w5 #[af,af,af,af] #[.slice p1 n1 k1,.slice p2 n2 k2,.slice p3 n3 k3,.slice p4 n4 k4] 29;have ac:=aD V;have aF:=aD nC;have O:=aD (aw ab.o V);clear f E F a0 G hm am an ao ap V nC;go_wp2_with(refine az rfl 29 _ _ rfl _ _ rfl rfl _ _ nZ (by kernel_rfl) rfl (by simp[Value.oneCell']) ?_;rw[hC])
  clear hZ nZ hC;go_loopw [7,8,30] (fun gv _ q wr=> ∃(j:Nat) (u:List (Cm×Value×Value)),q=ag (j:Int)/\j<=m/\wr.ownsRow wC.heap.size 41 13 gv u.length (DoF u)/\u.map (fun q=>q.1)=kN co0 ((t.map fun q=>q.1).take j)/\(∀x∈u,x∈t)/\u.length<=j/\aq wC wr) (fun _ _ q _=>m-(intOf q).toNat);case atStart=>exact⟨0,[],rfl,dz _,⟨rfl,.inl ⟨rfl,rfl⟩⟩,rfl,(fun x z=>by cases z),aE _,aH _ _⟩
  case round=>
   obtain⟨j,u,rfl,hj,K,A,d,be,y⟩:=hrel;have bg:(0:Int)<=(j:Int):=(by omega);obtain⟨pg,kg,aV⟩:=bK K;subst aV;have n:=aw O.o y;by_cases aU:j<m
   ·have ak:(j:Int)<(m:Int):=(by omega);have z: ∃x,t[j]? =some x:=⟨t[j]'(by have:=HM.o;omega),ay _⟩
    obtain⟨q,z⟩:=z;obtain⟨g,a,rfl,hA,y0⟩:=a2.o j aU;have B:=Ds (t.map fun q=>q.1) (i:=j) (x:=q.1) (by rw[aZ,z];rfl) hA;have y1:=((aw ac.o y).cell (bN y0)).trans y0;by_cases h0:a.err=0
    ·have aN:(a.err==0)=true:=(by simp[h0]);rw[aB h0]at B;obtain⟨P,gp,op,rfl,s⟩:=a1.o j q z;obtain⟨w4,h4,b4,x4⟩:=NZ HS.o n (aM z);have I:=aM z;obtain⟨c,rq,sq⟩:=q;obtain⟨pr,kr,er,_,_⟩:=P.roles;obtain⟨pw,kw,ew,_,_⟩:=P.who;dsimp only at er ew x4 h4 s B I;subst er ew;have HX:=aD x4;have Z:=aD (aw y b4)
     have C: ∀x∈u++[((c,.slice pr c.sv.roles.length kr,.slice pw c.swho.length kw):Cm×Value×Value)],x∈t:=fun x z=>by
      rcases cg.1 z with z|z
      ·exact d x z
      ·rw[da.1 z];exact I
     have HD:=aD (E9 HS.o (aw n b4) O.o.size C);have HO:=aD (br K fun b hb=>b4.block b (K.lt b hb).2);have aJ:=aD C
     have HG:QR ((u++[((c,.slice pr c.sv.roles.length kr,.slice pw c.swho.length kw):Cm×Value×Value)]).map (fun q=>q.1)=kN co0 ((t.map fun q=>q.1).take (j+1))):=by
      show _=_;rw[dW,A,B];rfl
     replace s:=dS s n;have aj:u.length+1<=100000:=(by omega);dsimp only[doC]at h4 s;clear B hA z P x4 b4 K A d C n I y0 y;go_wp2_with(first|(refine wpList_load_mid rfl 41 _ rfl gp (op+j*13) rfl _ _ s doT rfl (by kernel_rfl) ?_)|(refine Ed rfl _ _ rfl rfl HO.o rfl HX.o HD.o aj Z.o.size ?_;intro v5 w6 aP g6))
     have aR:=gK Z.o g6 (aE _) (fun k hk=>(HO.o.lt k hk).1);go_roundw;case rel=>exact⟨j+1,_,by go_num,by omega,aP,HG.o,aJ.o,by rw[aQ];show u.length+1<=j+1;omega,aR⟩
     case measure=>simp[intOf];omega
    ·have aN:(a.err==0)=false:=(by simpa using h0);rw[ax h0,gu]at B;have HR:=aD (show _/\_/\_ from⟨K,A.trans B.symm,d⟩);clear B hA z K A d n y0;go_wp2_with fail;go_roundw;case rel=>exact⟨j+1,u,by go_num,by omega,HR.o.1,HR.o.2.1,HR.o.2.2,by omega,y⟩
     case measure=>simp[intOf];omega
   ·have ak: ¬(j:Int)<(m:Int):=(by omega);have aT:j=m:=(by omega);subst aT;rw[show(t.map fun q=>q.1).take j=t.map fun q=>q.1 from dg (by rw[ba];exact jx HM.o)]at A;obtain⟨R,S⟩:=Dr (t.map fun q=>q.1);rw[<-A]at R S;have c3:=rA u _ wr (vO K (fun q hq=>(E9 HS.o n O.o.size d q hq).here) (by omega)) (fun W hW=>HT.o W (aw n hW)) (fun q _=>rD q.1);have F:=uS (u.map fun q=>q.1);rw[ba]at F;have ad:=aD n;have E:=aC.o.below (aw ac.o y);have M:=bt y aF.o;clear K A d n y;go_wp2_with fail;refine c3.mono ?_;clear c3;rintro e w7 ⟨b7,h7⟩;rcases h7 with⟨aO,_⟩|⟨_,bk,bd,bl,bc,aY,aW,aL,bi,rfl,f⟩
    ·rw[ba]at aO;omega
    replace f:=f.here;have H:=f.ds;rw[R]at H;obtain⟨aX,L,_⟩:=f.rules;obtain⟨q1,l1,rfl⟩:=L.form;obtain⟨q2,l2,rfl⟩:=bK f.res;obtain⟨q3,l3,T⟩:=bK f.svs;obtain⟨q4,l4,U⟩:=bK f.aps;subst T U;obtain⟨py,cy,rfl,G⟩:=f.at7;obtain⟨D,ar⟩: ∃q,(playP dk0 (u.map fun q=>q.1)).1.length=q:=⟨_,rfl⟩
    have a3:QR (∀i<D,∃(g:Nat) (a:An) (Y lv:Value),py=some ⟨g,0,none⟩/\a.err=0/\w7.rangeAt g (i*6) (anC a Y lv).toList/\dH w7 Y a.who/\dH w7 lv a.list):=fun i hi=>by
     obtain⟨a,ha⟩: ∃a,(playP dk0 (u.map fun q=>q.1)).1[i]? =some a:=⟨_,ay (by omega)⟩
     obtain⟨g,Y,lv,e,r,x1,x2⟩:=G i a ha;exact⟨g,a,Y,lv,e,S a (aM ha),r,x1.1,x2⟩
    have bh:D<9223372036854775808:=(by omega);rw[ar];generalize aX.length=o1 at*;generalize (playP dk0 (u.map fun q=>q.1)).2.res.length=o2 at*;generalize aW.length=o3 at*;generalize aL.length=o4 at*;generalize (playP dk0 (u.map fun q=>q.1)).2.runs=bj;have ai:=E.below b7;obtain⟨wY,wG,hY,nY,hG,X,N⟩:=nbs w7 #[af,af,af,af] #[.slice q1 o1 l1,.slice q2 o2 l2,.slice q3 o3 l3,.slice q4 o4 l4] 29;have a9:=aD (ai.below X);have aA:=aD (H.below X);have aG:=aD (bt X (bt b7 M));have aI:=aD N;have a6:=aD X;have aK:=aD (ad.o.trans ((aw b7 X).mono ad.o.size));clear f E H ai L G ar R S M X N b7;go_wp2_with(refine az rfl 29 _ _ rfl _ _ rfl rfl _ _ nY (by kernel_rfl) rfl (by simp[Value.oneCell']) ?_;rw[hG])
    clear hY nY hG;obtain⟨wo,rfl⟩: ∃q,q=wr:=⟨_,rfl⟩
    go_loopw [13,56] (fun _ q wr=> ∃i:Nat,q=ag (i:Int)/\i<=D/\aq wG wr) (fun _ q _=>D-(intOf q).toNat);case atStart=>exact⟨0,rfl,dz _,aH _ _⟩
    case round=>
     obtain⟨i,rfl,hi,l⟩:=hrel;have bf:(0:Int)<=(i:Int):=(by omega);by_cases al:i<D
     ·have Q:(i:Int)<(D:Int):=(by omega);obtain⟨g,a,Y,lv,rfl,he,s,⟨pw,kw,ew,_,_⟩,⟨pl,kl,el,_,_⟩⟩:=a3.o i al;subst ew el;replace s:=dS s (aw a6.o l);obtain⟨wY,wH,hY,nY,hH,bH,nH⟩:=nbs wr #[ag 0,ag 0,ag 0,ag 0,af,af] (anC a (.slice pw a.who.length kw) (.slice pl a.list.length kl)) 43;have z0:wH.cell? (ae wr.heap.size 0)=some (ag 0):=(cr 0 nH rfl).trans (by rw[<-he];rfl);have a7:=aD (aw l bH);clear bH nH l he;go_wp2_with(first|(refine wpList_load_mid rfl 43 _ rfl g (i*6) rfl (anC a (.slice pw a.who.length kw) (.slice pl a.list.length kl)).toList _ s anT rfl (by kernel_rfl) ?_)|(refine az rfl 43 _ _ rfl _ _ rfl rfl _ _ nY (by kernel_rfl) rfl (by simp[anC,Value.oneCell']) ?_;rw[hH]))
      go_roundw;case rel=>exact⟨i+1,by go_num,by omega,a7.o⟩
      case measure=>simp[intOf];omega
     ·have Q: ¬(i:Int)<(D:Int):=(by omega);have M:=bt l aG.o;have N:=bt l aI.o;have cS:=JJ _ _ _ _ _ _ _ _ _ _ _ _ _ _ _ wr (a9.o.below l) (aA.o.below l);have a8:=aD (aw aK.o l);have z0:=cr 0 M rfl;have z1:=cr 1 M rfl;have z2:=cr 2 M rfl;have z3:=cr 3 M rfl;have x0:=cr 0 N rfl;have x1:=cr 1 N rfl;have x2:=cr 2 N rfl;have x3:=cr 3 N rfl;clear l M N;go_wp2_with fail;refine cS.mono ?_;rintro e w9 ⟨rfl,b9⟩;clear cS z0 z1 z2 z3 x0 x1 x2 x3;go_wp2_with fail;go_ret;exact⟨rfl,aw a8.o b9⟩
end Go.Proofs.YtlkehieagdkgiaaGreatDoor
