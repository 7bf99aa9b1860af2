/- Texts of the proof. -/
import Derived.Test.YtlkehieagdkgiaaGreatDoorPe20
set_option maxRecDepth 100000
set_option maxHeartbeats 8000000
namespace Go.Proofs.YtlkehieagdkgiaaGreatDoor
open Go.Proofs.Tryz Go.RowKit Lx Vx Mx Msk
def CQ (l b a:Int)(roles:List (List Int))(c:List (Nat->Bool))(x:Int):Option (Int×List Int):=(lS (kX (okP c x (x+(b+l+a))) roles) roles.length []).map fun who=>(x+b,who)
def mL (l b a:Int)(roles:List (List Int))(c:List (Nat->Bool)):Option (Int×List Int):=(iS (b+l+a) c roles).findSome? (CQ l b a roles c)
def Qd (res:Option (Int×List Int))(w:World)(e:Ending)(w':World):Prop:=(∃m who v,res=some (m,who)/\e= .returned (.tuple #[ag m,v,.bool true])/\w'.ownsRow w.heap.size 3 1 v who.length (dz who)/\aq w w')\/(res=none/\e= .returned (.tuple #[ag 0,af,.bool false])/\aq w w')
theorem DY {x:Int}{b:List Int}(h:x∈Go.Lib.compact b):x∈b:=by
 unfold Go.Lib.compact Go.Lib.compactUpTo at h;rw[dR]at h;obtain⟨j,c,rfl⟩:=h;have a:=jn.1 ((List.mem_filter.1 c).1);rw[getElem!_pos _ j (by simpa using a)];simp
theorem Nn (f:Nat->Bool):lP f 1440 (rs f 1440):=Msk.EQ f 1440
theorem Lc {W:Int}{b:List (Nat->Bool)}{roles:List (List Int)}{x:Int}(h:x∈iS W b roles):0<=x/\x<1440:=by
 have a:x∈sT W b roles:=(List.mem_mergeSort).1 (DY h);unfold sT BH yM at a;rw[List.mem_flatMap]at a;obtain⟨p,_,c⟩:=a;rw[List.mem_flatMap]at c;obtain⟨r,_,d⟩:=c;rw[dR]at d;obtain⟨s,e,rfl⟩:=d;have:=Ab (Nn _).good s (List.mem_filter.1 e).1;omega
theorem DZ (l b a:Int)(roles:List (List Int))(rv:Value)(c:List (Nat->Bool))(fv:Value)(w:World)(hT:Tab w)(hR:fu w rv roles)(hF:tC w fv c)(s: ∀p∈roles,p.length<=8/\ ∀r∈p,0<=r/\r<(c.length:Int))(au:roles.length<=4)(u:kO l b a=true):
  Calls prog 113 #[.agg #[ag l,ag b,ag a,rv],fv] w (Qd (mL l b a roles c) w):=by
 obtain⟨T,cr,rfl,a5,v⟩:=id hR;clear v;have J:=am w (.cells #[ag l,ag b,ag a,.slice T roles.length cr] 36);have S:=aG w (.cells #[ag l,ag b,ag a,.slice T roles.length cr] 36);generalize a6:w.alloc (.cells #[ag l,ag b,ag a,.slice T roles.length cr] 36)=wA at*;have HR:=cj (hR.below J);have HF:=cj (hF.below J);have U:=cj J;have a0:=cj s;have G:Rb (∀p∈roles,p.length<=1000/\ ∀r∈p,0<=r/\r<(c.length:Int)):=fun p hp=>⟨by have:=(s p hp).1;omega,(s p hp).2⟩
 have ac:=cj u
 have ap:1<=l/\l<=1440/\0<=b/\b<=1440/\0<=a/\a<=1440/\b+l+a<=1440:=by
  unfold kO at u;exact gj u
 obtain⟨m1,m2,m3,m4,m5,m6,m7⟩:=ap;have z0:=ak 0 S;have z1:=ak 1 S;have z2:=ak 2 S;have z3:=ak 3 S;have c0:=Gh l b a roles _ c fv wA (kR hT J) HR.o HF.o s au u;obtain⟨pf,cf,rfl,a4,_⟩:=hF;clear J s hR u;go_enter func113,ntmps113
 go_wp2_with fail;refine c0.mono ?_;rintro e w1 ⟨v1,rfl,i,b1⟩;obtain⟨p1,q1,rfl,a3,_⟩:=id i;have ad:=cj i;have Z:=cj b1;clear c0 i b1 z0 z1 z2 z3;go_wp2_with fail;go_loopw [16] (fun t wr=> ∃j:Nat,t=ag (j:Int)/\j<=(iS (b+l+a) c roles).length/\Rb (mL l b a roles c=((iS (b+l+a) c roles).drop j).findSome? (CQ l b a roles c))/\Rb (aq wA wr)/\Rb (dM wr (.slice p1 (iS (b+l+a) c roles).length q1) (iS (b+l+a) c roles))) (fun t _=>(iS (b+l+a) c roles).length-(intOf t).toNat);case atStart=>exact⟨0,rfl,by omega,rfl,Z,ad⟩
 case round=>
  obtain⟨j,rfl,hj,X,n,z⟩:=hrel;have a2:(0:Int)<=(j:Int):=(by omega);by_cases ao:j<(iS (b+l+a) c roles).length
  ·have P:(j:Int)<((iS (b+l+a) c roles).length:Int):=(by omega);obtain⟨x,y⟩: ∃r,(iS (b+l+a) c roles)[j]? =some r:=⟨_,ay ao⟩
   obtain⟨_,_,e1,_,A⟩:=z.o;cases e1;obtain⟨gx,ox,ar,cx⟩:=A j _ y;subst ar;obtain⟨a9,aB⟩:=Lc (aM y);have hS:=tU (f:=CQ l b a roles c) y;have I:=cj (X.o.trans hS);have ah:=cj (HR.o.below n.o);have aa:=cj (HF.o.below n.o);have n2:=ai n.o S;have y1:=ak 1 n2;have y3:=ak 3 n2;have a8:IntKind.i64.wrap (x+(b+l+a))=x+(b+l+a):=(by rw[bU];omega);rw[show CQ l b a roles c x=(lS (kX (okP c x (x+(b+l+a))) roles) roles.length []).map fun who=>(x+b,who) from rfl]at I;clear A hS X y;go_wp2_with fail;refine dl (fun M φ W=>aq wr W/\(M 9=true->fu W (φ 29) (kX (okP c x (x+(b+l+a))) roles))/\(M 10=true->φ 9=φ 29)) [kn 20 (ab w.heap.size 3),kn 21 (.slice T roles.length cr),kn 22 (.slice pf c.length cf),kn 23 (ag x),kn 24 (ag x),kn 25 (.agg #[ag l,ag b,ag a,.slice T roles.length cr]),kn 26 (ag (b+l+a)),kn 27 (ag (x+(b+l+a))),kn 28 (.agg #[ag x,ag (x+(b+l+a))]),td 29,td 9] (fun _=>⟨(aH _ _).drew,(fun h=>by cases h),(fun h=>by cases h)⟩) (fun _ _ _ _ hb h=>⟨aw h.1 hb,fun e=>(h.2.1 e).below hb,h.2.2⟩) (by kernel_rfl) (fun M φ D g a1 FF ll O L=> ?_) (fun M φ D hM g=> ?_)
   ·simp only[kn,td,dX,aQ,aT,Act.put,aA,aK,aJ]at O;subst O;simp only[dn,Nat.reduceAdd]at L;obtain⟨g,an,_⟩:=g;have zz:=aj g y3;dsimp only[kn,td,dy,eJ,dY,Act.put];and_intros;all_goals first|exact trivial|intro qw qn qm K N
    all_goals try (go_simp;with_reducible exact N _ _ ⟨rfl,aH _ _⟩)
    ·refine eN 36 _ rfl _ (by simp[Act.eval,L]) _ _ _ _ (ai g n2) EP rfl (by kernel_rfl) ?_;exact N _ _ ⟨rfl,aH _ _⟩
    ·go_simp;refine(uA l b a _ D (.inl ac.o)).mono ?_;rintro r' W' ⟨rfl,E⟩;exact N _ _ ⟨rfl,E⟩
    ·have av:=qn 10 _ rfl (by kernel_rfl);go_simp;refine(Bx roles _ c _ x (x+(b+l+a)) D (ah.o.below g) (aa.o.below g) G.o (by omega)).mono ?_;rintro r' W' ⟨q,rfl,Q,E⟩;exact N _ _ ⟨trivial,aw g E,fun _=>by rw[dV];exact Q,(fun h=>by simp[av]at h)⟩
    ·go_simp;exact N _ _ ⟨trivial,g,fun h=>by rw[dH (by decide)];exact an (by simpa using h),fun _=>by rw[dV,dH (by decide)]⟩
   ·obtain⟨g,d,V⟩:=g;replace d:=d (hM 9 (by decide) rfl);replace V:=V (hM 10 (by decide) rfl);simp only[kn,td,d8,aQ,aT,Act.put,aA,aK,aJ];rw[V];generalize φ 29=ax at*;clear hM V;have B:=cj (aw n.o g);have ae:=cj (z.o.below g);have F:(kX (okP c x (x+(b+l+a))) roles).length=roles.length:=(by unfold kX;rw[bc]);have c1:=K8 (kX (okP c x (x+(b+l+a))) roles) ax D d (by rw[F];omega) roles.length [] (af) D (by rw[F];simp) (aH _ _) (dp _ _ _ _);have aE:=aj g y3;have az:=aj g y1;clear d g F;go_wp2_with fail;refine c1.mono ?_;rintro e w3 ⟨Y,⟨who,v',R,rfl,ho⟩|⟨R,rfl,_⟩⟩
    ·have C:Rb (mL l b a roles c=some (x+b,who)):=by
      show _=_;rw[I.o,R];rfl
     have b3:aq D w3:=fT (aH _ _) Y (aD _) (fun k hk=>by cases hk);have al:=cj (rt ho (bg U.o.size B.o.size));have aC:=aj b3 az;have m:=cj (U.o.trans ((aw B.o b3).mono U.o.size));have a7:IntKind.i64.wrap (x+b)=x+b:=(by rw[bU];omega);clear c1 Y ho R b3;go_wp2_with fail;go_ret3;exact .inl ⟨x+b,who,v',C.o,rfl,al.o,m.o⟩
    ·have C:Rb (mL l b a roles c=((iS (b+l+a) c roles).drop (j+1)).findSome? (CQ l b a roles c)):=by
      show _=_;rw[I.o,R];rfl
     have b3:aq D w3:=fT (aH _ _) Y (aD _) (fun k hk=>by cases hk);have m:=cj (aw B.o b3);have H:=cj (ae.o.below b3);clear c1 Y R b3;go_wp2_with fail;go_roundw;case rel=>exact⟨j+1,by go_num,by omega,C,m,H⟩
     case measure=>simp[intOf];omega
  ·have P: ¬(j:Int)<((iS (b+l+a) c roles).length:Int):=(by omega)
   have I:Rb (mL l b a roles c=none):=by
    show _=_;rw[X.o,dq (by omega)];rfl
   have m:=cj (aw U.o n.o);clear X;go_wp2_with fail;go_ret3;exact .inr ⟨I.o,rfl,m.o⟩
def vE (w:World)(v:Value)(a:List (List (Nat->Bool))):Prop:= ∃p c,v= .slice p a.length c/\a.length<9223372036854775808/\ ∀(j:Nat) (b:List (Nat->Bool)),a[j]? =some b-> ∃(g o:Nat) (sv:Value),p=some ⟨g,o,none⟩/\w.cell? (ae g (o+j))=some sv/\tC w sv b
theorem vE.below {w w':World}{v:Value}{a:List (List (Nat->Bool))}(h:vE w v a)(b:aq w w'):vE w' v a:=by
 obtain⟨p,c,d,f,i⟩:=h;refine⟨p,c,d,f,fun j l m=> ?_⟩;obtain⟨g,o,sv,e,k,n⟩:=i j l m;exact⟨g,o,sv,e,aj b k,n.below b⟩
def lT (s:Sv):List (List (Nat->Bool))->Int
 |[]=>0
 |d::l=>if fD s d.length≠0 then fD s d.length else lT s l
def lU (s:Sv):List (List (Nat->Bool))->Nat->Option (Nat×Int×List Int)
 |[],_=>none
 |d::l,n=>match mL s.len s.bef s.aft s.roles d with
  |some x=>some (n,x.1,x.2)
  |none=>lU s l (n+1)
structure Sl where
 err:Int
 day:Int
 min:Int
 who:List Int
def ia (s:Sv)(a:List (List (Nat->Bool))):Sl:=if 30<a.length then⟨5,0,0,[]⟩ else if lT s a≠0 then⟨lT s a,0,0,[]⟩ else match lU s a 0 with
 |some x=>⟨0,(x.1:Int),x.2.1,x.2.2⟩
 |none=>⟨11,0,0,[]⟩
def Gi (r:Sl)(w:World)(e:Ending)(w':World):Prop:= ∃v,e= .returned (.tuple #[.agg #[ag r.day,ag r.min,v],ag r.err])/\w'.ownsRow w.heap.size 3 1 v r.who.length (dz r.who)/\aq w w'
theorem Gj {s:Sv}{l:List (List (Nat->Bool))}{j:Nat}{d:List (Nat->Bool)}(h:l[j]? =some d):lT s (l.drop j)=if fD s d.length≠0 then fD s d.length else lT s (l.drop (j+1)):=by
 obtain⟨a,b⟩:=aF.1 h;rw[bJ a,b];rfl
theorem Gk {s:Sv}{l:List (List (Nat->Bool))}{j:Nat}{d:List (Nat->Bool)}(n:Nat)(h:l[j]? =some d):lU s (l.drop j) n=match mL s.len s.bef s.aft s.roles d with
  |some x=>some (n,x.1,x.2)
  |none=>lU s (l.drop (j+1)) (n+1):=by
 obtain⟨a,b⟩:=aF.1 h;rw[bJ a,b];rfl
theorem CR {s:Sv}: ∀{l:List (List (Nat->Bool))},lT s l=0-> ∀d∈l,fD s d.length=0
 |[],_,d,a=>by cases a
 |x::l,h,d,a=>by
  by_cases b:fD s x.length=0
  ·rw[lT,ax (by simpa using b)]at h;rcases bO.1 a with rfl|a
   ·exact b
   ·exact CR h d a
  ·rw[lT,aB b]at h;exact absurd h b
theorem CS {p:List Int}{n:Int}: ∀(m i:Nat),oy p n m i=0-> ∀j,i<=j->j<i+m->(0<=p.getD j 0/\p.getD j 0<n)/\(0<j->p.getD (j-1) 0<p.getD j 0)
 |0,i,_,j,b,c=>by omega
 |m+1,i,h,j,b,c=>by
  rw[oy]at h;by_cases c1:p.getD i 0<0\/n<=p.getD i 0
  ·rw[aB c1]at h;cases h
  ·rw[ax c1]at h;by_cases a:0<i/\p.getD i 0<=p.getD (i-1) 0
   ·rw[aB a]at h;cases h
   ·rw[ax a]at h;by_cases e:j=i
    ·subst e;exact⟨by omega,fun d=>by omega⟩
    ·exact CS m (i+1) h j (by omega) (by omega)
structure yR (p:List Int)(n:Int):Prop where
 len1:1<=p.length
 len8:p.length<=8
 bd: ∀r∈p,0<=r/\r<n
 up:p.Pairwise (· < ·)
theorem No {p:List Int}{n:Int}(h:iV p n=0):yR p n:=by
 unfold iV at h;by_cases e:p.length<1\/8<p.length
 ·rw[aB e]at h;cases h
 ·rw[ax e]at h;have c:=CS p.length 0 h;refine⟨by omega,by omega,fun r k=> ?_,?_⟩
  ·obtain⟨j,a,rfl⟩:=List.getElem_of_mem k;have:=(c j (by omega) (by omega)).1;simpa[List.getD,ay a] using this
  ·have b: ∀d j:Nat,j+d+1<p.length->p.getD j 0<p.getD (j+d+1) 0:=by
    intro d;induction d with
    |zero=>
     intro j a;have:=(c (j+1) (by omega) (by omega)).2 (by omega);simpa using this
    |succ d l=>
     intro j a;have m:=l j (by omega);have f:=(c (j+d+1+1) (by omega) (by omega)).2 (by omega);rw[show j+d+1+1-1=j+d+1 by omega]at f;rw[show j+(d+1)+1=j+d+1+1 by omega];omega
   rw[List.pairwise_iff_getElem];intro i j hi a g;have:=b (j-i-1) i (by omega);rw[show i+(j-i-1)+1=j by omega]at this;simpa[List.getD,ay hi,ay a] using this
theorem A3 {n:Int}: ∀{l:List (List Int)},kP n l=0-> ∀p∈l,yR p n
 |[],_,p,a=>by cases a
 |x::l,h,p,a=>by
  by_cases b:iV x n=0
  ·rw[kP,ax (by simpa using b)]at h;rcases bO.1 a with rfl|a
   ·exact No b
   ·exact A3 h p a
  ·rw[kP,aB b]at h;exact absurd h b
structure Gl (s:Sv)(n:Int):Prop where
 meas:kO s.len s.bef s.aft=true
 r1:1<=s.roles.length
 r4:s.roles.length<=4
 pool: ∀p∈s.roles,yR p n
theorem tD {s:Sv}{n:Int}(h:fD s n=0):Gl s n:=by
 unfold fD at h;by_cases a:kO s.len s.bef s.aft=false
 ·rw[aB a]at h;cases h
 ·rw[ax a]at h;by_cases b:s.roles.length<1\/4<s.roles.length
  ·rw[aB b]at h;cases h
  ·rw[ax b]at h;exact⟨by simpa using a,by omega,by omega,A3 h⟩
theorem Ld {w:World}{B:Nat}{e:TypeId}{n:Nat}{v:Value}{xs:List Value}{size:Nat}(h:w.ownsRow B e size v n xs){g:Nat}(b:g<B)(X:Array Value):(w.setRow g X).ownsRow B e size v n xs:=
 h.kept (row:=some g) ⟨rfl,rfl,rfl,by simp,fun k _ a=>aW w g k _ (fun e=>a (by rw[e]))⟩ (by
  cases hz:v.ownBlock with
  |none=>exact .inl rfl
  |some q=>
   refine .inr fun e=> ?_;cases e;have:=(h.lt g hz).1;omega)
theorem Le:prog.underlying 39=some (.struct (prog.fieldsOf 39)):=by kernel_rfl
theorem rQ {R:Ending->World->Prop}{a:Act}{w:World}(g:Nat)(d m:Int)(v:Value)(er:Int)(j:a.defers=[])(e:a.tmps.getD 4 undef=ab g 0)(f:a.tmps.getD 5 undef=ag er)
  (k:w.heap[g]? =ah #[ag d,ag m,v] 39) (i:R (.returned (.tuple #[.agg #[ag d,ag m,v],ag er])) w):bodyPost prog f67 R .ret a w:=by
 refine aX (v:= .tuple #[.agg #[ag d,ag m,v],ag er]) ?_ j i;have b:a.tmps[4]?.getD undef=ab g 0:=by simpa using e
 have c:a.tmps[5]?.getD undef=ag er:=by simpa using f
 have l:=en (P:=prog) w g 39 39 _ _ _ k Le rfl (by kernel_rfl);simp[results,results67,b,c,asAddr,l]
theorem IW (s:Sv)(rv:Value)(c:List (List (Nat->Bool)))(dv:Value)(w:World)(hT:Tab w)(hR:fu w rv s.roles)(hD:vE w dv c):
  Calls prog 67 #[svV s rv,dv] w (Gi (ia s c) w):=by
 obtain⟨l,b,a,roles⟩:=s;dsimp only at hR;unfold svV;dsimp only;obtain⟨P,cr,rfl,ar,V⟩:=id hR;have U:aq w ((w.alloc (.cells #[ag l,ag b,ag a,.slice P roles.length cr] 36)).alloc (.cells #[ag 0,ag 0,af] 39)):=(am _ _).alloc (by simp) _;have nA:((w.alloc (.cells #[ag l,ag b,ag a,.slice P roles.length cr] 36)).alloc (.cells #[ag 0,ag 0,af] 39)).heap[w.heap.size]? =ah #[ag l,ag b,ag a,.slice P roles.length cr] 36:=by(repeat (first|refine dt _ _ _ (by simp only[aV];omega) ?_|exact dJ _ _ _ (by first|rfl|simp only[aV])))
 have J:((w.alloc (.cells #[ag l,ag b,ag a,.slice P roles.length cr] 36)).alloc (.cells #[ag 0,ag 0,af] 39)).heap[w.heap.size+1]? =ah #[ag 0,ag 0,af] 39:=by(repeat (first|refine dt _ _ _ (by simp only[aV];omega) ?_|exact dJ _ _ _ (by first|rfl|simp only[aV])))
 generalize av:(w.alloc (.cells #[ag l,ag b,ag a,.slice P roles.length cr] 36)).alloc (.cells #[ag 0,ag 0,af] 39)=R at*;have HR:=cj (hR.below U);have HD:=cj (hD.below U);have HT:=cj (kR hT U);have S:=cj U;obtain⟨pd,cd,rfl,ap,_⟩:=hD
 have u:Rb (∀(W:World) (er:Int),aq R W->W.heap[w.heap.size+1]? =ah #[ag 0,ag 0,af] 39->ia ⟨l,b,a,roles⟩ c=⟨er,0,0,[]⟩->(W.setRow (w.heap.size+1) #[ag 0,ag 0,af]).heap[w.heap.size+1]? =ah #[ag 0,ag 0,af] 39/\Gi (ia ⟨l,b,a,roles⟩ c) w (.returned (.tuple #[.agg #[ag 0,ag 0,af],ag er])) (W.setRow (w.heap.size+1) #[ag 0,ag 0,af])):=fun W er hW hs he=>by
  rw[he];exact⟨aL _ _ _ _ _ _ hs,_,rfl,dp _ _ _ _,below_setRow (aw S.o hW) (by omega) _⟩
 by_cases al:30<(c.length:Int)
 ·have T:Rb (ia ⟨l,b,a,roles⟩ c=⟨5,0,0,[]⟩):=by
   show _=_;unfold ia;rw[aB (by omega)]
  have q:=cj (u.o R 5 (aH _ _) J T.o);go_enter func67,ntmps67
  go_wp2_with(first
   |(refine az rfl 39 _ _ rfl _ _ rfl rfl _ _ J (by kernel_rfl) (by simp) (by simp[Value.oneCell']) ?_))
  exact rQ (w.heap.size+1) 0 0 (af) 5 rfl rfl rfl q.o.1 q.o.2
 have HE:Rb (ia ⟨l,b,a,roles⟩ c=if lT ⟨l,b,a,roles⟩ c≠0 then⟨lT ⟨l,b,a,roles⟩ c,0,0,[]⟩ else match lU ⟨l,b,a,roles⟩ c 0 with
   |some x=>⟨0,(x.1:Int),x.2.1,x.2.2⟩
   |none=>⟨11,0,0,[]⟩):=by
  show _=_;unfold ia;rw[ax (by omega)]
 go_enter func67,ntmps67
 go_wp2_with fail;go_loopw [20] (fun t wr=> ∃j:Nat,t=ag (j:Int)/\j<=c.length/\Rb (lT ⟨l,b,a,roles⟩ c=lT ⟨l,b,a,roles⟩ (c.drop j))/\Rb (aq R wr)) (fun t _=>c.length-(intOf t).toNat);case atStart=>exact⟨0,rfl,by omega,rfl,aH _ _⟩
 case round=>
  obtain⟨j,rfl,hj,I,f⟩:=hrel;have an:(0:Int)<=(j:Int):=(by omega);by_cases ae:j<c.length
  ·have M:(j:Int)<(c.length:Int):=(by omega);obtain⟨L,i⟩: ∃r,c[j]? =some r:=⟨_,ay ae⟩
   obtain⟨_,_,Z,_,z⟩:=HD.o.below f.o;cases Z;obtain⟨aa,aj,sv,H,cx,g⟩:=z j _ i;subst H;obtain⟨pf,cf,rfl,ad,_⟩:=g;have C:=ai f.o nA;have y0:=ak 0 C;have y1:=ak 1 C;have y2:=ak 2 C;have y3:=ak 3 C;have c1:=yN ⟨l,b,a,roles⟩ _ (L.length:Int) wr (HR.o.below f.o);unfold svV at c1;dsimp only at c1;have D:=Gj (s:=⟨l,b,a,roles⟩) i;obtain⟨er,ab⟩:=au (fD ⟨l,b,a,roles⟩ (L.length:Int));rw[ab]at c1 D;have n:=ai f.o J;by_cases X:er=0
   ·subst X;rw[ax (by simp)]at D;have y:=cj (I.o.trans D);go_wp2_with fail;refine c1.mono ?_;rintro e Q ⟨rfl,b2⟩;have E:=cj (aw f.o b2);go_wp2_with fail;go_roundw;case rel=>exact⟨j+1,by go_num,by omega,y,E⟩
    case measure=>simp[intOf];omega
   ·rw[aB X]at D;have a0:(er==0)=false:=bm.2 X;have y:=cj (I.o.trans D);go_wp2_with fail;refine c1.mono ?_;rintro e Q ⟨rfl,b2⟩;have A:=ai b2 n;have q:=cj (u.o Q er (aw f.o b2) A (HE.o.trans (by rw[y.o];exact aB X)))
    go_wp2_with(first
     |(refine az rfl 39 _ _ rfl _ _ rfl rfl _ _ A (by kernel_rfl) (by simp) (by simp[Value.oneCell']) ?_))
    exact rQ (w.heap.size+1) 0 0 (af) er rfl rfl rfl q.o.1 q.o.2
  ·have M: ¬(j:Int)<(c.length:Int):=(by omega)
   have HZ:Rb (lT ⟨l,b,a,roles⟩ c=0):=by
    show _=_;rw[I.o,dq (by omega)];rfl
   have Y:=cj (CR HZ.o);have K:=cj (HE.o.trans (ax (by rw[HZ.o];simp)));go_wp2_with fail;go_loopw [35] (fun t W=> ∃k:Nat,t=ag (k:Int)/\k<=c.length/\Rb (lU ⟨l,b,a,roles⟩ c 0=lU ⟨l,b,a,roles⟩ (c.drop k) k)/\Rb (aq R W)) (fun t _=>c.length-(intOf t).toNat);case atStart=>exact⟨0,rfl,by omega,rfl,f⟩
   case round=>
    obtain⟨k,rfl,hk,I,d⟩:=hrel;have ao:(0:Int)<=(k:Int):=(by omega);by_cases N:k<c.length
    ·have G:(k:Int)<(c.length:Int):=(by omega);obtain⟨L,i⟩: ∃r,c[k]? =some r:=⟨_,ay N⟩
     obtain⟨_,_,Z,_,z⟩:=HD.o.below d.o;cases Z;obtain⟨aa,aj,sv,H,cx,g⟩:=z k _ i;subst H;have B:=tD (Y.o L (aM i));have c1:=DZ l b a roles _ L sv wr (kR HT.o d.o) (HR.o.below d.o) g (fun p hp=>⟨(B.pool p hp).len8,(B.pool p hp).bd⟩) B.r4 B.meas;obtain⟨pf,cf,rfl,ad,_⟩:=g;have C:=ai d.o nA;have y0:=ak 0 C;have y1:=ak 1 C;have y2:=ak 2 C;have y3:=ak 3 C;have D:=Gk (s:=⟨l,b,a,roles⟩) k i;dsimp only at D;have T:=cj (I.o.trans D);have n:=ai d.o J;go_wp2_with fail;refine c1.mono ?_;rintro e Q (⟨m,who,v,hf,rfl,O,b2⟩|⟨hf,rfl,b2⟩)
     ·have A:=ai b2 n
      have F:Rb (ia ⟨l,b,a,roles⟩ c=⟨0,(k:Int),m,who⟩):=by
       show _=_;rw[K.o,T.o,hf]
      have ac:w.heap.size+1<R.heap.size:=aI J
      have q:Rb ((Q.setRow (w.heap.size+1) #[ag (k:Int),ag m,v]).heap[w.heap.size+1]? =ah #[ag (k:Int),ag m,v] 39/\Gi (ia ⟨l,b,a,roles⟩ c) w (.returned (.tuple #[.agg #[ag (k:Int),ag m,v],ag 0])) (Q.setRow (w.heap.size+1) #[ag (k:Int),ag m,v])):=by
       rw[F.o];refine⟨aL _ _ _ _ _ _ A,v,rfl,?_,below_setRow (S.o.trans ((aw d.o b2).mono S.o.size)) (by omega) _⟩;exact rt (Ld O (aU ac d.o.size) _) (bg S.o.size d.o.size)
      obtain⟨pw,cw,rfl⟩:=oz O
      go_wp2_with(first
       |(refine az rfl 39 _ _ rfl _ _ rfl rfl _ _ A (by kernel_rfl) (by simp) (by simp[Value.oneCell']) ?_))
      exact rQ (w.heap.size+1) (k:Int) m _ 0 rfl rfl rfl q.o.1 q.o.2
     ·have y:Rb (lU ⟨l,b,a,roles⟩ c 0=lU ⟨l,b,a,roles⟩ (c.drop (k+1)) (k+1)):=by
       show _=_;rw[T.o,hf]
      have E:=cj (aw d.o b2);go_wp2_with fail;go_roundw;case rel=>exact⟨k+1,by go_num,by omega,y,E⟩
      case measure=>simp[intOf];omega
    ·have G: ¬(k:Int)<(c.length:Int):=(by omega)
     have F:Rb (ia ⟨l,b,a,roles⟩ c=⟨11,0,0,[]⟩):=by
      show _=_;rw[K.o,I.o,dq (by omega)];rfl
     have n:=ai d.o J;have q:=cj (u.o wr 11 d.o n F.o)
     go_wp2_with(first
      |(refine az rfl 39 _ _ rfl _ _ rfl rfl _ _ n (by kernel_rfl) (by simp) (by simp[Value.oneCell']) ?_))
     exact rQ (w.heap.size+1) 0 0 (af) 11 rfl rfl rfl q.o.1 q.o.2
end Go.Proofs.YtlkehieagdkgiaaGreatDoor
