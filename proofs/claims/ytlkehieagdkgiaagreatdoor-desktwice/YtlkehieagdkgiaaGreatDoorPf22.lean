/- Texts of the proof. -/
import Derived.Test.YtlkehieagdkgiaaGreatDoorPf21
set_option maxRecDepth 100000
set_option maxHeartbeats 8000000
namespace Go.Proofs.YtlkehieagdkgiaaGreatDoor
open Go.Proofs.Tryz Go.RowKit Lx Vx Mx Msk
theorem tO {α β:Type}{f:α->Option β}: ∀{l:List α} {y:β},l.findSome? f=some y-> ∃x∈l,f x=some y
 |[],y,h=>by simp at h
 |x::l,y,h=>by
  rw[List.findSome?_cons]at h;cases hx:f x with
  |some z=>
   rw[hx]at h;exact⟨x,bf,by rw[hx];exact h⟩
  |none=>
   rw[hx]at h;obtain⟨q,a,e⟩:=tO h;exact⟨q,bG _ a,e⟩
def uB (l b a:Int)(roles:List (List Int))(c:List (Nat->Bool))(x:Int):Option (Int×List Int):=(jy (ij (okP c x (x+(b+l+a))) roles) roles.length []).map fun who=>(x+b,who)
def jG (l b a:Int)(roles:List (List Int))(c:List (Nat->Bool)):Option (Int×List Int):=(gL (b+l+a) c roles).findSome? (uB l b a roles c)
def Qk (res:Option (Int×List Int))(w:World)(e:Ending)(w':World):Prop:=(∃m who v,res=some (m,who)/\e= .returned (.tuple #[ag m,v,.bool true])/\w'.ownsRow w.heap.size 3 1 v who.length (dB who)/\aq w w')\/(res=none/\e= .returned (.tuple #[ag 0,af,.bool false])/\aq w w')
theorem we {x:Int}{b:List Int}(h:x∈Go.Lib.compact b):x∈b:=by
 unfold Go.Lib.compact Go.Lib.compactUpTo at h;rw[dI]at h;obtain⟨j,c,rfl⟩:=h;have a:=iS.1 ((List.mem_filter.1 c).1);rw[getElem!_pos _ j (by simpa using a)];simp
theorem NH (f:Nat->Bool):lS f 1440 (rs f 1440):=Msk.Ae f 1440
theorem LB {W:Int}{b:List (Nat->Bool)}{roles:List (List Int)}{x:Int}(h:x∈gL W b roles):0<=x/\x<1440:=by
 have a:x∈nz W b roles:=(List.mem_mergeSort).1 (we h);unfold nz yK uu at a;rw[List.mem_flatMap]at a;obtain⟨p,_,c⟩:=a;rw[List.mem_flatMap]at c;obtain⟨r,_,d⟩:=c;rw[dI]at d;obtain⟨s,e,rfl⟩:=d;have:=qA (NH _).good s (List.mem_filter.1 e).1;omega
theorem Ed (l b a:Int)(roles:List (List Int))(rv:Value)(c:List (Nat->Bool))(fv:Value)(w:World)(hT:Tab w)(hR:fG w rv roles)(hF:tp w fv c)(s: ∀p∈roles,p.length<=8/\ ∀r∈p,0<=r/\r<(c.length:Int))(ar:roles.length<=4)(u:kG l b a=true):
  Calls prog 113 #[.agg #[ag l,ag b,ag a,rv],fv] w (Qk (jG l b a roles c) w):=by
 obtain⟨T,cr,rfl,a5,v⟩:=id hR;clear v;have J:=am w (.cells #[ag l,ag b,ag a,.slice T roles.length cr] 36);have S:=aG w (.cells #[ag l,ag b,ag a,.slice T roles.length cr] 36);generalize a6:w.alloc (.cells #[ag l,ag b,ag a,.slice T roles.length cr] 36)=wA at*;have HR:=bP (hR.below J);have HF:=bP (hF.below J);have U:=bP J;have a0:=bP s;have G:Rg (∀p∈roles,p.length<=1000/\ ∀r∈p,0<=r/\r<(c.length:Int)):=fun p hp=>⟨by have:=(s p hp).1;omega,(s p hp).2⟩
 have aa:=bP u
 have ao:1<=l/\l<=1440/\0<=b/\b<=1440/\0<=a/\a<=1440/\b+l+a<=1440:=by
  unfold kG at u;exact fb u
 obtain⟨m1,m2,m3,m4,m5,m6,m7⟩:=ao;have z0:=ak 0 S;have z1:=ak 1 S;have z2:=ak 2 S;have z3:=ak 3 S;have c0:=Gw l b a roles _ c fv wA (kV hT J) HR.o HF.o s ar u;obtain⟨pf,cf,rfl,a4,_⟩:=hF;clear J s hR u;go_enter func113,ntmps113
 go_wp2_with fail;refine c0.mono ?_;rintro e w1 ⟨v1,rfl,i,b1⟩;obtain⟨p1,q1,rfl,a3,_⟩:=id i;have ac:=bP i;have Y:=bP b1;clear c0 i b1 z0 z1 z2 z3;go_wp2_with fail;go_loopw [16] (fun t wr=> ∃j:Nat,t=ag (j:Int)/\j<=(gL (b+l+a) c roles).length/\Rg (jG l b a roles c=((gL (b+l+a) c roles).drop j).findSome? (uB l b a roles c))/\Rg (aq wA wr)/\Rg (dT wr (.slice p1 (gL (b+l+a) c roles).length q1) (gL (b+l+a) c roles))) (fun t _=>(gL (b+l+a) c roles).length-(intOf t).toNat);case atStart=>exact⟨0,rfl,by omega,rfl,Y,ac⟩
 case round=>
  obtain⟨j,rfl,hj,V,n,z⟩:=hrel;have a2:(0:Int)<=(j:Int):=(by omega);by_cases an:j<(gL (b+l+a) c roles).length
  ·have P:(j:Int)<((gL (b+l+a) c roles).length:Int):=(by omega);obtain⟨x,y⟩: ∃r,(gL (b+l+a) c roles)[j]? =some r:=⟨_,ay an⟩
   obtain⟨_,_,e1,_,A⟩:=z.o;cases e1;obtain⟨gx,ox,ap,cx⟩:=A j _ y;subst ap;obtain⟨a9,aA⟩:=LB (aN y);have hS:=tN (f:=uB l b a roles c) y;have I:=bP (V.o.trans hS);have ae:=bP (HR.o.below n.o);have Z:=bP (HF.o.below n.o);have n2:=ai n.o S;have y1:=ak 1 n2;have y3:=ak 3 n2;have a8:IntKind.i64.wrap (x+(b+l+a))=x+(b+l+a):=(by rw[bx];omega);rw[show uB l b a roles c x=(jy (ij (okP c x (x+(b+l+a))) roles) roles.length []).map fun who=>(x+b,who) from rfl]at I;clear A hS V y;go_wp2_with fail;refine cZ (fun M φ W=>aq wr W/\(M 9=true->fG W (φ 29) (ij (okP c x (x+(b+l+a))) roles))/\(M 10=true->φ 9=φ 29)) [kn 20 (ab w.heap.size 3),kn 21 (.slice T roles.length cr),kn 22 (.slice pf c.length cf),kn 23 (ag x),kn 24 (ag x),kn 25 (.agg #[ag l,ag b,ag a,.slice T roles.length cr]),kn 26 (ag (b+l+a)),kn 27 (ag (x+(b+l+a))),kn 28 (.agg #[ag x,ag (x+(b+l+a))]),td 29,td 9] (fun _=>⟨(aH _ _).drew,(fun h=>by cases h),(fun h=>by cases h)⟩) (fun _ _ _ _ hb h=>⟨aw h.1 hb,fun e=>(h.2.1 e).below hb,h.2.2⟩) (by kernel_rfl) (fun M φ D g a1 FF ll O L=> ?_) (fun M φ D hM g=> ?_)
   ·simp only[kn,td,eh,aQ,aT,Act.put,az,aK,aJ]at O;subst O;simp only[dc,Nat.reduceAdd]at L;obtain⟨g,al,_⟩:=g;have zz:=aj g y3;dsimp only[kn,td,dz,eV,eo,Act.put];and_intros;all_goals first|exact trivial|intro qw qn qm K N
    all_goals try (go_simp;with_reducible exact N _ _ ⟨rfl,aH _ _⟩)
    ·refine dX 36 _ rfl _ (by simp[Act.eval,L]) _ _ _ _ (ai g n2) E2 rfl (by kernel_rfl) ?_;exact N _ _ ⟨rfl,aH _ _⟩
    ·go_simp;refine(uw l b a _ D (.inl aa.o)).mono ?_;rintro r' W' ⟨rfl,E⟩;exact N _ _ ⟨rfl,E⟩
    ·have au:=qn 10 _ rfl (by kernel_rfl);go_simp;refine(BB roles _ c _ x (x+(b+l+a)) D (ae.o.below g) (Z.o.below g) G.o (by omega)).mono ?_;rintro r' W' ⟨q,rfl,Q,E⟩;exact N _ _ ⟨trivial,aw g E,fun _=>by rw[dN];exact Q,(fun h=>by simp[au]at h)⟩
    ·go_simp;exact N _ _ ⟨trivial,g,fun h=>by rw[dh (by decide)];exact al (by simpa using h),fun _=>by rw[dN,dh (by decide)]⟩
   ·obtain⟨g,d,e9⟩:=g;replace d:=d (hM 9 (by decide) rfl);replace e9:=e9 (hM 10 (by decide) rfl);simp only[kn,td,eD,aQ,aT,Act.put,az,aK,aJ];rw[e9];generalize φ 29=av at*;clear hM e9;have B:=bP (aw n.o g);have ad:=bP (z.o.below g);have F:(ij (okP c x (x+(b+l+a))) roles).length=roles.length:=(by unfold ij;rw[aX]);have c1:=Lw (ij (okP c x (x+(b+l+a))) roles) av D d (by rw[F];omega) roles.length [] (af) D (by rw[F];simp) (aH _ _) (dl _ _ _ _);have aC:=aj g y3;have ax:=aj g y1;clear d g F;go_wp2_with fail;refine c1.mono ?_;rintro e w3 ⟨X,⟨who,v',R,rfl,ho⟩|⟨R,rfl,_⟩⟩
    ·have C:Rg (jG l b a roles c=some (x+b,who)):=by
      show _=_;rw[I.o,R];rfl
     have b3:aq D w3:=it (aH _ _) X (aD _) (fun k hk=>by cases hk);have ah:=bP (qY ho (bg U.o.size B.o.size));have aB:=aj b3 ax;have m:=bP (U.o.trans ((aw B.o b3).mono U.o.size));have a7:IntKind.i64.wrap (x+b)=x+b:=(by rw[bx];omega);clear c1 X ho R b3;go_wp2_with fail;go_ret3;exact .inl ⟨x+b,who,v',C.o,rfl,ah.o,m.o⟩
    ·have C:Rg (jG l b a roles c=((gL (b+l+a) c roles).drop (j+1)).findSome? (uB l b a roles c)):=by
      show _=_;rw[I.o,R];rfl
     have b3:aq D w3:=it (aH _ _) X (aD _) (fun k hk=>by cases hk);have m:=bP (aw B.o b3);have H:=bP (ad.o.below b3);clear c1 X R b3;go_wp2_with fail;go_roundw;case rel=>exact⟨j+1,by go_num,by omega,C,m,H⟩
     case measure=>simp[intOf];omega
  ·have P: ¬(j:Int)<((gL (b+l+a) c roles).length:Int):=(by omega)
   have I:Rg (jG l b a roles c=none):=by
    show _=_;rw[V.o,dn (by omega)];rfl
   have m:=bP (aw U.o n.o);clear V;go_wp2_with fail;go_ret3;exact .inr ⟨I.o,rfl,m.o⟩
def vG (w:World)(v:Value)(a:List (List (Nat->Bool))):Prop:= ∃p c,v= .slice p a.length c/\a.length<9223372036854775808/\ ∀(j:Nat) (b:List (Nat->Bool)),a[j]? =some b-> ∃(g o:Nat) (sv:Value),p=some ⟨g,o,none⟩/\w.cell? (ae g (o+j))=some sv/\tp w sv b
theorem vG.below {w w':World}{v:Value}{a:List (List (Nat->Bool))}(h:vG w v a)(b:aq w w'):vG w' v a:=by
 obtain⟨p,c,d,f,i⟩:=h;refine⟨p,c,d,f,fun j l m=> ?_⟩;obtain⟨g,o,sv,e,k,n⟩:=i j l m;exact⟨g,o,sv,e,aj b k,n.below b⟩
def jW (s:Sv):List (List (Nat->Bool))->Int
 |[]=>0
 |d::l=>if fo s d.length≠0 then fo s d.length else jW s l
def kW (s:Sv):List (List (Nat->Bool))->Nat->Option (Nat×Int×List Int)
 |[],_=>none
 |d::l,n=>match jG s.len s.bef s.aft s.roles d with
  |some x=>some (n,x.1,x.2)
  |none=>kW s l (n+1)
structure Sl where
 err:Int
 day:Int
 min:Int
 who:List Int
def fy (s:Sv)(a:List (List (Nat->Bool))):Sl:=if 30<a.length then⟨5,0,0,[]⟩ else if jW s a≠0 then⟨jW s a,0,0,[]⟩ else match kW s a 0 with
 |some x=>⟨0,(x.1:Int),x.2.1,x.2.2⟩
 |none=>⟨11,0,0,[]⟩
def Gy (r:Sl)(w:World)(e:Ending)(w':World):Prop:= ∃v,e= .returned (.tuple #[.agg #[ag r.day,ag r.min,v],ag r.err])/\w'.ownsRow w.heap.size 3 1 v r.who.length (dB r.who)/\aq w w'
theorem Gz {s:Sv}{l:List (List (Nat->Bool))}{j:Nat}{d:List (Nat->Bool)}(h:l[j]? =some d):jW s (l.drop j)=if fo s d.length≠0 then fo s d.length else jW s (l.drop (j+1)):=by
 obtain⟨a,b⟩:=aE.1 h;rw[bK a,b];rfl
theorem GA {s:Sv}{l:List (List (Nat->Bool))}{j:Nat}{d:List (Nat->Bool)}(n:Nat)(h:l[j]? =some d):kW s (l.drop j) n=match jG s.len s.bef s.aft s.roles d with
  |some x=>some (n,x.1,x.2)
  |none=>kW s (l.drop (j+1)) (n+1):=by
 obtain⟨a,b⟩:=aE.1 h;rw[bK a,b];rfl
theorem xj {s:Sv}: ∀{l:List (List (Nat->Bool))},jW s l=0-> ∀d∈l,fo s d.length=0
 |[],_,d,a=>by cases a
 |x::l,h,d,a=>by
  by_cases b:fo s x.length=0
  ·rw[jW,ax (by simpa using b)]at h;rcases bo.1 a with rfl|a
   ·exact b
   ·exact xj h d a
  ·rw[jW,aB b]at h;exact absurd h b
theorem CV {p:List Int}{n:Int}: ∀(m i:Nat),oe p n m i=0-> ∀j,i<=j->j<i+m->(0<=p.getD j 0/\p.getD j 0<n)/\(0<j->p.getD (j-1) 0<p.getD j 0)
 |0,i,_,j,b,c=>by omega
 |m+1,i,h,j,b,c=>by
  rw[oe]at h;by_cases c1:p.getD i 0<0\/n<=p.getD i 0
  ·rw[aB c1]at h;cases h
  ·rw[ax c1]at h;by_cases a:0<i/\p.getD i 0<=p.getD (i-1) 0
   ·rw[aB a]at h;cases h
   ·rw[ax a]at h;by_cases e:j=i
    ·subst e;exact⟨by omega,fun d=>by omega⟩
    ·exact CV m (i+1) h j (by omega) (by omega)
structure yP (p:List Int)(n:Int):Prop where
 len1:1<=p.length
 len8:p.length<=8
 bd: ∀r∈p,0<=r/\r<n
 up:p.Pairwise (· < ·)
theorem NI {p:List Int}{n:Int}(h:iY p n=0):yP p n:=by
 unfold iY at h;by_cases e:p.length<1\/8<p.length
 ·rw[aB e]at h;cases h
 ·rw[ax e]at h;have c:=CV p.length 0 h;refine⟨by omega,by omega,fun r k=> ?_,?_⟩
  ·obtain⟨j,a,rfl⟩:=List.getElem_of_mem k;have:=(c j (by omega) (by omega)).1;simpa[List.getD,ay a] using this
  ·have b: ∀d j:Nat,j+d+1<p.length->p.getD j 0<p.getD (j+d+1) 0:=by
    intro d;induction d with
    |zero=>
     intro j a;have:=(c (j+1) (by omega) (by omega)).2 (by omega);simpa using this
    |succ d l=>
     intro j a;have m:=l j (by omega);have f:=(c (j+d+1+1) (by omega) (by omega)).2 (by omega);rw[show j+d+1+1-1=j+d+1 by omega]at f;rw[show j+(d+1)+1=j+d+1+1 by omega];omega
   rw[List.pairwise_iff_getElem];intro i j hi a g;have:=b (j-i-1) i (by omega);rw[show i+(j-i-1)+1=j by omega]at this;simpa[List.getD,ay hi,ay a] using this
theorem A7 {n:Int}: ∀{l:List (List Int)},kT n l=0-> ∀p∈l,yP p n
 |[],_,p,a=>by cases a
 |x::l,h,p,a=>by
  by_cases b:iY x n=0
  ·rw[kT,ax (by simpa using b)]at h;rcases bo.1 a with rfl|a
   ·exact NI b
   ·exact A7 h p a
  ·rw[kT,aB b]at h;exact absurd h b
structure Af (s:Sv)(n:Int):Prop where
 meas:kG s.len s.bef s.aft=true
 r1:1<=s.roles.length
 r4:s.roles.length<=4
 pool: ∀p∈s.roles,yP p n
theorem qZ {s:Sv}{n:Int}(h:fo s n=0):Af s n:=by
 unfold fo at h;by_cases a:kG s.len s.bef s.aft=false
 ·rw[aB a]at h;cases h
 ·rw[ax a]at h;by_cases b:s.roles.length<1\/4<s.roles.length
  ·rw[aB b]at h;cases h
  ·rw[ax b]at h;exact⟨by simpa using a,by omega,by omega,A7 h⟩
theorem LC {w:World}{B:Nat}{e:TypeId}{n:Nat}{v:Value}{xs:List Value}{size:Nat}(h:w.ownsRow B e size v n xs){g:Nat}(b:g<B)(X:Array Value):(w.setRow g X).ownsRow B e size v n xs:=
 h.kept (row:=some g) ⟨rfl,rfl,rfl,by simp,fun k _ a=>aW w g k _ (fun e=>a (by rw[e]))⟩ (by
  cases hz:v.ownBlock with
  |none=>exact .inl rfl
  |some q=>
   refine .inr fun e=> ?_;cases e;have:=(h.lt g hz).1;omega)
theorem LD:prog.underlying 39=some (.struct (prog.fieldsOf 39)):=by kernel_rfl
theorem rN {R:Ending->World->Prop}{a:Act}{w:World}(g:Nat)(d m:Int)(v:Value)(er:Int)(j:a.defers=[])(e:a.tmps.getD 4 undef=ab g 0)(f:a.tmps.getD 5 undef=ag er)
  (k:w.heap[g]? =ah #[ag d,ag m,v] 39) (i:R (.returned (.tuple #[.agg #[ag d,ag m,v],ag er])) w):bodyPost prog f67 R .ret a w:=by
 refine aY (v:= .tuple #[.agg #[ag d,ag m,v],ag er]) ?_ j i;have b:a.tmps[4]?.getD undef=ab g 0:=by simpa using e
 have c:a.tmps[5]?.getD undef=ag er:=by simpa using f
 have l:=eE (P:=prog) w g 39 39 _ _ _ k LD rfl (by kernel_rfl);simp[results,results67,b,c,asAddr,l]
theorem Jk (s:Sv)(rv:Value)(c:List (List (Nat->Bool)))(dv:Value)(w:World)(hT:Tab w)(hR:fG w rv s.roles)(hD:vG w dv c):
  Calls prog 67 #[svV s rv,dv] w (Gy (fy s c) w):=by
 obtain⟨l,b,a,roles⟩:=s;dsimp only at hR;unfold svV;dsimp only;obtain⟨P,cr,rfl,ar,V⟩:=id hR;have U:aq w ((w.alloc (.cells #[ag l,ag b,ag a,.slice P roles.length cr] 36)).alloc (.cells #[ag 0,ag 0,af] 39)):=(am _ _).alloc (by simp) _;have nA:((w.alloc (.cells #[ag l,ag b,ag a,.slice P roles.length cr] 36)).alloc (.cells #[ag 0,ag 0,af] 39)).heap[w.heap.size]? =ah #[ag l,ag b,ag a,.slice P roles.length cr] 36:=by(repeat (first|refine dq _ _ _ (by simp only[aV];omega) ?_|exact dG _ _ _ (by first|rfl|simp only[aV])))
 have J:((w.alloc (.cells #[ag l,ag b,ag a,.slice P roles.length cr] 36)).alloc (.cells #[ag 0,ag 0,af] 39)).heap[w.heap.size+1]? =ah #[ag 0,ag 0,af] 39:=by(repeat (first|refine dq _ _ _ (by simp only[aV];omega) ?_|exact dG _ _ _ (by first|rfl|simp only[aV])))
 generalize av:(w.alloc (.cells #[ag l,ag b,ag a,.slice P roles.length cr] 36)).alloc (.cells #[ag 0,ag 0,af] 39)=R at*;have HR:=bP (hR.below U);have HD:=bP (hD.below U);have HT:=bP (kV hT U);have S:=bP U;obtain⟨pd,cd,rfl,ap,_⟩:=hD
 have u:Rg (∀(W:World) (er:Int),aq R W->W.heap[w.heap.size+1]? =ah #[ag 0,ag 0,af] 39->fy ⟨l,b,a,roles⟩ c=⟨er,0,0,[]⟩->(W.setRow (w.heap.size+1) #[ag 0,ag 0,af]).heap[w.heap.size+1]? =ah #[ag 0,ag 0,af] 39/\Gy (fy ⟨l,b,a,roles⟩ c) w (.returned (.tuple #[.agg #[ag 0,ag 0,af],ag er])) (W.setRow (w.heap.size+1) #[ag 0,ag 0,af])):=fun W er hW hs he=>by
  rw[he];exact⟨aL _ _ _ _ _ _ hs,_,rfl,dl _ _ _ _,below_setRow (aw S.o hW) (by omega) _⟩
 by_cases al:30<(c.length:Int)
 ·have T:Rg (fy ⟨l,b,a,roles⟩ c=⟨5,0,0,[]⟩):=by
   show _=_;unfold fy;rw[aB (by omega)]
  have q:=bP (u.o R 5 (aH _ _) J T.o);go_enter func67,ntmps67
  go_wp2_with(first
   |(refine aA rfl 39 _ _ rfl _ _ rfl rfl _ _ J (by kernel_rfl) (by simp) (by simp[Value.oneCell']) ?_))
  exact rN (w.heap.size+1) 0 0 (af) 5 rfl rfl rfl q.o.1 q.o.2
 have HE:Rg (fy ⟨l,b,a,roles⟩ c=if jW ⟨l,b,a,roles⟩ c≠0 then⟨jW ⟨l,b,a,roles⟩ c,0,0,[]⟩ else match kW ⟨l,b,a,roles⟩ c 0 with
   |some x=>⟨0,(x.1:Int),x.2.1,x.2.2⟩
   |none=>⟨11,0,0,[]⟩):=by
  show _=_;unfold fy;rw[ax (by omega)]
 go_enter func67,ntmps67
 go_wp2_with fail;go_loopw [20] (fun t wr=> ∃j:Nat,t=ag (j:Int)/\j<=c.length/\Rg (jW ⟨l,b,a,roles⟩ c=jW ⟨l,b,a,roles⟩ (c.drop j))/\Rg (aq R wr)) (fun t _=>c.length-(intOf t).toNat);case atStart=>exact⟨0,rfl,by omega,rfl,aH _ _⟩
 case round=>
  obtain⟨j,rfl,hj,I,f⟩:=hrel;have an:(0:Int)<=(j:Int):=(by omega);by_cases ae:j<c.length
  ·have M:(j:Int)<(c.length:Int):=(by omega);obtain⟨L,i⟩: ∃r,c[j]? =some r:=⟨_,ay ae⟩
   obtain⟨_,_,Z,_,z⟩:=HD.o.below f.o;cases Z;obtain⟨aa,aj,sv,H,cx,g⟩:=z j _ i;subst H;obtain⟨pf,cf,rfl,ad,_⟩:=g;have C:=ai f.o nA;have y0:=ak 0 C;have y1:=ak 1 C;have y2:=ak 2 C;have y3:=ak 3 C;have c1:=yL ⟨l,b,a,roles⟩ _ (L.length:Int) wr (HR.o.below f.o);unfold svV at c1;dsimp only at c1;have D:=Gz (s:=⟨l,b,a,roles⟩) i;obtain⟨er,ab⟩:=au (fo ⟨l,b,a,roles⟩ (L.length:Int));rw[ab]at c1 D;have n:=ai f.o J;by_cases X:er=0
   ·subst X;rw[ax (by simp)]at D;have y:=bP (I.o.trans D);go_wp2_with fail;refine c1.mono ?_;rintro e Q ⟨rfl,b2⟩;have E:=bP (aw f.o b2);go_wp2_with fail;go_roundw;case rel=>exact⟨j+1,by go_num,by omega,y,E⟩
    case measure=>simp[intOf];omega
   ·rw[aB X]at D;have az:(er==0)=false:=bm.2 X;have y:=bP (I.o.trans D);go_wp2_with fail;refine c1.mono ?_;rintro e Q ⟨rfl,b2⟩;have A:=ai b2 n;have q:=bP (u.o Q er (aw f.o b2) A (HE.o.trans (by rw[y.o];exact aB X)))
    go_wp2_with(first
     |(refine aA rfl 39 _ _ rfl _ _ rfl rfl _ _ A (by kernel_rfl) (by simp) (by simp[Value.oneCell']) ?_))
    exact rN (w.heap.size+1) 0 0 (af) er rfl rfl rfl q.o.1 q.o.2
  ·have M: ¬(j:Int)<(c.length:Int):=(by omega)
   have HZ:Rg (jW ⟨l,b,a,roles⟩ c=0):=by
    show _=_;rw[I.o,dn (by omega)];rfl
   have Y:=bP (xj HZ.o);have K:=bP (HE.o.trans (ax (by rw[HZ.o];simp)));go_wp2_with fail;go_loopw [35] (fun t W=> ∃k:Nat,t=ag (k:Int)/\k<=c.length/\Rg (kW ⟨l,b,a,roles⟩ c 0=kW ⟨l,b,a,roles⟩ (c.drop k) k)/\Rg (aq R W)) (fun t _=>c.length-(intOf t).toNat);case atStart=>exact⟨0,rfl,by omega,rfl,f⟩
   case round=>
    obtain⟨k,rfl,hk,I,d⟩:=hrel;have ao:(0:Int)<=(k:Int):=(by omega);by_cases N:k<c.length
    ·have G:(k:Int)<(c.length:Int):=(by omega);obtain⟨L,i⟩: ∃r,c[k]? =some r:=⟨_,ay N⟩
     obtain⟨_,_,Z,_,z⟩:=HD.o.below d.o;cases Z;obtain⟨aa,aj,sv,H,cx,g⟩:=z k _ i;subst H;have B:=qZ (Y.o L (aN i));have c1:=Ed l b a roles _ L sv wr (kV HT.o d.o) (HR.o.below d.o) g (fun p hp=>⟨(B.pool p hp).len8,(B.pool p hp).bd⟩) B.r4 B.meas;obtain⟨pf,cf,rfl,ad,_⟩:=g;have C:=ai d.o nA;have y0:=ak 0 C;have y1:=ak 1 C;have y2:=ak 2 C;have y3:=ak 3 C;have D:=GA (s:=⟨l,b,a,roles⟩) k i;dsimp only at D;have T:=bP (I.o.trans D);have n:=ai d.o J;go_wp2_with fail;refine c1.mono ?_;rintro e Q (⟨m,who,v,hf,rfl,O,b2⟩|⟨hf,rfl,b2⟩)
     ·have A:=ai b2 n
      have F:Rg (fy ⟨l,b,a,roles⟩ c=⟨0,(k:Int),m,who⟩):=by
       show _=_;rw[K.o,T.o,hf]
      have ac:w.heap.size+1<R.heap.size:=aI J
      have q:Rg ((Q.setRow (w.heap.size+1) #[ag (k:Int),ag m,v]).heap[w.heap.size+1]? =ah #[ag (k:Int),ag m,v] 39/\Gy (fy ⟨l,b,a,roles⟩ c) w (.returned (.tuple #[.agg #[ag (k:Int),ag m,v],ag 0])) (Q.setRow (w.heap.size+1) #[ag (k:Int),ag m,v])):=by
       rw[F.o];refine⟨aL _ _ _ _ _ _ A,v,rfl,?_,below_setRow (S.o.trans ((aw d.o b2).mono S.o.size)) (by omega) _⟩;exact qY (LC O (aU ac d.o.size) _) (bg S.o.size d.o.size)
      obtain⟨pw,cw,rfl⟩:=og O
      go_wp2_with(first
       |(refine aA rfl 39 _ _ rfl _ _ rfl rfl _ _ A (by kernel_rfl) (by simp) (by simp[Value.oneCell']) ?_))
      exact rN (w.heap.size+1) (k:Int) m _ 0 rfl rfl rfl q.o.1 q.o.2
     ·have y:Rg (kW ⟨l,b,a,roles⟩ c 0=kW ⟨l,b,a,roles⟩ (c.drop (k+1)) (k+1)):=by
       show _=_;rw[T.o,hf]
      have E:=bP (aw d.o b2);go_wp2_with fail;go_roundw;case rel=>exact⟨k+1,by go_num,by omega,y,E⟩
      case measure=>simp[intOf];omega
    ·have G: ¬(k:Int)<(c.length:Int):=(by omega)
     have F:Rg (fy ⟨l,b,a,roles⟩ c=⟨11,0,0,[]⟩):=by
      show _=_;rw[K.o,I.o,dn (by omega)];rfl
     have n:=ai d.o J;have q:=bP (u.o wr 11 d.o n F.o)
     go_wp2_with(first
      |(refine aA rfl 39 _ _ rfl _ _ rfl rfl _ _ n (by kernel_rfl) (by simp) (by simp[Value.oneCell']) ?_))
     exact rN (w.heap.size+1) 0 0 (af) 11 rfl rfl rfl q.o.1 q.o.2
end Go.Proofs.YtlkehieagdkgiaaGreatDoor
