/- Texts of the proof. -/
import Derived.Test.YtpdoienkhgnceaaGreatDoorPt23
set_option maxRecDepth 100000
set_option maxHeartbeats 8000000
namespace Go.Proofs.YtpdoienkhgnceaaGreatDoor
open Go.Proofs.Tryz Go.RowKit Lx Vx Mx Msk
theorem Td:(prog.info? 43).map (fun i=>(i.zero,i.size,i.bytes))=some (some (af),1,24):=by kernel_rfl
theorem svT:prog.underlying 53=some (.struct (prog.fieldsOf 53)):=by kernel_rfl
theorem A7 (s:Sv)(p:Option Addr)(n c:Nat):(svC (s,.slice p n c)).all (·.oneCell')=true:=by simp[svC,Value.oneCell']
structure IY (B:Nat)(v:Value)(ls:List (List Int))(vs:List Value)(w:World):Prop where
 o:w.ownsRow B 43 1 v ls.length vs
 each: ∀(i:Nat) (l:List Int) (u:Value),ls[i]? =some l->vs[i]? =some u->w.ownsRow B 3 1 u l.length (dt l)
theorem sE {w:World}{B:Nat}{v:Value}{l:List Int}(h:w.ownsRow B 3 1 v l.length (dt l))(i:l.length<9223372036854775808):fk w v l:=by
 obtain⟨p,c,b⟩:=dy h;refine⟨p,c,b,i,fun j x a=> ?_⟩;obtain⟨g,k,e,_,f⟩:=tB h (by have:=(aE.1 a).1;omega);rw[b]at e;injection e with d _ _;refine⟨g,0,d,?_⟩;rw[bN];exact f j _ (by unfold dt;rw[bf,a];rfl)
theorem IY.rob {B:Nat}{v:Value}{a:List (List Int)}{d:List Value}{w:World}(h:IY B v a d w)(A:a.length<9223372036854775808)(D: ∀l∈a,l.length<9223372036854775808):Rob (fun q=>B<=q) (fun u=>fZ u v a) w:=fun u _ ha=>by
 have m: ∀{e n:Nat} {x:Value} {xs:List Value},w.ownsRow B e 1 x n xs->u.ownsRow B e 1 x n xs:=fun h=>bH h fun b k=>ha b (h.lt b k).1 (h.lt b k).2;have f:=m h.o;have C:d.length=a.length:=by have:=f.1;omega
 obtain⟨p,c,r⟩:=dy f;refine⟨p,c,r,A,fun j l i=> ?_⟩;have z:=(aE.1 i).1;obtain⟨x,s⟩: ∃x,d[j]? =some x:=⟨d[j]'(by omega),az _⟩
 obtain⟨g,E,e,_,y⟩:=tB f (by omega);rw[r]at e;injection e with t _ _;exact⟨g,0,x,t,by rw[bN];exact y j x s,sE (m (h.each j l x i s)) (D l (aL i))⟩
theorem IZ (s:Sv)(p:Option Addr)(c:Nat)(w:World)(h:fZ w (.slice p s.roles.length c) s.roles)(hl:s.roles.length<=1000)(hp: ∀l∈s.roles,l.length<=1000):Calls prog 154 #[.agg (svC (s,.slice p s.roles.length c))] w fun e w'=> ∃p' c',e= .returned (.agg (svC (s,.slice p' s.roles.length c')))/\Rob (fun q=>w.heap.size<=q) (fun u=>fZ u (.slice p' s.roles.length c') s.roles) w'/\ao w w':=by
 obtain⟨P,hA,bA,nA⟩:=nb w (svC (s,.slice p s.roles.length c)) 53;obtain⟨wB,hB,bB,nB⟩:=nb P #[ag 0,ag 0,ag 0,af] 53;have O:=bt bB nA;have y:=au bA bB;have hr:=h.below y;obtain⟨n,hn⟩:=aq s.roles.length;have z3:wB.cell? (ae w.heap.size 3)=some (.slice p n c):=by rw[<-hn];exact cr 3 O rfl
 have F:=aG hn;have HR:=aG hr;have HB:=aG y;have HP:=aG hp;have aw:w.heap.size<=wB.heap.size:=y.size;rw[hn]at hl;have a2:(n:Int)<=1000:=by omega
 clear h hn hr hp nA bA bB y;go_enter func154,ntmps154;go_wp2_with fail;go_loopw [3,5,9] (fun v _ q wr=> ∃(j:Nat) (vs:List Value),q=ag (j:Int)/\j<=n/\ao wB wr/\IY wB.heap.size v (s.roles.take j) vs wr) (fun _ _ q _=>n-(intOf q).toNat);case atStart=>exact⟨0,[],rfl,by omega,aF _ _,df _ _ _ _,fun i l u hi=>by simp at hi⟩
 case round=>
  obtain⟨j,vs,rfl,hj,a,r⟩:=hrel;have a0:(0:Int)<=(j:Int):=(by omega);by_cases a1:j<n
  ·have V:(j:Int)<(n:Int):=(by omega);obtain⟨l,C⟩: ∃l,s.roles[j]? =some l:=⟨s.roles[j]'(by have:=F.o;omega),az _⟩
   obtain⟨p0,c0,e0,N,U⟩:=HR.o;injection e0 with e1 e3 e2;subst e1 e2;obtain⟨g,o,sv,e4,hc,I⟩:=U j l C;subst e4;clear e3 N U;have ad:=aj a hc;have cC:=IW l sv wr (I.below a) (HP.o l (aL C));obtain⟨ps,cs,ap,N,an⟩:=I;subst ap;have HL:=aG C;have L:=aG r;have S:=aG a;clear N an C hc r a;go_wp2_with fail;refine cC.mono ?_;rintro e w1 ⟨v1,rfl,D,b1⟩;obtain⟨p1,c1,ar⟩:=dy D;subst ar;obtain⟨wC,hC,bC,nC⟩:=nb w1 #[.slice p1 l.length c1] 43;have A:=au b1 bC;have f:=bH L.o.o fun b G=>A.block b (L.o.o.lt b G).2;have B:=au S.o A;have al:(s.roles.take j).length=j:=(by rw[ef,F.o];omega);rw[al]at f;have K:=aG (bH D fun b G=>bC.block b (D.lt b G).2);have R:=aG A;clear cC D b1 bC ad A;go_wp2_with(at_builtin;refine iT rfl _ _ 51 43 rfl KQ Td rfl (by decide) (by decide) rfl f rfl nC rfl (by simp[Value.oneCell']) (by omega) B.size ?_)
   rintro v2 w2 X M _ g2 c2 rfl;have z:=B.grown M B.size (fun k hk=>(f.lt k hk).1)
   have T:T4 (IY wB.heap.size (.slice (some (ae g2 0)) (j+1) c2) (s.roles.take (j+1)) (vs++[.slice p1 l.length c1]) w2):=by
    have W: ∀{x:Value} {m:Nat} {xs:List Value} {B':Nat},wC.ownsRow B' 3 1 x m xs->w2.ownsRow B' 3 1 x m xs:=fun Q=>bH Q fun b y=>M.block b (Q.lt b y).2 (fun e=>vD Q f (by decide) y e.symm);have av:vs.length=j:=(by have:=f.1;omega);refine⟨?_,fun i l' u hi hu=> ?_⟩
    ·rw[ef,F.o,gu (by omega)];exact X
    ·by_cases e:i=j
     ·subst e;rw[dJ (by omega),HL.o]at hi;have:l=l':=ay hi;subst this;rw[dR (by omega),av,jw]at hu;have:Value.slice p1 l.length c1=u:=ay hu;subst this;refine W ⟨K.o.1,?_⟩;rcases K.o.2 with q|⟨gq,cq,cu,q1,q2,q3⟩
      ·exact .inl q
      ·exact .inr ⟨gq,cq,cu,q1,bh S.o.size q2,q3⟩
     ·have ai:i<j:=by
       have:=(aE.1 hi).1;rw[ef]at this;omega
      rw[dJ (by omega)]at hi;rw[eP (by omega)]at hu;have Q:=L.o.each i l' u (by rw[dJ ai];exact hi) hu;exact W (bH Q fun b y=>R.o.block b (Q.lt b y).2)
   clear f X M B nC hC K R;go_wp2_with fail;go_roundw;case rel=>exact⟨j+1,_,by go_num,by omega,z,T.o⟩
   case measure=>simp[intOf];omega
  ·have V: ¬(j:Int)<(n:Int):=(by omega);obtain rfl:n=j:=(by omega);have aa:s.roles.take n=s.roles:=da (by rw[F.o];exact aA _);rw[aa]at r;have ho:=r.o;rw[F.o]at ho;obtain⟨t,d,hv⟩:=dy ho;subst hv;have E:=bt a O;have ab:=bt a nB
   have ax:w.heap.size<P.heap.size:=by
    have:=hA▸(aH (aB w (.cells (svC (s,.slice p s.roles.length c)) 53)));omega
   have J:w.heap.size≠P.heap.size:=(by omega);have x3:=bu _ _ 3 _ _ E;have y3:wr.cell? (ae w.heap.size 3)=some (.slice p n c):=aj a z3;have nC:(wr.setCell ⟨w.heap.size,3,none⟩ (.slice t n d)).heap[w.heap.size]? =ah (svC (s,.slice t n d)) 53:=aY wr w.heap.size 3 _ _ _ E;have nD:=(aM wr ⟨w.heap.size,3,none⟩ P.heap.size (.slice t n d) (fun e=>J e.symm)).trans ab;have z:=(au HB.o a).setCell (p:=⟨w.heap.size,3,none⟩) (aA _) (.slice t n d);have H:=r.rob (by rw[F.o];omega) (fun l ak=>by have:=HP.o l ak;omega);have Y: ∀q,q≠w.heap.size->(wr.setCell ⟨w.heap.size,3,none⟩ (.slice t n d)).heap[q]? =wr.heap[q]? :=fun q G=>aM _ _ _ _ G;have Z:(wr.setCell ⟨w.heap.size,3,none⟩ (.slice t n d)).heap.size=wr.heap.size:=(by simp);generalize a3:wr.setCell ⟨w.heap.size,3,none⟩ (.slice t n d)=wC at*;have a4:=aH nB
   have HO:T4 (Rob (fun q=>w.heap.size<=q) (fun u=>fZ u (.slice t n d) s.roles) (wC.setRow P.heap.size (svC (s,.slice t n d)))/\ao w (wC.setRow P.heap.size (svC (s,.slice t n d)))):=by
    refine⟨H.move (by simp;rw[Z];exact aA _) (fun q G _=> ?_) (fun q _ G=>bh aw G),below_setRow z (by have:=aH E;have:=hA▸(am w (.cells (svC (s,.slice p s.roles.length c)) 53)).size;exact this) _⟩;exact(aQ _ _ _ _ (by omega)).trans (Y q (by omega))
   have ac:=aG (aK _ _ _ (svC (s,.slice t n d)) _ _ nD);clear r ho H Y Z z E ab O J aa z3;go_wp2_with(first|(refine aO rfl 53 _ rfl _ rfl _ _ _ _ nC svT rfl (by kernel_rfl) ?_)|(refine aC rfl 53 _ _ rfl _ _ rfl rfl _ _ nD (by kernel_rfl) rfl (A7 _ _ _ _) ?_))
   refine aX (v:= .agg (svC (s,.slice t n d))) ?_ rfl ⟨t,d,by rw[F.o],by rw[F.o];exact HO.o.1,HO.o.2⟩;exact bn rfl _ _ P.heap.size _ _ _ _ rfl ac.o svT rfl (by kernel_rfl)
section
theorem P9 {l:List Ru}{r x:Int}(h:x∈gJ l r): ∃k:Nat,x=(k:Int)/\k<l.length:=by
 unfold gJ at h;split at h
 ·cases h
 ·obtain⟨k,a,rfl⟩:=dB.1 h;exact⟨k,rfl,ip.1 (List.mem_filter.1 a).1⟩
theorem Ce (f:Int->Bool): ∀l:List Int,(kI (fun x (s:Unit)=>(f x,s)) l ()).1=l.any f
 |[]=>rfl
 |x::l=>by
  unfold kI;rw[List.any_cons];cases h:f x with
  |true=>simp
  |false=>simpa using Ce f l
def vF (d:Dk)(l:List Ru)(i:Nat):Int:=if jP d.rules l (i:Int)=true\/(gJ l (i:Int)).any (jP d.rules l)=true then d.given else d.vers.getD i 0
def oX (d:Dk)(l:List Ru):List Int:=(List.range l.length).map (vF d l)
theorem vG (d:Dk){l:List Ru}{j:Nat}(a:j<l.length):(oX d l).take (j+1)=(oX d l).take j++[vF d l j]:=by
 unfold oX;rw[fF,bf,List.getElem?_range a];rfl
section
variable {B gD:Nat} {d:Dk} {t:Tr}
theorem NM {v2:Value}{R:List (Ru×Value)}(w:World)(h:dS B gD d t w)(hu:InR w v2 R)(hl:R.length<=1000):Calls prog 150 #[ab gD 0,v2] w fun e w'=> ∃v',e= .returned v'/\w'.ownsRow w.heap.size 3 1 v' R.length (dt (oX d (R.map (fun p=>p.1))))/\ao w w':=by
 obtain⟨pn,cn,rfl⟩:=hu.form;obtain⟨wA,hA,bA,nA⟩:=nb w #[ab gD 0] 190;obtain⟨wB,a6,bB,nB⟩:=nb wA #[.slice pn R.length cn] 23;have M:=au bA bB;have Q:=bt bB nA;obtain⟨z,N⟩:=aq (R.map (fun p=>p.1));have Z:z.length=R.length:=by rw[<-N,bm]
 have HD:=aG (h.below M);have HU:=aG (hu.below M);obtain⟨n,hn⟩:=aq R.length;have HL:=aG (Z.trans hn);rw[hn]at a6 nB hl Z;rw[N,hn];have HX:=aG N;have HN:=aG hn;have HB:=aG M;have aD:(n:Int)<=1000:=by omega
 have z1:=cr 0 Q rfl;have z2:=cr 0 nB rfl;obtain⟨al,rv,cv,vv,kv,ss,aa,hm⟩:=HD.o;have z6:=cr 6 hm.blk rfl;have z5:=cr 5 hm.blk rfl;obtain⟨pv,aB,rfl,a5,an⟩:=hm.vers.here;obtain⟨nv,P⟩:=aq d.vers.length;rw[P]at z5;have HV:=aG an;have av:=aG (P.symm.trans al.vl);have ar:=aG P;have eF: ∀S w,(callFunc 185 S).run prog w= .ok (.enter 185 S) w:=fun _ _=>rfl;clear h hu N Z hn bA bB M nA hm al an a5 P;go_enter func150,ntmps150;go_wp2_with fail;go_loopw [6,7,8,12] (fun v _ _ q wr=> ∃j:Nat,q=ag (j:Int)/\j<=n/\ao wB wr/\wr.ownsRow wB.heap.size 3 1 v j (dt ((oX d z).take j))) (fun _ _ _ q _=>n-(intOf q).toNat);case atStart=>exact⟨0,rfl,by omega,aF _ _,df _ _ _ _⟩
 case round=>
  obtain⟨j,rfl,hj,r,A⟩:=hrel;have aC:(0:Int)<=(j:Int):=(by omega);by_cases O:j<n
  ·have ak:(j:Int)<(n:Int):=(by omega);have y1:=cr 0 (bt r Q) rfl;have y2:=cr 0 (bt r nB) rfl;have y6:=aj r z6;have y5:=aj r z5
   have cN: ∀(k:Nat) (W:World),k<n->ao wB W->Calls prog 185 #[ag (k:Int),ab w.heap.size 0,ab wA.heap.size 0] W fun e w'=>e= .returned (.bool (jP d.rules z (k:Int)))/\ao W w':=fun k W J K=>by
    rw[<-HX.o];have hU:=HU.o.below K;exact Lp W (HD.o.below K) hU (by rw[HN.o];exact J) (bt K Q) (by rw[HN.o];exact bt K nB)
   have c1:=cN j wr O r;have Y:=aG cN;obtain⟨b1,f⟩:=aq (jP d.rules z (j:Int));rw[f]at c1;have X:=aG f;have ap:=aG r;have l:=aG A;clear cN f r A;go_wp2_with fail;refine c1.mono ?_;rintro e w1 ⟨rfl,f⟩;have F:=au ap.o f;cases b1 with
   |true=>
    have I:=aG f;clear c1 f Y
    have C:T4 (vF d z j=d.given):=by
     show _=_;unfold vF;rw[ax (.inl X.o)]
    obtain⟨wC,hC,D,V⟩:=nb w1 #[ag d.given] 3;have a:=au F D;have i:=bH l.o fun b T=>(show wC.heap[b]? =wr.heap[b]? from(D.block b (aT (l.o.lt b T).2 I.o.size)).trans (I.o.block b (l.o.lt b T).2))
    clear D I y5;go_wp2_with(at_builtin;refine iT rfl _ _ 43 3 rfl tX pF rfl (by decide) (by decide) rfl i rfl V rfl (by simp[Value.oneCell']) (by omega) a.size ?_)
    rintro v2 w2 y u _ g2 c2 rfl;have m:=a.grown u a.size (fun k J=>(i.lt k J).1)
    have HO:T4 (w2.ownsRow wB.heap.size 3 1 (.slice (some (ae g2 0)) (j+1) c2) (j+1) (dt ((oX d z).take (j+1)))):=by
     show World.ownsRow _ _ _ _ _ _ _;rw[vG d (by rw[HL.o];exact O),C.o,lQ];exact y
    clear i y u a V hC;go_wp2_with fail;go_roundw;case rel=>exact⟨j+1,by go_num,by omega,m,HO.o⟩
    case measure=>simp[intOf];omega
   |false=>
    have a7:=aj f y2;have a8:=aj f y6;have ac:=aj f y5;have cU:=MZ R (.slice pn n cn) (j:Int) w1 (by have:=HU.o.below F;rw[HN.o]at this;exact this);rw[HX.o]at cU;have af:=aG f;clear c1 f y1 y2 y5 y6;go_wp2_with fail;refine cU.mono ?_;rintro e w3 ⟨v3,rfl,am,L⟩;have G:=au F L;have ah:=aG (au af.o L)
    have cC:=uC (fun x (s:Unit)=>(jP d.rules z x,s)) (fun _ W=>ao w3 W) 185 #[ab w.heap.size 0,ab wA.heap.size 0] (gJ z (j:Int)) v3 () w3 eF (aF _ _) (fun _ W K=>am.below K) (fun x hx _ W K=>by
     obtain⟨k,rfl,J⟩:=P9 hx;rw[HL.o]at J;exact(Y.o k W J (au G K)).mono fun e w' hh=>⟨hh.1,au K hh.2⟩)
    rw[Ce]at cC;obtain⟨p3,c3,rfl,a3,a4⟩:=am;obtain⟨b2,m⟩:=aq ((gJ z (j:Int)).any (jP d.rules z));rw[m]at cC;have ad:=aG m;have x5:=(L.cell (aU ac)).trans ac;have x1:=cr 0 (bt G Q) rfl;clear cU a3 a4 m L a7 a8 ac af Y;go_wp2_with fail;refine cC.mono ?_;rintro e w4 ⟨rfl,E⟩;have H:=au G E;have I:=aG (au ah.o E);have u5:=aj E x5;have u1:=aj E x1;clear cC E ah x5 x1;cases b2 with
    |true=>
     have C:T4 (vF d z j=d.given):=by
      show _=_;unfold vF;rw[ax (.inr ad.o)]
     obtain⟨wC,hC,D,V⟩:=nb w4 #[ag d.given] 3;have a:=au H D;have i:=bH l.o fun b T=>(show wC.heap[b]? =wr.heap[b]? from(D.block b (aT (l.o.lt b T).2 I.o.size)).trans (I.o.block b (l.o.lt b T).2))
     clear D I u5 u1;go_wp2_with(at_builtin;refine iT rfl _ _ 43 3 rfl tX pF rfl (by decide) (by decide) rfl i rfl V rfl (by simp[Value.oneCell']) (by omega) a.size ?_)
     rintro v2 w2 y u _ g2 c2 rfl;have m:=a.grown u a.size (fun k J=>(i.lt k J).1)
     have HO:T4 (w2.ownsRow wB.heap.size 3 1 (.slice (some (ae g2 0)) (j+1) c2) (j+1) (dt ((oX d z).take (j+1)))):=by
      show World.ownsRow _ _ _ _ _ _ _;rw[vG d (by rw[HL.o];exact O),C.o,lQ];exact y
     clear i y u a V hC;go_wp2_with fail;go_roundw;case rel=>exact⟨j+1,by go_num,by omega,m,HO.o⟩
     case measure=>simp[intOf];omega
    |false=>
     have a1:j<nv:=by
      apply Classical.byContradiction;intro hc;have h1:=X.o;have h2:d.rules[j]? =none:=fc (by have:=av.o;omega);unfold jP at h1;rw[di,h2]at h1;cases h1
     have a9:(j:Int)<(nv:Int):=(by omega);obtain⟨x,hx⟩: ∃x,d.vers[j]? =some x:=⟨d.vers[j]'(by have:=ar.o;omega),az _⟩
     obtain⟨gv,ov,a2,ai⟩:=HV.o j x hx;subst a2;have uv:=aj H ai;have ay:=aG hx;clear ai hx a1
     have C:T4 (vF d z j=x):=by
      show _=_;unfold vF;rw[aw (by rw[X.o,ad.o];simp)];simp[List.getD,ay.o]
     obtain⟨wC,hC,D,V⟩:=nb w4 #[ag x] 3;have a:=au H D;have i:=bH l.o fun b T=>(show wC.heap[b]? =wr.heap[b]? from(D.block b (aT (l.o.lt b T).2 I.o.size)).trans (I.o.block b (l.o.lt b T).2))
     clear D I;go_wp2_with(at_builtin;refine iT rfl _ _ 43 3 rfl tX pF rfl (by decide) (by decide) rfl i rfl V rfl (by simp[Value.oneCell']) (by omega) a.size ?_)
     rintro v2 w2 y u _ g2 c2 rfl;have m:=a.grown u a.size (fun k J=>(i.lt k J).1)
     have HO:T4 (w2.ownsRow wB.heap.size 3 1 (.slice (some (ae g2 0)) (j+1) c2) (j+1) (dt ((oX d z).take (j+1)))):=by
      show World.ownsRow _ _ _ _ _ _ _;rw[vG d (by rw[HL.o];exact O),C.o,lQ];exact y
     clear i y u a V hC;go_wp2_with fail;go_roundw;case rel=>exact⟨j+1,by go_num,by omega,m,HO.o⟩
     case measure=>simp[intOf];omega
  ·have ak: ¬(j:Int)<(n:Int):=(by omega);obtain rfl:n=j:=(by omega);have a0:=au HB.o r
   have U:wr.ownsRow w.heap.size 3 1 u6 n (dt (oX d z)):=by
    rw[da (by unfold oX;rw[bm,List.length_range,HL.o];exact aA _)]at A;exact⟨A.1,A.2.imp id fun⟨g,c,cu,q1,q2,q3⟩=>⟨g,c,cu,q1,bh HB.o.size q2,q3⟩⟩
   have HR:=aG U;clear A U;go_wp2_with fail;go_ret;exact⟨_,rfl,HR.o,a0⟩
end
end
namespace Lx
theorem jQ {x:Res}{f:Ex->List Tk->Nat->Res}{z:Int×Nat}(h:dg x f= .error z):x= .error z\/ ∃e r n,x= .ok (e,r,n)/\f e r n= .error z:=by
 cases x with
 |error y=>exact .inl h
 |ok y=>
  obtain⟨e,r,n⟩:=y;exact .inr ⟨e,r,n,rfl,h⟩
theorem jq {E:Nat}{k:Int}{r:List Tk}{z:Int×Nat}(a:k≠0)(h:dN E k r= .error z):z.1≠0:=by
 unfold dN at h;cases h;exact a
theorem kV {E:Nat}{e:Ex}{r:List Tk}{n:Nat}{z:Int×Nat}(h:dp E e r n= .error z):z.1≠0:=by
 unfold dp at h;split at h
 ·cases h;simp
 ·cases h
theorem GL (E:Nat): ∀(f m d:Nat) (e:Ex) (r:List Tk) (n:Nat) (z:Int×Nat),m<=8->dL m r<=f->goP E f m d e r n= .error z->z.1≠0
 |0,m,d,e,r,n,z,_,p,_=>by
  unfold dL dQ at p;split at p
  ·omega
  ·split at p
   ·omega
   ·split at p<;>omega
 |f+1,m,d,e,r,n,z,v,p,h=>by
  have c:=GL E f;have b:=fun(m d:Nat) (e:Ex) (r:List Tk) (n:Nat) (y:Ex) (B:List Tk) (A:Nat) (v:m<=8) (h:goP E f m d e r n= .ok (y,B,A))=>vW E f m d e r n y B A v h;have F:r.tail.length=r.length-1:=(by simp);match m,v with
  |0,_=>
   rw[rX]at h;rcases jQ h with a|⟨k,r1,o,a,g⟩
   ·exact c 2 _ _ _ _ _ (by omega) (by simp[dL,dQ]at*;omega) a
   ·have:=b 2 _ _ _ _ _ _ _ (by omega) a;exact c 1 _ _ _ _ _ (by omega) (by simp[dL,dQ,fK]at*;omega) g
  |2,_=>
   rw[rZ]at h;rcases jQ h with a|⟨k,r1,o,a,g⟩
   ·exact c 4 _ _ _ _ _ (by omega) (by simp[dL,dQ]at*;omega) a
   ·have:=b 4 _ _ _ _ _ _ _ (by omega) a;exact c 3 _ _ _ _ _ (by omega) (by simp[dL,dQ,fK]at*;omega) g
  |4,_=>
   rw[r7]at h;rcases jQ h with a|⟨k,r1,o,a,g⟩
   ·exact c 6 _ _ _ _ _ (by omega) (by simp[dL,dQ]at*;omega) a
   ·have:=b 6 _ _ _ _ _ _ _ (by omega) a;exact c 5 _ _ _ _ _ (by omega) (by simp[dL,dQ,fK]at*;omega) g
  |1,_=>
   rw[rY]at h;by_cases c1:isT mG r=true
   ·rw[ax c1]at h;have j:=oj (by decide) c1;rcases jQ h with a|⟨k,r1,o,a,g⟩
    ·exact c 2 _ _ _ _ _ (by omega) (by simp[dL,dQ]at*;omega) a
    ·have:=b 2 _ _ _ _ _ _ _ (by omega) a;rcases jQ g with i|⟨u,x,w,i,l⟩
     ·exact kV i
     ·cases dx i;exact c 1 _ _ _ _ _ (by omega) (by simp[dL,dQ,fK]at*;omega) l
   rw[aw c1]at h;by_cases q:isT ft r=true
   ·rw[ax q]at h;have j:=oj (by decide) q;rcases jQ h with a|⟨k,r1,o,a,g⟩
    ·exact c 2 _ _ _ _ _ (by omega) (by simp[dL,dQ]at*;omega) a
    ·have:=b 2 _ _ _ _ _ _ _ (by omega) a;rcases jQ g with i|⟨u,x,w,i,l⟩
     ·exact kV i
     ·cases dx i;exact c 1 _ _ _ _ _ (by omega) (by simp[dL,dQ,fK]at*;omega) l
   rw[aw q]at h;cases h
  |3,_=>
   rw[r6]at h;by_cases c1:isT qr r=true
   ·rw[ax c1]at h;have j:=oj (by decide) c1;rcases jQ h with a|⟨k,r1,o,a,g⟩
    ·exact c 4 _ _ _ _ _ (by omega) (by simp[dL,dQ]at*;omega) a
    ·have:=b 4 _ _ _ _ _ _ _ (by omega) a;rcases jQ g with i|⟨u,x,w,i,l⟩
     ·exact kV i
     ·cases dx i;exact c 3 _ _ _ _ _ (by omega) (by simp[dL,dQ,fK]at*;omega) l
   rw[aw c1]at h;cases h
  |5,_=>
   rw[r8]at h;by_cases c1:isT fY r=true
   ·rw[ax c1]at h;have j:=oj (by decide) c1;have D:=pS r;split at h
    ·exact jq (by decide) h
    split at h
    ·exact jq (by decide) h
    rcases jQ h with i|⟨u,x,w,i,l⟩
    ·exact kV i
    ·cases dx i;exact c 5 _ _ _ _ _ (by omega) (by simp[dL,dQ]at*;omega) l
   rw[aw c1]at h;cases h
  |8,_=>
   rw[sb]at h;by_cases c1:isT ml r=true
   ·rw[ax c1]at h;have j:=oj (by decide) c1;rcases jQ h with a|⟨k,r1,o,a,g⟩
    ·exact c 4 _ _ _ _ _ (by omega) (by simp[dL,dQ]at*;omega) a
    ·exact kV g
   ·rw[aw c1]at h;exact jq (by decide) h
  |7,_=>
   rw[sa]at h;by_cases c0:dayBit (textP r)=0
   ·rw[ax c0]at h;exact jq (by decide) h
   rw[aw c0]at h;have j:0<r.length:=mX c0;have C:r.tail.tail.length=r.tail.length-1:=(by simp);split at h
   ·exact c 7 _ _ _ _ _ (by omega) (by simp[dL,dQ]at*;omega) h
   ·exact c 8 _ _ _ _ _ (by omega) (by simp[dL,dQ]at*;omega) h
  |6,_=>
   rw[r9]at h;by_cases c0:40<d
   ·rw[ax c0]at h;exact jq (by decide) h
   rw[aw c0]at h;by_cases c1:isT g7 r=true
   ·rw[ax c1]at h;have j:=oj (by decide) c1;rcases jQ h with a|⟨k,r1,o,a,g⟩
    ·exact c 0 _ _ _ _ _ (by omega) (by simp[dL,dQ]at*;omega) a
    ·split at g
     ·cases g
     ·exact jq (by decide) g
   rw[aw c1]at h;split at h
   ·exact kV h
   split at h
   ·exact kV h
   by_cases s:isT eX r=true
   ·rw[ax s]at h;have j:=oj (by decide) s;exact c 7 _ _ _ _ _ (by omega) (by simp[dL,dQ]at*;omega) h
   rw[aw s]at h;by_cases t:isT fG r=true
   ·rw[ax t]at h;have j:=oj (by decide) t;split at h
    ·exact jq (by decide) h
    split at h
    ·split at h
     ·exact jq (by decide) h
     split at h
     ·exact jq (by decide) h
     exact c 8 _ _ _ _ _ (by omega) (by simp[dL,dQ]at*;omega) h
    ·exact c 8 _ _ _ _ _ (by omega) (by simp[dL,dQ]at*;omega) h
   rw[aw t]at h;split at h
   ·exact kV h
   split at h
   ·exact jq (by decide) h
   split at h
   ·split at h
    ·exact jq (by decide) h
    split at h
    ·exact jq (by decide) h
    exact kV h
   ·exact jq (by decide) h
theorem Ac {E:Nat}: ∀(f:Nat) (a:List Ru) (r:List Tk) (z:Int×Nat),fH E f a r= .error z->z.1≠0
 |0,_,_,_,h=>by cases h
 |f+1,a,r,z,h=>by
  rw[fH]at h;split at h
  ·cases h
  split at h
  ·split at h
   ·cases h;simp
   ·cases hx:kA E r.tail with
    |ok y=>rw[hx]at h;exact Ac f _ _ z h
    |error y=>
     rw[hx]at h;cases h;unfold kA at hx;split at hx
     ·cases hx;simp
     split at hx
     ·cases hy:rd E 0 1 ex0 r.tail.tail.tail 0 with
      |error x=>
       rw[hy]at hx;cases hx;exact GL E _ 0 1 _ _ _ _ (by omega) (aA _) hy
      |ok x=>
       rw[hy]at hx;dsimp only at hx;split at hx
       ·cases hx;simp
       split at hx
       ·cases hx
       ·cases hx;simp
     ·cases hx;simp
  ·cases h;simp
end Lx
theorem Lt {l:List UInt8}{c w:World}{v:Value}{at_:Int}(h:mY l c w v 0 at_):
  ∃(a:List Tk) (k:Nat) (b:List (Ru×Value)),l.length<=6000/\eI l a k/\ ¬k<l.length/\fH l.length (a.length+1) [] a= .ok (b.map (fun p=>p.1))/\b.length<=40/\kZ c w v b/\at_=0:=by
 rcases h with⟨_,_,h,_⟩|⟨a,k,_,_,_,q,_,h,_⟩|⟨a,k,e,d,_,_,_,r,_,h,_⟩|⟨a,k,b,f,g,i,j,m,n,_,o⟩
 ·cases h
 ·exact absurd h.symm q
 ·exact absurd h.symm (Ac _ _ _ _ r)
 ·exact⟨a,k,b,f,g,i,j,m,n,o⟩
def NmK:Nat->List Ex->Prop
 |0,_=>True
 |d+1,a=> ∀(j:Nat) (k:Ex),a[j]? =some k->k.name.length<=9223372036854775807/\NmK d k.kids
theorem GM: ∀d,NmK d []
 |0=>trivial
 |d+1=>fun j k h=>by simp at h
theorem Ef {k:Ex}{a:List Ex}(b:k.name.length<=9223372036854775807)(c: ∀d,NmK d k.kids)(e: ∀d,NmK d a): ∀d,NmK d (k::a)
 |0=>trivial
 |d+1=>fun j q h=>by
  cases j with
  |zero=>
   simp at h;subst h;exact⟨b,c d⟩
  |succ j=>exact e (d+1) j q (by simpa using h)
theorem xu {B:Nat->Prop}: ∀{d:Nat} {w:World} {sl:Value} {a:List Ex},dr B d w sl a->NmK d a->fV (fun k=>k<w.heap.size) d w sl a
 |0,_,_,_,h,_=>h
 |d+1,w,sl,a,h,t=>by
  rcases h with h|⟨g,o,c,A,m,s,i⟩
  ·exact .inl h
  ·by_cases e:a=[]
   ·subst e;exact .inl ⟨rfl,_,c,m⟩
   ·obtain⟨k0,b⟩: ∃k,a[0]? =some k:=by
     cases a with
     |nil=>exact absurd rfl e
     |cons x l=>exact⟨x,rfl⟩
    obtain⟨_,y,_⟩:=i 0 k0 b;refine .inr ⟨g,o,c,aU y,m,s,fun j k f=> ?_⟩;obtain⟨z,c0,c1,n,p,q,r⟩:=i j k f;obtain⟨u,v⟩:=t j k f;exact⟨u,z,c0,c1,n,p,q,xu r v⟩
def NmR (L:List Ru):Prop:= ∀p∈L,p.1.length<=9223372036854775807/\p.2.name.length<=9223372036854775807/\ ∀d,NmK d p.2.kids
theorem FG {w0 w:World}{v:Value}{a:List (Ru×Value)}(h:kZ w0 w v a)(j:a.length<=40)(e:NmR (a.map (fun p=>p.1))):InR w v a:=by
 refine⟨uP h.own (by omega),by omega,fun p b=> ?_⟩;obtain⟨d,c⟩:=h.kids p b;obtain⟨f,g,i⟩:=e p.1 (dB.2 ⟨p,b,rfl⟩);exact⟨f,g,d,xu c (i d)⟩
theorem I0 (l:List UInt8):(firstT l).text.length<=20:=by
 unfold firstT kN ng mj jW jg bad;repeat' split
 all_goals simp
 all_goals omega
def NmX (e:Ex):Prop:=e.name.length<=20/\ ∀d,NmK d e.kids
theorem ww (k a b:Int){x:List UInt8}(h:x.length<=20):NmX ⟨k,a,b,x,[]⟩:=⟨h,GM⟩
theorem A8 (k a b:Int){t:Ex}(h:NmX t):NmX ⟨k,a,b,[],[t]⟩:=⟨by simp,Ef (by have:=h.1;omega) h.2 GM⟩
theorem A9 (k a b:Int){s t:Ex}(h:NmX s)(c:NmX t):NmX ⟨k,a,b,[],[s,t]⟩:=⟨by simp,Ef (by have:=h.1;omega) h.2 (A8 k a b c).2⟩
def Gd (r:List Tk):Prop:= ∀q∈r,q.1.text.length<=20
theorem Gd.tl {r:List Tk}(h:Gd r):Gd r.tail:=fun q a=>h q (List.mem_of_mem_tail a)
theorem Gd.text {r:List Tk}(h:Gd r):(textP r).length<=20:=by
 cases r with
 |nil=>exact dU _
 |cons p r=>exact h p aV
theorem Gd.shift {r:List Tk}(h:Gd r):Gd (eQ r):=by
 unfold eQ;split
 ·exact h.tl.tl
 ·exact h.tl
theorem ifo {c:Prop}[Decidable c]{α:Type}{x y z:α}(h:(if c then x else y)=z):x=z\/y=z:=by
 by_cases a:c
 ·rw[ax a]at h;exact .inl h
 ·rw[aw a]at h;exact .inr h
theorem Lu (E:Nat): ∀(f m d:Nat) (e:Ex) (r:List Tk) (n:Nat) (q:Ex) (s:List Tk) (v:Nat),m<=8->(m=1\/m=3\/m=5->NmX e)->Gd r->goP E f m d e r n= .ok (q,s,v)->NmX q/\Gd s
 |0,m,d,e,r,n,q,s,v,_,_,_,h=>(dc h).elim
 |f+1,m,d,e,r,n,q,s,v,y,u,b,h=>by
  have c:=Lu E f;match m,y with
  |0,_=>
   rw[rX]at h;obtain⟨k,r1,p,j,g⟩:=bV h;have a:=c 2 _ _ _ _ _ _ _ (by omega) (by omega) b j;exact c 1 _ _ _ _ _ _ _ (by omega) (fun _=>a.1) a.2 g
  |1,_=>
   rw[rY]at h;have i:=u (by omega);rcases ifo h with h|h
   ·obtain⟨k,r1,p,j,g⟩:=bV h;obtain⟨t,x,w,l,o⟩:=bV g;have a:=c 2 _ _ _ _ _ _ _ (by omega) (by omega) b.tl j;cases dx l;exact c 1 _ _ _ _ _ _ _ (by omega) (fun _=>A9 _ _ _ i a.1) a.2 o
   ·rcases ifo h with h|h
    ·obtain⟨k,r1,p,j,g⟩:=bV h;obtain⟨t,x,w,l,o⟩:=bV g;have a:=c 2 _ _ _ _ _ _ _ (by omega) (by omega) b.tl j;cases dx l;exact c 1 _ _ _ _ _ _ _ (by omega) (fun _=>A9 _ _ _ i a.1) a.2 o
    ·cases h;exact⟨i,b⟩
  |2,_=>
   rw[rZ]at h;obtain⟨k,r1,p,j,g⟩:=bV h;have a:=c 4 _ _ _ _ _ _ _ (by omega) (by omega) b j;exact c 3 _ _ _ _ _ _ _ (by omega) (fun _=>a.1) a.2 g
  |3,_=>
   rw[r6]at h;have i:=u (by omega);rcases ifo h with h|h
   ·obtain⟨k,r1,p,j,g⟩:=bV h;obtain⟨t,x,w,l,o⟩:=bV g;have a:=c 4 _ _ _ _ _ _ _ (by omega) (by omega) b.tl j;cases dx l;exact c 3 _ _ _ _ _ _ _ (by omega) (fun _=>A9 _ _ _ i a.1) a.2 o
   ·cases h;exact⟨i,b⟩
  |4,_=>
   rw[r7]at h;obtain⟨k,r1,p,j,g⟩:=bV h;have a:=c 6 _ _ _ _ _ _ _ (by omega) (by omega) b j;exact c 5 _ _ _ _ _ _ _ (by omega) (fun _=>a.1) a.2 g
  |5,_=>
   rw[r8]at h;have i:=u (by omega);rcases ifo h with h|h
   ·rcases ifo h with h|h
    ·exact(dc h).elim
    ·rcases ifo h with h|h
     ·exact(dc h).elim
     ·obtain⟨t,x,w,l,o⟩:=bV h;cases dx l;exact c 5 _ _ _ _ _ _ _ (by omega) (fun _=>A8 _ _ _ i) b.shift.tl o
   ·cases h;exact⟨i,b⟩
  |6,_=>
   rw[r9]at h;rcases ifo h with h|h
   ·exact(dc h).elim
   ·rcases ifo h with h|h
    ·obtain⟨k,r1,p,j,g⟩:=bV h;have a:=c 0 _ _ _ _ _ _ _ (by omega) (by omega) b.tl j;rcases ifo g with g|g
     ·cases g;exact⟨a.1,a.2.tl⟩
     ·exact(dc g).elim
    ·rcases ifo h with h|h
     ·cases dx h;exact⟨ww _ _ _ (by simp),b.tl⟩
     ·rcases ifo h with h|h
      ·cases dx h;exact⟨ww _ _ _ (by simp),b.tl⟩
      ·rcases ifo h with h|h
       ·exact c 7 _ _ _ _ _ _ _ (by omega) (by omega) b.tl h
       ·rcases ifo h with h|h
        ·rcases ifo h with h|h
         ·exact(dc h).elim
         ·rcases ifo h with h|h
          ·rcases ifo h with h|h
           ·exact(dc h).elim
           ·rcases ifo h with h|h
            ·exact(dc h).elim
            ·exact c 8 _ _ _ _ _ _ _ (by omega) (by omega) b.tl.tl.tl.tl h
          ·exact c 8 _ _ _ _ _ _ _ (by omega) (by omega) b.tl.tl h
        ·rcases ifo h with h|h
         ·cases dx h;exact⟨ww _ _ _ b.text,b.tl⟩
         ·rcases ifo h with h|h
          ·exact(dc h).elim
          ·rcases ifo h with h|h
           ·rcases ifo h with h|h
            ·exact(dc h).elim
            ·rcases ifo h with h|h
             ·exact(dc h).elim
             ·cases dx h;exact⟨ww _ _ _ (by simp),b.tl.tl.tl⟩
           ·exact(dc h).elim
  |7,_=>
   rw[sa]at h;rcases ifo h with h|h
   ·exact(dc h).elim
   ·rcases ifo h with h|h
    ·exact c 7 _ _ _ _ _ _ _ (by omega) (by omega) b.tl.tl h
    ·exact c 8 _ _ _ _ _ _ _ (by omega) (by omega) b.tl h
  |8,_=>
   rw[sb]at h;rcases ifo h with h|h
   ·obtain⟨k,r1,p,j,g⟩:=bV h;have a:=c 4 _ _ _ _ _ _ _ (by omega) (by omega) b.tl j;cases dx g;exact⟨A8 _ _ _ a.1,a.2⟩
   ·exact(dc h).elim
theorem Cf (E:Nat): ∀(f:Nat) (c:List Ru) (r:List Tk) {L:List Ru},Gd r->(∀u∈c,u.1.length<=20/\NmX u.2)->fH E f c r= .ok L-> ∀u∈L,u.1.length<=20/\NmX u.2
 |0,c,r,L,_,ha,h=>by cases h;exact ha
 |f+1,c,r,L,e,ha,h=>by
  unfold fH at h;split at h
  ·cases h;exact ha
  ·split at h
   ·split at h
    ·cases h
    ·unfold kA at h;split at h
     ·cases h
     ·rename_i b;split at b
      ·cases b
      ·split at b
       ·split at b
        ·cases b
        ·rename_i g;split at b
         ·cases b
         ·split at b
          ·cases b;have a:=Lu E _ 0 _ _ _ _ _ _ _ (by omega) (by omega) e.tl.tl.tl g
           exact Cf E f _ _ a.2.tl (fun u d=>by
            rcases cZ.1 d with d|d
            ·exact ha u d
            ·rw[bJ.1 d];exact⟨e.tl.text,a.1⟩) h
          ·cases b
       ·cases b
   ·cases h
theorem I1 {l:List UInt8}{a:List Tk}{k:Nat}(h:eI l a k):Gd a:=by
 obtain⟨n,c⟩:=h;refine eI.ind (M:=fun a _=>Gd a) (fun p b=>by cases b) ?_ n c;intro a k _ _ _ d p b;rcases cZ.1 b with h|h
 ·exact d p h
 ·rw[show p=(firstT (l.drop k),k) by simpa using h];exact I0 _
theorem kZ.rob {c w:World}{v:Value}{a:List (Ru×Value)}(h:kZ c w v a)(e:a.length<=40)(k:NmR (a.map (fun p=>p.1))):Rob (fun q=>c.heap.size<=q) (fun u=>InR u v a) w:=fun u _ ha=>
 FG (w0:=c) ⟨bH h.own fun b f=>ha b (h.own.lt b f).1 (h.own.lt b f).2,fun p l=>by
  obtain⟨d,i⟩:=h.kids p l;exact⟨d,i.kept fun g j e=>ha g j e⟩⟩ e k
def yi (l:List UInt8):Nat->List Tk->Nat->List Tk×Nat
 |0,a,k=>(a,k)
 |f+1,a,k=>if k<l.length/\(firstT (l.drop k)).err=0 then yi l f (a++[(firstT (l.drop k),k)]) (k+(firstT (l.drop k)).len+eA false (l.drop (k+(firstT (l.drop k)).len))) else(a,k)
def Eg (l:List UInt8):List Tk×Nat:=yi l (l.length+1) [] (0+eA false (l.drop 0))
theorem Eh {l:List UInt8}: ∀(f:Nat) (a:List Tk) (k:Nat),eI l a k->l.length<f+a.length->eI l (yi l f a k).1 (yi l f a k).2/\ ¬((yi l f a k).2<l.length/\(firstT (l.drop (yi l f a k).2)).err=0)
 |0,a,k,h,c=>by have:=h.le;omega
 |f+1,a,k,h,c=>by
  unfold yi;by_cases b:k<l.length/\(firstT (l.drop k)).err=0
  ·rw[ax b];exact Eh f _ _ (h.step b.1 b.2) (by rw[aN];simp;omega)
  ·rw[aw b];exact⟨h,b⟩
theorem Ba {l:List UInt8}{a:List Tk}{k:Nat}(h:eI l a k)(f: ¬(k<l.length/\(firstT (l.drop k)).err=0)):Eg l=(a,k):=by
 obtain⟨d,e⟩:=Eh (l:=l) (l.length+1) [] _ eI.start (by simp);obtain⟨b,c⟩:=sc d h e f;exact Prod.ext b c
def ld (l:List UInt8):Int×List Ru:=
 if 6000<l.length then(4,[]) else
 if(Eg l).2<l.length then((firstT (l.drop (Eg l).2)).err,[]) else
 match fH l.length ((Eg l).1.length+1) [] (Eg l).1 with
 | .error q=>(q.1,[])
 | .ok rs=>(0,rs)
theorem Lv {l:List UInt8}{o w:World}{v:Value}{er at_:Int}(h:mY l o w v er at_):er=(ld l).1/\(er=0-> ∃a,kZ o w v a/\a.length<=40/\a.map (fun p=>p.1)=(ld l).2/\NmR (a.map (fun p=>p.1))):=by
 have nil: ∀(L:List Ru),L=[]->v=af-> ∃a:List (Ru×Value),kZ o w v a/\a.length<=40/\a.map (fun p=>p.1)=L/\NmR (a.map (fun p=>p.1)):=fun L t x=>by
  subst t x;exact⟨[],⟨df _ _ _ _,fun p m=>by cases m⟩,by simp,rfl,fun p m=>by cases m⟩
 rcases h with⟨i,c,b,_⟩|⟨q,k,i,c,b,d,f,g,_⟩|⟨q,k,j,r,i,c,b,d,f,g,_⟩|⟨q,k,a,i,c,b,d,f,g,s,_⟩
 ·have e:ld l=(4,[]):=by unfold ld;rw[ax i]
  rw[e];exact⟨b,fun _=>nil _ rfl c⟩
 ·have e:ld l=((firstT (l.drop k)).err,[]):=by
   unfold ld;rw[aw (by omega),Ba c (fun h=>d h.2),ax b]
  rw[e];exact⟨g,fun _=>nil _ rfl f⟩
 ·have e:ld l=(j,[]):=by
   unfold ld;rw[aw (by omega),Ba c (fun h=>b h.1),aw b,d]
  rw[e];exact⟨g,fun _=>nil _ rfl f⟩
 ·have e:ld l=(0,a.map (fun p=>p.1)):=by
   unfold ld;rw[aw (by omega),Ba c (fun h=>b h.1),aw b,d]
  rw[e];refine⟨s,fun _=>⟨a,g,f,rfl,fun u n=> ?_⟩⟩;obtain⟨z,A,y⟩:=Cf _ _ _ _ (I1 c) (fun u n=>by cases n) d u n;exact⟨by omega,by omega,y⟩
def ib (l:List UInt8):Int×List Ru:=if(ld l).1≠0 then((ld l).1,[]) else((fU (ld l).2).1,(ld l).2)
def OG (l:List UInt8)(w:World)(e:Ending)(a:World):Prop:= ∃c b:Value,e= .returned (.tuple #[c,b,ag (ib l).1])/\ao w a/\((ib l).1=0->(ib l).2.length<=40/\fU (ib l).2=(0,0)/\Rob (fun q=>w.heap.size<=q) (fun u=> ∃d,InR u c d/\d.map (fun p=>p.1)=(ib l).2) a/\ ∀u,oV a u->InV u b (eZ (ib l).2))
theorem Cg {l:List Ru}(h:(fU l).1=0):fU l=(0,0):=by
 unfold fU at h⊢;split
 ·rename_i a;rw[ax a]at h;exact absurd h a
 ·rename_i a;rw[aw a]at h;split
  ·rename_i b;rw[ax b]at h;cases h
  ·rfl
theorem NN {l:List Ru}(h:(dm l).1≠0):(fU l).1=(dm l).1:=by unfold fU;rw[ax h]
theorem oA.below {w a:World}(h:oA w)(b:ao w a):oA a:=fun i hi=>(b.cell (aU (h i hi))).trans (h i hi)
theorem NO {l:List UInt8}{b w:World}{v:Value}{er at_:Int}(h:mY l b w v er at_)(a:er≠0):v=af:=by
 rcases h with⟨_,h,_⟩|⟨_,_,_,_,_,_,h,_⟩|⟨_,_,_,_,_,_,_,_,h,_⟩|⟨_,_,_,_,_,_,_,_,_,h,_⟩
 ·exact h
 ·exact h
 ·exact h
 ·exact absurd h a
theorem I2 {w a:World}(h:Tab w)(b:ao w a):Tab a:=h.later b
theorem Ei (l:List UInt8)(g:l.length<=9223372036854775807)(w:World)(hT:fL w)(hD:oA w)(hB:Tab w):Calls prog 149 #[.string ⟨l.toArray⟩] w (OG l w):=by
 have cP:=uO ⟨l.toArray⟩ l (by simp) g w hT hD;have HB:=aG hB;clear hT hD hB;go_enter func149,ntmps149;go_wp2_with fail;refine cP.mono ?_;rintro e a ⟨⟨v,er,at_,rfl,hp⟩,b1⟩;obtain⟨he,I⟩:=Lv hp;obtain⟨w2,an,b2,n2⟩:=nb a #[ag er,ag at_] 26;have z2:w2.cell? (ae a.heap.size 0)=some (ag er):=cr 0 n2 rfl;have HE:=aG he;have D:=aG I;have ad:=aG b1.size;have A:=aG (au b1 b2);have C:=aG b2
 have a0: ∃p n c,v= .slice p n c:=by
  by_cases y:er=0
  ·obtain⟨s,d,_⟩:=I y;obtain⟨p,c,e⟩:=dy d.own;exact⟨p,_,c,e⟩
  ·exact⟨none,0,0,NO hp y⟩
 obtain⟨Q,P,L,rfl⟩:=a0;clear cP hp he I b1 b2;by_cases y:er=0
 ·subst y;obtain⟨s,d,E,r,al⟩:=D.o rfl;have k:Rob (fun q=>w.heap.size<=q/\q<a.heap.size) (fun u=>InR u (.slice Q P L) s) w2:=Rob.below (fun u J ha=>d.rob E al u J fun q m g=>ha q ⟨m,g⟩ g) C.o;have cK:=vZ s (.slice Q P L) w2 k.here;rw[r]at cK;obtain⟨R,hR⟩:=aq ((ld l).2)
  have x:T4 (ib l=((fU R).1,R)):=by
   show _=_;unfold ib;rw[aw (by rw[<-HE.o];simp),hR]
  rw[hR]at cK r;have Z:=aG k;have ac:=aG r;have aa:T4 (R.length<=40):=(by show _<=_;rw[<-r,bm];exact E);obtain⟨i,G⟩:=aq ((dm R).1);obtain⟨ca,ah⟩:=aq ((dm R).2:Int);rw[G,ah]at cK;have V:=aG G;clear d al k r hR G ah D HE C E;go_wp2_with fail;refine cK.mono ?_;rintro e w3 ⟨rfl,b3⟩;have O:=bt b3 n2;have n4:=aK _ _ _ #[ag i,ag ca] _ _ O;have B:=aG (below_setRow (au A.o b3) ad.o #[ag i,ag ca]);have Y:T4 (Rob (fun q=>w.heap.size<=q/\q<a.heap.size) (fun u=>InR u (.slice Q P L) s) (w3.setRow a.heap.size #[ag i,ag ca])):=(Z.o.below b3).move (by simp) (fun q m _=>aQ _ _ _ _ (by omega)) fun _ _ h=>h;generalize a1:w3.setRow a.heap.size #[ag i,ag ca]=w4 at*;have z4:w4.cell? (ae a.heap.size 0)=some (ag i):=cr 0 n4 rfl;clear cK b3 Z A z2 n2;by_cases h1:i=0
  ·subst h1;have cC:=xq s (.slice Q P L) w4 Y.o.here (I2 HB.o B.o);rw[ac.o]at cC;unfold zY at cC;obtain⟨j,H⟩:=aq ((fU R).1);obtain⟨N,ai⟩:=aq ((fU R).2);rw[H,ai]at cC;have t:=aG H;clear H ai an;go_wp2_with(first|(refine aC rfl 26 _ _ rfl _ _ rfl rfl _ _ O (by kernel_rfl) rfl (by simp[Value.oneCell']) ?_)|fail)
   refine cC.mono ?_;rintro e w5 ⟨vc,rfl,ak,am,b5⟩;have m3:=bt b5 n4;have n6:=aK _ _ _ #[ag j,ag N] _ _ m3;have S:=aG (below_setRow (au B.o b5) ad.o #[ag j,ag N]);have ar:T4 (Rob (fun q=>w.heap.size<=q) (fun u=> ∃s,InR u (.slice Q P L) s/\s.map (fun p=>p.1)=R) (w5.setRow a.heap.size #[ag j,ag N])):=Rob.imp (((Y.o.below b5).move (by simp) (fun q m _=>aQ _ _ _ _ (by omega)) fun _ _ h=>h.1):Rob (fun q=>w.heap.size<=q) (fun u=>InR u (.slice Q P L) s) _) fun u J=>⟨s,J,ac.o⟩
   have av:T4 (∀u,oV (w5.setRow a.heap.size #[ag j,ag N]) u->oV w5 u):=fun u J q c T f m hT=>by
    by_cases e:q=a.heap.size
    ·subst e;rw[m3]at m;injection m with m;injection m with _ m _;subst m;exact absurd hT (by decide)
    ·have:=aQ w5 a.heap.size q #[ag j,ag N] e;rw[<-this];exact J q c T f (this.trans m) hT
   have ay:=aG am;have ap:=aG ak;generalize a5:w5.setRow a.heap.size #[ag j,ag N]=w6 at*;have z6:w6.cell? (ae a.heap.size 0)=some (ag j):=cr 0 n6 rfl;have O:=m3;clear cC ak am b5 z4 n4 m3 a1;by_cases h2:j=0
   ·subst h2;go_wp2_with(refine aC rfl 26 _ _ rfl _ _ rfl rfl _ _ O (by kernel_rfl) rfl (by simp[Value.oneCell']) ?_)
    go_ret3;refine⟨_,_,by rw[x.o,t.o];rfl,S.o,fun _=> ?_⟩;rw[x.o];exact⟨aa.o,Cg t.o,ar.o,fun u J=>ap.o trivial u (av.o u J)⟩
   ·have a4:(j !=0)=true:=(by simpa using h2);have X:=aG h2;have az:=ay.o h2;subst az;clear h2;go_wp2_with(refine aC rfl 26 _ _ rfl _ _ rfl rfl _ _ O (by kernel_rfl) rfl (by simp[Value.oneCell']) ?_)
    refine dH (fun _ _ W=>ao w6 W) [kn 33 (ab a.heap.size 0),kn 34 (ag j),kn 2 (af),kn 3 (af),kn 4 (ag j)] (fun _=>(aF _ _).drew) (fun _ _ _ _ b h=>au h b) (by kernel_rfl) ?_ ?_
    ·rintro M φ W b _ F l g hF;have z:W.cell? (ae a.heap.size 0)=some (ag j):=aj b z6;simp only[kn,d6,aR,a8,Act.put,aD,aJ,aI]at g;subst g;simp only[dz,Nat.reduceAdd]at hF;dsimp only[kn,dK,fo,eD,Act.put];and_intros;all_goals first|exact trivial|intro hw hn hm K hK
     all_goals (go_simp;with_reducible exact hK _ _ ⟨rfl,aF _ _⟩)
    ·rintro M φ W hM b;simp only[kn,ep,aR,a8,Act.put,aD,aJ,aI];clear hM z6;go_wp2_with fail;go_ret3;exact⟨_,_,by rw[x.o,t.o];rfl,au S.o b,fun e=>absurd (by rw[x.o,t.o]at e;exact e) X.o⟩
  ·have a3:(i !=0)=true:=(by simpa using h1)
   have U:T4 ((ib l).1=i):=by
    show _=_;rw[x.o];show(fU R).1=i;rw[NN (by rw[V.o];exact h1),V.o]
   have X:=aG h1;clear h1 an;go_wp2_with(refine aC rfl 26 _ _ rfl _ _ rfl rfl _ _ O (by kernel_rfl) rfl (by simp[Value.oneCell']) ?_)
   refine dH (fun _ _ W=>ao w4 W) [kn 23 (ab a.heap.size 0),kn 24 (ag i),kn 2 (af),kn 3 (af),kn 4 (ag i)] (fun _=>(aF _ _).drew) (fun _ _ _ _ b h=>au h b) (by kernel_rfl) ?_ ?_
   ·rintro M φ W b _ F l g hF;have z:W.cell? (ae a.heap.size 0)=some (ag i):=aj b z4;simp only[kn,d6,aR,a8,Act.put,aD,aJ,aI]at g;subst g;simp only[dz,Nat.reduceAdd]at hF;dsimp only[kn,dK,fo,eD,Act.put];and_intros;all_goals first|exact trivial|intro hw hn hm K hK
    all_goals (go_simp;with_reducible exact hK _ _ ⟨rfl,aF _ _⟩)
   ·rintro M φ W hM b;simp only[kn,ep,aR,a8,Act.put,aD,aJ,aI];clear hM z4;go_wp2_with fail;go_ret3;exact⟨_,_,by rw[U.o];rfl,au B.o b,fun e=>absurd (by rw[U.o]at e;exact e) X.o⟩
 ·have a2:(er !=0)=true:=by simpa using y
  have x:T4 (ib l=(er,[])):=by
   show _=_;unfold ib;rw[ax (by rw[<-HE.o];exact y),HE.o]
  have X:=aG y;clear y D C n2;go_upto_region 3 with fail;refine dH (fun _ _ W=>ao w2 W) [kn 16 (ab a.heap.size 0),kn 17 (ag er),kn 2 (af),kn 3 (af),kn 4 (ag er)] (fun _=>(aF _ _).drew) (fun _ _ _ _ b h=>au h b) (by kernel_rfl) ?_ ?_
  ·rintro M φ W b _ F l g hF;have z:W.cell? (ae a.heap.size 0)=some (ag er):=aj b z2;simp only[kn,d6,aR,a8,Act.put,aD,aJ,aI]at g;subst g;simp only[dz,Nat.reduceAdd]at hF;dsimp only[kn,dK,fo,eD,Act.put];and_intros;all_goals first|exact trivial|intro hw hn hm K hK
   all_goals (go_simp;with_reducible exact hK _ _ ⟨rfl,aF _ _⟩)
  ·rintro M φ W hM b;simp only[kn,ep,aR,a8,Act.put,aD,aJ,aI];clear hM z2;go_wp2_with fail;go_ret3;exact⟨_,_,by rw[x.o];rfl,au A.o b,fun e=>absurd (by rw[x.o]at e;exact e) X.o⟩
section
def Cor (d a:Dk):Prop:= ∃k r,a={d with kept:=k,runs:=r}
theorem Cor.refl (d:Dk):Cor d d:=⟨d.kept,d.runs,rfl⟩
theorem Cor.trans {a b c:Dk}(h:Cor a b)(d:Cor b c):Cor a c:=by
 obtain⟨k,r,rfl⟩:=h;obtain⟨e,f,rfl⟩:=d;exact⟨e,f,rfl⟩
theorem ue (d:Dk)(r day:Int):Cor d (gY d r day).2:=by
 unfold gY;dsimp only;split
 ·exact Cor.refl d
 ·exact⟨_,_,rfl⟩
theorem yj {f:Int->Dk->Bool×Dk}(a: ∀x d,Cor d (f x d).2): ∀(l:List Int) (d:Dk),Cor d (kI f l d).2
 |[],d=>Cor.refl d
 |x::l,d=>by
  unfold kI;split
  ·exact a x d
  ·exact(a x d).trans (yj a l _)
def Tr.ad (t:Tr)(L:List Nat):Tr:={t with xs:=L++t.xs}
section
variable {B gD:Nat} {d:Dk} {t:Tr} {w w':World}
theorem Kd.ad {L:List Nat}(h:Kd gD t t w w'):Kd gD (t.ad L) (t.ad L) w w':=⟨h.os,h.tape,h.output,h.size,h.blk,fun _ _ h=>h,rfl⟩
theorem Kd.un {L:List Nat}(h:Kd gD (t.ad L) (t.ad L) w w'):Kd gD t t w w':=⟨h.os,h.tape,h.output,h.size,h.blk,fun _ _ h=>h,rfl⟩
theorem dS.drop {L:List Nat}(h:dS B gD d (t.ad L) w):dS B gD d t w:=by
 obtain⟨f,j,e,l,kv,k,c,h⟩:=h;have mv: ∀{Φ:World->Prop},Rob (Fx gD (t.ad L)) Φ w->Rob (Fx gD t) Φ w:=fun g=>g.move (aA _) (fun _ _ _=>rfl) fun q _ a=>⟨a.1,fun i=>a.2 (fb _ i)⟩
 exact⟨f,j,e,l,kv,k,c,h.blk,h.lo,mv h.rules,mv h.codes,mv h.vers,mv h.kept,h.res,h.svs,h.sve,fun p b=>mv (h.svr p b),h.aps,h.ape,fun p b=>mv (h.apr p b),fun q a=>h.nx q (fb _ a)⟩
theorem dS.grown {L:List Nat}(h:dS B gD d (t.ad L) w){v j:Value}{l e size n m:Nat}{xs ys:List Value}(_:w.ownsRow l e size v n xs)(G: ∀b,v.ownBlock=some b->b∈L)(y:w.grownBy w' v.ownBlock)(D:w'.ownsRow l e size j m ys)(O:j.ownBlock=v.ownBlock\/j.ownBlock=some w.heap.size): ∃g,dS B gD d (t.ad g) w'/\(∀b,j.ownBlock=some b->b∈g)/\(∀b∈g,b∈L\/(b=w.heap.size/\j.ownBlock=some b))/\ ∀Φ:World->Prop,Rob (Fx gD (t.ad L)) Φ w->Rob (Fx gD (t.ad g)) Φ w':=by
 obtain⟨K,P,J,R,kv,Q,I,h⟩:=h;have C:=aH h.blk;have ne: ∀q,q<w.heap.size->q∉L->w'.heap[q]? =w.heap[q]? :=fun q z a=>y.block q z fun e=>a (G q e.symm)
 have mv: ∀g:List Nat,(∀q,q∈g↔q∈L\/(j.ownBlock=some q/\q=w.heap.size))-> ∀Φ:World->Prop,Rob (Fx gD (t.ad L)) Φ w->Rob (Fx gD (t.ad g)) Φ w':=fun g k Φ M=>M.move y.size (fun q a z=>ne q z fun f=>a.2 (fO _ f)) fun q z a=>⟨a.1,fun f=>by
  rcases cZ.1 f with f|f
  ·rcases(k q).1 f with f|⟨_,f⟩
   ·exact a.2 (fO _ f)
   ·omega
  ·exact a.2 (fb _ f)⟩
 have r: ∀g:List Nat,(∀q,q∈g↔q∈L\/(j.ownBlock=some q/\q=w.heap.size))->dS B gD d (t.ad g) w':=fun g k=>by
  have mv:= @mv g k;have x: ∀q∈L,q<w.heap.size/\B<=q/\q≠gD/\some q≠t.ev.ownBlock/\some q≠t.sv.ownBlock/\some q≠t.av.ownBlock:=fun q a=>h.nx q (fO _ a);have rk: ∀{e s n:Nat} {u:Value} {xs:List Value},w.ownsRow B e s u n xs->(∀q∈L,some q≠u.ownBlock)->w'.ownsRow B e s u n xs:=fun H N=>bH H fun b i=>ne b (H.lt b i).2 fun f=>N b f i.symm;refine⟨K,P,J,R,kv,Q,I,(ne gD C fun f=>(x gD f).2.2.1 rfl).trans h.blk,h.lo,mv _ h.rules,mv _ h.codes,mv _ h.vers,mv _ h.kept,rk h.res fun q a=>(x q a).2.2.2.1,rk h.svs fun q a=>(x q a).2.2.2.2.1,h.sve,fun p E=>mv _ (h.svr p E),rk h.aps fun q a=>(x q a).2.2.2.2.2,h.ape,fun p E=>mv _ (h.apr p E),fun q a=> ?_⟩;rcases cZ.1 a with a|a
  ·rcases(k q).1 a with a|⟨A,F⟩
   ·have:=x q a;exact⟨aT this.1 y.size,this.2⟩
   ·have:=h.lo;exact⟨(D.lt q A).2,by omega,by omega,mD h.res (.inr (by omega)),mD h.svs (.inr (by omega)),mD h.aps (.inr (by omega))⟩
  ·have:=h.nx q (fb _ a);exact⟨aT this.1 y.size,this.2⟩
 by_cases o:j.ownBlock=some w.heap.size
 ·have c: ∀q,q∈w.heap.size::L↔q∈L\/(j.ownBlock=some q/\q=w.heap.size):=fun q=>by
   rw[bv,o];constructor
   ·rintro(rfl|h)
    ·exact .inr ⟨rfl,rfl⟩
    ·exact .inl h
   ·rintro(h|⟨_,h⟩)
    ·exact .inr h
    ·exact .inl h
  refine⟨w.heap.size::L,r _ c,fun b i=> ?_,fun b i=> ?_,mv _ c⟩
  ·rw[o]at i;rw[<-ay i];exact aV
  ·rcases bv.1 i with h|h
   ·exact .inr ⟨h,by rw[h];exact o⟩
   ·exact .inl h
 ·have e:=O.resolve_right o;have c: ∀q,q∈L↔q∈L\/(j.ownBlock=some q/\q=w.heap.size):=fun q=>⟨.inl,fun h=>h.elim id fun⟨A,F⟩=>absurd (by rw[A,F]) o⟩
  exact⟨L,r L c,fun b i=>G b (by rw[<-e];exact i),fun b i=> .inl i,mv L c⟩
end
theorem FH {l:List Ap}{j:Nat}{a:Ap}(d:Dk)(h:l[j]? =some a):fg (l.drop j) j d=if a.st=3 then fg (l.drop (j+1)) (j+1) d else(if(kI (lx a.day a.fr a.to) a.who d).1=true then(j:Int)::(fg (l.drop (j+1)) (j+1) (kI (lx a.day a.fr a.to) a.who d).2).1 else(fg (l.drop (j+1)) (j+1) (kI (lx a.day a.fr a.to) a.who d).2).1,(fg (l.drop (j+1)) (j+1) (kI (lx a.day a.fr a.to) a.who d).2).2):=by
 obtain⟨b,c⟩:=aE.1 h;rw[bG b,c];rfl
section
variable {B gD:Nat} {d:Dk} {t:Tr}
theorem I3 (w:World)(h:dS B gD d t w):Calls prog 151 #[ab gD 0] w fun e w'=> ∃lv,e= .returned lv/\dS B gD (fg d.aps 0 d).2 t w'/\Kd gD t t w w'/\w'.ownsRow w.heap.size 3 1 lv (fg d.aps 0 d).1.length (dt (fg d.aps 0 d).1):=by
 obtain⟨wA,hA,bA,nA⟩:=nb w #[ab gD 0] 190;have au:=h.below bA;have H0:=aG h;have aB:=aG au;obtain⟨ah,aR⟩:=au;obtain⟨rv,cv,vv,kv,ss,aa,hm⟩:=aR;have a0:aa.length=d.aps.length:=by rw[<-hm.ape,bm]
 obtain⟨n,hn⟩:=aq d.aps.length;have HN:=aG hn;obtain⟨pa,ca,H⟩:=dy hm.aps;rw[a0,hn]at H;have z3:wA.cell? (ae gD 3)=some t.av:=cr 3 hm.blk rfl;rw[H]at z3;have aV:n<=30:=by rw[<-hn];exact ah.al
 have a5:=aG H;have a6:=aG bA;have aO:=aG ah;have z1:=cr 0 nA rfl;have ai:w.heap.size<=wA.heap.size:=bA.size;have HG:T4 (∀q,w.heap.size<=q->Gx gD t q):=fun q F=>(H0.o.fx (.inr F)).1;have eF: ∀M w,(callFunc 188 M).run prog w= .ok (.enter 188 M) w:=fun _ _=>rfl;clear h hm a0 hn H ah bA;go_enter func151,ntmps151;go_wp2_with fail;clear z3 hA z1;go_loopw [3,4,5,6,13] (fun v _ _ _ q wr=> ∃(j:Nat) (u:Dk) (l:List Int) (L:List Nat),q=ag (j:Int)/\j<=n/\Cor d u/\dS B gD u (t.ad L) wr/\(∀b,v.ownBlock=some b->b∈L)/\Kd gD t t wA wr/\wr.ownsRow wA.heap.size 3 1 v l.length (dt l)/\l.length<=j/\fg d.aps 0 d=(l++(fg (d.aps.drop j) j u).1,(fg (d.aps.drop j) j u).2)) (fun _ _ _ _ q _=>n-(intOf q).toNat);case atStart=>exact⟨0,d,[],[],rfl,by omega,Cor.refl d,aB.o,(fun b hb=>by cases hb),Kd.of (aF _ _),df _ _ _ _,aA _,rfl⟩
 case round=>
  obtain⟨j,u,l,L,rfl,hj,y,hd,T,hk,f,aZ,hX⟩:=hrel;have aY:(0:Int)<=(j:Int):=(by omega);have C:u.aps=d.aps:=(by obtain⟨_,_,rfl⟩:=y;rfl);have ao:u.res=d.res:=(by obtain⟨_,_,rfl⟩:=y;rfl);by_cases aS:j<n
  ·have ay:(j:Int)<(n:Int):=(by omega);obtain⟨a,pw,cw,ga,aP,ha,a2,_,z,O⟩:=DkM.ap hd.2 (j:=j) (by rw[C,HN.o];exact aS);rw[C]at ha;have e0:Value.slice pa n ca= .slice (some (ae ga 0)) n aP:=(by rw[<-a5.o,<-HN.o,<-C];exact a2);injection e0 with e1 e3 e2;subst e1 e2;rw[FH u ha]at hX;have E:=(aO.o.ap a (aL ha)).2.2.2.2.2.2;obtain⟨wZ,wB,hZ,nZ,hB,bB,nB⟩:=nbs wr apZ (apC (a,.slice pw a.who.length cw)) 197;unfold apZ at hZ nZ;have y0:wB.cell? (ae wr.heap.size 0)=some (ag a.st):=cr 0 nB rfl;have a4:wB.cell? (ae wr.heap.size 10)=some (.slice pw a.who.length cw):=cr 10 nB rfl;have V:=hd.below bB;have Z:=hk.trans (Kd.of bB);have D:=bH f fun b F=>bB.block b (f.lt b F).2;have aj:w.heap.size<=wr.heap.size:=bh ai hk.size
   have cC:=uC (lx a.day a.fr a.to) (fun s W=>dS B gD s (t.ad L) W/\Kd gD t t wB W/\Cor d s) 188 #[ab w.heap.size 0,ab wr.heap.size 0] a.who (.slice pw a.who.length cw) u wB eF ⟨V,Kd.of (aF _ _),y⟩ (fun s W N=>(N.2.1.ad.rob (O.below bB)).here) (fun x hx s W N=>by
    have h1:=N.2.1.blk w.heap.size (HG.o _ (aA _));have h2:=N.2.1.blk wr.heap.size (HG.o _ aj);have a3:=(Z.blk w.heap.size (HG.o _ (aA _)) (aH nA)).trans nA;have aU:s.res=d.res:=(by obtain⟨_,_,rfl⟩:=N.2.2;rfl);refine(Ln W N.1 (E x hx).1 (by rw[aU];exact(E x hx).2) ((h1 (aH a3)).trans a3) ((h2 (aH nB)).trans nB) (HG.o _ aj) (HG.o _ (aA _))).mono fun e w' hh=>⟨hh.1,hh.2.1,N.2.1.trans hh.2.2.un,N.2.2.trans (ue s x a.day)⟩)
   have K:=aG hX;have A:=aG D;have Q:=aG Z;have aD:=aG V;have a7:=aG y;have R:=aG T;obtain⟨st,a1⟩:=aq a.st;rw[a1]at y0 K;obtain⟨nw,ac⟩:=aq a.who.length;rw[ac]at a4 cC;have aW:=aG ac;have S:=aG z;clear T hX a1 e3 a2 O f hd V hk Z y C ao D ha E aj ac;by_cases h3:st=3
   ·subst h3;have HY:=aG (K.o.trans (by rw[ax rfl]));clear K cC;have z:=S.o;go_wp2_with(first|(refine wpList_load_mid rfl 197 _ rfl ga (j*11) rfl (apC (a,.slice pw a.who.length cw)).toList _ z apT rfl (by kernel_rfl) ?_)|(refine aC rfl 197 _ _ rfl _ _ rfl rfl _ _ nZ (by kernel_rfl) rfl (re _ _ _ _) ?_;rw[hB]))
    go_roundw;case rel=>exact⟨j+1,u,l,L,by go_num,by omega,a7.o,aD.o,R.o,Q.o,A.o,by omega,HY.o⟩
    case measure=>simp[intOf];omega
   ·have aX:(st !=3)=true:=(by simpa using h3);obtain⟨bb,U⟩:=aq ((kI (lx a.day a.fr a.to) a.who u).1);obtain⟨G,X⟩:=aq ((kI (lx a.day a.fr a.to) a.who u).2);rw[U,X]at cC
    have HY:T4 (fg d.aps 0 d=(l++(if bb=true then(j:Int)::(fg (d.aps.drop (j+1)) (j+1) G).1 else(fg (d.aps.drop (j+1)) (j+1) G).1),(fg (d.aps.drop (j+1)) (j+1) G).2)):=by
     show _=_;have:=K.o;rw[aw h3,U,X]at this;exact this
    have z:=S.o;clear K U X h3;go_wp2_with(first|(refine wpList_load_mid rfl 197 _ rfl ga (j*11) rfl (apC (a,.slice pw a.who.length cw)).toList _ z apT rfl (by kernel_rfl) ?_)|(refine aC rfl 197 _ _ rfl _ _ rfl rfl _ _ nZ (by kernel_rfl) rfl (re _ _ _ _) ?_;rw[hB]))
    refine cC.mono ?_;rintro e w1 ⟨rfl,I,Y,p⟩;have r:=Q.o.trans Y;have k:=bH A.o fun b F=>Y.blk b (HG.o b (bh ai (A.o.lt b F).1)) (A.o.lt b F).2;clear cC y0 a4 nB nZ hB hZ z S Y A Q;cases bb with
    |false=>
     have a8:=aG I;have aE:=aG r;have aK:=aG k;have P:=aG p;have HZ:T4 (fg d.aps 0 d=(l++(fg (d.aps.drop (j+1)) (j+1) G).1,(fg (d.aps.drop (j+1)) (j+1) G).2)):=HY.o;clear I r k p HY;go_wp2_with fail;go_roundw;case rel=>exact⟨j+1,G,l,L,by go_num,by omega,P.o,a8.o,R.o,aE.o,aK.o,by omega,HZ.o⟩
     case measure=>simp[intOf];omega
    |true=>
     obtain⟨wC,hC,bC,nC⟩:=nb w1 #[ag (j:Int)] 3;have J:=bH k fun b F=>bC.block b (k.lt b F).2;have i:=aG (r.trans (Kd.of bC));have ak:=aG (I.below bC);have P:=aG p;have aQ:wA.heap.size<=wC.heap.size:=i.o.size
     have HZ:T4 (fg d.aps 0 d=((l++[(j:Int)])++(fg (d.aps.drop (j+1)) (j+1) G).1,(fg (d.aps.drop (j+1)) (j+1) G).2)):=by
      show _=_;rw[HY.o,dw];rfl
     clear I r k p HY bC;go_wp2_with(at_builtin;refine iT rfl _ _ 43 3 rfl tX pF rfl (by decide) (by decide) rfl J rfl nC rfl (by simp[Value.oneCell']) (by omega) aQ ?_)
     rintro v2 w2 af m an g2 c2 rfl;obtain⟨L',ar,am,_,_⟩:=ak.o.grown J R.o m af an;have az:Kd gD t t wA w2:=⟨m.os.trans i.o.os,m.tape.trans i.o.tape,m.output.trans i.o.output,bh i.o.size m.size,fun q F hl=>(m.block q (aT hl i.o.size) (fun e=>by have:=(J.lt q e.symm).1;omega)).trans (i.o.blk q F hl),fun _ _ h=>h,rfl⟩
     have a9:=aG ar;have aJ:=aG am;have aI:=aG az
     have aM:T4 (w2.ownsRow wA.heap.size 3 1 (.slice (some (ae g2 0)) (l.length+1) c2) (l++[(j:Int)]).length (dt (l++[(j:Int)]))):=by
      show World.ownsRow _ _ _ _ _ _ _;rw[lQ,aN];exact af
     clear J af m an nC hC ar am az ak i;go_wp2_with fail;go_roundw;case rel=>exact⟨j+1,G,l++[(j:Int)],L',by go_num,by omega,P.o,a9.o,aJ.o,aI.o,aM.o,by rw[aN];simp;omega,HZ.o⟩
     case measure=>simp[intOf];omega
  ·have ay: ¬(j:Int)<(n:Int):=(by omega);obtain rfl:n=j:=(by omega);rw[dn (by rw[HN.o];exact aA _)]at hX
   have K:T4 (fg d.aps 0 d=(l,u)):=by
    show _=_;rw[hX];simp[fg]
   have HD:=aG hd.drop;have HK:=aG ((Kd.of a6.o).trans hk);have HO:T4 (wr.ownsRow w.heap.size 3 1 u3 l.length (dt l)):=⟨f.1,f.2.imp id fun⟨g,c,cu,q1,q2,q3⟩=>⟨g,c,cu,q1,bh ai q2,q3⟩⟩
   clear hX hd hk f y C ao T;go_wp2_with fail;go_ret;exact⟨_,rfl,by rw[K.o];exact HD.o,HK.o,by rw[K.o];exact HO.o⟩
end
end
end Go.Proofs.YtpdoienkhgnceaaGreatDoor
