/- Texts of the proof. -/
import Derived.Test.YtlkehieagdkgiaaGreatDoorPe29
set_option maxRecDepth 100000
set_option maxHeartbeats 8000000
namespace Go.Proofs.YtlkehieagdkgiaaGreatDoor
open Go.Proofs.Tryz Go.RowKit Lx Vx Mx Msk
section
theorem NT {l:List Ru}{r x:Int}(h:x∈gK l r): ∃k:Nat,x=(k:Int)/\k<l.length:=by
 unfold gK at h;split at h
 ·cases h
 ·obtain⟨k,a,rfl⟩:=dR.1 h;exact⟨k,rfl,jn.1 (List.mem_filter.1 a).1⟩
theorem Bi (f:Int->Bool): ∀l:List Int,(jt (fun x (s:Unit)=>(f x,s)) l ()).1=l.any f
 |[]=>rfl
 |x::l=>by
  unfold jt;rw[List.any_cons];cases h:f x with
  |true=>simp
  |false=>simpa using Bi f l
def uQ (d:Dk)(l:List Ru)(i:Nat):Int:=if ju d.rules l (i:Int)=true\/(gK l (i:Int)).any (ju d.rules l)=true then d.given else d.vers.getD i 0
def oN (d:Dk)(l:List Ru):List Int:=(List.range l.length).map (uQ d l)
theorem uR (d:Dk){l:List Ru}{j:Nat}(a:j<l.length):(oN d l).take (j+1)=(oN d l).take j++[uQ d l j]:=by
 unfold oN;rw[eX,a8,List.getElem?_range a];rfl
section
variable {B gD:Nat} {d:Dk} {t:Tr}
theorem Lu {v2:Value}{R:List (Ru×Value)}(w:World)(h:dE B gD d t w)(hu:InR w v2 R)(hl:R.length<=1000):Calls prog 60 #[ab gD 0,v2] w fun e w'=> ∃v',e= .returned v'/\w'.ownsRow w.heap.size 3 1 v' R.length (dz (oN d (R.map (fun p=>p.1))))/\aq w w':=by
 obtain⟨pn,cn,rfl⟩:=hu.form;obtain⟨wA,hA,bA,nA⟩:=nb w #[ab gD 0] 99;obtain⟨wB,a5,bB,nB⟩:=nb wA #[.slice pn R.length cn] 24;have M:=aw bA bB;have Q:=bt bB nA;obtain⟨z,N⟩:=au (R.map (fun p=>p.1));have Z:z.length=R.length:=by rw[<-N,bc]
 have HD:=aE (h.below M);have HU:=aE (hu.below M);obtain⟨n,hn⟩:=au R.length;have HL:=aE (Z.trans hn);rw[hn]at a5 nB hl Z;rw[N,hn];have HX:=aE N;have HN:=aE hn;have HB:=aE M;have aC:(n:Int)<=1000:=by omega
 have z1:=cr 0 Q rfl;have z2:=cr 0 nB rfl;obtain⟨al,rv,cv,vv,kv,ss,aa,hm⟩:=HD.o;have z6:=cr 6 hm.blk rfl;have z5:=cr 5 hm.blk rfl;obtain⟨pv,a9,rfl,a4,an⟩:=hm.vers.here;obtain⟨nv,P⟩:=au d.vers.length;rw[P]at z5;have HV:=aE an;have ar:=aE (P.symm.trans al.vl);have ap:=aE P;have eF: ∀S w,(callFunc 102 S).run prog w= .ok (.enter 102 S) w:=fun _ _=>rfl;clear h hu N Z hn bA bB M nA hm al an a4 P;go_enter func60,ntmps60;go_wp2_with fail;go_loopw [6,7,8,12] (fun v _ _ q wr=> ∃j:Nat,q=ag (j:Int)/\j<=n/\aq wB wr/\wr.ownsRow wB.heap.size 3 1 v j (dz ((oN d z).take j))) (fun _ _ _ q _=>n-(intOf q).toNat);case atStart=>exact⟨0,rfl,by omega,aH _ _,dp _ _ _ _⟩
 case round=>
  obtain⟨j,rfl,hj,r,A⟩:=hrel;have aA:(0:Int)<=(j:Int):=(by omega);by_cases O:j<n
  ·have ak:(j:Int)<(n:Int):=(by omega);have y1:=cr 0 (bt r Q) rfl;have y2:=cr 0 (bt r nB) rfl;have y6:=aj r z6;have y5:=aj r z5
   have cN: ∀(k:Nat) (W:World),k<n->aq wB W->Calls prog 102 #[ag (k:Int),ab w.heap.size 0,ab wA.heap.size 0] W fun e w'=>e= .returned (.bool (ju d.rules z (k:Int)))/\aq W w':=fun k W J K=>by
    rw[<-HX.o];have hU:=HU.o.below K;exact Jn W (HD.o.below K) hU (by rw[HN.o];exact J) (bt K Q) (by rw[HN.o];exact bt K nB)
   have c1:=cN j wr O r;have Y:=aE cN;obtain⟨b1,f⟩:=au (ju d.rules z (j:Int));rw[f]at c1;have X:=aE f;have ao:=aE r;have l:=aE A;clear cN f r A;go_wp2_with fail;refine c1.mono ?_;rintro e w1 ⟨rfl,f⟩;have F:=aw ao.o f;cases b1 with
   |true=>
    have I:=aE f;clear c1 f Y
    have C:Rb (uQ d z j=d.given):=by
     show _=_;unfold uQ;rw[aB (.inl X.o)]
    obtain⟨wC,hC,D,V⟩:=nb w1 #[ag d.given] 3;have a:=aw F D;have i:=br l.o fun b T=>(show wC.heap[b]? =wr.heap[b]? from(D.block b (aU (l.o.lt b T).2 I.o.size)).trans (I.o.block b (l.o.lt b T).2))
    clear D I y5;go_wp2_with(at_builtin;refine iN rfl _ _ 37 3 rfl ro o6 rfl (by decide) (by decide) rfl i rfl V rfl (by simp[Value.oneCell']) (by omega) a.size ?_)
    rintro v2 w2 y u _ g2 c2 rfl;have m:=a.grown u a.size (fun k J=>(i.lt k J).1)
    have HO:Rb (w2.ownsRow wB.heap.size 3 1 (.slice (some (ae g2 0)) (j+1) c2) (j+1) (dz ((oN d z).take (j+1)))):=by
     show World.ownsRow _ _ _ _ _ _ _;rw[uR d (by rw[HL.o];exact O),C.o,lE];exact y
    clear i y u a V hC;go_wp2_with fail;go_roundw;case rel=>exact⟨j+1,by go_num,by omega,m,HO.o⟩
    case measure=>simp[intOf];omega
   |false=>
    have a6:=aj f y2;have a7:=aj f y6;have ac:=aj f y5;have cU:=KI R (.slice pn n cn) (j:Int) w1 (by have:=HU.o.below F;rw[HN.o]at this;exact this);rw[HX.o]at cU;have af:=aE f;clear c1 f y1 y2 y5 y6;go_wp2_with fail;refine cU.mono ?_;rintro e w3 ⟨v3,rfl,am,L⟩;have G:=aw F L;have ah:=aE (aw af.o L)
    have cC:=qi (fun x (s:Unit)=>(ju d.rules z x,s)) (fun _ W=>aq w3 W) 102 #[ab w.heap.size 0,ab wA.heap.size 0] (gK z (j:Int)) v3 () w3 eF (aH _ _) (fun _ W K=>am.below K) (fun x hx _ W K=>by
     obtain⟨k,rfl,J⟩:=NT hx;rw[HL.o]at J;exact(Y.o k W J (aw G K)).mono fun e w' hh=>⟨hh.1,aw K hh.2⟩)
    rw[Bi]at cC;obtain⟨p3,c3,rfl,a2,a3⟩:=am;obtain⟨b2,m⟩:=au ((gK z (j:Int)).any (ju d.rules z));rw[m]at cC;have ad:=aE m;have x5:=(L.cell (cZ ac)).trans ac;have x1:=cr 0 (bt G Q) rfl;clear cU a2 a3 m L a6 a7 ac af Y;go_wp2_with fail;refine cC.mono ?_;rintro e w4 ⟨rfl,E⟩;have H:=aw G E;have I:=aE (aw ah.o E);have u5:=aj E x5;have u1:=aj E x1;clear cC E ah x5 x1;cases b2 with
    |true=>
     have C:Rb (uQ d z j=d.given):=by
      show _=_;unfold uQ;rw[aB (.inr ad.o)]
     obtain⟨wC,hC,D,V⟩:=nb w4 #[ag d.given] 3;have a:=aw H D;have i:=br l.o fun b T=>(show wC.heap[b]? =wr.heap[b]? from(D.block b (aU (l.o.lt b T).2 I.o.size)).trans (I.o.block b (l.o.lt b T).2))
     clear D I u5 u1;go_wp2_with(at_builtin;refine iN rfl _ _ 37 3 rfl ro o6 rfl (by decide) (by decide) rfl i rfl V rfl (by simp[Value.oneCell']) (by omega) a.size ?_)
     rintro v2 w2 y u _ g2 c2 rfl;have m:=a.grown u a.size (fun k J=>(i.lt k J).1)
     have HO:Rb (w2.ownsRow wB.heap.size 3 1 (.slice (some (ae g2 0)) (j+1) c2) (j+1) (dz ((oN d z).take (j+1)))):=by
      show World.ownsRow _ _ _ _ _ _ _;rw[uR d (by rw[HL.o];exact O),C.o,lE];exact y
     clear i y u a V hC;go_wp2_with fail;go_roundw;case rel=>exact⟨j+1,by go_num,by omega,m,HO.o⟩
     case measure=>simp[intOf];omega
    |false=>
     have a0:j<nv:=by
      apply d7;intro hc;have h1:=X.o;have h2:d.rules[j]? =none:=eO (by have:=ar.o;omega);unfold ju at h1;rw[dj,h2]at h1;cases h1
     have a8:(j:Int)<(nv:Int):=(by omega);obtain⟨x,hx⟩: ∃x,d.vers[j]? =some x:=⟨d.vers[j]'(by have:=ap.o;omega),ay _⟩
     obtain⟨gv,ov,a1,ai⟩:=HV.o j x hx;subst a1;have uv:=aj H ai;have av:=aE hx;clear ai hx a0
     have C:Rb (uQ d z j=x):=by
      show _=_;unfold uQ;rw[ax (by rw[X.o,ad.o];simp)];simp[List.getD,av.o]
     obtain⟨wC,hC,D,V⟩:=nb w4 #[ag x] 3;have a:=aw H D;have i:=br l.o fun b T=>(show wC.heap[b]? =wr.heap[b]? from(D.block b (aU (l.o.lt b T).2 I.o.size)).trans (I.o.block b (l.o.lt b T).2))
     clear D I;go_wp2_with(at_builtin;refine iN rfl _ _ 37 3 rfl ro o6 rfl (by decide) (by decide) rfl i rfl V rfl (by simp[Value.oneCell']) (by omega) a.size ?_)
     rintro v2 w2 y u _ g2 c2 rfl;have m:=a.grown u a.size (fun k J=>(i.lt k J).1)
     have HO:Rb (w2.ownsRow wB.heap.size 3 1 (.slice (some (ae g2 0)) (j+1) c2) (j+1) (dz ((oN d z).take (j+1)))):=by
      show World.ownsRow _ _ _ _ _ _ _;rw[uR d (by rw[HL.o];exact O),C.o,lE];exact y
     clear i y u a V hC;go_wp2_with fail;go_roundw;case rel=>exact⟨j+1,by go_num,by omega,m,HO.o⟩
     case measure=>simp[intOf];omega
  ·have ak: ¬(j:Int)<(n:Int):=(by omega);obtain rfl:n=j:=(by omega);have az:=aw HB.o r
   have U:wr.ownsRow w.heap.size 3 1 u6 n (dz (oN d z)):=by
    rw[dh (by unfold oN;rw[bc,List.length_range,HL.o];exact aD _)]at A;exact⟨A.1,A.2.imp id fun⟨g,c,cu,q1,q2,q3⟩=>⟨g,c,cu,q1,bg HB.o.size q2,q3⟩⟩
   have HR:=aE U;clear A U;go_wp2_with fail;go_ret;exact⟨_,rfl,HR.o,az⟩
end
end
def NmK:Nat->List Ex->Prop
 |0,_=>True
 |d+1,a=> ∀(j:Nat) (k:Ex),a[j]? =some k->k.name.length<=9223372036854775807/\NmK d k.kids
theorem E2: ∀d,NmK d []
 |0=>trivial
 |d+1=>fun j k h=>by simp at h
theorem Da {k:Ex}{a:List Ex}(b:k.name.length<=9223372036854775807)(c: ∀d,NmK d k.kids)(e: ∀d,NmK d a): ∀d,NmK d (k::a)
 |0=>trivial
 |d+1=>fun j q h=>by
  cases j with
  |zero=>
   simp at h;subst h;exact⟨b,c d⟩
  |succ j=>exact e (d+1) j q (by simpa using h)
theorem wm {B:Nat->Prop}: ∀{d:Nat} {w:World} {sl:Value} {a:List Ex},dG B d w sl a->NmK d a->fP (fun k=>k<w.heap.size) d w sl a
 |0,_,_,_,h,_=>h
 |d+1,w,sl,a,h,t=>by
  rcases h with h|⟨g,o,c,A,m,s,i⟩
  ·exact .inl h
  ·by_cases e:a=[]
   ·subst e;exact .inl ⟨rfl,_,c,m⟩
   ·obtain⟨k0,b⟩: ∃k,a[0]? =some k:=by
     cases a with
     |nil=>exact absurd rfl e
     |cons x l=>exact⟨x,rfl⟩
    obtain⟨_,y,_⟩:=i 0 k0 b;refine .inr ⟨g,o,c,cZ y,m,s,fun j k f=> ?_⟩;obtain⟨z,c0,c1,n,p,q,r⟩:=i j k f;obtain⟨u,v⟩:=t j k f;exact⟨u,z,c0,c1,n,p,q,wm r v⟩
def NmR (L:List Ru):Prop:= ∀p∈L,p.1.length<=9223372036854775807/\p.2.name.length<=9223372036854775807/\ ∀d,NmK d p.2.kids
theorem Eb {w0 w:World}{v:Value}{a:List (Ru×Value)}(h:mR w0 w v a)(j:a.length<=40)(e:NmR (a.map (fun p=>p.1))):InR w v a:=by
 refine⟨Ci h.own (by omega),by omega,fun p b=> ?_⟩;obtain⟨d,c⟩:=h.kids p b;obtain⟨f,g,i⟩:=e p.1 (dR.2 ⟨p,b,rfl⟩);exact⟨f,g,d,wm c (i d)⟩
theorem GG (l:List UInt8):(firstT l).text.length<=20:=by
 unfold firstT lz pE mO kW ku bad;repeat' split
 all_goals simp
 all_goals omega
def NmX (e:Ex):Prop:=e.name.length<=20/\ ∀d,NmK d e.kids
theorem vM (k a b:Int){x:List UInt8}(h:x.length<=20):NmX ⟨k,a,b,x,[]⟩:=⟨h,E2⟩
theorem Ae (k a b:Int){t:Ex}(h:NmX t):NmX ⟨k,a,b,[],[t]⟩:=⟨by simp,Da (by have:=h.1;omega) h.2 E2⟩
theorem Af (k a b:Int){s t:Ex}(h:NmX s)(c:NmX t):NmX ⟨k,a,b,[],[s,t]⟩:=⟨by simp,Da (by have:=h.1;omega) h.2 (Ae k a b c).2⟩
def Gd (r:List Tk):Prop:= ∀q∈r,q.1.text.length<=20
theorem Gd.tl {r:List Tk}(h:Gd r):Gd r.tail:=fun q a=>h q (List.mem_of_mem_tail a)
theorem Gd.text {r:List Tk}(h:Gd r):(textP r).length<=20:=by
 cases r with
 |nil=>exact dF _
 |cons p r=>exact h p bq
theorem Gd.shift {r:List Tk}(h:Gd r):Gd (fR r):=by
 unfold fR;split
 ·exact h.tl.tl
 ·exact h.tl
theorem ifo {c:Prop}[Decidable c]{α:Type}{x y z:α}(h:(if c then x else y)=z):x=z\/y=z:=by
 by_cases a:c
 ·rw[aB a]at h;exact .inl h
 ·rw[ax a]at h;exact .inr h
theorem Js (E:Nat): ∀(f m d:Nat) (e:Ex) (r:List Tk) (n:Nat) (q:Ex) (s:List Tk) (v:Nat),m<=8->(m=1\/m=3\/m=5->NmX e)->Gd r->goP E f m d e r n= .ok (q,s,v)->NmX q/\Gd s
 |0,m,d,e,r,n,q,s,v,_,_,_,h=>(dL h).elim
 |f+1,m,d,e,r,n,q,s,v,y,u,b,h=>by
  have c:=Js E f;match m,y with
  |0,_=>
   rw[ve]at h;obtain⟨k,r1,p,j,g⟩:=dI h;have a:=c 2 _ _ _ _ _ _ _ (by omega) (by omega) b j;exact c 1 _ _ _ _ _ _ _ (by omega) (fun _=>a.1) a.2 g
  |1,_=>
   rw[vf]at h;have i:=u (by omega);rcases ifo h with h|h
   ·obtain⟨k,r1,p,j,g⟩:=dI h;obtain⟨t,x,w,l,o⟩:=dI g;have a:=c 2 _ _ _ _ _ _ _ (by omega) (by omega) b.tl j;cases dS l;exact c 1 _ _ _ _ _ _ _ (by omega) (fun _=>Af _ _ _ i a.1) a.2 o
   ·rcases ifo h with h|h
    ·obtain⟨k,r1,p,j,g⟩:=dI h;obtain⟨t,x,w,l,o⟩:=dI g;have a:=c 2 _ _ _ _ _ _ _ (by omega) (by omega) b.tl j;cases dS l;exact c 1 _ _ _ _ _ _ _ (by omega) (fun _=>Af _ _ _ i a.1) a.2 o
    ·cases h;exact⟨i,b⟩
  |2,_=>
   rw[vh]at h;obtain⟨k,r1,p,j,g⟩:=dI h;have a:=c 4 _ _ _ _ _ _ _ (by omega) (by omega) b j;exact c 3 _ _ _ _ _ _ _ (by omega) (fun _=>a.1) a.2 g
  |3,_=>
   rw[vj]at h;have i:=u (by omega);rcases ifo h with h|h
   ·obtain⟨k,r1,p,j,g⟩:=dI h;obtain⟨t,x,w,l,o⟩:=dI g;have a:=c 4 _ _ _ _ _ _ _ (by omega) (by omega) b.tl j;cases dS l;exact c 3 _ _ _ _ _ _ _ (by omega) (fun _=>Af _ _ _ i a.1) a.2 o
   ·cases h;exact⟨i,b⟩
  |4,_=>
   rw[vk]at h;obtain⟨k,r1,p,j,g⟩:=dI h;have a:=c 6 _ _ _ _ _ _ _ (by omega) (by omega) b j;exact c 5 _ _ _ _ _ _ _ (by omega) (fun _=>a.1) a.2 g
  |5,_=>
   rw[vn]at h;have i:=u (by omega);rcases ifo h with h|h
   ·rcases ifo h with h|h
    ·exact(dL h).elim
    ·rcases ifo h with h|h
     ·exact(dL h).elim
     ·obtain⟨t,x,w,l,o⟩:=dI h;cases dS l;exact c 5 _ _ _ _ _ _ _ (by omega) (fun _=>Ae _ _ _ i) b.shift.tl o
   ·cases h;exact⟨i,b⟩
  |6,_=>
   rw[vo]at h;rcases ifo h with h|h
   ·exact(dL h).elim
   ·rcases ifo h with h|h
    ·obtain⟨k,r1,p,j,g⟩:=dI h;have a:=c 0 _ _ _ _ _ _ _ (by omega) (by omega) b.tl j;rcases ifo g with g|g
     ·cases g;exact⟨a.1,a.2.tl⟩
     ·exact(dL g).elim
    ·rcases ifo h with h|h
     ·cases dS h;exact⟨vM _ _ _ (by simp),b.tl⟩
     ·rcases ifo h with h|h
      ·cases dS h;exact⟨vM _ _ _ (by simp),b.tl⟩
      ·rcases ifo h with h|h
       ·exact c 7 _ _ _ _ _ _ _ (by omega) (by omega) b.tl h
       ·rcases ifo h with h|h
        ·rcases ifo h with h|h
         ·exact(dL h).elim
         ·rcases ifo h with h|h
          ·rcases ifo h with h|h
           ·exact(dL h).elim
           ·rcases ifo h with h|h
            ·exact(dL h).elim
            ·exact c 8 _ _ _ _ _ _ _ (by omega) (by omega) b.tl.tl.tl.tl h
          ·exact c 8 _ _ _ _ _ _ _ (by omega) (by omega) b.tl.tl h
        ·rcases ifo h with h|h
         ·cases dS h;exact⟨vM _ _ _ b.text,b.tl⟩
         ·rcases ifo h with h|h
          ·exact(dL h).elim
          ·rcases ifo h with h|h
           ·rcases ifo h with h|h
            ·exact(dL h).elim
            ·rcases ifo h with h|h
             ·exact(dL h).elim
             ·cases dS h;exact⟨vM _ _ _ (by simp),b.tl.tl.tl⟩
           ·exact(dL h).elim
  |7,_=>
   rw[vq]at h;rcases ifo h with h|h
   ·exact(dL h).elim
   ·rcases ifo h with h|h
    ·exact c 7 _ _ _ _ _ _ _ (by omega) (by omega) b.tl.tl h
    ·exact c 8 _ _ _ _ _ _ _ (by omega) (by omega) b.tl h
  |8,_=>
   rw[vt]at h;rcases ifo h with h|h
   ·obtain⟨k,r1,p,j,g⟩:=dI h;have a:=c 4 _ _ _ _ _ _ _ (by omega) (by omega) b.tl j;cases dS g;exact⟨Ae _ _ _ a.1,a.2⟩
   ·exact(dL h).elim
theorem Bj (E:Nat): ∀(f:Nat) (c:List Ru) (r:List Tk) {L:List Ru},Gd r->(∀u∈c,u.1.length<=20/\NmX u.2)->ja E f c r= .ok L-> ∀u∈L,u.1.length<=20/\NmX u.2
 |0,c,r,L,_,ha,h=>by cases h;exact ha
 |f+1,c,r,L,e,ha,h=>by
  unfold ja at h;split at h
  ·cases h;exact ha
  ·split at h
   ·split at h
    ·cases h
    ·unfold pI at h;split at h
     ·cases h
     ·rename_i b;split at b
      ·cases b
      ·split at b
       ·split at b
        ·cases b
        ·rename_i g;split at b
         ·cases b
         ·split at b
          ·cases b;have a:=Js E _ 0 _ _ _ _ _ _ _ (by omega) (by omega) e.tl.tl.tl g
           exact Bj E f _ _ a.2.tl (fun u d=>by
            rcases da.1 d with d|d
            ·exact ha u d
            ·rw[cQ.1 d];exact⟨e.tl.text,a.1⟩) h
          ·cases b
       ·cases b
   ·cases h
theorem GH {l:List UInt8}{a:List Tk}{k:Nat}(h:fO l a k):Gd a:=by
 obtain⟨n,c⟩:=h;refine fO.ind (M:=fun a _=>Gd a) (fun p b=>by cases b) ?_ n c;intro a k _ _ _ d p b;rcases da.1 b with h|h
 ·exact d p h
 ·rw[show p=(firstT (l.drop k),k) by simpa using h];exact GG _
theorem mR.rob {c w:World}{v:Value}{a:List (Ru×Value)}(h:mR c w v a)(e:a.length<=40)(k:NmR (a.map (fun p=>p.1))):Rob (fun q=>c.heap.size<=q) (fun u=>InR u v a) w:=fun u _ ha=>
 Eb (w0:=c) ⟨br h.own fun b f=>ha b (h.own.lt b f).1 (h.own.lt b f).2,fun p l=>by
  obtain⟨d,i⟩:=h.kids p l;exact⟨d,i.kept fun g j e=>ha g j e⟩⟩ e k
def xC (l:List UInt8):Nat->List Tk->Nat->List Tk×Nat
 |0,a,k=>(a,k)
 |f+1,a,k=>if k<l.length/\(firstT (l.drop k)).err=0 then xC l f (a++[(firstT (l.drop k),k)]) (k+(firstT (l.drop k)).len+eZ false (l.drop (k+(firstT (l.drop k)).len))) else(a,k)
def Db (l:List UInt8):List Tk×Nat:=xC l (l.length+1) [] (0+eZ false (l.drop 0))
theorem Dc {l:List UInt8}: ∀(f:Nat) (a:List Tk) (k:Nat),fO l a k->l.length<f+a.length->fO l (xC l f a k).1 (xC l f a k).2/\ ¬((xC l f a k).2<l.length/\(firstT (l.drop (xC l f a k).2)).err=0)
 |0,a,k,h,c=>by have:=h.le;omega
 |f+1,a,k,h,c=>by
  unfold xC;by_cases b:k<l.length/\(firstT (l.drop k)).err=0
  ·rw[aB b];exact Dc f _ _ (h.step b.1 b.2) (by rw[aP];simp;omega)
  ·rw[ax b];exact⟨h,b⟩
theorem Ag {l:List UInt8}{a:List Tk}{k:Nat}(h:fO l a k)(f: ¬(k<l.length/\(firstT (l.drop k)).err=0)):Db l=(a,k):=by
 obtain⟨d,e⟩:=Dc (l:=l) (l.length+1) [] _ fO.start (by simp);obtain⟨b,c⟩:=Hr d h e f;exact Prod.ext b c
def jJ (l:List UInt8):Int×List Ru:=
 if 6000<l.length then(4,[]) else
 if(Db l).2<l.length then((firstT (l.drop (Db l).2)).err,[]) else
 match ja l.length ((Db l).1.length+1) [] (Db l).1 with
 | .error q=>(q.1,[])
 | .ok rs=>(0,rs)
theorem Bk {l:List UInt8}{o w:World}{v:Value}{er at_:Int}(h:ui l o w v er at_):er=(jJ l).1/\(er=0-> ∃a,mR o w v a/\a.length<=40/\a.map (fun p=>p.1)=(jJ l).2/\NmR (a.map (fun p=>p.1))):=by
 have nil: ∀(L:List Ru),L=[]->v=af-> ∃a:List (Ru×Value),mR o w v a/\a.length<=40/\a.map (fun p=>p.1)=L/\NmR (a.map (fun p=>p.1)):=fun L t x=>by
  subst t x;exact⟨[],⟨dp _ _ _ _,fun p m=>by cases m⟩,by simp,rfl,fun p m=>by cases m⟩
 rcases h with⟨i,c,b,_⟩|⟨q,k,i,c,b,d,f,g,_⟩|⟨q,k,j,r,i,c,b,d,f,g,_⟩|⟨q,k,a,i,c,b,d,f,g,s,_⟩
 ·have e:jJ l=(4,[]):=by unfold jJ;rw[aB i]
  rw[e];exact⟨b,fun _=>nil _ rfl c⟩
 ·have e:jJ l=((firstT (l.drop k)).err,[]):=by
   unfold jJ;rw[ax (by omega),Ag c (fun h=>d h.2),aB b]
  rw[e];exact⟨g,fun _=>nil _ rfl f⟩
 ·have e:jJ l=(j,[]):=by
   unfold jJ;rw[ax (by omega),Ag c (fun h=>b h.1),ax b,d]
  rw[e];exact⟨g,fun _=>nil _ rfl f⟩
 ·have e:jJ l=(0,a.map (fun p=>p.1)):=by
   unfold jJ;rw[ax (by omega),Ag c (fun h=>b h.1),ax b,d]
  rw[e];refine⟨s,fun _=>⟨a,g,f,rfl,fun u n=> ?_⟩⟩;obtain⟨z,A,y⟩:=Bj _ _ _ _ (GH c) (fun u n=>by cases n) d u n;exact⟨by omega,by omega,y⟩
def fY (l:List UInt8):Int×List Ru:=if(jJ l).1≠0 then((jJ l).1,[]) else((iB (jJ l).2).1,(jJ l).2)
def L9 (l:List UInt8)(w:World)(e:Ending)(w':World):Prop:= ∃b a:Value,e= .returned (.tuple #[b,a,ag (fY l).1])/\aq w w'/\((fY l).1=0->(fY l).2.length<=40/\iB (fY l).2=(0,0)/\Rob (fun q=>w.heap.size<=q) (fun u=> ∃c,InR u b c/\c.map (fun p=>p.1)=(fY l).2) w'/\ ∀u,oJ w' u->InV u a (fd (fY l).2))
theorem Bm {l:List Ru}(h:(iB l).1=0):iB l=(0,0):=by
 unfold iB at h⊢;split
 ·rename_i a;rw[aB a]at h;exact absurd h a
 ·rename_i a;rw[ax a]at h;split
  ·rename_i b;rw[aB b]at h;cases h
  ·rfl
theorem Lv {l:List Ru}(h:(dC l).1≠0):(iB l).1=(dC l).1:=by unfold iB;rw[aB h]
theorem qP.below {w w':World}(h:qP w)(a:aq w w'):qP w':=fun i hi=>(a.cell (cZ (h i hi))).trans (h i hi)
theorem Lw {l:List UInt8}{b w:World}{v:Value}{er at_:Int}(h:ui l b w v er at_)(a:er≠0):v=af:=by
 rcases h with⟨_,h,_⟩|⟨_,_,_,_,_,_,h,_⟩|⟨_,_,_,_,_,_,_,_,h,_⟩|⟨_,_,_,_,_,_,_,_,_,h,_⟩
 ·exact h
 ·exact h
 ·exact h
 ·exact absurd h a
theorem GI {w w':World}(h:Tab w)(a:aq w w'):Tab w':=h.later a
theorem Dd (l:List UInt8)(g:l.length<=9223372036854775807)(w:World)(hT:gT w)(hD:qP w)(hB:Tab w):Calls prog 59 #[.string ⟨l.toArray⟩] w (L9 l w):=by
 have cP:=AC ⟨l.toArray⟩ l (by simp) g w hT hD;have HB:=aE hB;clear hT hD hB;go_enter func59,ntmps59;go_wp2_with fail;refine cP.mono ?_;rintro e a ⟨⟨v,er,at_,rfl,hp⟩,b1⟩;obtain⟨he,I⟩:=Bk hp;obtain⟨w2,an,b2,n2⟩:=nb a #[ag er,ag at_] 48;have z2:w2.cell? (ae a.heap.size 0)=some (ag er):=cr 0 n2 rfl;have HE:=aE he;have D:=aE I;have ad:=aE b1.size;have A:=aE (aw b1 b2);have C:=aE b2
 have a0: ∃p n c,v= .slice p n c:=by
  by_cases y:er=0
  ·obtain⟨s,d,_⟩:=I y;obtain⟨p,c,e⟩:=cg d.own;exact⟨p,_,c,e⟩
  ·exact⟨none,0,0,Lw hp y⟩
 obtain⟨Q,P,L,rfl⟩:=a0;clear cP hp he I b1 b2;by_cases y:er=0
 ·subst y;obtain⟨s,d,E,r,al⟩:=D.o rfl;have k:Rob (fun q=>w.heap.size<=q/\q<a.heap.size) (fun u=>InR u (.slice Q P L) s) w2:=Rob.below (fun u J ha=>d.rob E al u J fun q m g=>ha q ⟨m,g⟩ g) C.o;have cK:=vw s (.slice Q P L) w2 k.here;rw[r]at cK;obtain⟨R,hR⟩:=au ((jJ l).2)
  have x:Rb (fY l=((iB R).1,R)):=by
   show _=_;unfold fY;rw[ax (by rw[<-HE.o];simp),hR]
  rw[hR]at cK r;have Z:=aE k;have ac:=aE r;have aa:Rb (R.length<=40):=(by show _<=_;rw[<-r,bc];exact E);obtain⟨i,G⟩:=au ((dC R).1);obtain⟨ca,ah⟩:=au ((dC R).2:Int);rw[G,ah]at cK;have V:=aE G;clear d al k r hR G ah D HE C E;go_wp2_with fail;refine cK.mono ?_;rintro e w3 ⟨rfl,b3⟩;have O:=bt b3 n2;have n4:=aL _ _ _ #[ag i,ag ca] _ _ O;have B:=aE (below_setRow (aw A.o b3) ad.o #[ag i,ag ca]);have Y:Rb (Rob (fun q=>w.heap.size<=q/\q<a.heap.size) (fun u=>InR u (.slice Q P L) s) (w3.setRow a.heap.size #[ag i,ag ca])):=(Z.o.below b3).move (by simp) (fun q m _=>aW _ _ _ _ (by omega)) fun _ _ h=>h;generalize a1:w3.setRow a.heap.size #[ag i,ag ca]=w4 at*;have z4:w4.cell? (ae a.heap.size 0)=some (ag i):=cr 0 n4 rfl;clear cK b3 Z A z2 n2;by_cases h1:i=0
  ·subst h1;have cC:=D5 s (.slice Q P L) w4 Y.o.here (GI HB.o B.o);rw[ac.o]at cC;unfold zf at cC;obtain⟨j,H⟩:=au ((iB R).1);obtain⟨N,ai⟩:=au ((iB R).2);rw[H,ai]at cC;have t:=aE H;clear H ai an;go_wp2_with(first|(refine az rfl 48 _ _ rfl _ _ rfl rfl _ _ O (by kernel_rfl) rfl (by simp[Value.oneCell']) ?_)|fail)
   refine cC.mono ?_;rintro e w5 ⟨vc,rfl,ak,am,b5⟩;have m3:=bt b5 n4;have n6:=aL _ _ _ #[ag j,ag N] _ _ m3;have S:=aE (below_setRow (aw B.o b5) ad.o #[ag j,ag N]);have ap:Rb (Rob (fun q=>w.heap.size<=q) (fun u=> ∃s,InR u (.slice Q P L) s/\s.map (fun p=>p.1)=R) (w5.setRow a.heap.size #[ag j,ag N])):=Rob.imp (((Y.o.below b5).move (by simp) (fun q m _=>aW _ _ _ _ (by omega)) fun _ _ h=>h.1):Rob (fun q=>w.heap.size<=q) (fun u=>InR u (.slice Q P L) s) _) fun u J=>⟨s,J,ac.o⟩
   have ar:Rb (∀u,oJ (w5.setRow a.heap.size #[ag j,ag N]) u->oJ w5 u):=fun u J q c T f m hT=>by
    by_cases e:q=a.heap.size
    ·subst e;rw[m3]at m;injection m with m;injection m with _ m _;subst m;exact absurd hT (by decide)
    ·have:=aW w5 a.heap.size q #[ag j,ag N] e;rw[<-this];exact J q c T f (this.trans m) hT
   have av:=aE am;have ao:=aE ak;generalize a5:w5.setRow a.heap.size #[ag j,ag N]=w6 at*;have z6:w6.cell? (ae a.heap.size 0)=some (ag j):=cr 0 n6 rfl;have O:=m3;clear cC ak am b5 z4 n4 m3 a1;by_cases h2:j=0
   ·subst h2;go_wp2_with(refine az rfl 48 _ _ rfl _ _ rfl rfl _ _ O (by kernel_rfl) rfl (by simp[Value.oneCell']) ?_)
    go_ret3;refine⟨_,_,by rw[x.o,t.o];rfl,S.o,fun _=> ?_⟩;rw[x.o];exact⟨aa.o,Bm t.o,ap.o,fun u J=>ao.o trivial u (ar.o u J)⟩
   ·have a4:(j !=0)=true:=(by simpa using h2);have X:=aE h2;have ay:=av.o h2;subst ay;clear h2;go_wp2_with(refine az rfl 48 _ _ rfl _ _ rfl rfl _ _ O (by kernel_rfl) rfl (by simp[Value.oneCell']) ?_)
    refine dl (fun _ _ W=>aq w6 W) [kn 33 (ab a.heap.size 0),kn 34 (ag j),kn 2 (af),kn 3 (af),kn 4 (ag j)] (fun _=>(aH _ _).drew) (fun _ _ _ _ b h=>aw h b) (by kernel_rfl) ?_ ?_
    ·rintro M φ W b _ F l g hF;have z:W.cell? (ae a.heap.size 0)=some (ag j):=aj b z6;simp only[kn,dX,aQ,aT,Act.put,aA,aK,aJ]at g;subst g;simp only[dn,Nat.reduceAdd]at hF;dsimp only[kn,dy,eJ,dY,Act.put];and_intros;all_goals first|exact trivial|intro hw hn hm K hK
     all_goals (go_simp;with_reducible exact hK _ _ ⟨rfl,aH _ _⟩)
    ·rintro M φ W hM b;simp only[kn,d8,aQ,aT,Act.put,aA,aK,aJ];clear hM z6;go_wp2_with fail;go_ret3;exact⟨_,_,by rw[x.o,t.o];rfl,aw S.o b,fun e=>absurd (by rw[x.o,t.o]at e;exact e) X.o⟩
  ·have a3:(i !=0)=true:=(by simpa using h1)
   have U:Rb ((fY l).1=i):=by
    show _=_;rw[x.o];show(iB R).1=i;rw[Lv (by rw[V.o];exact h1),V.o]
   have X:=aE h1;clear h1 an;go_wp2_with(refine az rfl 48 _ _ rfl _ _ rfl rfl _ _ O (by kernel_rfl) rfl (by simp[Value.oneCell']) ?_)
   refine dl (fun _ _ W=>aq w4 W) [kn 23 (ab a.heap.size 0),kn 24 (ag i),kn 2 (af),kn 3 (af),kn 4 (ag i)] (fun _=>(aH _ _).drew) (fun _ _ _ _ b h=>aw h b) (by kernel_rfl) ?_ ?_
   ·rintro M φ W b _ F l g hF;have z:W.cell? (ae a.heap.size 0)=some (ag i):=aj b z4;simp only[kn,dX,aQ,aT,Act.put,aA,aK,aJ]at g;subst g;simp only[dn,Nat.reduceAdd]at hF;dsimp only[kn,dy,eJ,dY,Act.put];and_intros;all_goals first|exact trivial|intro hw hn hm K hK
    all_goals (go_simp;with_reducible exact hK _ _ ⟨rfl,aH _ _⟩)
   ·rintro M φ W hM b;simp only[kn,d8,aQ,aT,Act.put,aA,aK,aJ];clear hM z4;go_wp2_with fail;go_ret3;exact⟨_,_,by rw[U.o];rfl,aw B.o b,fun e=>absurd (by rw[U.o]at e;exact e) X.o⟩
 ·have a2:(er !=0)=true:=by simpa using y
  have x:Rb (fY l=(er,[])):=by
   show _=_;unfold fY;rw[aB (by rw[<-HE.o];exact y),HE.o]
  have X:=aE y;clear y D C n2;go_upto_region 3 with fail;refine dl (fun _ _ W=>aq w2 W) [kn 16 (ab a.heap.size 0),kn 17 (ag er),kn 2 (af),kn 3 (af),kn 4 (ag er)] (fun _=>(aH _ _).drew) (fun _ _ _ _ b h=>aw h b) (by kernel_rfl) ?_ ?_
  ·rintro M φ W b _ F l g hF;have z:W.cell? (ae a.heap.size 0)=some (ag er):=aj b z2;simp only[kn,dX,aQ,aT,Act.put,aA,aK,aJ]at g;subst g;simp only[dn,Nat.reduceAdd]at hF;dsimp only[kn,dy,eJ,dY,Act.put];and_intros;all_goals first|exact trivial|intro hw hn hm K hK
   all_goals (go_simp;with_reducible exact hK _ _ ⟨rfl,aH _ _⟩)
  ·rintro M φ W hM b;simp only[kn,d8,aQ,aT,Act.put,aA,aK,aJ];clear hM z2;go_wp2_with fail;go_ret3;exact⟨_,_,by rw[x.o];rfl,aw A.o b,fun e=>absurd (by rw[x.o]at e;exact e) X.o⟩
section
def Cor (d a:Dk):Prop:= ∃k r,a={d with kept:=k,runs:=r}
theorem Cor.refl (d:Dk):Cor d d:=⟨d.kept,d.runs,rfl⟩
theorem Cor.trans {a b c:Dk}(h:Cor a b)(d:Cor b c):Cor a c:=by
 obtain⟨k,r,rfl⟩:=h;obtain⟨e,f,rfl⟩:=d;exact⟨e,f,rfl⟩
theorem tI (d:Dk)(r day:Int):Cor d (fw d r day).2:=by
 unfold fw;dsimp only;split
 ·exact Cor.refl d
 ·exact⟨_,_,rfl⟩
theorem xD {f:Int->Dk->Bool×Dk}(a: ∀x d,Cor d (f x d).2): ∀(l:List Int) (d:Dk),Cor d (jt f l d).2
 |[],d=>Cor.refl d
 |x::l,d=>by
  unfold jt;split
  ·exact a x d
  ·exact(a x d).trans (xD a l _)
def Tr.ad (t:Tr)(L:List Nat):Tr:={t with xs:=L++t.xs}
section
variable {B gD:Nat} {d:Dk} {t:Tr} {w w':World}
theorem Kd.ad {L:List Nat}(h:Kd gD t t w w'):Kd gD (t.ad L) (t.ad L) w w':=⟨h.os,h.tape,h.output,h.size,h.blk,fun _ _ h=>h,rfl⟩
theorem Kd.un {L:List Nat}(h:Kd gD (t.ad L) (t.ad L) w w'):Kd gD t t w w':=⟨h.os,h.tape,h.output,h.size,h.blk,fun _ _ h=>h,rfl⟩
theorem dE.drop {L:List Nat}(h:dE B gD d (t.ad L) w):dE B gD d t w:=by
 obtain⟨f,j,e,l,kv,k,c,h⟩:=h;have mv: ∀{Φ:World->Prop},Rob (Fx gD (t.ad L)) Φ w->Rob (Fx gD t) Φ w:=fun g=>g.move (aD _) (fun _ _ _=>rfl) fun q _ a=>⟨a.1,fun i=>a.2 (eV _ i)⟩
 exact⟨f,j,e,l,kv,k,c,h.blk,h.lo,mv h.rules,mv h.codes,mv h.vers,mv h.kept,h.res,h.svs,h.sve,fun p b=>mv (h.svr p b),h.aps,h.ape,fun p b=>mv (h.apr p b),fun q a=>h.nx q (eV _ a)⟩
theorem dE.grown {L:List Nat}(h:dE B gD d (t.ad L) w){v j:Value}{l e size n m:Nat}{xs ys:List Value}(_:w.ownsRow l e size v n xs)(G: ∀b,v.ownBlock=some b->b∈L)(y:w.grownBy w' v.ownBlock)(D:w'.ownsRow l e size j m ys)(O:j.ownBlock=v.ownBlock\/j.ownBlock=some w.heap.size): ∃g,dE B gD d (t.ad g) w'/\(∀b,j.ownBlock=some b->b∈g)/\(∀b∈g,b∈L\/(b=w.heap.size/\j.ownBlock=some b))/\ ∀Φ:World->Prop,Rob (Fx gD (t.ad L)) Φ w->Rob (Fx gD (t.ad g)) Φ w':=by
 obtain⟨K,P,J,R,kv,Q,I,h⟩:=h;have C:=aI h.blk;have ne: ∀q,q<w.heap.size->q∉L->w'.heap[q]? =w.heap[q]? :=fun q z a=>y.block q z fun e=>a (G q e.symm)
 have mv: ∀g:List Nat,(∀q,q∈g↔q∈L\/(j.ownBlock=some q/\q=w.heap.size))-> ∀Φ:World->Prop,Rob (Fx gD (t.ad L)) Φ w->Rob (Fx gD (t.ad g)) Φ w':=fun g k Φ M=>M.move y.size (fun q a z=>ne q z fun f=>a.2 (ft _ f)) fun q z a=>⟨a.1,fun f=>by
  rcases da.1 f with f|f
  ·rcases(k q).1 f with f|⟨_,f⟩
   ·exact a.2 (ft _ f)
   ·omega
  ·exact a.2 (eV _ f)⟩
 have r: ∀g:List Nat,(∀q,q∈g↔q∈L\/(j.ownBlock=some q/\q=w.heap.size))->dE B gD d (t.ad g) w':=fun g k=>by
  have mv:= @mv g k;have x: ∀q∈L,q<w.heap.size/\B<=q/\q≠gD/\some q≠t.ev.ownBlock/\some q≠t.sv.ownBlock/\some q≠t.av.ownBlock:=fun q a=>h.nx q (ft _ a);have rk: ∀{e s n:Nat} {u:Value} {xs:List Value},w.ownsRow B e s u n xs->(∀q∈L,some q≠u.ownBlock)->w'.ownsRow B e s u n xs:=fun H N=>br H fun b i=>ne b (H.lt b i).2 fun f=>N b f i.symm;refine⟨K,P,J,R,kv,Q,I,(ne gD C fun f=>(x gD f).2.2.1 rfl).trans h.blk,h.lo,mv _ h.rules,mv _ h.codes,mv _ h.vers,mv _ h.kept,rk h.res fun q a=>(x q a).2.2.2.1,rk h.svs fun q a=>(x q a).2.2.2.2.1,h.sve,fun p E=>mv _ (h.svr p E),rk h.aps fun q a=>(x q a).2.2.2.2.2,h.ape,fun p E=>mv _ (h.apr p E),fun q a=> ?_⟩;rcases da.1 a with a|a
  ·rcases(k q).1 a with a|⟨A,F⟩
   ·have:=x q a;exact⟨aU this.1 y.size,this.2⟩
   ·have:=h.lo;exact⟨(D.lt q A).2,by omega,by omega,mq h.res (.inr (by omega)),mq h.svs (.inr (by omega)),mq h.aps (.inr (by omega))⟩
  ·have:=h.nx q (eV _ a);exact⟨aU this.1 y.size,this.2⟩
 by_cases o:j.ownBlock=some w.heap.size
 ·have c: ∀q,q∈w.heap.size::L↔q∈L\/(j.ownBlock=some q/\q=w.heap.size):=fun q=>by
   rw[bO,o];constructor
   ·rintro(rfl|h)
    ·exact .inr ⟨rfl,rfl⟩
    ·exact .inl h
   ·rintro(h|⟨_,h⟩)
    ·exact .inr h
    ·exact .inl h
  refine⟨w.heap.size::L,r _ c,fun b i=> ?_,fun b i=> ?_,mv _ c⟩
  ·rw[o]at i;rw[<-aN i];exact bq
  ·rcases bO.1 i with h|h
   ·exact .inr ⟨h,by rw[h];exact o⟩
   ·exact .inl h
 ·have e:=O.resolve_right o;have c: ∀q,q∈L↔q∈L\/(j.ownBlock=some q/\q=w.heap.size):=fun q=>⟨.inl,fun h=>h.elim id fun⟨A,F⟩=>absurd (by rw[A,F]) o⟩
  exact⟨L,r L c,fun b i=>G b (by rw[<-e];exact i),fun b i=> .inl i,mv L c⟩
end
theorem Ec {l:List Ap}{j:Nat}{a:Ap}(d:Dk)(h:l[j]? =some a):fi (l.drop j) j d=if a.st=3 then fi (l.drop (j+1)) (j+1) d else(if(jt (lr a.day a.fr a.to) a.who d).1=true then(j:Int)::(fi (l.drop (j+1)) (j+1) (jt (lr a.day a.fr a.to) a.who d).2).1 else(fi (l.drop (j+1)) (j+1) (jt (lr a.day a.fr a.to) a.who d).2).1,(fi (l.drop (j+1)) (j+1) (jt (lr a.day a.fr a.to) a.who d).2).2):=by
 obtain⟨b,c⟩:=aF.1 h;rw[bJ b,c];rfl
section
variable {B gD:Nat} {d:Dk} {t:Tr}
theorem GK (w:World)(h:dE B gD d t w):Calls prog 61 #[ab gD 0] w fun e w'=> ∃lv,e= .returned lv/\dE B gD (fi d.aps 0 d).2 t w'/\Kd gD t t w w'/\w'.ownsRow w.heap.size 3 1 lv (fi d.aps 0 d).1.length (dz (fi d.aps 0 d).1):=by
 obtain⟨wA,hA,bA,nA⟩:=nb w #[ab gD 0] 99;have ar:=h.below bA;have H0:=aE h;have aA:=aE ar;obtain⟨ah,aR⟩:=ar;obtain⟨rv,cv,vv,kv,ss,aa,hm⟩:=aR;have a0:aa.length=d.aps.length:=by rw[<-hm.ape,bc]
 obtain⟨n,hn⟩:=au d.aps.length;have HN:=aE hn;obtain⟨pa,ca,H⟩:=cg hm.aps;rw[a0,hn]at H;have z3:wA.cell? (ae gD 3)=some t.av:=cr 3 hm.blk rfl;rw[H]at z3;have aV:n<=30:=by rw[<-hn];exact ah.al
 have a5:=aE H;have a6:=aE bA;have aN:=aE ah;have z1:=cr 0 nA rfl;have ai:w.heap.size<=wA.heap.size:=bA.size;have HG:Rb (∀q,w.heap.size<=q->Gx gD t q):=fun q F=>(H0.o.fx (.inr F)).1;have eF: ∀M w,(callFunc 105 M).run prog w= .ok (.enter 105 M) w:=fun _ _=>rfl;clear h hm a0 hn H ah bA;go_enter func61,ntmps61;go_wp2_with fail;clear z3 hA z1;go_loopw [3,4,5,6,13] (fun v _ _ _ q wr=> ∃(j:Nat) (u:Dk) (l:List Int) (L:List Nat),q=ag (j:Int)/\j<=n/\Cor d u/\dE B gD u (t.ad L) wr/\(∀b,v.ownBlock=some b->b∈L)/\Kd gD t t wA wr/\wr.ownsRow wA.heap.size 3 1 v l.length (dz l)/\l.length<=j/\fi d.aps 0 d=(l++(fi (d.aps.drop j) j u).1,(fi (d.aps.drop j) j u).2)) (fun _ _ _ _ q _=>n-(intOf q).toNat);case atStart=>exact⟨0,d,[],[],rfl,by omega,Cor.refl d,aA.o,(fun b hb=>by cases hb),Kd.of (aH _ _),dp _ _ _ _,aD _,rfl⟩
 case round=>
  obtain⟨j,u,l,L,rfl,hj,y,hd,T,hk,f,aZ,hX⟩:=hrel;have aY:(0:Int)<=(j:Int):=(by omega);have C:u.aps=d.aps:=(by obtain⟨_,_,rfl⟩:=y;rfl);have ao:u.res=d.res:=(by obtain⟨_,_,rfl⟩:=y;rfl);by_cases aS:j<n
  ·have aw:(j:Int)<(n:Int):=(by omega);obtain⟨a,pw,cw,ga,aO,ha,a2,_,z,O⟩:=DkM.ap hd.2 (j:=j) (by rw[C,HN.o];exact aS);rw[C]at ha;have e0:Value.slice pa n ca= .slice (some (ae ga 0)) n aO:=(by rw[<-a5.o,<-HN.o,<-C];exact a2);injection e0 with e1 e3 e2;subst e1 e2;rw[Ec u ha]at hX;have E:=(aN.o.ap a (aM ha)).2.2.2.2.2.2;obtain⟨wZ,wB,hZ,nZ,hB,bB,nB⟩:=nbs wr apZ (apC (a,.slice pw a.who.length cw)) 45;unfold apZ at hZ nZ;have y0:wB.cell? (ae wr.heap.size 0)=some (ag a.st):=cr 0 nB rfl;have a4:wB.cell? (ae wr.heap.size 10)=some (.slice pw a.who.length cw):=cr 10 nB rfl;have V:=hd.below bB;have Z:=hk.trans (Kd.of bB);have D:=br f fun b F=>bB.block b (f.lt b F).2;have aj:w.heap.size<=wr.heap.size:=bg ai hk.size
   have cC:=qi (lr a.day a.fr a.to) (fun s W=>dE B gD s (t.ad L) W/\Kd gD t t wB W/\Cor d s) 105 #[ab w.heap.size 0,ab wr.heap.size 0] a.who (.slice pw a.who.length cw) u wB eF ⟨V,Kd.of (aH _ _),y⟩ (fun s W N=>(N.2.1.ad.rob (O.below bB)).here) (fun x hx s W N=>by
    have h1:=N.2.1.blk w.heap.size (HG.o _ (aD _));have h2:=N.2.1.blk wr.heap.size (HG.o _ aj);have a3:=(Z.blk w.heap.size (HG.o _ (aD _)) (aI nA)).trans nA;have aT:s.res=d.res:=(by obtain⟨_,_,rfl⟩:=N.2.2;rfl);refine(Jl W N.1 (E x hx).1 (by rw[aT];exact(E x hx).2) ((h1 (aI a3)).trans a3) ((h2 (aI nB)).trans nB) (HG.o _ aj) (HG.o _ (aD _))).mono fun e w' hh=>⟨hh.1,hh.2.1,N.2.1.trans hh.2.2.un,N.2.2.trans (tI s x a.day)⟩)
   have K:=aE hX;have A:=aE D;have Q:=aE Z;have aC:=aE V;have a7:=aE y;have R:=aE T;obtain⟨st,a1⟩:=au a.st;rw[a1]at y0 K;obtain⟨nw,ac⟩:=au a.who.length;rw[ac]at a4 cC;have aW:=aE ac;have S:=aE z;clear T hX a1 e3 a2 O f hd V hk Z y C ao D ha E aj ac;by_cases h3:st=3
   ·subst h3;have HY:=aE (K.o.trans (by rw[aB rfl]));clear K cC;have z:=S.o;go_wp2_with(first|(refine wpList_load_mid rfl 45 _ rfl ga (j*11) rfl (apC (a,.slice pw a.who.length cw)).toList _ z apT rfl (by kernel_rfl) ?_)|(refine az rfl 45 _ _ rfl _ _ rfl rfl _ _ nZ (by kernel_rfl) rfl (gQ _ _ _ _) ?_;rw[hB]))
    go_roundw;case rel=>exact⟨j+1,u,l,L,by go_num,by omega,a7.o,aC.o,R.o,Q.o,A.o,by omega,HY.o⟩
    case measure=>simp[intOf];omega
   ·have aX:(st !=3)=true:=(by simpa using h3);obtain⟨bb,U⟩:=au ((jt (lr a.day a.fr a.to) a.who u).1);obtain⟨G,X⟩:=au ((jt (lr a.day a.fr a.to) a.who u).2);rw[U,X]at cC
    have HY:Rb (fi d.aps 0 d=(l++(if bb=true then(j:Int)::(fi (d.aps.drop (j+1)) (j+1) G).1 else(fi (d.aps.drop (j+1)) (j+1) G).1),(fi (d.aps.drop (j+1)) (j+1) G).2)):=by
     show _=_;have:=K.o;rw[ax h3,U,X]at this;exact this
    have z:=S.o;clear K U X h3;go_wp2_with(first|(refine wpList_load_mid rfl 45 _ rfl ga (j*11) rfl (apC (a,.slice pw a.who.length cw)).toList _ z apT rfl (by kernel_rfl) ?_)|(refine az rfl 45 _ _ rfl _ _ rfl rfl _ _ nZ (by kernel_rfl) rfl (gQ _ _ _ _) ?_;rw[hB]))
    refine cC.mono ?_;rintro e w1 ⟨rfl,I,Y,p⟩;have r:=Q.o.trans Y;have k:=br A.o fun b F=>Y.blk b (HG.o b (bg ai (A.o.lt b F).1)) (A.o.lt b F).2;clear cC y0 a4 nB nZ hB hZ z S Y A Q;cases bb with
    |false=>
     have a8:=aE I;have aF:=aE r;have aK:=aE k;have P:=aE p;have HZ:Rb (fi d.aps 0 d=(l++(fi (d.aps.drop (j+1)) (j+1) G).1,(fi (d.aps.drop (j+1)) (j+1) G).2)):=HY.o;clear I r k p HY;go_wp2_with fail;go_roundw;case rel=>exact⟨j+1,G,l,L,by go_num,by omega,P.o,a8.o,R.o,aF.o,aK.o,by omega,HZ.o⟩
     case measure=>simp[intOf];omega
    |true=>
     obtain⟨wC,hC,bC,nC⟩:=nb w1 #[ag (j:Int)] 3;have J:=br k fun b F=>bC.block b (k.lt b F).2;have i:=aE (r.trans (Kd.of bC));have ak:=aE (I.below bC);have P:=aE p;have aQ:wA.heap.size<=wC.heap.size:=i.o.size
     have HZ:Rb (fi d.aps 0 d=((l++[(j:Int)])++(fi (d.aps.drop (j+1)) (j+1) G).1,(fi (d.aps.drop (j+1)) (j+1) G).2)):=by
      show _=_;rw[HY.o,ef];rfl
     clear I r k p HY bC;go_wp2_with(at_builtin;refine iN rfl _ _ 37 3 rfl ro o6 rfl (by decide) (by decide) rfl J rfl nC rfl (by simp[Value.oneCell']) (by omega) aQ ?_)
     rintro v2 w2 af m an g2 c2 rfl;obtain⟨L',aq,am,_,_⟩:=ak.o.grown J R.o m af an;have ay:Kd gD t t wA w2:=⟨m.os.trans i.o.os,m.tape.trans i.o.tape,m.output.trans i.o.output,bg i.o.size m.size,fun q F hl=>(m.block q (aU hl i.o.size) (fun e=>by have:=(J.lt q e.symm).1;omega)).trans (i.o.blk q F hl),fun _ _ h=>h,rfl⟩
     have a9:=aE aq;have aJ:=aE am;have aG:=aE ay
     have aL:Rb (w2.ownsRow wA.heap.size 3 1 (.slice (some (ae g2 0)) (l.length+1) c2) (l++[(j:Int)]).length (dz (l++[(j:Int)]))):=by
      show World.ownsRow _ _ _ _ _ _ _;rw[lE,aP];exact af
     clear J af m an nC hC aq am ay ak i;go_wp2_with fail;go_roundw;case rel=>exact⟨j+1,G,l++[(j:Int)],L',by go_num,by omega,P.o,a9.o,aJ.o,aG.o,aL.o,by rw[aP];simp;omega,HZ.o⟩
     case measure=>simp[intOf];omega
  ·have aw: ¬(j:Int)<(n:Int):=(by omega);obtain rfl:n=j:=(by omega);rw[dq (by rw[HN.o];exact aD _)]at hX
   have K:Rb (fi d.aps 0 d=(l,u)):=by
    show _=_;rw[hX];simp[fi]
   have HD:=aE hd.drop;have HK:=aE ((Kd.of a6.o).trans hk);have HO:Rb (wr.ownsRow w.heap.size 3 1 u3 l.length (dz l)):=⟨f.1,f.2.imp id fun⟨g,c,cu,q1,q2,q3⟩=>⟨g,c,cu,q1,bg ai q2,q3⟩⟩
   clear hX hd hk f y C ao T;go_wp2_with fail;go_ret;exact⟨_,rfl,by rw[K.o];exact HD.o,HK.o,by rw[K.o];exact HO.o⟩
end
end
section
def Tbs (B:Nat)(w:World):Prop:= ∀W,Below B w W->gT W/\qP W/\Tab W
theorem Tbs.below {B:Nat}{w w':World}(h:Tbs B w)(b:Below B w w'):Tbs B w':=fun _ a=>h _ (b.trans a)
def GL (w:World)(xs:List Nat):Prop:= ∀k∈xs,∃c T f,w.heap[k]? =some (.cells c T f)/\ ¬(T=195\/T=216\/T=57)
theorem xE (d:Dk)(l:List Ru):(oN d l).length=l.length:=by simp[oN]
section
variable {B gD:Nat} {d:Dk} {t:Tr}
theorem Jt (x:List UInt8)(w:World)(h:dE B gD d t w)(hx:x.length<=9223372036854775807)(hT:Tbs B w)(hB:B<=w.heap.size)(hg:d.given+1<=1000000)(b6:GL w t.xs):Calls prog 29 #[ab gD 0,jU x] w (rD B gD (oM d (fY x)) t w):=by
 obtain⟨wA,hA,bA,nA⟩:=nb w #[ag 0,ag 0,ag 0,ag 0,af,af] 43;have b4:wA.heap.size=w.heap.size+1:=by rw[<-hA];simp
 have bm:=h.opened (aD _) b4 bA;have a1:=aE bm;have H0:=aE h;have ax:=aE bA;obtain⟨b9,bB,bC⟩:=hT wA (bA.mono hB);have cC:=Dd x hx wA b9 bB bC;have cR:=fun(e:Int) (W:World)=>fj e W;have HX:=aE b6;have HG:=aE hg
 have aZ:Rb (gD<w.heap.size):=by
  obtain⟨_,_,_,_,_,_,_,y⟩:=h;exact aI y.blk
 unfold jU;unfold L9 at cC;obtain⟨er,he⟩:=au ((fY x).1);obtain⟨R,hR⟩:=au ((fY x).2);rw[he,hR]at cC;have HC:Rb (fY x=(er,R)):=by show _=_;rw[<-he,<-hR]
 go_enter func29,ntmps29;go_wp2_with fail;refine cC.mono ?_;rintro e F ⟨b8,bE,rfl,b1,aH⟩;have I:=a1.o.below b1;have n1:=bt b1 nA;have bi:=aw ax.o b1;have ay:=aE I;have m:=aE bi;have aS:=aE b1;have a5:=aE aH;by_cases h0:er=0
 ·subst h0;obtain⟨bg,bn,b0,aK⟩:=a5.o rfl;obtain⟨i,rv,cv,vv,kv,ss,aa,y⟩:=ay.o;have z6:F.cell? (ae gD 6)=some (ag d.given):=cr 6 y.blk rfl;have x6:=bo _ _ 6 _ _ y.blk;obtain⟨G,A⟩:=au (F.setCell ⟨gD,6,none⟩ (ag (d.given+1)));have X:G.heap[gD]? =ah #[rv,(t.add w.heap.size).ev,(t.add w.heap.size).sv,(t.add w.heap.size).av,cv,vv,ag (d.given+1),kv,ag d.runs] 73:=A▸aY F gD 6 _ _ (ag (d.given+1)) y.blk;have J: ∀q,q≠gD->G.heap[q]? =F.heap[q]? :=fun q a=>A▸aO _ _ _ _ a;have aM:G.heap.size=F.heap.size:=(by rw[<-A];simp)
  have bN:IntKind.i64.wrap (d.given+1)=d.given+1:=by
   have:=HG.o;have:=i.gv;rw[bU];omega
  have S: ∀{Φ:World->Prop},Rob (Fx gD (t.add w.heap.size)) Φ F->Rob (Fx gD (t.add w.heap.size)) Φ G:=fun hR=>hR.move (by omega) (fun q a _=>J q a.1.1) fun _ _ h=>h;have aC:DkM B gD {d with given:=d.given+1} (t.add w.heap.size) rv cv vv kv ss aa G:=y.put (by omega) (fun q _ a=>J q a) X rfl rfl rfl (S y.rules) (S y.codes) (S y.vers) (S y.kept);have ad:uK {d with given:=d.given+1}:=⟨i.flt,i.vl,i.kl,i.rl,i.sl,i.al,⟨by have:=i.gv;show 0<=d.given+1;omega,HG.o⟩,i.nm,i.sv,i.ap⟩
  have bJ:w.heap.size<=wA.heap.size:=ax.o.size;have bI:=aZ.o;have Z:Rob (fun q=>wA.heap.size<=q) (fun u=> ∃us,InR u b8 us/\us.map (fun p=>p.1)=R) G:=b0.move (by omega) (fun q a _=>J q (by omega)) fun _ _ h=>h;obtain⟨us,aQ,ac⟩:=Z.here;have aP:us.length=R.length:=(by rw[<-ac,bc]);obtain⟨ar,ai,aq⟩:=aQ.form;rw[aP]at aq;obtain⟨V,M,aA,_,_⟩:=(aK F (fun _ _ _ _ _ _=>rfl)).form;obtain⟨U,aj⟩:=au R.length;obtain⟨nC,bx⟩:=au ((fd R).length);rw[aj]at aq;rw[bx]at aA;subst aq aA;have cV:=Lu G ⟨ad,_,_,_,_,_,_,aC⟩ aQ (by omega);rw[ac,aP,aj]at cV;have bb:=aE aj;have ba:=aE aC;have a2:=aE Z;have be:=aE aM;have a4:=aE J;have aU:Rb (∀u,oJ F u->InV u (.slice V nC M) (fd R)):=aK;have aV:=aE bn;have aR:=aE bg;have a6:=aE ad;have n2:G.heap[w.heap.size]? =_:=(J w.heap.size (by omega)).trans n1;have L:=aE y;have aT:=aE X;go_wp2_with fail;refine cV.mono ?_;rintro e w3 ⟨v3,rfl,O,b3⟩;obtain⟨p3,c3,b5⟩:=cg O;subst b5;have H:=bt b3 aT.o;have x5:=bo _ _ 5 _ _ H;have y5:=cr 5 H rfl;obtain⟨w4,C⟩:=au (w3.setCell ⟨gD,5,none⟩ (.slice p3 U c3));have j:=aY w3 gD 5 _ _ (.slice p3 U c3) H;rw[C]at j;have x0:=bo _ _ 0 _ _ j;have y0:=cr 0 j rfl;obtain⟨w5,D⟩:=au (w4.setCell ⟨gD,0,none⟩ (.slice ar U ai));have k:=aY w4 gD 0 _ _ (.slice ar U ai) j;rw[D]at k;have x4:=bo _ _ 4 _ _ k;have y4:=cr 4 k rfl;obtain⟨K,E⟩:=au (w5.setCell ⟨gD,4,none⟩ (.slice V nC M));have Y:=aY w5 gD 4 _ _ (.slice V nC M) k;rw[E]at Y
  have z: ∀q,q≠gD->K.heap[q]? =w3.heap[q]? :=fun q a=>by
   rw[<-E,<-D,<-C];exact(aO _ _ _ _ a).trans ((aO _ _ _ _ a).trans (aO _ _ _ _ a))
  have bL:K.heap.size=w3.heap.size:=(by rw[<-E,<-D,<-C];simp);have aF:=ba.o.below b3;have bK:=b3.size;have aM:=be.o;have a9: ∀q,q<F.heap.size->q≠gD->K.heap[q]? =F.heap[q]? :=fun q hl a=>(z q a).trans ((b3.block q (by omega)).trans (a4.o q a));have bM:=aS.o.size;have a8: ∀q,wA.heap.size<=q->Fx gD (t.add w.heap.size) q:=fun q a=>a1.o.fx (.inr a);have b7: ∀{Φ:World->Prop},Rob (Fx gD (t.add w.heap.size)) Φ w3->Rob (Fx gD (t.add w.heap.size)) Φ K:=fun hR=>hR.move (by omega) (fun q a _=>z q a.1.1) fun _ _ h=>h;have bH:gD<wA.heap.size:=(by omega);obtain⟨N,I⟩: ∃q:Dk,q={d with rules:=R,vers:=qB d R,given:=d.given+1}:=⟨_,rfl⟩
  have bv:DkM B gD N (t.add w.heap.size) (.slice ar U ai) (.slice V nC M) (.slice p3 U c3) kv ss aa K:=by
   subst I;refine aF.put (by omega) (fun q _ a=>z q a) Y rfl rfl rfl ?_ ?_ ?_ (b7 aF.kept)
   ·exact(a2.o.below b3).move (by omega) (fun q a _=>z q (by omega)) fun q _ a=>a8 q a
   ·intro u hu ha;refine aU.o u fun q c T f a hT=> ?_;have bz:=aI a;have bh:T≠73:=(by rcases hT with rfl|rfl|rfl<;>decide)
    have ao:q≠gD:=fun e=>by
     subst e;have h1:=L.o.blk;rw[h1]at a;injection a with a;injection a with _ a _;exact bh a.symm
    have an: ∀{e s n:Nat} {v:Value} {xs:List Value},F.ownsRow B e s v n xs->(e=9\/e=36\/e=45)->some q≠v.ownBlock:=fun hr he e2=>by
     rcases hr.2 with⟨e,_⟩|⟨g,cap,bD,e,_,hg,_⟩
     ·rw[e]at e2;cases e2
     ·rw[e]at e2;have:q=g:=aN e2;subst this;rw[hg]at a;injection a with a;injection a with _ a _;subst a;revert hT he;rintro(rfl|rfl|rfl) (h|h|h)<;>cases h
    refine(ha q ⟨⟨ao,an L.o.res (.inl rfl),an L.o.svs (.inr (.inl rfl)),an L.o.aps (.inr (.inr rfl))⟩,fun hx=> ?_⟩ (by omega)).trans (a9 q bz ao)
    obtain⟨c',T',f',bj,bw⟩: ∃c T f,F.heap[q]? =some (.cells c T f)/\ ¬(T=195\/T=216\/T=57):=by
     rcases bO.1 hx with rfl|hx
     ·exact⟨_,_,_,(a4.o _ ao).symm.trans n2,by decide⟩
     ·obtain⟨c,T,f,hc,hn⟩:=HX.o q hx;exact⟨c,T,f,bt m.o hc,hn⟩
    rw[bj]at a;injection a with a;injection a with _ a _;subst a;exact absurd hT bw
   ·refine Rob.imp (Rob.move (P:=fun q=>G.heap.size<=q) (Φ:=fun u=>u.ownsRow G.heap.size 3 1 (.slice p3 U c3) U (dz (oN {d with given:=d.given+1} R))) (w:=w3) (fun u _ ha=>br O fun b hb=>ha b (O.lt b hb).1 (O.lt b hb).2) (by omega) (fun q a _=>z q (by omega)) fun q _ a=>a8 q (by omega)) fun u hu=> ?_;have:=nK (w:=u) (B:=G.heap.size) (v:= .slice p3 U c3) (l:=oN {d with given:=d.given+1} R) (by rw[xE,bb.o];exact hu) (by rw[xE];have:=aR.o;omega);exact this
  have aJ:uK N:=by
   subst I;have a:=a6.o;exact⟨aV.o,(xE {d with given:=d.given+1} R),a.kl,a.rl,a.sl,a.al,a.gv,a.nm,a.sv,a.ap⟩
  have n6:=(z _ (by omega)).trans (bt b3 n2);have a0:=aE (show dE B gD N (t.add w.heap.size) K from⟨aJ,_,_,_,_,_,_,bv⟩);have bs:Kd gD t t w K:=⟨by rw[<-E,<-D,<-C];exact b3.os.trans (by rw[<-A];exact m.o.os),by rw[<-E,<-D,<-C];exact b3.tape.trans (by rw[<-A];exact m.o.tape),by rw[<-E,<-D,<-C];exact b3.output.trans (by rw[<-A];exact m.o.output),by omega,fun q a hl=>(a9 q (by omega) a.1).trans (m.o.block q hl),fun _ _ h=>h,rfl⟩
  have a3:=aE bs;have cS:=GK K a0.o
  have a7:Rb (oM d (fY x)=(⟨0,0,0,0,[],(fi N.aps 0 N).1⟩,(fi N.aps 0 N).2)):=by
   show _=_;rw[HC.o,I];rfl
  obtain⟨Q,hQ⟩:=au (fi N.aps 0 N);rw[hQ]at cS;rw[hQ]at a7;go_wp2_with fail;refine cS.mono ?_;rintro e w7 ⟨lv,rfl,bl,r,ak⟩;obtain⟨pl,cl,bu⟩:=cg ak;subst bu
  have bp:Gx gD (t.add w.heap.size) w.heap.size:=by
   obtain⟨_,_,_,_,_,_,_,y⟩:=a0.o;exact(y.nx _ bq).2.2
  have n7:=(r.blk _ bp (aI n6)).trans n6;obtain⟨nq,aG⟩:=au Q.1.length;have bG:=a3.o.size;have am:w7.ownsRow K.heap.size 3 1 (.slice pl nq cl) Q.1.length (dz Q.1):=(by rw[<-aG];exact ak)
  have bd:Rb (Rob (Fx gD t) (fun u=>dM u (.slice pl nq cl) Q.1) (w7.setRow w.heap.size (anC ⟨0,0,0,0,[],Q.1⟩ (af) (.slice pl nq cl)))):=by
   refine Rob.imp (Rob.move (P:=fun q=>K.heap.size<=q) (Φ:=fun u=>u.ownsRow K.heap.size 3 1 (.slice pl nq cl) Q.1.length (dz Q.1)) (w:=w7) (fun u _ ha=>br am fun b hb=>ha b (am.lt b hb).1 (am.lt b hb).2) (by simp) (fun q a _=>aW _ _ _ _ (by have:=aI n6;omega)) fun q _ a=>H0.o.fx (.inr (by omega))) fun u hu=>nK hu (by
    rcases ak.2 with⟨_,e⟩|⟨_,_,_,_,_,_,_,e,_⟩
    ·omega
    ·unfold maxLen at e;omega)
  have HO:=aE (fK bl (a3.o.trans ⟨r.os,r.tape,r.output,r.size,r.blk,fun _ _ h=>h,rfl⟩) (aD _) (anC ⟨0,0,0,0,[],Q.1⟩ (af) (.slice pl nq cl)));have HR:=aE (aL _ _ _ (anC ⟨0,0,0,0,[],Q.1⟩ (af) (.slice pl nq cl)) _ _ n7);rw[aG];go_wp2_with(refine az rfl 43 _ _ rfl _ _ rfl rfl _ _ n7 (by kernel_rfl) rfl (by simp[Value.oneCell']) ?_)
  refine aX (v:= .agg (anC ⟨0,0,0,0,[],Q.1⟩ (af) (.slice pl nq cl))) ?_ rfl ?_
  ·exact bf rfl _ _ w.heap.size _ _ _ _ rfl HR.o anT rfl (by kernel_rfl)
  ·rw[a7.o];exact⟨t,_,_,rfl,HO.o.1,HO.o.2,fp _ _,bd.o⟩
 ·have bF:(er !=0)=true:=by simpa using h0
  have HP:Rb (oM d (fY x)=(noA er,d)):=(by show _=_;rw[HC.o];unfold oM;rw[aB h0]);go_wp2_with fail;refine(cR er F).mono ?_;rintro e G ⟨rfl,b2⟩;have n2:=bt b2 n1;have bk:=ay.o.below b2;have HO:=aE (fK bk (Kd.of (aw m.o b2)) (aD _) (anC (noA er) (af) (af)));have HR:=aE (aL _ _ _ (anC (noA er) (af) (af)) _ _ n2);go_wp2_with(refine az rfl 43 _ _ rfl _ _ rfl rfl _ _ n2 (by kernel_rfl) rfl (by simp[anC,noA,Value.oneCell']) ?_)
  refine aX (v:= .agg (anC (noA er) (af) (af))) ?_ rfl ?_
  ·exact bf rfl _ _ w.heap.size _ _ _ _ rfl HR.o anT rfl (by kernel_rfl)
  ·rw[HP.o];exact⟨t,_,_,rfl,HO.o.1,HO.o.2,fp _ _,eE _ _⟩
end
end
end Go.Proofs.YtlkehieagdkgiaaGreatDoor
