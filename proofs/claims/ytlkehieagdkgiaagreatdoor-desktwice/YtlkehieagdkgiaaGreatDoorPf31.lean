/- Texts of the proof. -/
import Derived.Test.YtlkehieagdkgiaaGreatDoorPf30
set_option maxRecDepth 100000
set_option maxHeartbeats 8000000
namespace Go.Proofs.YtlkehieagdkgiaaGreatDoor
open Go.Proofs.Tryz Go.RowKit Lx Vx Mx Msk
section
theorem N9 {l:List Ru}{r x:Int}(h:x∈gO l r): ∃k:Nat,x=(k:Int)/\k<l.length:=by
 unfold gO at h;split at h
 ·cases h
 ·obtain⟨k,a,rfl⟩:=dI.1 h;exact⟨k,rfl,iS.1 (List.mem_filter.1 a).1⟩
theorem Bn (f:Int->Bool): ∀l:List Int,(jf (fun x (s:Unit)=>(f x,s)) l ()).1=l.any f
 |[]=>rfl
 |x::l=>by
  unfold jf;rw[List.any_cons];cases h:f x with
  |true=>simp
  |false=>simpa using Bn f l
def uO (d:Dk)(l:List Ru)(i:Nat):Int:=if ju d.rules l (i:Int)=true\/(gO l (i:Int)).any (ju d.rules l)=true then d.given else d.vers.getD i 0
def oB (d:Dk)(l:List Ru):List Int:=(List.range l.length).map (uO d l)
theorem uP (d:Dk){l:List Ru}{j:Nat}(a:j<l.length):(oB d l).take (j+1)=(oB d l).take j++[uO d l j]:=by
 unfold oB;rw[fV,bj,List.getElem?_range a];rfl
section
variable {B gD:Nat} {d:Dk} {t:Tr}
theorem LX {v2:Value}{R:List (Ru×Value)}(w:World)(h:dC B gD d t w)(hu:InR w v2 R)(hl:R.length<=1000):Calls prog 60 #[ab gD 0,v2] w fun e w'=> ∃v',e= .returned v'/\w'.ownsRow w.heap.size 3 1 v' R.length (dB (oB d (R.map (fun p=>p.1))))/\aq w w':=by
 obtain⟨pn,cn,rfl⟩:=hu.form;obtain⟨wA,hA,bA,nA⟩:=nb w #[ab gD 0] 99;obtain⟨wB,a5,bB,nB⟩:=nb wA #[.slice pn R.length cn] 24;have M:=aw bA bB;have Q:=bt bB nA;obtain⟨z,N⟩:=au (R.map (fun p=>p.1));have Z:z.length=R.length:=by rw[<-N,aX]
 have HD:=aF (h.below M);have HU:=aF (hu.below M);obtain⟨n,hn⟩:=au R.length;have HL:=aF (Z.trans hn);rw[hn]at a5 nB hl Z;rw[N,hn];have HX:=aF N;have HN:=aF hn;have HB:=aF M;have aC:(n:Int)<=1000:=by omega
 have z1:=cr 0 Q rfl;have z2:=cr 0 nB rfl;obtain⟨al,rv,cv,vv,kv,ss,aa,hm⟩:=HD.o;have z6:=cr 6 hm.blk rfl;have z5:=cr 5 hm.blk rfl;obtain⟨pv,a9,rfl,a4,an⟩:=hm.vers.here;obtain⟨nv,P⟩:=au d.vers.length;rw[P]at z5;have HV:=aF an;have ar:=aF (P.symm.trans al.vl);have ap:=aF P;have eF: ∀S w,(callFunc 102 S).run prog w= .ok (.enter 102 S) w:=fun _ _=>rfl;clear h hu N Z hn bA bB M nA hm al an a4 P;go_enter func60,ntmps60;go_wp2_with fail;go_loopw [6,7,8,12] (fun v _ _ q wr=> ∃j:Nat,q=ag (j:Int)/\j<=n/\aq wB wr/\wr.ownsRow wB.heap.size 3 1 v j (dB ((oB d z).take j))) (fun _ _ _ q _=>n-(intOf q).toNat);case atStart=>exact⟨0,rfl,by omega,aH _ _,dl _ _ _ _⟩
 case round=>
  obtain⟨j,rfl,hj,r,A⟩:=hrel;have aA:(0:Int)<=(j:Int):=(by omega);by_cases O:j<n
  ·have ak:(j:Int)<(n:Int):=(by omega);have y1:=cr 0 (bt r Q) rfl;have y2:=cr 0 (bt r nB) rfl;have y6:=aj r z6;have y5:=aj r z5
   have cN: ∀(k:Nat) (W:World),k<n->aq wB W->Calls prog 102 #[ag (k:Int),ab w.heap.size 0,ab wA.heap.size 0] W fun e w'=>e= .returned (.bool (ju d.rules z (k:Int)))/\aq W w':=fun k W J K=>by
    rw[<-HX.o];have hU:=HU.o.below K;exact JL W (HD.o.below K) hU (by rw[HN.o];exact J) (bt K Q) (by rw[HN.o];exact bt K nB)
   have c1:=cN j wr O r;have Y:=aF cN;obtain⟨b1,f⟩:=au (ju d.rules z (j:Int));rw[f]at c1;have X:=aF f;have ao:=aF r;have l:=aF A;clear cN f r A;go_wp2_with fail;refine c1.mono ?_;rintro e w1 ⟨rfl,f⟩;have F:=aw ao.o f;cases b1 with
   |true=>
    have I:=aF f;clear c1 f Y
    have C:Rg (uO d z j=d.given):=by
     show _=_;unfold uO;rw[aB (.inl X.o)]
    obtain⟨wC,hC,D,V⟩:=nb w1 #[ag d.given] 3;have a:=aw F D;have i:=bJ l.o fun b T=>(show wC.heap[b]? =wr.heap[b]? from(D.block b (aU (l.o.lt b T).2 I.o.size)).trans (I.o.block b (l.o.lt b T).2))
    clear D I y5;go_wp2_with(at_builtin;refine iO rfl _ _ 37 3 rfl qW oQ rfl (by decide) (by decide) rfl i rfl V rfl (by simp[Value.oneCell']) (by omega) a.size ?_)
    rintro v2 w2 y u _ g2 c2 rfl;have m:=a.grown u a.size (fun k J=>(i.lt k J).1)
    have HO:Rg (w2.ownsRow wB.heap.size 3 1 (.slice (some (ae g2 0)) (j+1) c2) (j+1) (dB ((oB d z).take (j+1)))):=by
     show World.ownsRow _ _ _ _ _ _ _;rw[uP d (by rw[HL.o];exact O),C.o,lG];exact y
    clear i y u a V hC;go_wp2_with fail;go_roundw;case rel=>exact⟨j+1,by go_num,by omega,m,HO.o⟩
    case measure=>simp[intOf];omega
   |false=>
    have a6:=aj f y2;have a7:=aj f y6;have ac:=aj f y5;have cU:=La R (.slice pn n cn) (j:Int) w1 (by have:=HU.o.below F;rw[HN.o]at this;exact this);rw[HX.o]at cU;have af:=aF f;clear c1 f y1 y2 y5 y6;go_wp2_with fail;refine cU.mono ?_;rintro e w3 ⟨v3,rfl,am,L⟩;have G:=aw F L;have ah:=aF (aw af.o L)
    have cC:=pW (fun x (s:Unit)=>(ju d.rules z x,s)) (fun _ W=>aq w3 W) 102 #[ab w.heap.size 0,ab wA.heap.size 0] (gO z (j:Int)) v3 () w3 eF (aH _ _) (fun _ W K=>am.below K) (fun x hx _ W K=>by
     obtain⟨k,rfl,J⟩:=N9 hx;rw[HL.o]at J;exact(Y.o k W J (aw G K)).mono fun e w' hh=>⟨hh.1,aw K hh.2⟩)
    rw[Bn]at cC;obtain⟨p3,c3,rfl,a2,a3⟩:=am;obtain⟨b2,m⟩:=au ((gO z (j:Int)).any (ju d.rules z));rw[m]at cC;have ad:=aF m;have x5:=(L.cell (cg ac)).trans ac;have x1:=cr 0 (bt G Q) rfl;clear cU a2 a3 m L a6 a7 ac af Y;go_wp2_with fail;refine cC.mono ?_;rintro e w4 ⟨rfl,E⟩;have H:=aw G E;have I:=aF (aw ah.o E);have u5:=aj E x5;have u1:=aj E x1;clear cC E ah x5 x1;cases b2 with
    |true=>
     have C:Rg (uO d z j=d.given):=by
      show _=_;unfold uO;rw[aB (.inr ad.o)]
     obtain⟨wC,hC,D,V⟩:=nb w4 #[ag d.given] 3;have a:=aw H D;have i:=bJ l.o fun b T=>(show wC.heap[b]? =wr.heap[b]? from(D.block b (aU (l.o.lt b T).2 I.o.size)).trans (I.o.block b (l.o.lt b T).2))
     clear D I u5 u1;go_wp2_with(at_builtin;refine iO rfl _ _ 37 3 rfl qW oQ rfl (by decide) (by decide) rfl i rfl V rfl (by simp[Value.oneCell']) (by omega) a.size ?_)
     rintro v2 w2 y u _ g2 c2 rfl;have m:=a.grown u a.size (fun k J=>(i.lt k J).1)
     have HO:Rg (w2.ownsRow wB.heap.size 3 1 (.slice (some (ae g2 0)) (j+1) c2) (j+1) (dB ((oB d z).take (j+1)))):=by
      show World.ownsRow _ _ _ _ _ _ _;rw[uP d (by rw[HL.o];exact O),C.o,lG];exact y
     clear i y u a V hC;go_wp2_with fail;go_roundw;case rel=>exact⟨j+1,by go_num,by omega,m,HO.o⟩
     case measure=>simp[intOf];omega
    |false=>
     have a0:j<nv:=by
      apply dM;intro hc;have h1:=X.o;have h2:d.rules[j]? =none:=eU (by have:=ar.o;omega);unfold ju at h1;rw[cj,h2]at h1;cases h1
     have a8:(j:Int)<(nv:Int):=(by omega);obtain⟨x,hx⟩: ∃x,d.vers[j]? =some x:=⟨d.vers[j]'(by have:=ap.o;omega),ay _⟩
     obtain⟨gv,ov,a1,ai⟩:=HV.o j x hx;subst a1;have uv:=aj H ai;have av:=aF hx;clear ai hx a0
     have C:Rg (uO d z j=x):=by
      show _=_;unfold uO;rw[ax (by rw[X.o,ad.o];simp)];simp[List.getD,av.o]
     obtain⟨wC,hC,D,V⟩:=nb w4 #[ag x] 3;have a:=aw H D;have i:=bJ l.o fun b T=>(show wC.heap[b]? =wr.heap[b]? from(D.block b (aU (l.o.lt b T).2 I.o.size)).trans (I.o.block b (l.o.lt b T).2))
     clear D I;go_wp2_with(at_builtin;refine iO rfl _ _ 37 3 rfl qW oQ rfl (by decide) (by decide) rfl i rfl V rfl (by simp[Value.oneCell']) (by omega) a.size ?_)
     rintro v2 w2 y u _ g2 c2 rfl;have m:=a.grown u a.size (fun k J=>(i.lt k J).1)
     have HO:Rg (w2.ownsRow wB.heap.size 3 1 (.slice (some (ae g2 0)) (j+1) c2) (j+1) (dB ((oB d z).take (j+1)))):=by
      show World.ownsRow _ _ _ _ _ _ _;rw[uP d (by rw[HL.o];exact O),C.o,lG];exact y
     clear i y u a V hC;go_wp2_with fail;go_roundw;case rel=>exact⟨j+1,by go_num,by omega,m,HO.o⟩
     case measure=>simp[intOf];omega
  ·have ak: ¬(j:Int)<(n:Int):=(by omega);obtain rfl:n=j:=(by omega);have az:=aw HB.o r
   have U:wr.ownsRow w.heap.size 3 1 u6 n (dB (oB d z)):=by
    rw[dg (by unfold oB;rw[aX,List.length_range,HL.o];exact aD _)]at A;exact⟨A.1,A.2.imp id fun⟨g,c,cu,q1,q2,q3⟩=>⟨g,c,cu,q1,bg HB.o.size q2,q3⟩⟩
   have HR:=aF U;clear A U;go_wp2_with fail;go_ret;exact⟨_,rfl,HR.o,az⟩
end
end
def NmK:Nat->List Ex->Prop
 |0,_=>True
 |d+1,a=> ∀(j:Nat) (k:Ex),a[j]? =some k->k.name.length<=9223372036854775807/\NmK d k.kids
theorem Fe: ∀d,NmK d []
 |0=>trivial
 |d+1=>fun j k h=>by simp at h
theorem Dc {k:Ex}{a:List Ex}(b:k.name.length<=9223372036854775807)(c: ∀d,NmK d k.kids)(e: ∀d,NmK d a): ∀d,NmK d (k::a)
 |0=>trivial
 |d+1=>fun j q h=>by
  cases j with
  |zero=>
   simp at h;subst h;exact⟨b,c d⟩
  |succ j=>exact e (d+1) j q (by simpa using h)
theorem wj {B:Nat->Prop}: ∀{d:Nat} {w:World} {sl:Value} {a:List Ex},dE B d w sl a->NmK d a->gK (fun k=>k<w.heap.size) d w sl a
 |0,_,_,_,h,_=>h
 |d+1,w,sl,a,h,t=>by
  rcases h with h|⟨g,o,c,A,m,s,i⟩
  ·exact .inl h
  ·by_cases e:a=[]
   ·subst e;exact .inl ⟨rfl,_,c,m⟩
   ·obtain⟨k0,b⟩: ∃k,a[0]? =some k:=by
     cases a with
     |nil=>exact absurd rfl e
     |cons x l=>exact⟨x,rfl⟩
    obtain⟨_,y,_⟩:=i 0 k0 b;refine .inr ⟨g,o,c,cg y,m,s,fun j k f=> ?_⟩;obtain⟨z,c0,c1,n,p,q,r⟩:=i j k f;obtain⟨u,v⟩:=t j k f;exact⟨u,z,c0,c1,n,p,q,wj r v⟩
def NmR (L:List Ru):Prop:= ∀p∈L,p.1.length<=9223372036854775807/\p.2.name.length<=9223372036854775807/\ ∀d,NmK d p.2.kids
theorem Ep {w0 w:World}{v:Value}{a:List (Ru×Value)}(h:mR w0 w v a)(j:a.length<=40)(e:NmR (a.map (fun p=>p.1))):InR w v a:=by
 refine⟨Cq h.own (by omega),by omega,fun p b=> ?_⟩;obtain⟨d,c⟩:=h.kids p b;obtain⟨f,g,i⟩:=e p.1 (dI.2 ⟨p,b,rfl⟩);exact⟨f,g,d,wj c (i d)⟩
theorem GU (l:List UInt8):(firstT l).text.length<=20:=by
 unfold firstT lB o7 mO li kF bad;repeat' split
 all_goals simp
 all_goals omega
def NmX (e:Ex):Prop:=e.name.length<=20/\ ∀d,NmK d e.kids
theorem vO (k a b:Int){x:List UInt8}(h:x.length<=20):NmX ⟨k,a,b,x,[]⟩:=⟨h,Fe⟩
theorem Ah (k a b:Int){t:Ex}(h:NmX t):NmX ⟨k,a,b,[],[t]⟩:=⟨by simp,Dc (by have:=h.1;omega) h.2 Fe⟩
theorem Ai (k a b:Int){s t:Ex}(h:NmX s)(c:NmX t):NmX ⟨k,a,b,[],[s,t]⟩:=⟨by simp,Dc (by have:=h.1;omega) h.2 (Ah k a b c).2⟩
def Gd (r:List Tk):Prop:= ∀q∈r,q.1.text.length<=20
theorem Gd.tl {r:List Tk}(h:Gd r):Gd r.tail:=fun q a=>h q (List.mem_of_mem_tail a)
theorem Gd.text {r:List Tk}(h:Gd r):(textP r).length<=20:=by
 cases r with
 |nil=>exact dL _
 |cons p r=>exact h p bf
theorem Gd.shift {r:List Tk}(h:Gd r):Gd (fY r):=by
 unfold fY;split
 ·exact h.tl.tl
 ·exact h.tl
theorem ifo {c:Prop}[Decidable c]{α:Type}{x y z:α}(h:(if c then x else y)=z):x=z\/y=z:=by
 by_cases a:c
 ·rw[aB a]at h;exact .inl h
 ·rw[ax a]at h;exact .inr h
theorem JQ (E:Nat): ∀(f m d:Nat) (e:Ex) (r:List Tk) (n:Nat) (q:Ex) (s:List Tk) (u:Nat),m<=8->(m=1\/m=3\/m=5->NmX e)->Gd r->goP E f m d e r n= .ok (q,s,u)->NmX q/\Gd s
 |0,m,d,e,r,n,q,s,u,_,_,_,h=>(dP h).elim
 |f+1,m,d,e,r,n,q,s,u,x,t,b,h=>by
  have c:=JQ E f;match m,x with
  |0,_=>
   rw[vj]at h;obtain⟨k,r1,p,j,g⟩:=dF h;have a:=c 2 _ _ _ _ _ _ _ (by omega) (by omega) b j;exact c 1 _ _ _ _ _ _ _ (by omega) (fun _=>a.1) a.2 g
  |1,_=>
   rw[vk]at h;have i:=t (by omega);rcases ifo h with h|h
   ·obtain⟨k,r1,p,j,g⟩:=dF h;obtain⟨e2,w,v,l,o⟩:=dF g;have a:=c 2 _ _ _ _ _ _ _ (by omega) (by omega) b.tl j;cases dU l;exact c 1 _ _ _ _ _ _ _ (by omega) (fun _=>Ai _ _ _ i a.1) a.2 o
   ·rcases ifo h with h|h
    ·obtain⟨k,r1,p,j,g⟩:=dF h;obtain⟨e2,w,v,l,o⟩:=dF g;have a:=c 2 _ _ _ _ _ _ _ (by omega) (by omega) b.tl j;cases dU l;exact c 1 _ _ _ _ _ _ _ (by omega) (fun _=>Ai _ _ _ i a.1) a.2 o
    ·cases h;exact⟨i,b⟩
  |2,_=>
   rw[vm]at h;obtain⟨k,r1,p,j,g⟩:=dF h;have a:=c 4 _ _ _ _ _ _ _ (by omega) (by omega) b j;exact c 3 _ _ _ _ _ _ _ (by omega) (fun _=>a.1) a.2 g
  |3,_=>
   rw[vn]at h;have i:=t (by omega);rcases ifo h with h|h
   ·obtain⟨k,r1,p,j,g⟩:=dF h;obtain⟨e2,w,v,l,o⟩:=dF g;have a:=c 4 _ _ _ _ _ _ _ (by omega) (by omega) b.tl j;cases dU l;exact c 3 _ _ _ _ _ _ _ (by omega) (fun _=>Ai _ _ _ i a.1) a.2 o
   ·cases h;exact⟨i,b⟩
  |4,_=>
   rw[vo]at h;obtain⟨k,r1,p,j,g⟩:=dF h;have a:=c 6 _ _ _ _ _ _ _ (by omega) (by omega) b j;exact c 5 _ _ _ _ _ _ _ (by omega) (fun _=>a.1) a.2 g
  |5,_=>
   rw[vq]at h;have i:=t (by omega);rcases ifo h with h|h
   ·rcases ifo h with h|h
    ·exact(dP h).elim
    ·rcases ifo h with h|h
     ·exact(dP h).elim
     ·obtain⟨e2,w,v,l,o⟩:=dF h;cases dU l;exact c 5 _ _ _ _ _ _ _ (by omega) (fun _=>Ah _ _ _ i) b.shift.tl o
   ·cases h;exact⟨i,b⟩
  |6,_=>
   rw[vt]at h;rcases ifo h with h|h
   ·exact(dP h).elim
   ·rcases ifo h with h|h
    ·obtain⟨k,r1,p,j,g⟩:=dF h;have a:=c 0 _ _ _ _ _ _ _ (by omega) (by omega) b.tl j;rcases ifo g with g|g
     ·cases g;exact⟨a.1,a.2.tl⟩
     ·exact(dP g).elim
    ·rcases ifo h with h|h
     ·cases dU h;exact⟨vO _ _ _ (by simp),b.tl⟩
     ·rcases ifo h with h|h
      ·cases dU h;exact⟨vO _ _ _ (by simp),b.tl⟩
      ·rcases ifo h with h|h
       ·exact c 7 _ _ _ _ _ _ _ (by omega) (by omega) b.tl h
       ·rcases ifo h with h|h
        ·rcases ifo h with h|h
         ·exact(dP h).elim
         ·rcases ifo h with h|h
          ·rcases ifo h with h|h
           ·exact(dP h).elim
           ·rcases ifo h with h|h
            ·exact(dP h).elim
            ·exact c 8 _ _ _ _ _ _ _ (by omega) (by omega) b.tl.tl.tl.tl h
          ·exact c 8 _ _ _ _ _ _ _ (by omega) (by omega) b.tl.tl h
        ·rcases ifo h with h|h
         ·cases dU h;exact⟨vO _ _ _ b.text,b.tl⟩
         ·rcases ifo h with h|h
          ·exact(dP h).elim
          ·rcases ifo h with h|h
           ·rcases ifo h with h|h
            ·exact(dP h).elim
            ·rcases ifo h with h|h
             ·exact(dP h).elim
             ·cases dU h;exact⟨vO _ _ _ (by simp),b.tl.tl.tl⟩
           ·exact(dP h).elim
  |7,_=>
   rw[vu]at h;rcases ifo h with h|h
   ·exact(dP h).elim
   ·rcases ifo h with h|h
    ·exact c 7 _ _ _ _ _ _ _ (by omega) (by omega) b.tl.tl h
    ·exact c 8 _ _ _ _ _ _ _ (by omega) (by omega) b.tl h
  |8,_=>
   rw[vw]at h;rcases ifo h with h|h
   ·obtain⟨k,r1,p,j,g⟩:=dF h;have a:=c 4 _ _ _ _ _ _ _ (by omega) (by omega) b.tl j;cases dU g;exact⟨Ah _ _ _ a.1,a.2⟩
   ·exact(dP h).elim
theorem Bo (E:Nat): ∀(f:Nat) (c:List Ru) (r:List Tk) {L:List Ru},Gd r->(∀u∈c,u.1.length<=20/\NmX u.2)->jb E f c r= .ok L-> ∀u∈L,u.1.length<=20/\NmX u.2
 |0,c,r,L,_,ha,h=>by cases h;exact ha
 |f+1,c,r,L,e,ha,h=>by
  unfold jb at h;split at h
  ·cases h;exact ha
  ·split at h
   ·split at h
    ·cases h
    ·unfold pm at h;split at h
     ·cases h
     ·rename_i b;split at b
      ·cases b
      ·split at b
       ·split at b
        ·cases b
        ·rename_i g;split at b
         ·cases b
         ·split at b
          ·cases b;have a:=JQ E _ 0 _ _ _ _ _ _ _ (by omega) (by omega) e.tl.tl.tl g
           exact Bo E f _ _ a.2.tl (fun u d=>by
            rcases bN.1 d with d|d
            ·exact ha u d
            ·rw[bL.1 d];exact⟨e.tl.text,a.1⟩) h
          ·cases b
       ·cases b
   ·cases h
theorem GV {l:List UInt8}{a:List Tk}{k:Nat}(h:fX l a k):Gd a:=by
 obtain⟨n,c⟩:=h;refine fX.ind (M:=fun a _=>Gd a) (fun p b=>by cases b) ?_ n c;intro a k _ _ _ d p b;rcases bN.1 b with h|h
 ·exact d p h
 ·rw[show p=(firstT (l.drop k),k) by simpa using h];exact GU _
theorem mR.rob {c w:World}{v:Value}{a:List (Ru×Value)}(h:mR c w v a)(e:a.length<=40)(k:NmR (a.map (fun p=>p.1))):Rob (fun q=>c.heap.size<=q) (fun u=>InR u v a) w:=fun u _ ha=>
 Ep (w0:=c) ⟨bJ h.own fun b f=>ha b (h.own.lt b f).1 (h.own.lt b f).2,fun p l=>by
  obtain⟨d,i⟩:=h.kids p l;exact⟨d,i.kept fun g j e=>ha g j e⟩⟩ e k
def xu (l:List UInt8):Nat->List Tk->Nat->List Tk×Nat
 |0,a,k=>(a,k)
 |f+1,a,k=>if k<l.length/\(firstT (l.drop k)).err=0 then xu l f (a++[(firstT (l.drop k),k)]) (k+(firstT (l.drop k)).len+fh false (l.drop (k+(firstT (l.drop k)).len))) else(a,k)
def Dd (l:List UInt8):List Tk×Nat:=xu l (l.length+1) [] (0+fh false (l.drop 0))
theorem De {l:List UInt8}: ∀(f:Nat) (a:List Tk) (k:Nat),fX l a k->l.length<f+a.length->fX l (xu l f a k).1 (xu l f a k).2/\ ¬((xu l f a k).2<l.length/\(firstT (l.drop (xu l f a k).2)).err=0)
 |0,a,k,h,c=>by have:=h.le;omega
 |f+1,a,k,h,c=>by
  unfold xu;by_cases b:k<l.length/\(firstT (l.drop k)).err=0
  ·rw[aB b];exact De f _ _ (h.step b.1 b.2) (by rw[aO];simp;omega)
  ·rw[ax b];exact⟨h,b⟩
theorem Aj {l:List UInt8}{a:List Tk}{k:Nat}(h:fX l a k)(e: ¬(k<l.length/\(firstT (l.drop k)).err=0)):Dd l=(a,k):=by
 obtain⟨c,d⟩:=De (l:=l) (l.length+1) [] _ fX.start (by simp);obtain⟨b,e2⟩:=Ik c h d e;exact Prod.ext b e2
def lj (l:List UInt8):Int×List Ru:=
 if 6000<l.length then(4,[]) else
 if(Dd l).2<l.length then((firstT (l.drop (Dd l).2)).err,[]) else
 match jb l.length ((Dd l).1.length+1) [] (Dd l).1 with
 | .error q=>(q.1,[])
 | .ok rs=>(0,rs)
theorem JR {l:List UInt8}{o w:World}{v:Value}{er at_:Int}(h:ua l o w v er at_):er=(lj l).1/\(er=0-> ∃a,mR o w v a/\a.length<=40/\a.map (fun p=>p.1)=(lj l).2/\NmR (a.map (fun p=>p.1))):=by
 have nil: ∀(L:List Ru),L=[]->v=af-> ∃a:List (Ru×Value),mR o w v a/\a.length<=40/\a.map (fun p=>p.1)=L/\NmR (a.map (fun p=>p.1)):=fun L t x=>by
  subst t x;exact⟨[],⟨dl _ _ _ _,fun p m=>by cases m⟩,by simp,rfl,fun p m=>by cases m⟩
 rcases h with⟨i,c,b,_⟩|⟨q,k,i,c,b,d,f,g,_⟩|⟨q,k,j,r,i,c,b,d,f,g,_⟩|⟨q,k,a,i,c,b,d,f,g,s,_⟩
 ·have e:lj l=(4,[]):=by unfold lj;rw[aB i]
  rw[e];exact⟨b,fun _=>nil _ rfl c⟩
 ·have e:lj l=((firstT (l.drop k)).err,[]):=by
   unfold lj;rw[ax (by omega),Aj c (fun h=>d h.2),aB b]
  rw[e];exact⟨g,fun _=>nil _ rfl f⟩
 ·have e:lj l=(j,[]):=by
   unfold lj;rw[ax (by omega),Aj c (fun h=>b h.1),ax b,d]
  rw[e];exact⟨g,fun _=>nil _ rfl f⟩
 ·have e:lj l=(0,a.map (fun p=>p.1)):=by
   unfold lj;rw[ax (by omega),Aj c (fun h=>b h.1),ax b,d]
  rw[e];refine⟨s,fun _=>⟨a,g,f,rfl,fun u n=> ?_⟩⟩;obtain⟨z,A,y⟩:=Bo _ _ _ _ (GV c) (fun u n=>by cases n) d u n;exact⟨by omega,by omega,y⟩
def iM (l:List UInt8):Int×List Ru:=if(lj l).1≠0 then((lj l).1,[]) else((iE (lj l).2).1,(lj l).2)
def Mu (l:List UInt8)(w:World)(e:Ending)(w':World):Prop:= ∃b a:Value,e= .returned (.tuple #[b,a,ag (iM l).1])/\aq w w'/\((iM l).1=0->(iM l).2.length<=40/\iE (iM l).2=(0,0)/\Rob (fun q=>w.heap.size<=q) (fun u=> ∃c,InR u b c/\c.map (fun p=>p.1)=(iM l).2) w'/\ ∀u,oz w' u->InV u a (eW (iM l).2))
theorem Bp {l:List Ru}(h:(iE l).1=0):iE l=(0,0):=by
 unfold iE at h⊢;split
 ·rename_i a;rw[aB a]at h;exact absurd h a
 ·rename_i a;rw[ax a]at h;split
  ·rename_i b;rw[aB b]at h;cases h
  ·rfl
theorem LZ {l:List Ru}(h:(dy l).1≠0):(iE l).1=(dy l).1:=by unfold iE;rw[aB h]
theorem qH.below {w w':World}(h:qH w)(a:aq w w'):qH w':=fun i hi=>(a.cell (cg (h i hi))).trans (h i hi)
theorem L0 {l:List UInt8}{b w:World}{v:Value}{er at_:Int}(h:ua l b w v er at_)(a:er≠0):v=af:=by
 rcases h with⟨_,h,_⟩|⟨_,_,_,_,_,_,h,_⟩|⟨_,_,_,_,_,_,_,_,h,_⟩|⟨_,_,_,_,_,_,_,_,_,h,_⟩
 ·exact h
 ·exact h
 ·exact h
 ·exact absurd h a
theorem GW {w w':World}(h:Tab w)(a:aq w w'):Tab w':=h.later a
theorem Df (l:List UInt8)(g:l.length<=9223372036854775807)(w:World)(hT:gZ w)(hD:qH w)(hB:Tab w):Calls prog 59 #[.string ⟨l.toArray⟩] w (Mu l w):=by
 have cP:=IF ⟨l.toArray⟩ l (by simp) g w hT hD;have HB:=aF hB;clear hT hD hB;go_enter func59,ntmps59;go_wp2_with fail;refine cP.mono ?_;rintro e a ⟨⟨v,er,at_,rfl,hp⟩,b1⟩;obtain⟨he,I⟩:=JR hp;obtain⟨w2,an,b2,n2⟩:=nb a #[ag er,ag at_] 48;have z2:w2.cell? (ae a.heap.size 0)=some (ag er):=cr 0 n2 rfl;have HE:=aF he;have D:=aF I;have ad:=aF b1.size;have A:=aF (aw b1 b2);have C:=aF b2
 have a0: ∃p n c,v= .slice p n c:=by
  by_cases y:er=0
  ·obtain⟨s,d,_⟩:=I y;obtain⟨p,c,e⟩:=dj d.own;exact⟨p,_,c,e⟩
  ·exact⟨none,0,0,L0 hp y⟩
 obtain⟨Q,P,L,rfl⟩:=a0;clear cP hp he I b1 b2;by_cases y:er=0
 ·subst y;obtain⟨s,d,E,r,al⟩:=D.o rfl;have k:Rob (fun q=>w.heap.size<=q/\q<a.heap.size) (fun u=>InR u (.slice Q P L) s) w2:=Rob.below (fun u J ha=>d.rob E al u J fun q m g=>ha q ⟨m,g⟩ g) C.o;have cK:=vz s (.slice Q P L) w2 k.here;rw[r]at cK;obtain⟨R,hR⟩:=au ((lj l).2)
  have x:Rg (iM l=((iE R).1,R)):=by
   show _=_;unfold iM;rw[ax (by rw[<-HE.o];simp),hR]
  rw[hR]at cK r;have Z:=aF k;have ac:=aF r;have aa:Rg (R.length<=40):=(by show _<=_;rw[<-r,aX];exact E);obtain⟨i,G⟩:=au ((dy R).1);obtain⟨ca,ah⟩:=au ((dy R).2:Int);rw[G,ah]at cK;have V:=aF G;clear d al k r hR G ah D HE C E;go_wp2_with fail;refine cK.mono ?_;rintro e w3 ⟨rfl,b3⟩;have O:=bt b3 n2;have n4:=aL _ _ _ #[ag i,ag ca] _ _ O;have B:=aF (below_setRow (aw A.o b3) ad.o #[ag i,ag ca]);have Y:Rg (Rob (fun q=>w.heap.size<=q/\q<a.heap.size) (fun u=>InR u (.slice Q P L) s) (w3.setRow a.heap.size #[ag i,ag ca])):=(Z.o.below b3).move (by simp) (fun q m _=>aW _ _ _ _ (by omega)) fun _ _ h=>h;generalize a1:w3.setRow a.heap.size #[ag i,ag ca]=w4 at*;have z4:w4.cell? (ae a.heap.size 0)=some (ag i):=cr 0 n4 rfl;clear cK b3 Z A z2 n2;by_cases h1:i=0
  ·subst h1;have cC:=Ej s (.slice Q P L) w4 Y.o.here (GW HB.o B.o);rw[ac.o]at cC;unfold ze at cC;obtain⟨j,H⟩:=au ((iE R).1);obtain⟨N,ai⟩:=au ((iE R).2);rw[H,ai]at cC;have t:=aF H;clear H ai an;go_wp2_with(first|(refine aA rfl 48 _ _ rfl _ _ rfl rfl _ _ O (by kernel_rfl) rfl (by simp[Value.oneCell']) ?_)|fail)
   refine cC.mono ?_;rintro e w5 ⟨vc,rfl,ak,am,b5⟩;have m3:=bt b5 n4;have n6:=aL _ _ _ #[ag j,ag N] _ _ m3;have S:=aF (below_setRow (aw B.o b5) ad.o #[ag j,ag N]);have ap:Rg (Rob (fun q=>w.heap.size<=q) (fun u=> ∃s,InR u (.slice Q P L) s/\s.map (fun p=>p.1)=R) (w5.setRow a.heap.size #[ag j,ag N])):=Rob.imp (((Y.o.below b5).move (by simp) (fun q m _=>aW _ _ _ _ (by omega)) fun _ _ h=>h.1):Rob (fun q=>w.heap.size<=q) (fun u=>InR u (.slice Q P L) s) _) fun u J=>⟨s,J,ac.o⟩
   have ar:Rg (∀u,oz (w5.setRow a.heap.size #[ag j,ag N]) u->oz w5 u):=fun u J q c T f m hT=>by
    by_cases e:q=a.heap.size
    ·subst e;rw[m3]at m;injection m with m;injection m with _ m _;subst m;exact absurd hT (by decide)
    ·have:=aW w5 a.heap.size q #[ag j,ag N] e;rw[<-this];exact J q c T f (this.trans m) hT
   have av:=aF am;have ao:=aF ak;generalize a5:w5.setRow a.heap.size #[ag j,ag N]=w6 at*;have z6:w6.cell? (ae a.heap.size 0)=some (ag j):=cr 0 n6 rfl;have O:=m3;clear cC ak am b5 z4 n4 m3 a1;by_cases h2:j=0
   ·subst h2;go_wp2_with(refine aA rfl 48 _ _ rfl _ _ rfl rfl _ _ O (by kernel_rfl) rfl (by simp[Value.oneCell']) ?_)
    go_ret3;refine⟨_,_,by rw[x.o,t.o];rfl,S.o,fun _=> ?_⟩;rw[x.o];exact⟨aa.o,Bp t.o,ap.o,fun u J=>ao.o trivial u (ar.o u J)⟩
   ·have a4:(j !=0)=true:=(by simpa using h2);have X:=aF h2;have ay:=av.o h2;subst ay;clear h2;go_wp2_with(refine aA rfl 48 _ _ rfl _ _ rfl rfl _ _ O (by kernel_rfl) rfl (by simp[Value.oneCell']) ?_)
    refine cZ (fun _ _ W=>aq w6 W) [kn 33 (ab a.heap.size 0),kn 34 (ag j),kn 2 (af),kn 3 (af),kn 4 (ag j)] (fun _=>(aH _ _).drew) (fun _ _ _ _ b h=>aw h b) (by kernel_rfl) ?_ ?_
    ·rintro M φ W b _ F l g hF;have z:W.cell? (ae a.heap.size 0)=some (ag j):=aj b z6;simp only[kn,eh,aQ,aT,Act.put,az,aK,aJ]at g;subst g;simp only[dc,Nat.reduceAdd]at hF;dsimp only[kn,dz,eV,eo,Act.put];and_intros;all_goals first|exact trivial|intro hw hn hm K hK
     all_goals (go_simp;with_reducible exact hK _ _ ⟨rfl,aH _ _⟩)
    ·rintro M φ W hM b;simp only[kn,eD,aQ,aT,Act.put,az,aK,aJ];clear hM z6;go_wp2_with fail;go_ret3;exact⟨_,_,by rw[x.o,t.o];rfl,aw S.o b,fun e=>absurd (by rw[x.o,t.o]at e;exact e) X.o⟩
  ·have a3:(i !=0)=true:=(by simpa using h1)
   have U:Rg ((iM l).1=i):=by
    show _=_;rw[x.o];show(iE R).1=i;rw[LZ (by rw[V.o];exact h1),V.o]
   have X:=aF h1;clear h1 an;go_wp2_with(refine aA rfl 48 _ _ rfl _ _ rfl rfl _ _ O (by kernel_rfl) rfl (by simp[Value.oneCell']) ?_)
   refine cZ (fun _ _ W=>aq w4 W) [kn 23 (ab a.heap.size 0),kn 24 (ag i),kn 2 (af),kn 3 (af),kn 4 (ag i)] (fun _=>(aH _ _).drew) (fun _ _ _ _ b h=>aw h b) (by kernel_rfl) ?_ ?_
   ·rintro M φ W b _ F l g hF;have z:W.cell? (ae a.heap.size 0)=some (ag i):=aj b z4;simp only[kn,eh,aQ,aT,Act.put,az,aK,aJ]at g;subst g;simp only[dc,Nat.reduceAdd]at hF;dsimp only[kn,dz,eV,eo,Act.put];and_intros;all_goals first|exact trivial|intro hw hn hm K hK
    all_goals (go_simp;with_reducible exact hK _ _ ⟨rfl,aH _ _⟩)
   ·rintro M φ W hM b;simp only[kn,eD,aQ,aT,Act.put,az,aK,aJ];clear hM z4;go_wp2_with fail;go_ret3;exact⟨_,_,by rw[U.o];rfl,aw B.o b,fun e=>absurd (by rw[U.o]at e;exact e) X.o⟩
 ·have a2:(er !=0)=true:=by simpa using y
  have x:Rg (iM l=(er,[])):=by
   show _=_;unfold iM;rw[aB (by rw[<-HE.o];exact y),HE.o]
  have X:=aF y;clear y D C n2;go_upto_region 3 with fail;refine cZ (fun _ _ W=>aq w2 W) [kn 16 (ab a.heap.size 0),kn 17 (ag er),kn 2 (af),kn 3 (af),kn 4 (ag er)] (fun _=>(aH _ _).drew) (fun _ _ _ _ b h=>aw h b) (by kernel_rfl) ?_ ?_
  ·rintro M φ W b _ F l g hF;have z:W.cell? (ae a.heap.size 0)=some (ag er):=aj b z2;simp only[kn,eh,aQ,aT,Act.put,az,aK,aJ]at g;subst g;simp only[dc,Nat.reduceAdd]at hF;dsimp only[kn,dz,eV,eo,Act.put];and_intros;all_goals first|exact trivial|intro hw hn hm K hK
   all_goals (go_simp;with_reducible exact hK _ _ ⟨rfl,aH _ _⟩)
  ·rintro M φ W hM b;simp only[kn,eD,aQ,aT,Act.put,az,aK,aJ];clear hM z2;go_wp2_with fail;go_ret3;exact⟨_,_,by rw[x.o];rfl,aw A.o b,fun e=>absurd (by rw[x.o]at e;exact e) X.o⟩
section
def Cor (d a:Dk):Prop:= ∃k r,a={d with kept:=k,runs:=r}
theorem Cor.refl (d:Dk):Cor d d:=⟨d.kept,d.runs,rfl⟩
theorem Cor.trans {a b c:Dk}(h:Cor a b)(d:Cor b c):Cor a c:=by
 obtain⟨k,r,rfl⟩:=h;obtain⟨e,f,rfl⟩:=d;exact⟨e,f,rfl⟩
theorem tz (d:Dk)(r day:Int):Cor d (eQ d r day).2:=by
 unfold eQ;dsimp only;split
 ·exact Cor.refl d
 ·exact⟨_,_,rfl⟩
theorem xw {f:Int->Dk->Bool×Dk}(a: ∀x d,Cor d (f x d).2): ∀(l:List Int) (d:Dk),Cor d (jf f l d).2
 |[],d=>Cor.refl d
 |x::l,d=>by
  unfold jf;split
  ·exact a x d
  ·exact(a x d).trans (xw a l _)
def Tr.ad (t:Tr)(L:List Nat):Tr:={t with xs:=L++t.xs}
section
variable {B gD:Nat} {d:Dk} {t:Tr} {w w':World}
theorem Kd.ad {L:List Nat}(h:Kd gD t t w w'):Kd gD (t.ad L) (t.ad L) w w':=⟨h.os,h.tape,h.output,h.size,h.blk,fun _ _ h=>h,rfl⟩
theorem Kd.un {L:List Nat}(h:Kd gD (t.ad L) (t.ad L) w w'):Kd gD t t w w':=⟨h.os,h.tape,h.output,h.size,h.blk,fun _ _ h=>h,rfl⟩
theorem dC.drop {L:List Nat}(h:dC B gD d (t.ad L) w):dC B gD d t w:=by
 obtain⟨f,j,e,l,kv,k,c,h⟩:=h;have mv: ∀{Φ:World->Prop},Rob (Fx gD (t.ad L)) Φ w->Rob (Fx gD t) Φ w:=fun g=>g.move (aD _) (fun _ _ _=>rfl) fun q _ a=>⟨a.1,fun i=>a.2 (dm _ i)⟩
 exact⟨f,j,e,l,kv,k,c,h.blk,h.lo,mv h.rules,mv h.codes,mv h.vers,mv h.kept,h.res,h.svs,h.sve,fun p b=>mv (h.svr p b),h.aps,h.ape,fun p b=>mv (h.apr p b),fun q a=>h.nx q (dm _ a)⟩
theorem dC.grown {L:List Nat}(h:dC B gD d (t.ad L) w){v j:Value}{l e size n m:Nat}{xs ys:List Value}(_:w.ownsRow l e size v n xs)(G: ∀b,v.ownBlock=some b->b∈L)(y:w.grownBy w' v.ownBlock)(D:w'.ownsRow l e size j m ys)(O:j.ownBlock=v.ownBlock\/j.ownBlock=some w.heap.size): ∃g,dC B gD d (t.ad g) w'/\(∀b,j.ownBlock=some b->b∈g)/\(∀b∈g,b∈L\/(b=w.heap.size/\j.ownBlock=some b))/\ ∀Φ:World->Prop,Rob (Fx gD (t.ad L)) Φ w->Rob (Fx gD (t.ad g)) Φ w':=by
 obtain⟨K,P,J,R,kv,Q,I,h⟩:=h;have C:=aI h.blk;have ne: ∀q,q<w.heap.size->q∉L->w'.heap[q]? =w.heap[q]? :=fun q z a=>y.block q z fun e=>a (G q e.symm)
 have mv: ∀g:List Nat,(∀q,q∈g↔q∈L\/(j.ownBlock=some q/\q=w.heap.size))-> ∀Φ:World->Prop,Rob (Fx gD (t.ad L)) Φ w->Rob (Fx gD (t.ad g)) Φ w':=fun g k Φ M=>M.move y.size (fun q a z=>ne q z fun f=>a.2 (dJ _ f)) fun q z a=>⟨a.1,fun f=>by
  rcases bN.1 f with f|f
  ·rcases(k q).1 f with f|⟨_,f⟩
   ·exact a.2 (dJ _ f)
   ·omega
  ·exact a.2 (dm _ f)⟩
 have r: ∀g:List Nat,(∀q,q∈g↔q∈L\/(j.ownBlock=some q/\q=w.heap.size))->dC B gD d (t.ad g) w':=fun g k=>by
  have mv:= @mv g k;have x: ∀q∈L,q<w.heap.size/\B<=q/\q≠gD/\some q≠t.ev.ownBlock/\some q≠t.sv.ownBlock/\some q≠t.av.ownBlock:=fun q a=>h.nx q (dJ _ a);have rk: ∀{e s n:Nat} {u:Value} {xs:List Value},w.ownsRow B e s u n xs->(∀q∈L,some q≠u.ownBlock)->w'.ownsRow B e s u n xs:=fun H N=>bJ H fun b i=>ne b (H.lt b i).2 fun f=>N b f i.symm;refine⟨K,P,J,R,kv,Q,I,(ne gD C fun f=>(x gD f).2.2.1 rfl).trans h.blk,h.lo,mv _ h.rules,mv _ h.codes,mv _ h.vers,mv _ h.kept,rk h.res fun q a=>(x q a).2.2.2.1,rk h.svs fun q a=>(x q a).2.2.2.2.1,h.sve,fun p E=>mv _ (h.svr p E),rk h.aps fun q a=>(x q a).2.2.2.2.2,h.ape,fun p E=>mv _ (h.apr p E),fun q a=> ?_⟩;rcases bN.1 a with a|a
  ·rcases(k q).1 a with a|⟨A,F⟩
   ·have:=x q a;exact⟨aU this.1 y.size,this.2⟩
   ·have:=h.lo;exact⟨(D.lt q A).2,by omega,by omega,mo h.res (.inr (by omega)),mo h.svs (.inr (by omega)),mo h.aps (.inr (by omega))⟩
  ·have:=h.nx q (dm _ a);exact⟨aU this.1 y.size,this.2⟩
 by_cases o:j.ownBlock=some w.heap.size
 ·have c: ∀q,q∈w.heap.size::L↔q∈L\/(j.ownBlock=some q/\q=w.heap.size):=fun q=>by
   rw[bo,o];constructor
   ·rintro(rfl|h)
    ·exact .inr ⟨rfl,rfl⟩
    ·exact .inl h
   ·rintro(h|⟨_,h⟩)
    ·exact .inr h
    ·exact .inl h
  refine⟨w.heap.size::L,r _ c,fun b i=> ?_,fun b i=> ?_,mv _ c⟩
  ·rw[o]at i;rw[<-aM i];exact bf
  ·rcases bo.1 i with h|h
   ·exact .inr ⟨h,by rw[h];exact o⟩
   ·exact .inl h
 ·have e:=O.resolve_right o;have c: ∀q,q∈L↔q∈L\/(j.ownBlock=some q/\q=w.heap.size):=fun q=>⟨.inl,fun h=>h.elim id fun⟨A,F⟩=>absurd (by rw[A,F]) o⟩
  exact⟨L,r L c,fun b i=>G b (by rw[<-e];exact i),fun b i=> .inl i,mv L c⟩
end
theorem Er {l:List Ap}{j:Nat}{a:Ap}(d:Dk)(h:l[j]? =some a):ff (l.drop j) j d=if a.st=3 then ff (l.drop (j+1)) (j+1) d else(if(jf (lw a.day a.fr a.to) a.who d).1=true then(j:Int)::(ff (l.drop (j+1)) (j+1) (jf (lw a.day a.fr a.to) a.who d).2).1 else(ff (l.drop (j+1)) (j+1) (jf (lw a.day a.fr a.to) a.who d).2).1,(ff (l.drop (j+1)) (j+1) (jf (lw a.day a.fr a.to) a.who d).2).2):=by
 obtain⟨b,c⟩:=aE.1 h;rw[bK b,c];rfl
section
variable {B gD:Nat} {d:Dk} {t:Tr}
theorem GX (w:World)(h:dC B gD d t w):Calls prog 61 #[ab gD 0] w fun e w'=> ∃lv,e= .returned lv/\dC B gD (ff d.aps 0 d).2 t w'/\Kd gD t t w w'/\w'.ownsRow w.heap.size 3 1 lv (ff d.aps 0 d).1.length (dB (ff d.aps 0 d).1):=by
 obtain⟨wA,hA,bA,nA⟩:=nb w #[ab gD 0] 99;have aq:=h.below bA;have H0:=aF h;have a8:=aF aq;obtain⟨af,aQ⟩:=aq;obtain⟨rv,cv,vv,kv,ss,aa,hm⟩:=aQ;have ay:aa.length=d.aps.length:=by rw[<-hm.ape,aX]
 obtain⟨n,hn⟩:=au d.aps.length;have HN:=aF hn;obtain⟨pa,ca,G⟩:=dj hm.aps;rw[ay,hn]at G;have z3:wA.cell? (ae gD 3)=some t.av:=cr 3 hm.blk rfl;rw[G]at z3;have aT:n<=30:=by rw[<-hn];exact af.al
 have a3:=aF G;have a4:=aF bA;have aL:=aF af;have z1:=cr 0 nA rfl;have ah:w.heap.size<=wA.heap.size:=bA.size;have HG:Rg (∀q,w.heap.size<=q->Gx gD t q):=fun q E=>(H0.o.fx (.inr E)).1;have eF: ∀K w,(callFunc 105 K).run prog w= .ok (.enter 105 K) w:=fun _ _=>rfl;clear h hm ay hn G af bA;go_enter func61,ntmps61;go_wp2_with fail;clear z3 hA z1;go_loopw [3,4,5,6,13] (fun v _ _ _ q wr=> ∃(j:Nat) (dd:Dk) (l:List Int) (L:List Nat),q=ag (j:Int)/\j<=n/\Cor d dd/\dC B gD dd (t.ad L) wr/\(∀b,v.ownBlock=some b->b∈L)/\Kd gD t t wA wr/\wr.ownsRow wA.heap.size 3 1 v l.length (dB l)/\l.length<=j/\ff d.aps 0 d=(l++(ff (d.aps.drop j) j dd).1,(ff (d.aps.drop j) j dd).2)) (fun _ _ _ _ q _=>n-(intOf q).toNat);case atStart=>exact⟨0,d,[],[],rfl,by omega,Cor.refl d,a8.o,(fun b hb=>by cases hb),Kd.of (aH _ _),dl _ _ _ _,aD _,rfl⟩
 case round=>
  obtain⟨j,dd,l,L,rfl,hj,u,hd,S,hk,f,aZ,hX⟩:=hrel;have aY:(0:Int)<=(j:Int):=(by omega);have A:dd.aps=d.aps:=(by obtain⟨_,_,rfl⟩:=u;rfl);have an:dd.res=d.res:=(by obtain⟨_,_,rfl⟩:=u;rfl);by_cases aR:j<n
  ·have ar:(j:Int)<(n:Int):=(by omega);obtain⟨a,pw,cw,ga,aM,ha,a0,_,y,N⟩:=DkM.ap hd.2 (j:=j) (by rw[A,HN.o];exact aR);rw[A]at ha;have e0:Value.slice pa n ca= .slice (some (ae ga 0)) n aM:=(by rw[<-a3.o,<-HN.o,<-A];exact a0);injection e0 with e1 e3 e2;subst e1 e2;rw[Er dd ha]at hX;have D:=(aL.o.ap a (aN ha)).2.2.2.2.2.2;obtain⟨wZ,wB,hZ,nZ,hB,bB,nB⟩:=nbs wr apZ (apC (a,.slice pw a.who.length cw)) 45;unfold apZ at hZ nZ;have y0:wB.cell? (ae wr.heap.size 0)=some (ag a.st):=cr 0 nB rfl;have a2:wB.cell? (ae wr.heap.size 10)=some (.slice pw a.who.length cw):=cr 10 nB rfl;have U:=hd.below bB;have Y:=hk.trans (Kd.of bB);have C:=bJ f fun b E=>bB.block b (f.lt b E).2;have ai:w.heap.size<=wr.heap.size:=bg ah hk.size
   have cC:=pW (lw a.day a.fr a.to) (fun s W=>dC B gD s (t.ad L) W/\Kd gD t t wB W/\Cor d s) 105 #[ab w.heap.size 0,ab wr.heap.size 0] a.who (.slice pw a.who.length cw) dd wB eF ⟨U,Kd.of (aH _ _),u⟩ (fun s W M=>(M.2.1.ad.rob (N.below bB)).here) (fun x hx s W M=>by
    have h1:=M.2.1.blk w.heap.size (HG.o _ (aD _));have h2:=M.2.1.blk wr.heap.size (HG.o _ ai);have a1:=(Y.blk w.heap.size (HG.o _ (aD _)) (aI nA)).trans nA;have aS:s.res=d.res:=(by obtain⟨_,_,rfl⟩:=M.2.2;rfl);refine(JJ W M.1 (D x hx).1 (by rw[aS];exact(D x hx).2) ((h1 (aI a1)).trans a1) ((h2 (aI nB)).trans nB) (HG.o _ ai) (HG.o _ (aD _))).mono fun e w' hh=>⟨hh.1,hh.2.1,M.2.1.trans hh.2.2.un,M.2.2.trans (tz s x a.day)⟩)
   have J:=aF hX;have z:=aF C;have P:=aF Y;have a9:=aF U;have a5:=aF u;have Q:=aF S;obtain⟨st,az⟩:=au a.st;rw[az]at y0 J;obtain⟨nw,Z⟩:=au a.who.length;rw[Z]at a2 cC;have aV:=aF Z;have R:=aF y;clear S hX az e3 a0 N f hd U hk Y u A an C ha D ai Z;by_cases h3:st=3
   ·subst h3;have HY:=aF (J.o.trans (by rw[aB rfl]));clear J cC;have y:=R.o;go_wp2_with(first|(refine wpList_load_mid rfl 45 _ rfl ga (j*11) rfl (apC (a,.slice pw a.who.length cw)).toList _ y apT rfl (by kernel_rfl) ?_)|(refine aA rfl 45 _ _ rfl _ _ rfl rfl _ _ nZ (by kernel_rfl) rfl (iV _ _ _ _) ?_;rw[hB]))
    go_roundw;case rel=>exact⟨j+1,dd,l,L,by go_num,by omega,a5.o,a9.o,Q.o,P.o,z.o,by omega,HY.o⟩
    case measure=>simp[intOf];omega
   ·have aW:(st !=3)=true:=(by simpa using h3);obtain⟨bb,T⟩:=au ((jf (lw a.day a.fr a.to) a.who dd).1);obtain⟨F,V⟩:=au ((jf (lw a.day a.fr a.to) a.who dd).2);rw[T,V]at cC
    have HY:Rg (ff d.aps 0 d=(l++(if bb=true then(j:Int)::(ff (d.aps.drop (j+1)) (j+1) F).1 else(ff (d.aps.drop (j+1)) (j+1) F).1),(ff (d.aps.drop (j+1)) (j+1) F).2)):=by
     show _=_;have:=J.o;rw[ax h3,T,V]at this;exact this
    have y:=R.o;clear J T V h3;go_wp2_with(first|(refine wpList_load_mid rfl 45 _ rfl ga (j*11) rfl (apC (a,.slice pw a.who.length cw)).toList _ y apT rfl (by kernel_rfl) ?_)|(refine aA rfl 45 _ _ rfl _ _ rfl rfl _ _ nZ (by kernel_rfl) rfl (iV _ _ _ _) ?_;rw[hB]))
    refine cC.mono ?_;rintro e w1 ⟨rfl,H,X,p⟩;have r:=P.o.trans X;have k:=bJ z.o fun b E=>X.blk b (HG.o b (bg ah (z.o.lt b E).1)) (z.o.lt b E).2;clear cC y0 a2 nB nZ hB hZ y R X z P;cases bb with
    |false=>
     have a6:=aF H;have aC:=aF r;have aJ:=aF k;have O:=aF p;have HZ:Rg (ff d.aps 0 d=(l++(ff (d.aps.drop (j+1)) (j+1) F).1,(ff (d.aps.drop (j+1)) (j+1) F).2)):=HY.o;clear H r k p HY;go_wp2_with fail;go_roundw;case rel=>exact⟨j+1,F,l,L,by go_num,by omega,O.o,a6.o,Q.o,aC.o,aJ.o,by omega,HZ.o⟩
     case measure=>simp[intOf];omega
    |true=>
     obtain⟨wC,hC,bC,nC⟩:=nb w1 #[ag (j:Int)] 3;have I:=bJ k fun b E=>bC.block b (k.lt b E).2;have i:=aF (r.trans (Kd.of bC));have aj:=aF (H.below bC);have O:=aF p;have aP:wA.heap.size<=wC.heap.size:=i.o.size
     have HZ:Rg (ff d.aps 0 d=((l++[(j:Int)])++(ff (d.aps.drop (j+1)) (j+1) F).1,(ff (d.aps.drop (j+1)) (j+1) F).2)):=by
      show _=_;rw[HY.o,dD];rfl
     clear H r k p HY bC;go_wp2_with(at_builtin;refine iO rfl _ _ 37 3 rfl qW oQ rfl (by decide) (by decide) rfl I rfl nC rfl (by simp[Value.oneCell']) (by omega) aP ?_)
     rintro v2 w2 ac m am g2 c2 rfl;obtain⟨L',ao,ak,_,_⟩:=aj.o.grown I Q.o m ac am;have aw:Kd gD t t wA w2:=⟨m.os.trans i.o.os,m.tape.trans i.o.tape,m.output.trans i.o.output,bg i.o.size m.size,fun q E hl=>(m.block q (aU hl i.o.size) (fun e=>by have:=(I.lt q e.symm).1;omega)).trans (i.o.blk q E hl),fun _ _ h=>h,rfl⟩
     have a7:=aF ao;have aG:=aF ak;have aE:=aF aw
     have aK:Rg (w2.ownsRow wA.heap.size 3 1 (.slice (some (ae g2 0)) (l.length+1) c2) (l++[(j:Int)]).length (dB (l++[(j:Int)]))):=by
      show World.ownsRow _ _ _ _ _ _ _;rw[lG,aO];exact ac
     clear I ac m am nC hC ao ak aw aj i;go_wp2_with fail;go_roundw;case rel=>exact⟨j+1,F,l++[(j:Int)],L',by go_num,by omega,O.o,a7.o,aG.o,aE.o,aK.o,by rw[aO];simp;omega,HZ.o⟩
     case measure=>simp[intOf];omega
  ·have ar: ¬(j:Int)<(n:Int):=(by omega);obtain rfl:n=j:=(by omega);rw[dn (by rw[HN.o];exact aD _)]at hX
   have J:Rg (ff d.aps 0 d=(l,dd)):=by
    show _=_;rw[hX];simp[ff]
   have HD:=aF hd.drop;have HK:=aF ((Kd.of a4.o).trans hk);have HO:Rg (wr.ownsRow w.heap.size 3 1 u3 l.length (dB l)):=⟨f.1,f.2.imp id fun⟨g,c,cu,q1,q2,q3⟩=>⟨g,c,cu,q1,bg ah q2,q3⟩⟩
   clear hX hd hk f u A an S;go_wp2_with fail;go_ret;exact⟨_,rfl,by rw[J.o];exact HD.o,HK.o,by rw[J.o];exact HO.o⟩
end
end
section
def Tbs (B:Nat)(w:World):Prop:= ∀W,Below B w W->gZ W/\qH W/\Tab W
theorem Tbs.below {B:Nat}{w w':World}(h:Tbs B w)(b:Below B w w'):Tbs B w':=fun _ a=>h _ (b.trans a)
def GY (w:World)(xs:List Nat):Prop:= ∀k∈xs,∃c T f,w.heap[k]? =some (.cells c T f)/\ ¬(T=195\/T=216\/T=57)
theorem xy (d:Dk)(l:List Ru):(oB d l).length=l.length:=by simp[oB]
section
variable {B gD:Nat} {d:Dk} {t:Tr}
theorem JS (x:List UInt8)(w:World)(h:dC B gD d t w)(hx:x.length<=9223372036854775807)(hT:Tbs B w)(hB:B<=w.heap.size)(hg:d.given+1<=1000000)(b7:GY w t.xs):Calls prog 29 #[ab gD 0,lg x] w (ru B gD (mL d (iM x)) t w):=by
 obtain⟨wA,hA,bA,nA⟩:=nb w #[ag 0,ag 0,ag 0,ag 0,af,af] 43;have b5:wA.heap.size=w.heap.size+1:=by rw[<-hA];simp
 have bn:=h.opened (aD _) b5 bA;have a0:=aF bn;have H0:=aF h;have ax:=aF bA;obtain⟨bB,bC,bD⟩:=hT wA (bA.mono hB);have cC:=Df x hx wA bB bC bD;have cR:=fun(e:Int) (W:World)=>fp e W;have HX:=aF b7;have HG:=aF hg
 have ba:Rg (gD<w.heap.size):=by
  obtain⟨_,_,_,_,_,_,_,y⟩:=h;exact aI y.blk
 unfold lg;unfold Mu at cC;obtain⟨er,he⟩:=au ((iM x).1);obtain⟨R,hR⟩:=au ((iM x).2);rw[he,hR]at cC;have HC:Rg (iM x=(er,R)):=by show _=_;rw[<-he,<-hR]
 go_enter func29,ntmps29;go_wp2_with fail;refine cC.mono ?_;rintro e F ⟨b9,bF,rfl,b1,aH⟩;have I:=a0.o.below b1;have n1:=bt b1 nA;have bj:=aw ax.o b1;have ay:=aF I;have m:=aF bj;have aS:=aF b1;have a4:=aF aH;by_cases h0:er=0
 ·subst h0;obtain⟨bh,bq,b4,aK⟩:=a4.o rfl;obtain⟨i,rv,cv,vv,kv,ss,aa,y⟩:=ay.o;have z6:F.cell? (ae gD 6)=some (ag d.given):=cr 6 y.blk rfl;have x6:=bp _ _ 6 _ _ y.blk;obtain⟨G,A⟩:=au (F.setCell ⟨gD,6,none⟩ (ag (d.given+1)));have X:G.heap[gD]? =ah #[rv,(t.add w.heap.size).ev,(t.add w.heap.size).sv,(t.add w.heap.size).av,cv,vv,ag (d.given+1),kv,ag d.runs] 73:=A▸aZ F gD 6 _ _ (ag (d.given+1)) y.blk;have J: ∀q,q≠gD->G.heap[q]? =F.heap[q]? :=fun q a=>A▸aP _ _ _ _ a;have aN:G.heap.size=F.heap.size:=(by rw[<-A];simp)
  have bP:IntKind.i64.wrap (d.given+1)=d.given+1:=by
   have:=HG.o;have:=i.gv;rw[bx];omega
  have S: ∀{Φ:World->Prop},Rob (Fx gD (t.add w.heap.size)) Φ F->Rob (Fx gD (t.add w.heap.size)) Φ G:=fun hR=>hR.move (by omega) (fun q a _=>J q a.1.1) fun _ _ h=>h;have aC:DkM B gD {d with given:=d.given+1} (t.add w.heap.size) rv cv vv kv ss aa G:=y.put (by omega) (fun q _ a=>J q a) X rfl rfl rfl (S y.rules) (S y.codes) (S y.vers) (S y.kept);have ad:uH {d with given:=d.given+1}:=⟨i.flt,i.vl,i.kl,i.rl,i.sl,i.al,⟨by have:=i.gv;show 0<=d.given+1;omega,HG.o⟩,i.nm,i.sv,i.ap⟩
  have bL:w.heap.size<=wA.heap.size:=ax.o.size;have bK:=ba.o;have Z:Rob (fun q=>wA.heap.size<=q) (fun u=> ∃us,InR u b9 us/\us.map (fun p=>p.1)=R) G:=b4.move (by omega) (fun q a _=>J q (by omega)) fun _ _ h=>h;obtain⟨us,aQ,ac⟩:=Z.here;have aO:us.length=R.length:=(by rw[<-ac,aX]);obtain⟨ar,ai,aq⟩:=aQ.form;rw[aO]at aq;obtain⟨V,M,a9,_,_⟩:=(aK F (fun _ _ _ _ _ _=>rfl)).form;obtain⟨U,aj⟩:=au R.length;obtain⟨nC,bz⟩:=au ((eW R).length);rw[aj]at aq;rw[bz]at a9;subst aq a9;have cV:=LX G ⟨ad,_,_,_,_,_,_,aC⟩ aQ (by omega);rw[ac,aO,aj]at cV;have bd:=aF aj;have bb:=aF aC;have a1:=aF Z;have bg:=aF aN;have a3:=aF J;have aU:Rg (∀u,oz F u->InV u (.slice V nC M) (eW R)):=aK;have aV:=aF bq;have aR:=aF bh;have a5:=aF ad;have n2:G.heap[w.heap.size]? =_:=(J w.heap.size (by omega)).trans n1;have L:=aF y;have aT:=aF X;go_wp2_with fail;refine cV.mono ?_;rintro e w3 ⟨v3,rfl,O,b3⟩;obtain⟨p3,c3,b6⟩:=dj O;subst b6;have H:=bt b3 aT.o;have x5:=bp _ _ 5 _ _ H;have y5:=cr 5 H rfl;obtain⟨w4,C⟩:=au (w3.setCell ⟨gD,5,none⟩ (.slice p3 U c3));have j:=aZ w3 gD 5 _ _ (.slice p3 U c3) H;rw[C]at j;have x0:=bp _ _ 0 _ _ j;have y0:=cr 0 j rfl;obtain⟨w5,D⟩:=au (w4.setCell ⟨gD,0,none⟩ (.slice ar U ai));have k:=aZ w4 gD 0 _ _ (.slice ar U ai) j;rw[D]at k;have x4:=bp _ _ 4 _ _ k;have y4:=cr 4 k rfl;obtain⟨K,E⟩:=au (w5.setCell ⟨gD,4,none⟩ (.slice V nC M));have Y:=aZ w5 gD 4 _ _ (.slice V nC M) k;rw[E]at Y
  have z: ∀q,q≠gD->K.heap[q]? =w3.heap[q]? :=fun q a=>by
   rw[<-E,<-D,<-C];exact(aP _ _ _ _ a).trans ((aP _ _ _ _ a).trans (aP _ _ _ _ a))
  have bN:K.heap.size=w3.heap.size:=(by rw[<-E,<-D,<-C];simp);have aE:=bb.o.below b3;have bM:=b3.size;have aN:=bg.o;have a8: ∀q,q<F.heap.size->q≠gD->K.heap[q]? =F.heap[q]? :=fun q hl a=>(z q a).trans ((b3.block q (by omega)).trans (a3.o q a));have bO:=aS.o.size;have a7: ∀q,wA.heap.size<=q->Fx gD (t.add w.heap.size) q:=fun q a=>a0.o.fx (.inr a);have b8: ∀{Φ:World->Prop},Rob (Fx gD (t.add w.heap.size)) Φ w3->Rob (Fx gD (t.add w.heap.size)) Φ K:=fun hR=>hR.move (by omega) (fun q a _=>z q a.1.1) fun _ _ h=>h;have bI:gD<wA.heap.size:=(by omega);obtain⟨N,I⟩: ∃q:Dk,q={d with rules:=R,vers:=qt d R,given:=d.given+1}:=⟨_,rfl⟩
  have bv:DkM B gD N (t.add w.heap.size) (.slice ar U ai) (.slice V nC M) (.slice p3 U c3) kv ss aa K:=by
   subst I;refine aE.put (by omega) (fun q _ a=>z q a) Y rfl rfl rfl ?_ ?_ ?_ (b8 aE.kept)
   ·exact(a1.o.below b3).move (by omega) (fun q a _=>z q (by omega)) fun q _ a=>a7 q a
   ·intro u hu ha;refine aU.o u fun q c T f a hT=> ?_;have b0:=aI a;have bi:T≠73:=(by rcases hT with rfl|rfl|rfl<;>decide)
    have ao:q≠gD:=fun e=>by
     subst e;have h1:=L.o.blk;rw[h1]at a;injection a with a;injection a with _ a _;exact bi a.symm
    have an: ∀{e s n:Nat} {v:Value} {xs:List Value},F.ownsRow B e s v n xs->(e=9\/e=36\/e=45)->some q≠v.ownBlock:=fun hr he e2=>by
     rcases hr.2 with⟨e,_⟩|⟨g,cap,bE,e,_,hg,_⟩
     ·rw[e]at e2;cases e2
     ·rw[e]at e2;have:q=g:=aM e2;subst this;rw[hg]at a;injection a with a;injection a with _ a _;subst a;revert hT he;rintro(rfl|rfl|rfl) (h|h|h)<;>cases h
    refine(ha q ⟨⟨ao,an L.o.res (.inl rfl),an L.o.svs (.inr (.inl rfl)),an L.o.aps (.inr (.inr rfl))⟩,fun hx=> ?_⟩ (by omega)).trans (a8 q b0 ao)
    obtain⟨c',T',f',bk,bw⟩: ∃c T f,F.heap[q]? =some (.cells c T f)/\ ¬(T=195\/T=216\/T=57):=by
     rcases bo.1 hx with rfl|hx
     ·exact⟨_,_,_,(a3.o _ ao).symm.trans n2,by decide⟩
     ·obtain⟨c,T,f,hc,hn⟩:=HX.o q hx;exact⟨c,T,f,bt m.o hc,hn⟩
    rw[bk]at a;injection a with a;injection a with _ a _;subst a;exact absurd hT bw
   ·refine Rob.imp (Rob.move (P:=fun q=>G.heap.size<=q) (Φ:=fun u=>u.ownsRow G.heap.size 3 1 (.slice p3 U c3) U (dB (oB {d with given:=d.given+1} R))) (w:=w3) (fun u _ ha=>bJ O fun b hb=>ha b (O.lt b hb).1 (O.lt b hb).2) (by omega) (fun q a _=>z q (by omega)) fun q _ a=>a7 q (by omega)) fun u hu=> ?_;have:=pP (w:=u) (B:=G.heap.size) (v:= .slice p3 U c3) (l:=oB {d with given:=d.given+1} R) (by rw[xy,bd.o];exact hu) (by rw[xy];have:=aR.o;omega);exact this
  have aJ:uH N:=by
   subst I;have a:=a5.o;exact⟨aV.o,(xy {d with given:=d.given+1} R),a.kl,a.rl,a.sl,a.al,a.gv,a.nm,a.sv,a.ap⟩
  have n6:=(z _ (by omega)).trans (bt b3 n2);have az:=aF (show dC B gD N (t.add w.heap.size) K from⟨aJ,_,_,_,_,_,_,bv⟩);have bs:Kd gD t t w K:=⟨by rw[<-E,<-D,<-C];exact b3.os.trans (by rw[<-A];exact m.o.os),by rw[<-E,<-D,<-C];exact b3.tape.trans (by rw[<-A];exact m.o.tape),by rw[<-E,<-D,<-C];exact b3.output.trans (by rw[<-A];exact m.o.output),by omega,fun q a hl=>(a8 q (by omega) a.1).trans (m.o.block q hl),fun _ _ h=>h,rfl⟩
  have a2:=aF bs;have cS:=GX K az.o
  have a6:Rg (mL d (iM x)=(⟨0,0,0,0,[],(ff N.aps 0 N).1⟩,(ff N.aps 0 N).2)):=by
   show _=_;rw[HC.o,I];rfl
  obtain⟨Q,hQ⟩:=au (ff N.aps 0 N);rw[hQ]at cS;rw[hQ]at a6;go_wp2_with fail;refine cS.mono ?_;rintro e w7 ⟨lv,rfl,bm,r,ak⟩;obtain⟨pl,cl,bu⟩:=dj ak;subst bu
  have br:Gx gD (t.add w.heap.size) w.heap.size:=by
   obtain⟨_,_,_,_,_,_,_,y⟩:=az.o;exact(y.nx _ bf).2.2
  have n7:=(r.blk _ br (aI n6)).trans n6;obtain⟨nq,aG⟩:=au Q.1.length;have bH:=a2.o.size;have am:w7.ownsRow K.heap.size 3 1 (.slice pl nq cl) Q.1.length (dB Q.1):=(by rw[<-aG];exact ak)
  have be:Rg (Rob (Fx gD t) (fun u=>dT u (.slice pl nq cl) Q.1) (w7.setRow w.heap.size (anC ⟨0,0,0,0,[],Q.1⟩ (af) (.slice pl nq cl)))):=by
   refine Rob.imp (Rob.move (P:=fun q=>K.heap.size<=q) (Φ:=fun u=>u.ownsRow K.heap.size 3 1 (.slice pl nq cl) Q.1.length (dB Q.1)) (w:=w7) (fun u _ ha=>bJ am fun b hb=>ha b (am.lt b hb).1 (am.lt b hb).2) (by simp) (fun q a _=>aW _ _ _ _ (by have:=aI n6;omega)) fun q _ a=>H0.o.fx (.inr (by omega))) fun u hu=>pP hu (by
    rcases ak.2 with⟨_,e⟩|⟨_,_,_,_,_,_,_,e,_⟩
    ·omega
    ·unfold maxLen at e;omega)
  have HO:=aF (fT bm (a2.o.trans ⟨r.os,r.tape,r.output,r.size,r.blk,fun _ _ h=>h,rfl⟩) (aD _) (anC ⟨0,0,0,0,[],Q.1⟩ (af) (.slice pl nq cl)));have HR:=aF (aL _ _ _ (anC ⟨0,0,0,0,[],Q.1⟩ (af) (.slice pl nq cl)) _ _ n7);rw[aG];go_wp2_with(refine aA rfl 43 _ _ rfl _ _ rfl rfl _ _ n7 (by kernel_rfl) rfl (by simp[Value.oneCell']) ?_)
  refine aY (v:= .agg (anC ⟨0,0,0,0,[],Q.1⟩ (af) (.slice pl nq cl))) ?_ rfl ?_
  ·exact bc rfl _ _ w.heap.size _ _ _ _ rfl HR.o anT rfl (by kernel_rfl)
  ·rw[a6.o];exact⟨t,_,_,rfl,HO.o.1,HO.o.2,fu _ _,be.o⟩
 ·have bG:(er !=0)=true:=by simpa using h0
  have HP:Rg (mL d (iM x)=(noA er,d)):=(by show _=_;rw[HC.o];unfold mL;rw[aB h0]);go_wp2_with fail;refine(cR er F).mono ?_;rintro e G ⟨rfl,b2⟩;have n2:=bt b2 n1;have bl:=ay.o.below b2;have HO:=aF (fT bl (Kd.of (aw m.o b2)) (aD _) (anC (noA er) (af) (af)));have HR:=aF (aL _ _ _ (anC (noA er) (af) (af)) _ _ n2);go_wp2_with(refine aA rfl 43 _ _ rfl _ _ rfl rfl _ _ n2 (by kernel_rfl) rfl (by simp[anC,noA,Value.oneCell']) ?_)
  refine aY (v:= .agg (anC (noA er) (af) (af))) ?_ rfl ?_
  ·exact bc rfl _ _ w.heap.size _ _ _ _ rfl HR.o anT rfl (by kernel_rfl)
  ·rw[HP.o];exact⟨t,_,_,rfl,HO.o.1,HO.o.2,fu _ _,eO _ _⟩
end
end
end Go.Proofs.YtlkehieagdkgiaaGreatDoor
