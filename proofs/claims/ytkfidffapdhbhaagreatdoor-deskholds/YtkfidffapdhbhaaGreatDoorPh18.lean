/- Texts of the proof. -/
import Derived.Test.YtkfidffapdhbhaaGreatDoorPh17
set_option maxRecDepth 100000
set_option maxHeartbeats 8000000
namespace Go.Proofs.YtkfidffapdhbhaaGreatDoor
open Go.Proofs.Tryz Go.RowKit Lx Vx Mx Msk
namespace Lx
def kidsP (k:Int):Nat:=if k=4\/k=5\/k=9 then 1 else if k=6\/k=7\/k=8 then 2 else 0
def rangeP (k a b:Int):Bool:=
 if k=3 then decide (0<=a/\a<b/\b<=1440)
 else if k=4 then decide (1<=a/\a<128)
 else if k=5 then decide (0<=a/\a<=b/\b<146097)
 else if k=9 then decide (a≠0/\ -1440<a/\a<1440) else true
def aloneP (e:Ex):Int:=
 if e.kind<1\/10<e.kind then 1 else if e.kids.length≠kidsP e.kind then 5 else if rangeP e.kind e.a e.b=false then 3 else if e.kind=10/\Go.Proofs.YtkfidffapdhbhaaGreatDoor.namedL e.name=false then 7 else 0
def shapeP (e:Ex)(deep n:Nat):Int×Nat:=
 if 600<n+1\/40<deep then(4,n+1)
 else if aloneP e≠0 then(aloneP e,n+1)
 else e.kids.attach.foldl (fun acc k=>if acc.1≠0 then acc else shapeP k.1 (deep+1) acc.2) (0,n+1)
 termination_by SizeOf.sizeOf e
 decreasing_by exact iR k.2
def gT (ks:List Ex)(deep:Nat)(acc:Int×Nat):Int×Nat:=ks.foldl (fun acc k=>if acc.1≠0 then acc else shapeP k deep acc.2) acc
theorem kE (e:Ex)(deep n:Nat):shapeP e deep n=if 600<n+1\/40<deep then(4,n+1) else if aloneP e≠0 then(aloneP e,n+1) else gT e.kids (deep+1) (0,n+1):=by
 rw[shapeP];unfold gT;rw[<-List.foldl_attach (f:=fun(acc:Int×Nat) k=>if acc.1≠0 then acc else shapeP k (deep+1) acc.2)]
theorem Ey (deep:Nat)(acc:Int×Nat):gT [] deep acc=acc:=rfl
theorem jQ (k:Ex)(ks:List Ex)(deep:Nat)(acc:Int×Nat):gT (k::ks) deep acc=gT ks deep (if acc.1≠0 then acc else shapeP k deep acc.2):=rfl
theorem kF {ks:List Ex}{deep:Nat}{acc:Int×Nat}(h:acc.1≠0):gT ks deep acc=acc:=by
 induction ks with
 |nil=>rfl
 |cons k ks ih=>rw[jQ,aD h,ih]
theorem CG {ks:List Ex}{deep j m:Nat}{k:Ex}(h:ks[j]? =some k):gT (ks.drop j) deep (0,m)=gT (ks.drop (j+1)) deep (shapeP k deep m):=by
 obtain⟨h1,h2⟩:=aF.1 h;rw[bv h1,h2,jQ,ax (by simp)]
theorem Bf: ∀(N:Nat) (e:Ex) (deep n:Nat),SizeOf.sizeOf e<=N->(shapeP e deep n).1=0->(shapeP e deep n).2<=600
 |0,e,_,_,hN,_=>by cases e;simp at hN
 |N+1,e,deep,n,hN,h=>by
  rw[kE]at h⊢;split at h
  ·cases h
  ·rename_i h1;rw[ax h1];split at h
   ·rename_i h2;exact absurd h h2
   ·rename_i h2;rw[ax h2]
    have aux: ∀(ks:List Ex),(∀k∈ks,SizeOf.sizeOf k<=N)-> ∀acc:Int×Nat,acc.2<=600->(gT ks (deep+1) acc).1=0->(gT ks (deep+1) acc).2<=600:=by
     intro ks;induction ks with
     |nil=>intro _ acc ha _;exact ha
     |cons k ks ih=>
      intro hk acc ha h0;rw[jQ]at h0⊢;by_cases hb:acc.1≠0
      ·rw[aD hb]at h0⊢;exact ih (fun q hq=>hk q (bH _ hq)) acc ha h0
      ·rw[ax hb]at h0⊢;refine ih (fun q hq=>hk q (bH _ hq)) _ ?_ h0;by_cases hz:(shapeP k (deep+1) acc.2).1=0
       ·exact Bf N k (deep+1) acc.2 (hk k bq) hz
       ·rw[kF hz]at h0;exact absurd h0 hz
    exact aux e.kids (fun k hk=>by have:=iR hk;omega) (0,n+1) (by simp at h1⊢;omega) h
theorem zb {e:Ex}{deep n:Nat}(h:(shapeP e deep n).1=0):(shapeP e deep n).2<=600:=Bf _ e deep n (aB _) h
end Lx
theorem Ez (k:Int)(w:World):Calls prog 179 #[ag k] w fun e w'=>e= .returned (ag (kidsP k:Int))/\w'=w:=by
 have walk: ∀(b4 b5 b9 b6 b7 b8:Bool),(k==4)=b4->(k==5)=b5->(k==9)=b9->(k==6)=b6->(k==7)=b7->(k==8)=b8->
   Calls prog 179 #[ag k] w fun e w'=>e= .returned (ag (if b4||(b5||b9) then 1 else if b6||(b7||b8) then 2 else 0))/\w'=w:=by
  intro b4 b5 b9 b6 b7 b8 h4 h5 h9 h6 h7 h8;cases b4<;>cases b5<;>cases b9<;>cases b6<;>cases b7<;>cases b8<;>(go_enter func179,ntmps179;go_wp2;go_ret;exact⟨rfl,rfl⟩)
 refine(walk _ _ _ _ _ _ rfl rfl rfl rfl rfl rfl).mono ?_;rintro e w' ⟨rfl,rfl⟩;refine⟨?_,rfl⟩;unfold kidsP;simp only[ii,beq_iff_eq];by_cases c1:k=4\/k=5\/k=9
 ·rw[aD c1,aD c1];rfl
 ·rw[ax c1,ax c1];by_cases c2:k=6\/k=7\/k=8
  ·rw[aD c2,aD c2];rfl
  ·rw[ax c2,ax c2];rfl
theorem CH (k a b:Int)(nm:ByteArray)(p:Option Addr)(n c:Nat)(w:World):Calls prog 180 #[.agg #[ag k,ag a,ag b,.string nm,.slice p n c]] w fun e w'=>e= .returned (.bool (rangeP k a b))/\aq w w':=by
 have hb:aq w (w.alloc (.cells #[ag k,ag a,ag b,.string nm,.slice p n c] 104)):=am _ _;unfold rangeP;by_cases h3:k=3
 ·subst h3;rw[aD rfl];by_cases c1:0<=a
  ·by_cases c2:a<b
   ·by_cases c3:b<=1440
    ·go_enter func180,ntmps180;go_wp2;go_ret;exact⟨by first|(simp;done)|(simp;omega),hb⟩
    ·go_enter func180,ntmps180;go_wp2;go_ret;exact⟨by first|(simp;done)|(simp;omega),hb⟩
   ·go_enter func180,ntmps180;go_wp2;go_ret;exact⟨by first|(simp;done)|(simp;omega),hb⟩
  ·go_enter func180,ntmps180;go_wp2;go_ret;exact⟨by first|(simp;done)|(simp;omega),hb⟩
 rw[ax h3];have i3:(k==3)=false:=bj.2 h3;by_cases h4:k=4
 ·subst h4;rw[aD rfl];by_cases c1:1<=a
  ·by_cases c2:a<128
   ·go_enter func180,ntmps180;go_wp2;go_ret;exact⟨by first|(simp;done)|(simp;omega),hb⟩
   ·go_enter func180,ntmps180;go_wp2;go_ret;exact⟨by first|(simp;done)|(simp;omega),hb⟩
  ·go_enter func180,ntmps180;go_wp2;go_ret;exact⟨by first|(simp;done)|(simp;omega),hb⟩
 rw[ax h4];have i4:(k==4)=false:=bj.2 h4;by_cases h5:k=5
 ·subst h5;rw[aD rfl];by_cases c1:0<=a
  ·by_cases c2:a<=b
   ·by_cases c3:b<146097
    ·go_enter func180,ntmps180;go_wp2;go_ret;exact⟨by first|(simp;done)|(simp;omega),hb⟩
    ·go_enter func180,ntmps180;go_wp2;go_ret;exact⟨by first|(simp;done)|(simp;omega),hb⟩
   ·go_enter func180,ntmps180;go_wp2;go_ret;exact⟨by first|(simp;done)|(simp;omega),hb⟩
  ·go_enter func180,ntmps180;go_wp2;go_ret;exact⟨by first|(simp;done)|(simp;omega),hb⟩
 rw[ax h5];have i5:(k==5)=false:=bj.2 h5;by_cases h9:k=9
 ·subst h9;rw[aD rfl];by_cases c1:a=0
  ·subst c1;go_enter func180,ntmps180;go_wp2;go_ret;exact⟨by first|(simp;done)|(simp;omega),hb⟩
  ·have n1:(a !=0)=true:=(by simpa using c1);by_cases c2: -1440<a
   ·by_cases c3:a<1440
    ·go_enter func180,ntmps180;go_wp2;go_ret;exact⟨by first|(simp;done)|(simp;omega),hb⟩
    ·go_enter func180,ntmps180;go_wp2;go_ret;exact⟨by first|(simp;done)|(simp;omega),hb⟩
   ·go_enter func180,ntmps180;go_wp2;go_ret;exact⟨by first|(simp;done)|(simp;omega),hb⟩
 rw[ax h9];have i9:(k==9)=false:=bj.2 h9;go_enter func180,ntmps180;go_wp2;go_ret;exact⟨rfl,hb⟩
theorem ze (s:ByteArray)(l:List UInt8)(hs:s.data.toList=l)(hl:l.length<=9223372036854775807)(w:World):
  Calls prog 124 #[.string s] w fun e w'=>e= .returned (.bool (namedL l))/\aq w w':=by
 by_cases h20:l.length<=20
 ·exact Gg s l hs (by omega) w
 ·have hz:s.size=l.length:=by rw[<-hs,Lib.size_eq]
  have hq:s.toList.isEmpty=false:=(by rw[Lib.toList_data,hs];cases l<;>simp at h20⊢);have i20: ¬(l.length:Int)<=20:=(by omega);have HN:PH (namedL l=false):=(by show namedL l=false;simp[namedL,h20]);clear h20;go_enter func124,ntmps124;go_wp2_with fail;go_ret;exact⟨by rw[HN.o];rfl,aI _ _⟩
theorem GC (e:Ex)(p:Option Addr)(c:Nat)(hnm:e.name.length<=9223372036854775807)(w:World):Calls prog 146 #[exV e (.slice p e.kids.length c)] w fun r w'=>r= .returned (ag (aloneP e))/\aq w w':=by
 have hb:aq w (w.alloc (.cells #[ag e.kind,ag e.a,ag e.b,.string ⟨e.name.toArray⟩,.slice p e.kids.length c] 104)):=am _ _;have hx:=aE w (.cells #[ag e.kind,ag e.a,ag e.b,.string ⟨e.name.toArray⟩,.slice p e.kids.length c] 104);have cK:=fun w=>Ez e.kind w;have cR:=fun w=>CH e.kind e.a e.b ⟨e.name.toArray⟩ p e.kids.length c w;have cN:=fun w=>ze ⟨e.name.toArray⟩ e.name rfl hnm w;unfold aloneP exV;generalize kidsP e.kind=kp at*;generalize rangeP e.kind e.a e.b=rp at*;generalize namedL e.name=nb at*;generalize e.kind=k at*;generalize e.a=a at*;generalize e.b=b at*;generalize (⟨e.name.toArray⟩:ByteArray)=nm at*;generalize e.kids.length=n at*;clear hnm;generalize hA:(if k<1\/10<k then(1:Int) else if n≠kp then 5 else if rp=false then 3 else if k=10/\nb=false then 7 else 0)=A;have HA:PH ((if k<1\/10<k then(1:Int) else if n≠kp then 5 else if rp=false then 3 else if k=10/\nb=false then 7 else 0)=A):=hA;clear hA;by_cases c1:k<1
 ·have HE:PH (A=1):=by show _=_;rw[<-HA.o,aD (.inl c1)]
  go_enter func146,ntmps146;go_wp2_with fail;go_ret;exact⟨by rw[HE.o];rfl,hb⟩
 by_cases c2:10<k
 ·have HE:PH (A=1):=by show _=_;rw[<-HA.o,aD (.inr c2)]
  go_enter func146,ntmps146;go_wp2_with fail;go_ret;exact⟨by rw[HE.o];rfl,hb⟩
 have hk: ¬(k<1\/10<k):=by omega
 have HK:PH (¬(k<1\/10<k)):=hk;clear hk;have k0:=ak 0 hx;have k3:=ak 3 hx;have k4:=ak 4 hx;generalize hw1:w.alloc (.cells #[ag k,ag a,ag b,.string nm,.slice p n c] 104)=w1 at*;by_cases c3:n=kp
 ·have n3:((n:Int) !=(kp:Int))=false:=by simp;omega
  have HN:PH (¬n≠kp):=fun h=>h c3;clear c3;go_enter func146,ntmps146;go_wp2_with fail;go_quiet ((go_at_call 179;exact fu (cK _)));have hx2:(w1.drewN nq).heap[w.heap.size]? =ah #[ag k,ag a,ag b,.string nm,.slice p n c] 104:=hx;have k02:(w1.drewN nq).cell? (ae w.heap.size 0)=some (ag k):=k0;have k32:(w1.drewN nq).cell? (ae w.heap.size 3)=some (.string nm):=k3;have hb2:=dB hb nq;clear hx k0 k3 k4 hw1 hb cK;generalize w1.drewN nq=w2 at*;cases rp with
  |false=>
   have HE:PH (A=3):=(by show _=_;rw[<-HA.o,ax HK.o,ax HN.o,aD rfl]);go_wp2_with(refine aQ rfl 104 _ rfl _ rfl _ _ _ _ hx2 fc rfl (by kernel_rfl) ?_)
   refine(cR _).mono ?_;rintro r w3 ⟨rfl,hb3⟩;have hb3w:=aw hb2 hb3;go_wp2_with fail;go_ret;exact⟨by rw[HE.o];rfl,hb3w⟩
  |true=>
   go_wp2_with(refine aQ rfl 104 _ rfl _ rfl _ _ _ _ hx2 fc rfl (by kernel_rfl) ?_)
   refine(cR _).mono ?_;rintro r w3 ⟨rfl,hb3⟩;have hb3w:=aw hb2 hb3;have q0:=aj hb3 k02;have q3:=aj hb3 k32;clear cR hx2 k02 k32 hb3;by_cases c5:k=10
   ·have i5:(k==10)=true:=(by simpa using c5);cases nb with
    |false=>
     have HE:PH (A=7):=(by show _=_;rw[<-HA.o,ax HK.o,ax HN.o,ax (by decide),aD ⟨c5,rfl⟩]);go_wp2_with fail;refine(cN _).mono ?_;rintro r w4 ⟨rfl,hb4⟩;have hb4w:=aw hb3w hb4;go_wp2_with fail;go_ret;exact⟨by rw[HE.o];rfl,hb4w⟩
    |true=>
     have HE:PH (A=0):=(by show _=_;rw[<-HA.o,ax HK.o,ax HN.o,ax (by decide),ax (by simp)]);go_wp2_with fail;refine(cN _).mono ?_;rintro r w4 ⟨rfl,hb4⟩;have hb4w:=aw hb3w hb4;go_wp2_with fail;go_ret;exact⟨by rw[HE.o];rfl,hb4w⟩
   ·have i5:(k==10)=false:=(by simpa using c5);have HE:PH (A=0):=(by show _=_;rw[<-HA.o,ax HK.o,ax HN.o,ax (by decide),ax (fun h=>c5 h.1)]);go_wp2_with fail;go_ret;exact⟨by rw[HE.o];rfl,hb3w⟩
 ·have n3:((n:Int) !=(kp:Int))=true:=by simp;omega
  have HE:PH (A=5):=(by show _=_;rw[<-HA.o,ax HK.o,aD c3]);go_enter func146,ntmps146;go_wp2_with fail;go_quiet ((go_at_call 179;exact fu (cK _)));have hb2:=dB hb nq;go_wp2_with fail;go_ret;exact⟨by rw[HE.o];rfl,hb2⟩
section
variable {B:Nat->Prop} {gn:Nat}
def gc (B:Nat->Prop):Nat->World->Value->List Ex->Prop
 |0,_,sl,ks=>ks=[]/\ ∃p c,sl= .slice p 0 c
 |d+1,w,sl,ks=>(ks=[]/\ ∃p c,sl= .slice p 0 c)\/ ∃g o c:Nat,B g/\sl= .slice (some (ae g o)) ks.length c/\ks.length<9223372036854775808/\ ∀(j:Nat) (k:Ex),ks[j]? =some k->k.name.length<=9223372036854775807/\ ∃sk:Value,
  w.cell? (ae g (o+j*5))=some (ag k.kind)/\w.cell? (ae g (o+j*5+1))=some (ag k.a)/\w.cell? (ae g (o+j*5+2))=some (ag k.b)/\
  w.cell? (ae g (o+j*5+3))=some (.string ⟨k.name.toArray⟩)/\w.cell? (ae g (o+j*5+4))=some sk/\gc B d w sk k.kids
theorem gc.kept {w w':World}(hw: ∀g,B g->g<w.heap.size->w'.heap[g]? =w.heap[g]?): ∀{d:Nat} {sl:Value} {ks:List Ex},gc B d w sl ks->gc B d w' sl ks
 |0,_,_,h=>h
 |d+1,sl,ks,h=>by
  rcases h with h|⟨g,o,c,hB,hs,hl,hk⟩
  ·exact .inl h
  ·refine .inr ⟨g,o,c,hB,hs,hl,fun j k hj=> ?_⟩;obtain⟨hn,sk,c0,c1,c2,c3,c4,r⟩:=hk j k hj;have e:w'.heap[g]? =w.heap[g]? :=hw g hB (bP c0);have ce: ∀i,w'.cell? (ae g i)=w.cell? (ae g i):=fun i=>dY e;exact⟨hn,sk,(ce _).trans c0,(ce _).trans c1,(ce _).trans c2,(ce _).trans c3,(ce _).trans c4,gc.kept hw r⟩
theorem gc.mono {B':Nat->Prop}(hB: ∀g,B g->B' g): ∀{d:Nat} {w:World} {sl:Value} {ks:List Ex},gc B d w sl ks->gc B' d w sl ks
 |0,_,_,_,h=>h
 |d+1,w,sl,ks,h=>by
  rcases h with h|⟨g,o,c,hg,hs,hl,hk⟩
  ·exact .inl h
  ·refine .inr ⟨g,o,c,hB g hg,hs,hl,fun j k hj=> ?_⟩;obtain⟨hn,sk,c0,c1,c2,c3,c4,r⟩:=hk j k hj;exact⟨hn,sk,c0,c1,c2,c3,c4,gc.mono hB r⟩
theorem gc.form {d:Nat}{w:World}{sl:Value}{ks:List Ex}(h:gc B d w sl ks): ∃p c,sl= .slice p ks.length c:=by
 cases d with
 |zero=>
  obtain⟨rfl,p,c,rfl⟩:=h;exact⟨p,c,rfl⟩
 |succ d=>
  rcases h with⟨rfl,p,c,rfl⟩|⟨g,o,c,_,hs,_⟩
  ·exact⟨p,c,rfl⟩
  ·exact⟨_,c,hs⟩
def lY (w:World)(gn n:Nat):Prop:=w.heap[gn]? =ah #[ag (n:Int)] 3
def Bg (gn:Nat)(w:World)(x:Int×Nat)(r:Ending)(w':World):Prop:=r= .returned (ag x.1)/\lY w' gn x.2/\bo gn w w'
def KH (f:FuncId)(gn:Nat)(w:World)(sl:Value)(ks:List Ex):Prop:=
 ∃g o c:Nat,sl= .slice (some (ae g o)) ks.length c/\g≠gn/\ks.length<9223372036854775808/\ ∀(j:Nat) (k:Ex),ks[j]? =some k-> ∃(p:Option Addr) (q:Nat),
  w.cell? (ae g (o+j*5))=some (ag k.kind)/\w.cell? (ae g (o+j*5+1))=some (ag k.a)/\w.cell? (ae g (o+j*5+2))=some (ag k.b)/\
  w.cell? (ae g (o+j*5+3))=some (.string ⟨k.name.toArray⟩)/\w.cell? (ae g (o+j*5+4))=some (.slice p k.kids.length q)/\
  ∀(W:World) (deep n:Nat),bo gn w W->lY W gn n->n<=600->deep<=41->Calls prog f #[.agg #[ag k.kind,ag k.a,ag k.b,.string ⟨k.name.toArray⟩,.slice p k.kids.length q],ag (deep:Int),ab gn 0] W (Bg gn W (shapeP k deep n))
theorem GD (f:FuncId)(hB: ∀k,B k->k≠gn)
  (step: ∀(e:Ex) (p:Option Addr) (c:Nat) (w:World) (deep n:Nat),(e.kids=[]\/KH f gn w (.slice p e.kids.length c) e.kids)->e.name.length<=9223372036854775807->lY w gn n->n<=600->deep<=41->Calls prog f #[.agg #[ag e.kind,ag e.a,ag e.b,.string ⟨e.name.toArray⟩,.slice p e.kids.length c],ag (deep:Int),ab gn 0] w (Bg gn w (shapeP e deep n))):
  ∀(d:Nat) (e:Ex) (sl:Value) (w:World) (deep n:Nat),gc B d w sl e.kids->e.name.length<=9223372036854775807->lY w gn n->n<=600->deep<=41->Calls prog f #[exV e sl,ag (deep:Int),ab gn 0] w (Bg gn w (shapeP e deep n)):=by
 intro d;induction d with
 |zero=>
  intro e sl w deep n hk hn hc h6 hd;obtain⟨p,c,rfl⟩:=hk.form;exact step e p c w deep n (.inl hk.1) hn hc h6 hd
 |succ d ih=>
  intro e sl w deep n hk hn hc h6 hd;obtain⟨p,c,hsl⟩:=hk.form;subst hsl;refine step e p c w deep n ?_ hn hc h6 hd;rcases hk with⟨h,_⟩|⟨g,o,c',hg,hs,hl,hkid⟩
  ·exact .inl h
  ·refine .inr ⟨g,o,c',hs,hB g hg,hl,fun j k hj=> ?_⟩;obtain⟨hn',sk,c0,c1,c2,c3,c4,r⟩:=hkid j k hj;obtain⟨p',q',rfl⟩:=r.form;exact⟨p',q',c0,c1,c2,c3,c4,fun W deep n hK hC h6 hd=>ih k _ W deep n (r.kept fun g' hg' hl'=>hK.block g' hl' (fun e=>hB g' hg' (aN e))) hn' hC h6 hd⟩
theorem EE (e:Ex)(p:Option Addr)(c:Nat)(w:World)(deep n:Nat)(hk:e.kids=[]\/KH 125 gn w (.slice p e.kids.length c) e.kids)(hn:e.name.length<=9223372036854775807)(hc:lY w gn n)(h6:n<=600)(hd:deep<=41):
  Calls prog 125 #[.agg #[ag e.kind,ag e.a,ag e.b,.string ⟨e.name.toArray⟩,.slice p e.kids.length c],ag (deep:Int),ab gn 0] w (Bg gn w (shapeP e deep n)):=by
 have hgl:=aH hc;have hbA:=am w (.cells #[ag e.kind,ag e.a,ag e.b,.string ⟨e.name.toArray⟩,.slice p e.kids.length c] 104);have hxA:=aE w (.cells #[ag e.kind,ag e.a,ag e.b,.string ⟨e.name.toArray⟩,.slice p e.kids.length c] 104);have hcA:=(hbA.block _ hgl).trans hc;generalize hwA:w.alloc (.cells #[ag e.kind,ag e.a,ag e.b,.string ⟨e.name.toArray⟩,.slice p e.kids.length c] 104)=wA at*;have z0:=ak 0 hcA;have y0:=bl _ _ 0 _ _ hcA;have hc1:(wA.setCell ⟨gn,0,none⟩ (ag ((n+1:Nat):Int))).heap[gn]? =ah #[ag ((n+1:Nat):Int)] 3:=aY _ _ 0 _ _ _ hcA;have hx1:=(aO wA ⟨gn,0,none⟩ w.heap.size (ag ((n+1:Nat):Int)) (by show w.heap.size≠gn;omega)).trans hxA;have hk1:=(bo.of_below (g:=gn) hbA).trans (bo.set wA gn 0 (ag ((n+1:Nat):Int)));have ei:(n:Int)+1=((n+1:Nat):Int):=by omega
 have hn6:(n:Int)<=600:=by omega
 have q1:=ak 0 hc1;have q4:=ak 4 hx1;have cA:=fun w=>GC e p c hn w;unfold exV at cA;generalize hX:shapeP e deep n=X;rw[kE]at hX;have HX:PH ((if 600<n+1\/40<deep then(4,n+1) else if aloneP e≠0 then(aloneP e,n+1) else gT e.kids (deep+1) (0,n+1))=X):=hX;have HC:PH (lY (wA.setCell ⟨gn,0,none⟩ (ag ((n+1:Nat):Int))) gn (n+1)):=hc1;by_cases c1:600<n+1
 ·have HE:PH (X=(4,n+1)):=by show _=_;rw[<-HX.o,aD (.inl c1)]
  have c1':(600:Int)<((n+1:Nat):Int):=(by omega);generalize ((n+1:Nat):Int)=vv at*;go_enter func125,ntmps125;go_wp2_with fail;go_ret;rw[HE.o];exact⟨rfl,HC.o,hk1⟩
 have c1': ¬(600:Int)<((n+1:Nat):Int):=by omega
 by_cases c2:40<deep
 ·have HE:PH (X=(4,n+1)):=by show _=_;rw[<-HX.o,aD (.inr c2)]
  have c2':(40:Int)<(deep:Int):=(by omega);generalize ((n+1:Nat):Int)=vv at*;go_enter func125,ntmps125;go_wp2_with fail;go_ret;rw[HE.o];exact⟨rfl,HC.o,hk1⟩
 have c2': ¬(40:Int)<(deep:Int):=by omega
 by_cases c3:aloneP e=0
 ·have hX3:=HX.o;rw[ax (by omega),ax (by simpa using c3)]at hX3;have HS:PH (gT (e.kids.drop 0) (deep+1) (0,n+1)=X):=hX3;rw[c3]at cA;have hm6:n+1<=600:=(by omega);generalize hvv:((n+1:Nat):Int)=vv at*;generalize hw1:wA.setCell ⟨gn,0,none⟩ (ag vv)=w1 at*;go_enter func125,ntmps125;go_wp2_with(refine aQ rfl 104 _ rfl _ rfl _ _ _ _ hx1 fc rfl (by kernel_rfl) ?_)
  refine(cA _).mono ?_;rintro r w2 ⟨rfl,hb2⟩;have hk2:=hk1.trans (bo.of_below hb2);have hc2:lY w2 gn (n+1):=ai hb2 HC.o;have q42:=aj hb2 q4;have HC2:PH (lY w2 gn (n+1)):=hc2;go_wp2_with fail;go_loopw [32] (fun t wr=> ∃j m:Nat,t=ag (j:Int)/\j<=e.kids.length/\gT (e.kids.drop j) (deep+1) (0,m)=X/\m<=600/\lY wr gn m/\bo gn w wr) (fun t _=>e.kids.length-(intOf t).toNat);case atStart=>exact⟨0,n+1,rfl,by omega,HS.o,hm6,HC2.o,hk2⟩
  case round=>
   obtain⟨j,m,rfl,hj,hXr,hm,hcr,hkr⟩:=hrel;have hj0:(0:Int)<=(j:Int):=(by omega);by_cases hlt:j<e.kids.length
   ·have hlt':(j:Int)<(e.kids.length:Int):=(by omega);obtain⟨k,hjk⟩: ∃k,e.kids[j]? =some k:=⟨e.kids[j],az hlt⟩
    rw[CG hjk]at hXr;have hks:e.kids≠[]:=fun h=>(by rw[h]at hlt;simp at hlt);obtain⟨g,o,c',hsl,hgn,hlen,hkid⟩:=hk.resolve_left hks;obtain⟨pk,ck,d0,d1,d2,d3,d4,ihk⟩:=hkid j k hjk;have eb:wr.heap[g]? =w.heap[g]? :=hkr.block g (bP d0) (fun e=>hgn (aN e));have ce: ∀i,wr.cell? (ae g i)=w.cell? (ae g i):=fun i=>dY eb;have f0:=(ce _).trans d0;have f1:=(ce _).trans d1;have f2:=(ce _).trans d2;have f3:=(ce _).trans d3;have f4:=(ce _).trans d4;have hbB:aq wr (wr.alloc (.cells #[ag k.kind,ag k.a,ag k.b,.string ⟨k.name.toArray⟩,.slice pk k.kids.length ck] 104)):=am _ _;have hxB:=aE wr (.cells #[ag k.kind,ag k.a,ag k.b,.string ⟨k.name.toArray⟩,.slice pk k.kids.length ck] 104);have hkB:=hkr.trans (bo.of_below hbB);have hcB:lY (wr.alloc (.cells #[ag k.kind,ag k.a,ag k.b,.string ⟨k.name.toArray⟩,.slice pk k.kids.length ck] 104)) gn m:=ai hbB hcr;have cR:=ihk _ (deep+1) m hkB hcB hm (by omega);have hdd:(deep:Int)+1=((deep+1:Nat):Int):=(by omega);have hd40:(deep:Int)<=40:=(by omega);have hle:=fun h=>zb (e:=k) (deep:=deep+1) (n:=m) h;injection hsl with e1 e2 e3;subst e1;subst e3;have HXr:PH (gT (e.kids.drop (j+1)) (deep+1) (shapeP k (deep+1) m)=X):=hXr;generalize shapeP k (deep+1) m=Y at*;generalize ((deep+1:Nat):Int)=dv at*;generalize hwB:wr.alloc (.cells #[ag k.kind,ag k.a,ag k.b,.string ⟨k.name.toArray⟩,.slice pk k.kids.length ck] 104)=wB at*;obtain⟨y1,y2⟩:=Y;go_wp2_with(refine aQ rfl 104 _ rfl _ rfl _ _ _ _ hxB fc rfl (by kernel_rfl) ?_)
    refine cR.mono ?_;rintro r w3 ⟨rfl,hc3,hk3⟩;have hkw3:=hkB.trans hk3;dsimp only at hc3 hle⊢;by_cases hy:y1=0
    ·subst hy;have hy2:=hle rfl;go_wp2_with fail;go_roundw;case rel=>exact⟨j+1,y2,by go_num,by omega,HXr.o,hy2,hc3,hkw3⟩
     case measure=>simp[intOf];omega
    ·have hyb:(y1 !=0)=true:=(by simpa using hy);have HE:PH (X=(y1,y2)):=(by show _=_;rw[<-HXr.o,kF hy]);go_wp2_with fail;go_ret;rw[HE.o];exact⟨rfl,hc3,hkw3⟩
   ·have hlt': ¬(j:Int)<(e.kids.length:Int):=(by omega);have HE:PH (X=(0,m)):=(by show _=_;rw[<-hXr,List.drop_eq_nil_of_le (by omega)];rfl);go_wp2_with fail;go_ret;rw[HE.o];exact⟨rfl,hcr,hkr⟩
 ·have hX3:=HX.o;rw[ax (by omega),aD c3]at hX3;have HE:PH (X=(aloneP e,n+1)):=hX3.symm;have n3:(aloneP e !=0)=true:=(by simpa using c3);generalize aloneP e=al at*;generalize hvv:((n+1:Nat):Int)=vv at*;generalize hw1:wA.setCell ⟨gn,0,none⟩ (ag vv)=w1 at*;go_enter func125,ntmps125;go_wp2_with(refine aQ rfl 104 _ rfl _ rfl _ _ _ _ hx1 fc rfl (by kernel_rfl) ?_)
  refine(cA _).mono ?_;rintro r w2 ⟨rfl,hb2⟩;have hk2:=hk1.trans (bo.of_below hb2);have HC2:PH (lY w2 gn (n+1)):=ai hb2 HC.o;go_wp2_with fail;go_ret;rw[HE.o];exact⟨rfl,HC2.o,hk2⟩
theorem GE (hB: ∀k,B k->k≠gn)(d:Nat)(e:Ex)(sl:Value)(w:World)(deep n:Nat)(hk:gc B d w sl e.kids)(hn:e.name.length<=9223372036854775807)(hc:lY w gn n)(h6:n<=600)(hd:deep<=41):
 Calls prog 125 #[exV e sl,ag (deep:Int),ab gn 0] w (Bg gn w (shapeP e deep n)):=GD _ hB (fun e p c w deep n=>EE e p c w deep n) d e sl w deep n hk hn hc h6 hd
end
theorem Bh: ∀(us:List (Ru×Value)) (j:Nat) (p:Ru×Value),us[j]? =some p->(lh us)[j*6]? =some (.string ⟨p.1.1.toArray⟩)/\(lh us)[j*6+1]? =some (ag p.1.2.kind)/\(lh us)[j*6+2]? =some (ag p.1.2.a)/\(lh us)[j*6+3]? =some (ag p.1.2.b)/\(lh us)[j*6+4]? =some (.string ⟨p.1.2.name.toArray⟩)/\(lh us)[j*6+5]? =some p.2
 |[],j,p,h=>by simp at h
 |q::us,0,p,h=>by
  have:q=p:=(by simpa using h);subst this;simp[lh]
 |q::us,j+1,p,h=>by
  have:=Bh us j p (by simpa using h);have e:(j+1)*6=j*6+1+1+1+1+1+1:=(by omega);rw[e];simpa[lh] using this
def Bi (w:World)(v:Value)(us:List (Ru×Value)):Prop:=
 (us=[]/\ ∃p c,v= .slice p 0 c)\/ ∃g o c:Nat,v= .slice (some (ae g o)) us.length c/\us.length<9223372036854775808/\ ∀(j:Nat) (p:Ru×Value),us[j]? =some p->
  w.cell? (ae g (o+j*6))=some (.string ⟨p.1.1.toArray⟩)/\w.cell? (ae g (o+j*6+1))=some (ag p.1.2.kind)/\w.cell? (ae g (o+j*6+2))=some (ag p.1.2.a)/\w.cell? (ae g (o+j*6+3))=some (ag p.1.2.b)/\
  w.cell? (ae g (o+j*6+4))=some (.string ⟨p.1.2.name.toArray⟩)/\w.cell? (ae g (o+j*6+5))=some p.2
theorem Bi.below {w w':World}{v:Value}{us:List (Ru×Value)}(h:Bi w v us)(hb:aq w w'):Bi w' v us:=by
 rcases h with h|⟨g,o,c,hv,hl,hc⟩
 ·exact .inl h
 ·refine .inr ⟨g,o,c,hv,hl,fun j p hj=> ?_⟩;obtain⟨c0,c1,c2,c3,c4,c5⟩:=hc j p hj;exact⟨aj hb c0,aj hb c1,aj hb c2,aj hb c3,aj hb c4,aj hb c5⟩
theorem Bj {w:World}{base:Nat}{v:Value}{us:List (Ru×Value)}(h:w.ownsRow base 106 6 v us.length (lh us))(hl:us.length<9223372036854775808):Bi w v us:=by
 by_cases h0:us.length=0
 ·obtain⟨p,c,rfl⟩:=di h;exact .inl ⟨ie.1 h0,p,c,by rw[h0]⟩
 ·obtain⟨g,cap,hv,hc⟩:=tg h (by omega);refine .inr ⟨g,0,cap,hv,hl,fun j p hj=> ?_⟩;obtain⟨f0,f1,f2,f3,f4,f5⟩:=Bh us j p hj;rw[bN];exact⟨hc _ _ f0,hc _ _ f1,hc _ _ f2,hc _ _ f3,hc _ _ f4,hc _ _ f5⟩
namespace Lx
def ruleP (u:Ru):Int:=if Go.Proofs.YtkfidffapdhbhaaGreatDoor.namedL u.1=false then 7 else(shapeP u.2 1 0).1
def jK:List Ru->Nat->Int×Nat
 |[],_=>(0,0)
 |u::l,i=>if ruleP u≠0 then(ruleP u,i) else jK l (i+1)
def fW (l:List Ru):Int×Nat:=if 40<l.length then(5,0) else jK l 0
theorem CJ {l:List Ru}{j:Nat}{u:Ru}(h:l[j]? =some u):jK (l.drop j) j=if ruleP u≠0 then(ruleP u,j) else jK (l.drop (j+1)) (j+1):=by
 obtain⟨h1,h2⟩:=aF.1 h;rw[bv h1,h2];rfl
end Lx
def qp (w:World)(p:Ru×Value):Prop:=p.1.1.length<=9223372036854775807/\p.1.2.name.length<=9223372036854775807/\ ∃d,gc (fun k=>k<w.heap.size) d w p.2 p.1.2.kids
theorem qp.below {w w':World}{p:Ru×Value}(h:qp w p)(hb:aq w w'):qp w' p:=by
 obtain⟨h1,h2,d,h3⟩:=h;exact⟨h1,h2,d,(h3.kept fun g _ hl=>hb.block g hl).mono fun g hg=>aT hg hb.size⟩
structure InR (w:World)(v:Value)(us:List (Ru×Value)):Prop where
 row:Bi w v us
 len:us.length<9223372036854775808
 all: ∀p∈us,qp w p
theorem InR.below {w w':World}{v:Value}{us:List (Ru×Value)}(h:InR w v us)(hb:aq w w'):InR w' v us:=⟨h.row.below hb,h.len,fun p hp=>(h.all p hp).below hb⟩
theorem mK {fn:Func}(s:Nat)(h:fn.results= #[ResultVar.cell s 95]){R:Ending->World->Prop}{a:Act}{w:World}(g:Nat)(er at_:Int)(hd:a.defers=[])(h2:a.tmps.getD s undef=ab g 0)
  (hg:w.heap[g]? =ah #[ag er,ag at_] 95) (hR:R (.returned (.agg #[ag er,ag at_])) w):bodyPost prog fn R .ret a w:=by
 refine aW (v:= .agg #[ag er,ag at_]) ?_ hd hR;have h2':a.tmps[s]?.getD undef=ab g 0:=by simpa using h2
 have hv:=dV (P:=prog) w g 95 95 _ _ _ hg oV rfl (by kernel_rfl);simp[results,h,h2',asAddr,hv]
theorem GF (u:Ru)(p:Option Addr)(c:Nat)(w:World)(h:qp w (u,.slice p u.2.kids.length c)):
  Calls prog 89 #[.agg #[.string ⟨u.1.toArray⟩,ag u.2.kind,ag u.2.a,ag u.2.b,.string ⟨u.2.name.toArray⟩,.slice p u.2.kids.length c]] w fun r w'=>r= .returned (ag (ruleP u))/\aq w w':=by
 obtain⟨h1,h2,d,h3⟩:=h;dsimp only at h1 h2 h3;have hbA:=am w (.cells #[.string ⟨u.1.toArray⟩,ag u.2.kind,ag u.2.a,ag u.2.b,.string ⟨u.2.name.toArray⟩,.slice p u.2.kids.length c] 106);have hxA:=aE w (.cells #[.string ⟨u.1.toArray⟩,ag u.2.kind,ag u.2.a,ag u.2.b,.string ⟨u.2.name.toArray⟩,.slice p u.2.kids.length c] 106);generalize hwA:w.alloc (.cells #[.string ⟨u.1.toArray⟩,ag u.2.kind,ag u.2.a,ag u.2.b,.string ⟨u.2.name.toArray⟩,.slice p u.2.kids.length c] 106)=wA at*;have z0:=ak 0 hxA;have cN:=ze ⟨u.1.toArray⟩ u.1 rfl h1 wA;have HP:PH (ruleP u=if namedL u.1=false then 7 else(shapeP u.2 1 0).1):=rfl;cases hnb:namedL u.1 with
 |false=>
  have HE:PH (ruleP u=7):=(by show _=_;rw[HP.o,aD hnb]);rw[hnb]at cN;go_enter func89,ntmps89;go_wp2_with fail;refine cN.mono ?_;rintro r w1 ⟨rfl,hb1⟩;have hbw:=aw hbA hb1;go_wp2_with fail;go_ret;rw[HE.o];exact⟨rfl,hbw⟩
 |true=>
  have HE:PH (ruleP u=(shapeP u.2 1 0).1):=(by show _=_;rw[HP.o,ax (by simp[hnb])]);rw[hnb]at cN;have hszA:w.heap.size<wA.heap.size:=aH hxA;go_enter func89,ntmps89;go_wp2_with fail;refine cN.mono ?_;rintro r w1 ⟨rfl,hb1⟩;have hb1w:=aw hbA hb1;have hsz1:=hb1.size;have hx1:=ai hb1 hxA;have hbC:aq w1 (w1.alloc (.cells #[ag 0] 3)):=am _ _;have hn2:=aE w1 (.cells #[ag 0] 3);have hxC:=ai hbC hx1;have hlx:=aH hx1;have hbCw:=aw hb1w hbC;generalize hwC:w1.alloc (.cells #[ag 0] 3)=wC at*;have z2:=ak 0 hn2;have y2:=bl _ _ 0 _ _ hn2;have hc2:lY (wC.setCell ⟨w1.heap.size,0,none⟩ (ag 0)) w1.heap.size 0:=aY _ _ 0 _ _ _ hn2;have hx2:=(aO wC ⟨w1.heap.size,0,none⟩ w.heap.size (ag 0) (by show w.heap.size≠w1.heap.size;omega)).trans hxC;have hb2w:aq w (wC.setCell ⟨w1.heap.size,0,none⟩ (ag 0)):=hbCw.setCell (p:=⟨w1.heap.size,0,none⟩) (by show w.heap.size<=w1.heap.size;omega) _;have cE:=GE (B:=fun k=>k<w.heap.size) (gn:=w1.heap.size) (fun k hk=>by omega) d u.2 (.slice p u.2.kids.length c) (wC.setCell ⟨w1.heap.size,0,none⟩ (ag 0)) 1 0 (h3.kept fun g hg _=>hb2w.block g hg) h2 hc2 (by omega) (by omega);unfold exV at cE;generalize hw2:wC.setCell ⟨w1.heap.size,0,none⟩ (ag 0)=w2 at*;have e1:=ak 1 hx2;have e2:=ak 2 hx2;have e3:=ak 3 hx2;have e4:=ak 4 hx2;have e5:=ak 5 hx2;go_wp2_with fail;refine cE.mono ?_;rintro r w3 ⟨rfl,-,hk3⟩;have hb3w:aq w w3:=⟨hk3.os.trans hb2w.os,hk3.tape.trans hb2w.tape,hk3.output.trans hb2w.output,bf hb2w.size hk3.size,fun k hk=>(hk3.block k (by have:=hb2w.size;omega) (fun e=>by have:=aN e;omega)).trans (hb2w.block k hk)⟩
  go_wp2_with fail;go_ret;rw[HE.o];exact⟨rfl,hb3w⟩
theorem GG (us:List (Ru×Value))(v:Value)(w:World)(h:InR w v us):
  Calls prog 62 #[v] w fun r w'=>r= .returned (.agg #[ag (fW (us.map (fun p=>p.1))).1,ag ((fW (us.map (fun p=>p.1))).2:Int)])/\aq w w':=by
 have hlen:=h.len
 have hform: ∃p c,v= .slice p us.length c:=by
  rcases h.row with⟨rfl,p,c,hv⟩|⟨g,o,c,hv,_⟩
  ·exact⟨p,c,hv⟩
  ·exact⟨_,c,hv⟩
 obtain⟨p,c,rfl⟩:=hform;have hb0:=am w (.cells #[ag 0,ag 0] 95);have hr0:=aE w (.cells #[ag 0,ag 0] 95);generalize hX:fW (us.map (fun p=>p.1))=X;have hX':=hX;unfold fW at hX';rw[ba]at hX';have HIN:PH (InR w (.slice p us.length c) us):=h;generalize hwA:w.alloc (.cells #[ag 0,ag 0] 95)=wA at*;by_cases hm:40<us.length
 ·have hm':(40:Int)<(us.length:Int):=by omega
  rw[aD hm]at hX';subst hX';go_enter func62,ntmps62;go_wp2_with(refine ay rfl 95 _ _ rfl _ _ rfl rfl _ _ hr0 (by kernel_rfl) (by simp) (by simp[Value.oneCell']) ?_)
  exact mK 2 (by kernel_rfl) w.heap.size 5 0 rfl rfl (aL _ _ _ _ _ _ hr0) ⟨rfl,below_setRow hb0 (aB _) _⟩
 ·have hm': ¬(40:Int)<(us.length:Int):=by omega
  rw[ax hm]at hX';have HS:PH (jK ((us.map (fun p=>p.1)).drop 0) 0=X):=hX';go_enter func62,ntmps62;go_wp2_with fail;go_loopw [12] (fun t wr=> ∃j:Nat,t=ag (j:Int)/\j<=us.length/\jK ((us.map (fun p=>p.1)).drop j) j=X/\wr.heap[w.heap.size]? =ah #[ag 0,ag 0] 95/\aq w wr) (fun t _=>us.length-(intOf t).toNat);case atStart=>exact⟨0,rfl,by omega,HS.o,hr0,hb0⟩
  case round=>
   obtain⟨j,rfl,hj,hXr,hrr,hbr⟩:=hrel;have hj0:(0:Int)<=(j:Int):=(by omega);have hj4:(j:Int)<=40:=(by omega);by_cases hlt:j<us.length
   ·have hlt':(j:Int)<(us.length:Int):=(by omega);obtain⟨⟨u,sk⟩,hjk⟩: ∃k,us[j]? =some k:=⟨us[j],az hlt⟩
    have hju:(us.map (fun p=>p.1))[j]? =some u:=(by rw[bg,hjk];rfl);rw[CJ hju]at hXr;have hin:=HIN.o.all _ (aM hjk)
    obtain⟨pk,ck,hsk⟩: ∃p c,sk= .slice p u.2.kids.length c:=by
     obtain⟨_,_,d,hd⟩:=hin;exact hd.form
    subst hsk;rcases HIN.o.row with⟨h,_⟩|⟨g,o,c',hsl,_,hcells⟩
    ·rw[h]at hlt;simp at hlt
    injection hsl with e1 e2 e3;subst e1;subst e3;obtain⟨d0,d1,d2,d3,d4,d5⟩:=hcells j _ hjk;dsimp only at d0 d1 d2 d3 d4 d5;have f0:=aj hbr d0;have f1:=aj hbr d1;have f2:=aj hbr d2;have f3:=aj hbr d3;have f4:=aj hbr d4;have f5:=aj hbr d5;have hbB:aq wr (wr.alloc (.cells #[.string ⟨u.1.toArray⟩,ag u.2.kind,ag u.2.a,ag u.2.b,.string ⟨u.2.name.toArray⟩,.slice pk u.2.kids.length ck] 106)):=am _ _;have hxB:=aE wr (.cells #[.string ⟨u.1.toArray⟩,ag u.2.kind,ag u.2.a,ag u.2.b,.string ⟨u.2.name.toArray⟩,.slice pk u.2.kids.length ck] 106);have hbBw:=aw hbr hbB;have hrB:=ai hbB hrr;have cR:=GF u pk ck _ (hin.below hbBw);have HXr:PH ((if ruleP u≠0 then(ruleP u,j) else jK ((us.map (fun p=>p.1)).drop (j+1)) (j+1))=X):=hXr;generalize ruleP u=R at*;generalize hwB:wr.alloc (.cells #[.string ⟨u.1.toArray⟩,ag u.2.kind,ag u.2.a,ag u.2.b,.string ⟨u.2.name.toArray⟩,.slice pk u.2.kids.length ck] 106)=wB at*;go_wp2_with(refine aQ rfl 106 _ rfl _ rfl _ _ _ _ hxB Bb rfl (by kernel_rfl) ?_)
    refine cR.mono ?_;rintro r w3 ⟨rfl,hb3⟩;have hb3w:=aw hbBw hb3;have hr3:=ai hb3 hrB;by_cases hy:R=0
    ·subst hy;have hXX:=HXr.o;rw[ax (by simp)]at hXX;have HN:PH (jK ((us.map (fun p=>p.1)).drop (j+1)) (j+1)=X):=hXX;go_wp2_with fail;go_roundw;case rel=>exact⟨j+1,by go_num,by omega,HN.o,hr3,hb3w⟩
     case measure=>simp[intOf];omega
    ·have hyb:(R !=0)=true:=(by simpa using hy);have hXX:=HXr.o;rw[aD hy]at hXX;subst hXX;go_wp2_with(refine ay rfl 95 _ _ rfl _ _ rfl rfl _ _ hr3 (by kernel_rfl) (by simp) (by simp[Value.oneCell']) ?_)
     exact mK 2 (by kernel_rfl) w.heap.size R (j:Int) rfl rfl (aL _ _ _ _ _ _ hr3) ⟨rfl,below_setRow hb3w (aB _) _⟩
   ·have hlt': ¬(j:Int)<(us.length:Int):=(by omega);rw[List.drop_eq_nil_of_le (by simp;omega)]at hXr;have hXX:(0,0)=X:=hXr;subst hXX;go_wp2_with(refine ay rfl 95 _ _ rfl _ _ rfl rfl _ _ hrr (by kernel_rfl) (by simp) (by simp[Value.oneCell']) ?_)
    exact mK 2 (by kernel_rfl) w.heap.size 0 0 rfl rfl (aL _ _ _ _ _ _ hrr) ⟨rfl,below_setRow hbr (aB _) _⟩
theorem aG {p:Prop}(h:p):PH p:=h
theorem InR.cells {w:World}{us:List (Ru×Value)}{pv:Option Addr}{cv:Nat}(h:InR w (.slice pv us.length cv) us): ∀(j:Nat) (p:Ru×Value),us[j]? =some p-> ∃g o:Nat,pv=some ⟨g,o,none⟩/\
   w.cell? (ae g (o+j*6))=some (.string ⟨p.1.1.toArray⟩)/\w.cell? (ae g (o+j*6+1))=some (ag p.1.2.kind)/\w.cell? (ae g (o+j*6+2))=some (ag p.1.2.a)/\w.cell? (ae g (o+j*6+3))=some (ag p.1.2.b)/\
   w.cell? (ae g (o+j*6+4))=some (.string ⟨p.1.2.name.toArray⟩)/\w.cell? (ae g (o+j*6+5))=some p.2:=fun j p hj=>by
 rcases h.row with⟨h0,_⟩|⟨g,o,c,hv',hl,hc⟩
 ·rw[h0]at hj;simp at hj
 ·injection hv' with e1;exact⟨g,o,e1,hc j p hj⟩
theorem InR.form {w:World}{v:Value}{us:List (Ru×Value)}(h:InR w v us): ∃p c,v= .slice p us.length c:=by
 rcases h.row with⟨rfl,p,c,hv⟩|⟨g,o,c,hv,_⟩
 ·exact⟨p,c,hv⟩
 ·exact⟨_,c,hv⟩
theorem tq (x y:List UInt8):(x==y)=decide (x=y):=by
 by_cases h:x=y
 ·subst h;simp
 ·simp[h]
theorem AC:prog.underlying 130=some (.map 9 3):=by kernel_rfl
theorem sc:prog.underlying 9=some .string:=by kernel_rfl
theorem zf (k:Value)(e:MapEntry): ∀(es:List MapEntry) (i:Nat),Instr.findNow .string k (es++[e]) i=match Instr.findNow .string k es i with
  |some (some r)=>some (some r)
  |some none=>(match Instr.sameNow .string k e.key with|some true=>some (some (i+es.length,e.val))|some false=>some none|none=>none)
  |none=>none
 |[],i=>by
  simp only[List.nil_append,Instr.findNow,gJ,Nat.add_zero];cases Instr.sameNow .string k e.key with
  |none=>rfl
  |some b=>cases b<;>rfl
 |x::es,i=>by
  simp only[List.cons_append,Instr.findNow];cases Instr.sameNow .string k x.key with
  |none=>rfl
  |some b=>
   cases b with
   |true=>rfl
   |false=>
    have:=zf k e es (i+1);rw[this];simp only[bJ];rw[show i+1+es.length=i+(es.length+1) by omega]
def EsN (es:List MapEntry)(l:List Ru):Prop:= ∀x:List UInt8,(0<=atP5 l x/\ ∃i,Instr.findNow .string (.string ⟨x.toArray⟩) es 0=some (some (i,ag (atP5 l x))))\/(atP5 l x= -1/\Instr.findNow .string (.string ⟨x.toArray⟩) es 0=some none)
def jl (w:World)(b:Nat)(l:List Ru):Prop:= ∃es c,w.heap[b]? =some (.map es c)/\EsN es.toList l
theorem jl.later {w w':World}{b:Nat}{l:List Ru}(h:jl w b l)(hk:w'.heap[b]? =w.heap[b]?):jl w' b l:=by
 obtain⟨es,c,h1,h2⟩:=h;exact⟨es,c,hk.trans h1,h2⟩
theorem gV {w:World}{b:Nat}{l:List Ru}(h:jl w b l):b<w.heap.size:=by
 obtain⟨es,c,h1,_⟩:=h;exact(dg.1 h1).1
theorem vF: ∀(l:List Ru) (i:Nat) (u:Ru) (x:List UInt8),atF (l++[u]) i x=if 0<=atF l i x then atF l i x else if u.1=x then((i+l.length:Nat):Int) else-1
 |[],i,u,x=>by simp[atF]
 |v::l,i,u,x=>by
  have:=vF l (i+1) u x;have e1:atF (v::l++[u]) i x=if v.1=x then(i:Int) else atF (l++[u]) (i+1) x:=rfl;have e2:atF (v::l) i x=if v.1=x then(i:Int) else atF l (i+1) x:=rfl;by_cases h:v.1=x
  ·rw[aD h]at e1 e2;rw[e1,e2,aD (by omega)]
  ·rw[ax h]at e1 e2;rw[e1,e2,this,bJ,show i+1+l.length=i+(l.length+1) by omega]
theorem Jo (x y:List UInt8):Instr.sameNow .string (.string ⟨x.toArray⟩) (.string ⟨y.toArray⟩)=some (decide (x=y)):=by
 have e:((⟨x.toArray⟩:ByteArray)==⟨y.toArray⟩)=decide (x=y):=by
  show(x.toArray==y.toArray)=_;by_cases h:x=y
  ·subst h;simp
  ·simp[h]
 simp[Instr.sameNow,e]
theorem EsN.taken {es:List MapEntry}{l:List Ru}{u:Ru}(h:EsN es l)(ht:0<=atP5 l u.1):EsN es (l++[u]):=fun x=>by
 have e:atP5 (l++[u]) x=atP5 l x:=by
  unfold atP5 at*;rw[vF];split
  ·rfl
  ·rename_i hx;have hne:u.1≠x:=fun e=>(by subst e;exact hx ht);rw[ax hne];have:=wV l 0 x;omega
 rw[e];exact h x
theorem EsN.push {es:List MapEntry}{l:List Ru}{u:Ru}{c:Nat}(h:EsN es l):EsN (es++[⟨.string ⟨u.1.toArray⟩,ag (l.length:Int),c⟩]) (l++[u]):=fun x=>by
 rw[zf]
 have e:atP5 (l++[u]) x=if 0<=atP5 l x then atP5 l x else if u.1=x then(l.length:Int) else-1:=by
  unfold atP5;rw[vF,bN]
 rcases h x with⟨h1,i,h2⟩|⟨h1,h2⟩
 ·rw[aD h1]at e;rw[h2,e];exact .inl ⟨h1,i,rfl⟩
 ·rw[ax (by omega)]at e;rw[h2];dsimp only;rw[Jo];by_cases hx:x=u.1
  ·subst hx;rw[aD rfl]at e;rw[e,bm rfl];exact .inl ⟨by omega,_,rfl⟩
  ·rw[ax (fun e=>hx e.symm)]at e;rw[e,bn hx];exact .inr ⟨rfl,rfl⟩
theorem EsN.nil:EsN [] []:=fun _=> .inr ⟨rfl,rfl⟩
theorem KI {w:World}{b:Nat}{l:List Ru}(h:jl w b l)(x:List UInt8):(Instr.lookup 130 (.map (some b)) (.string ⟨x.toArray⟩) true).run prog w= .ok (.tuple #[ag (if 0<=atP5 l x then atP5 l x else 0),.bool (decide (0<=atP5 l x))]) w:=by
 obtain⟨es,c,hb,hE⟩:=h;have hc: ∀z,(Instr.checkKey z 10000 9 (.string ⟨x.toArray⟩)).run prog w= .ok () w:=fun z=>MapKept.run_checkKey (k:= .string _) sc (by simp[MapKept.IsKey]) z 9999;have hz:(zeroValue 3).run prog w= .ok (ag 0) w:=by kernel_rfl
 rcases hE x with⟨h1,i,h2⟩|⟨h1,h2⟩
 ·simp[Instr.lookup,fT AC,fO hb,hc,gG sc h2,Result.andThen,h1]
 ·simp[Instr.lookup,fT AC,fO hb,hc,gG sc h2,hz,Result.andThen,h1]
theorem EF {w:World}{b:Nat}{l:List Ru}(h:jl w b l)(x:List UInt8)(hx:0<=atP5 l x):(Instr.lookup 130 (.map (some b)) (.string ⟨x.toArray⟩) false).run prog w= .ok (ag (atP5 l x)) w:=by
 obtain⟨es,c,hb,hE⟩:=h;have hc: ∀z,(Instr.checkKey z 10000 9 (.string ⟨x.toArray⟩)).run prog w= .ok () w:=fun z=>MapKept.run_checkKey (k:= .string _) sc (by simp[MapKept.IsKey]) z 9999;rcases hE x with⟨h1,i,h2⟩|⟨h1,h2⟩
 ·simp[Instr.lookup,fT AC,fO hb,hc,gG sc h2,Result.andThen]
 ·omega
theorem Pg {w:World}{b:Nat}{l:List Ru}{u:Ru}(h:jl w b l)(ht:atP5 l u.1= -1): ∃o,(Instr.mapUpdate 130 (.map (some b)) (.string ⟨u.1.toArray⟩) (ag (l.length:Int))).run prog w= .ok () (xc w b o)/\jl (xc w b o) b (l++[u]):=by
 obtain⟨es,c,hb,hE⟩:=h;have hc:(Instr.checkKey false 10000 9 (.string ⟨u.1.toArray⟩)).run prog w= .ok () w:=MapKept.run_checkKey (k:= .string _) sc (by simp[MapKept.IsKey]) false 9999
 have hn:Instr.findNow .string (.string ⟨u.1.toArray⟩) es.toList 0=some none:=by
  rcases hE u.1 with⟨h1,_⟩|⟨_,h2⟩
  ·omega
  ·exact h2
 refine⟨.map (es.push ⟨.string ⟨u.1.toArray⟩,ag (l.length:Int),c⟩) (c+1),?_,es.push ⟨.string ⟨u.1.toArray⟩,ag (l.length:Int),c⟩,c+1,(MapKept.heap_set hb).1,?_⟩
 ·simp[Instr.mapUpdate,fT AC,fO hb,hc,gG sc hn,MapKept.run_setObj_map _ hb,Result.andThen,xc]
 ·rw[Array.toList_push];exact hE.push
theorem GK (n:Nat)(_:n<9223372036854775808)(w:World):(Instr.makeMap 130 (some (ag (n:Int)))).run prog w= .ok (.map (some w.heap.size)) (w.alloc (.map #[] 0)):=by
 unfold Instr.makeMap;simp[go_sem]
def EG (us:List (Ru×Value))(w:World)(r:Ending)(w':World):Prop:= ∃b,r= .returned (.map (some b))/\w.heap.size<=b/\jl w' b (us.map (fun p=>p.1))/\aq w w'
def Ph (us:List (Ru×Value))(w:World)(t:Value)(wr:World):Prop:= ∃j:Nat,t=ag (j:Int)/\j<=us.length/\jl wr w.heap.size ((us.map (fun p=>p.1)).take j)/\aq w wr
theorem oQ (us:List (Ru×Value))(v:Value)(w:World)(h:InR w v us):Calls prog 63 #[v] w (EG us w):=by
 obtain⟨pv,cv,rfl⟩:=h.form;have HK:=aG h.cells;have hlen:=h.len
 have HA:PH (∀p∈us,∃q n c,p.2= .slice q n c):=fun p hp=>by
  obtain⟨_,_,d,hd⟩:=h.all p hp;obtain⟨q,c,e⟩:=hd.form;exact⟨q,_,c,e⟩
 clear h;have hb0:=am w (.map #[] 0);have hm0:jl (w.alloc (.map #[] 0)) w.heap.size []:=⟨#[],0,(MapKept.heap_alloc w _).1,EsN.nil⟩
 have hmk:=fun W=>GK us.length hlen W;go_enter func63,ntmps63;go_wp2_with fail;go_loopw [4,5,6,7,13] (fun _ _ _ _ t wr=>Ph us w t wr) (fun _ _ _ _ t _=>us.length-(intOf t).toNat);case atStart=>exact⟨0,rfl,by omega,hm0,hb0⟩
 case round=>
  obtain⟨j,rfl,hj,hM,hbr⟩:=hrel;clear hb0 hm0;have hj0:(0:Int)<=(j:Int):=(by omega);by_cases hlt:j<us.length
  ·have hlt':(j:Int)<(us.length:Int):=(by omega);obtain⟨⟨u,sk⟩,hjk⟩: ∃p,us[j]? =some p:=⟨us[j],az hlt⟩
   have htk:(us.map (fun p=>p.1)).take (j+1)=(us.map (fun p=>p.1)).take j++[u]:=by
    have hum:(us.map (fun p=>p.1))[j]? =some u:=(by rw[bg,hjk];rfl);rw[fD,hum];rfl
   have htl:((us.map (fun p=>p.1)).take j).length=j:=(by simp;omega);obtain⟨g,o,hpe,c0,c1,c2,c3,c4,c5⟩:=HK.o j _ hjk;obtain⟨qs,ns,cs,hsk⟩:=HA.o _ (aM hjk);dsimp only at c0 c1 c2 c3 c4 c5 hsk;subst hsk hpe;have d0:=aj hbr c0;have d1:=aj hbr c1;have d2:=aj hbr c2;have d3:=aj hbr c3;have d4:=aj hbr c4;have d5:=aj hbr c5;have hbA:=hbr.alloc hbr.size (.cells #[.string ⟨u.1.toArray⟩,ag u.2.kind,ag u.2.a,ag u.2.b,.string ⟨u.2.name.toArray⟩,.slice qs ns cs] 106);have hxB:=aE wr (.cells #[.string ⟨u.1.toArray⟩,ag u.2.kind,ag u.2.a,ag u.2.b,.string ⟨u.2.name.toArray⟩,.slice qs ns cs] 106);have hMA:jl (wr.alloc (.cells #[.string ⟨u.1.toArray⟩,ag u.2.kind,ag u.2.a,ag u.2.b,.string ⟨u.2.name.toArray⟩,.slice qs ns cs] 106)) w.heap.size ((us.map (fun p=>p.1)).take j):=hM.later (dJ _ _ _ (gV hM));have hlk:=KI hMA u.1;clear hjk c0 c1 c2 c3 c4 c5 hM;generalize hwB:wr.alloc (.cells #[.string ⟨u.1.toArray⟩,ag u.2.kind,ag u.2.a,ag u.2.b,.string ⟨u.2.name.toArray⟩,.slice qs ns cs] 106)=wB at*;have z0:=ak 0 hxB;by_cases ht:0<=atP5 ((us.map (fun p=>p.1)).take j) u.1
   ·rw[aD ht,bm ht]at hlk
    have hMN:jl wB w.heap.size ((us.map (fun p=>p.1)).take (j+1)):=by
     obtain⟨es,c,h1,h2⟩:=hMA;rw[htk];exact⟨es,c,h1,h2.taken ht⟩
    generalize atP5 ((us.map (fun p=>p.1)).take j) u.1=n at*;have HM:=aG hMN;clear hMA htk htl hMN ht;go_wp2_with fail;go_roundw;case rel=>exact⟨j+1,by go_num,by omega,HM.o,hbA⟩
    case measure=>simp[intOf];omega
   ·rw[ax ht,bn ht]at hlk
    have hm1:atP5 ((us.map (fun p=>p.1)).take j) u.1= -1:=by
     have:=(oh ((us.map (fun p=>p.1)).take j) u.1).1;omega
    obtain⟨ob,hup,hMN⟩:=Pg hMA hm1;rw[htl]at hup;rw[<-htk]at hMN;have hbN:=CK hbA (aB _) ob;have HM:=aG hMN;clear hMA htk htl hMN ht hm1;go_wp2_with fail;go_roundw;case rel=>exact⟨j+1,by go_num,by omega,HM.o,hbN⟩
    case measure=>simp[intOf];omega
  ·have ej:j=us.length:=(by omega);have hlt': ¬(j:Int)<(us.length:Int):=(by omega)
   have HO:PH (EG us w (.returned (.map (some w.heap.size))) wr):=by
    refine⟨w.heap.size,rfl,aB _,?_,hbr⟩;rw[ej,cj (by simp)]at hM;exact hM
   clear hM HK HA ej;go_wp2_with fail;go_ret;exact HO.o
end Go.Proofs.YtkfidffapdhbhaaGreatDoor
