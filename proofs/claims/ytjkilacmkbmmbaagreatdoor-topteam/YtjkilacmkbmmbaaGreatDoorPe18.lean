/- Texts of the proof. -/
import Derived.Test.YtjkilacmkbmmbaaGreatDoorPe17
set_option maxRecDepth 100000
set_option maxHeartbeats 8000000
namespace Go.Proofs.YtjkilacmkbmmbaaGreatDoor
open Go.Proofs.Tryz Go.RowKit Lx Vx Mx Msk
namespace Lx
def kidsP (k:Int):Nat:=if k=4\/k=5\/k=9 then 1 else if k=6\/k=7\/k=8 then 2 else 0
def rangeP (k a b:Int):Bool:=
 if k=3 then decide (0<=a/\a<b/\b<=1440)
 else if k=4 then decide (1<=a/\a<128)
 else if k=5 then decide (0<=a/\a<=b/\b<146097)
 else if k=9 then decide (a≠0/\ -1440<a/\a<1440) else true
def aloneP (e:Ex):Int:=
 if e.kind<1\/10<e.kind then 1 else if e.kids.length≠kidsP e.kind then 5 else if rangeP e.kind e.a e.b=false then 3 else if e.kind=10/\Go.Proofs.YtjkilacmkbmmbaaGreatDoor.namedL e.name=false then 7 else 0
def shapeP (e:Ex)(deep n:Nat):Int×Nat:=
 if 600<n+1\/40<deep then(4,n+1)
 else if aloneP e≠0 then(aloneP e,n+1)
 else e.kids.attach.foldl (fun acc k=>if acc.1≠0 then acc else shapeP k.1 (deep+1) acc.2) (0,n+1)
 termination_by SizeOf.sizeOf e
 decreasing_by exact gK k.2
def gL (ks:List Ex)(deep:Nat)(acc:Int×Nat):Int×Nat:=ks.foldl (fun acc k=>if acc.1≠0 then acc else shapeP k deep acc.2) acc
theorem jB (e:Ex)(deep n:Nat):shapeP e deep n=if 600<n+1\/40<deep then(4,n+1) else if aloneP e≠0 then(aloneP e,n+1) else gL e.kids (deep+1) (0,n+1):=by
 rw[shapeP];unfold gL;rw[<-List.foldl_attach (f:=fun(acc:Int×Nat) k=>if acc.1≠0 then acc else shapeP k (deep+1) acc.2)]
theorem pt (deep:Nat)(acc:Int×Nat):gL [] deep acc=acc:=rfl
theorem ig (k:Ex)(ks:List Ex)(deep:Nat)(acc:Int×Nat):gL (k::ks) deep acc=gL ks deep (if acc.1≠0 then acc else shapeP k deep acc.2):=rfl
theorem j8 {ks:List Ex}{deep:Nat}{acc:Int×Nat}(h:acc.1≠0):gL ks deep acc=acc:=by
 induction ks with
 |nil=>rfl
 |cons k ks ih=>rw[ig,ay h,ih]
theorem CR {ks:List Ex}{deep j m:Nat}{k:Ex}(h:ks[j]? =some k):gL (ks.drop j) deep (0,m)=gL (ks.drop (j+1)) deep (shapeP k deep m):=by
 obtain⟨h1,h2⟩:=aE.1 h;rw[bx h1,h2,ig,aw (by simp)]
theorem Bp: ∀(N:Nat) (e:Ex) (deep n:Nat),SizeOf.sizeOf e<=N->(shapeP e deep n).1=0->(shapeP e deep n).2<=600
 |0,e,_,_,hN,_=>by cases e;simp at hN
 |N+1,e,deep,n,hN,h=>by
  rw[jB]at h⊢;split at h
  ·cases h
  ·rename_i h1;rw[aw h1];split at h
   ·rename_i h2;exact absurd h h2
   ·rename_i h2;rw[aw h2]
    have aux: ∀(ks:List Ex),(∀k∈ks,SizeOf.sizeOf k<=N)-> ∀acc:Int×Nat,acc.2<=600->(gL ks (deep+1) acc).1=0->(gL ks (deep+1) acc).2<=600:=by
     intro ks;induction ks with
     |nil=>intro _ acc ha _;exact ha
     |cons k ks ih=>
      intro hk acc ha h0;rw[ig]at h0⊢;by_cases hb:acc.1≠0
      ·rw[ay hb]at h0⊢;exact ih (fun q hq=>hk q (bn _ hq)) acc ha h0
      ·rw[aw hb]at h0⊢;refine ih (fun q hq=>hk q (bn _ hq)) _ ?_ h0;by_cases hz:(shapeP k (deep+1) acc.2).1=0
       ·exact Bp N k (deep+1) acc.2 (hk k bc) hz
       ·rw[j8 hz]at h0;exact absurd h0 hz
    exact aux e.kids (fun k hk=>by have:=gK hk;omega) (0,n+1) (by simp at h1⊢;omega) h
theorem tg {e:Ex}{deep n:Nat}(h:(shapeP e deep n).1=0):(shapeP e deep n).2<=600:=Bp _ e deep n (aA _) h
end Lx
theorem EK (k:Int)(w:World):Calls prog 175 #[ag k] w fun e w'=>e= .returned (ag (kidsP k:Int))/\w'=w:=by
 have walk: ∀(b4 b5 b9 b6 b7 b8:Bool),(k==4)=b4->(k==5)=b5->(k==9)=b9->(k==6)=b6->(k==7)=b7->(k==8)=b8->
   Calls prog 175 #[ag k] w fun e w'=>e= .returned (ag (if b4||(b5||b9) then 1 else if b6||(b7||b8) then 2 else 0))/\w'=w:=by
  intro b4 b5 b9 b6 b7 b8 h4 h5 h9 h6 h7 h8;cases b4<;>cases b5<;>cases b9<;>cases b6<;>cases b7<;>cases b8<;>(go_enter func175,ntmps175;go_wp2;go_ret;exact⟨rfl,rfl⟩)
 refine(walk _ _ _ _ _ _ rfl rfl rfl rfl rfl rfl).mono ?_;rintro e w' ⟨rfl,rfl⟩;refine⟨?_,rfl⟩;unfold kidsP;simp only[gY,beq_iff_eq];by_cases c1:k=4\/k=5\/k=9
 ·rw[ay c1,ay c1];rfl
 ·rw[aw c1,aw c1];by_cases c2:k=6\/k=7\/k=8
  ·rw[ay c2,ay c2];rfl
  ·rw[aw c2,aw c2];rfl
theorem CS (k a b:Int)(nm:ByteArray)(p:Option Addr)(n c:Nat)(w:World):Calls prog 176 #[.agg #[ag k,ag a,ag b,.string nm,.slice p n c]] w fun e w'=>e= .returned (.bool (rangeP k a b))/\ao w w':=by
 have hb:ao w (w.alloc (.cells #[ag k,ag a,ag b,.string nm,.slice p n c] 52)):=am _ _;unfold rangeP;by_cases h3:k=3
 ·subst h3;rw[ay rfl];by_cases c1:0<=a
  ·by_cases c2:a<b
   ·by_cases c3:b<=1440
    ·go_enter func176,ntmps176;go_wp2;go_ret;exact⟨by first|(simp;done)|(simp;omega),hb⟩
    ·go_enter func176,ntmps176;go_wp2;go_ret;exact⟨by first|(simp;done)|(simp;omega),hb⟩
   ·go_enter func176,ntmps176;go_wp2;go_ret;exact⟨by first|(simp;done)|(simp;omega),hb⟩
  ·go_enter func176,ntmps176;go_wp2;go_ret;exact⟨by first|(simp;done)|(simp;omega),hb⟩
 rw[aw h3];have i3:(k==3)=false:=bf.2 h3;by_cases h4:k=4
 ·subst h4;rw[ay rfl];by_cases c1:1<=a
  ·by_cases c2:a<128
   ·go_enter func176,ntmps176;go_wp2;go_ret;exact⟨by first|(simp;done)|(simp;omega),hb⟩
   ·go_enter func176,ntmps176;go_wp2;go_ret;exact⟨by first|(simp;done)|(simp;omega),hb⟩
  ·go_enter func176,ntmps176;go_wp2;go_ret;exact⟨by first|(simp;done)|(simp;omega),hb⟩
 rw[aw h4];have i4:(k==4)=false:=bf.2 h4;by_cases h5:k=5
 ·subst h5;rw[ay rfl];by_cases c1:0<=a
  ·by_cases c2:a<=b
   ·by_cases c3:b<146097
    ·go_enter func176,ntmps176;go_wp2;go_ret;exact⟨by first|(simp;done)|(simp;omega),hb⟩
    ·go_enter func176,ntmps176;go_wp2;go_ret;exact⟨by first|(simp;done)|(simp;omega),hb⟩
   ·go_enter func176,ntmps176;go_wp2;go_ret;exact⟨by first|(simp;done)|(simp;omega),hb⟩
  ·go_enter func176,ntmps176;go_wp2;go_ret;exact⟨by first|(simp;done)|(simp;omega),hb⟩
 rw[aw h5];have i5:(k==5)=false:=bf.2 h5;by_cases h9:k=9
 ·subst h9;rw[ay rfl];by_cases c1:a=0
  ·subst c1;go_enter func176,ntmps176;go_wp2;go_ret;exact⟨by first|(simp;done)|(simp;omega),hb⟩
  ·have n1:(a !=0)=true:=(by simpa using c1);by_cases c2: -1440<a
   ·by_cases c3:a<1440
    ·go_enter func176,ntmps176;go_wp2;go_ret;exact⟨by first|(simp;done)|(simp;omega),hb⟩
    ·go_enter func176,ntmps176;go_wp2;go_ret;exact⟨by first|(simp;done)|(simp;omega),hb⟩
   ·go_enter func176,ntmps176;go_wp2;go_ret;exact⟨by first|(simp;done)|(simp;omega),hb⟩
 rw[aw h9];have i9:(k==9)=false:=bf.2 h9;go_enter func176,ntmps176;go_wp2;go_ret;exact⟨rfl,hb⟩
theorem zj (s:ByteArray)(l:List UInt8)(hs:s.data.toList=l)(hl:l.length<=9223372036854775807)(w:World):
  Calls prog 114 #[.string s] w fun e w'=>e= .returned (.bool (namedL l))/\ao w w':=by
 by_cases h20:l.length<=20
 ·exact Gm s l hs (by omega) w
 ·have hz:s.size=l.length:=by rw[<-hs,Lib.size_eq]
  have hq:s.toList.isEmpty=false:=(by rw[Lib.toList_data,hs];cases l<;>simp at h20⊢);have i20: ¬(l.length:Int)<=20:=(by omega);have HN:P3 (namedL l=false):=(by show namedL l=false;simp[namedL,h20]);clear h20;go_enter func114,ntmps114;go_wp2_with fail;go_ret;exact⟨by rw[HN.o];rfl,aG _ _⟩
theorem GI (e:Ex)(p:Option Addr)(c:Nat)(hnm:e.name.length<=9223372036854775807)(w:World):Calls prog 151 #[exV e (.slice p e.kids.length c)] w fun r w'=>r= .returned (ag (aloneP e))/\ao w w':=by
 have hb:ao w (w.alloc (.cells #[ag e.kind,ag e.a,ag e.b,.string ⟨e.name.toArray⟩,.slice p e.kids.length c] 52)):=am _ _;have hx:=aC w (.cells #[ag e.kind,ag e.a,ag e.b,.string ⟨e.name.toArray⟩,.slice p e.kids.length c] 52);have cK:=fun w=>EK e.kind w;have cR:=fun w=>CS e.kind e.a e.b ⟨e.name.toArray⟩ p e.kids.length c w;have cN:=fun w=>zj ⟨e.name.toArray⟩ e.name rfl hnm w;unfold aloneP exV;generalize kidsP e.kind=kp at*;generalize rangeP e.kind e.a e.b=rp at*;generalize namedL e.name=nb at*;generalize e.kind=k at*;generalize e.a=a at*;generalize e.b=b at*;generalize (⟨e.name.toArray⟩:ByteArray)=nm at*;generalize e.kids.length=n at*;clear hnm;generalize hA:(if k<1\/10<k then(1:Int) else if n≠kp then 5 else if rp=false then 3 else if k=10/\nb=false then 7 else 0)=A;have HA:P3 ((if k<1\/10<k then(1:Int) else if n≠kp then 5 else if rp=false then 3 else if k=10/\nb=false then 7 else 0)=A):=hA;clear hA;by_cases c1:k<1
 ·have HE:P3 (A=1):=by show _=_;rw[<-HA.o,ay (.inl c1)]
  go_enter func151,ntmps151;go_wp2_with fail;go_ret;exact⟨by rw[HE.o];rfl,hb⟩
 by_cases c2:10<k
 ·have HE:P3 (A=1):=by show _=_;rw[<-HA.o,ay (.inr c2)]
  go_enter func151,ntmps151;go_wp2_with fail;go_ret;exact⟨by rw[HE.o];rfl,hb⟩
 have hk: ¬(k<1\/10<k):=by omega
 have HK:P3 (¬(k<1\/10<k)):=hk;clear hk;have k0:=ak 0 hx;have k3:=ak 3 hx;have k4:=ak 4 hx;generalize hw1:w.alloc (.cells #[ag k,ag a,ag b,.string nm,.slice p n c] 52)=w1 at*;by_cases c3:n=kp
 ·have n3:((n:Int) !=(kp:Int))=false:=by simp;omega
  have HN:P3 (¬n≠kp):=fun h=>h c3;clear c3;go_enter func151,ntmps151;go_wp2_with fail;go_quiet ((go_at_call 175;exact eU (cK _)));have hx2:(w1.drewN nq).heap[w.heap.size]? =ah #[ag k,ag a,ag b,.string nm,.slice p n c] 52:=hx;have k02:(w1.drewN nq).cell? (ae w.heap.size 0)=some (ag k):=k0;have k32:(w1.drewN nq).cell? (ae w.heap.size 3)=some (.string nm):=k3;have hb2:=dr hb nq;clear hx k0 k3 k4 hw1 hb cK;generalize w1.drewN nq=w2 at*;cases rp with
  |false=>
   have HE:P3 (A=3):=(by show _=_;rw[<-HA.o,aw HK.o,aw HN.o,ay rfl]);go_wp2_with(refine aR rfl 52 _ rfl _ rfl _ _ _ _ hx2 eD rfl (by kernel_rfl) ?_)
   refine(cR _).mono ?_;rintro r w3 ⟨rfl,hb3⟩;have hb3w:=au hb2 hb3;go_wp2_with fail;go_ret;exact⟨by rw[HE.o];rfl,hb3w⟩
  |true=>
   go_wp2_with(refine aR rfl 52 _ rfl _ rfl _ _ _ _ hx2 eD rfl (by kernel_rfl) ?_)
   refine(cR _).mono ?_;rintro r w3 ⟨rfl,hb3⟩;have hb3w:=au hb2 hb3;have q0:=aj hb3 k02;have q3:=aj hb3 k32;clear cR hx2 k02 k32 hb3;by_cases c5:k=10
   ·have i5:(k==10)=true:=(by simpa using c5);cases nb with
    |false=>
     have HE:P3 (A=7):=(by show _=_;rw[<-HA.o,aw HK.o,aw HN.o,aw (by decide),ay ⟨c5,rfl⟩]);go_wp2_with fail;refine(cN _).mono ?_;rintro r w4 ⟨rfl,hb4⟩;have hb4w:=au hb3w hb4;go_wp2_with fail;go_ret;exact⟨by rw[HE.o];rfl,hb4w⟩
    |true=>
     have HE:P3 (A=0):=(by show _=_;rw[<-HA.o,aw HK.o,aw HN.o,aw (by decide),aw (by simp)]);go_wp2_with fail;refine(cN _).mono ?_;rintro r w4 ⟨rfl,hb4⟩;have hb4w:=au hb3w hb4;go_wp2_with fail;go_ret;exact⟨by rw[HE.o];rfl,hb4w⟩
   ·have i5:(k==10)=false:=(by simpa using c5);have HE:P3 (A=0):=(by show _=_;rw[<-HA.o,aw HK.o,aw HN.o,aw (by decide),aw (fun h=>c5 h.1)]);go_wp2_with fail;go_ret;exact⟨by rw[HE.o];rfl,hb3w⟩
 ·have n3:((n:Int) !=(kp:Int))=true:=by simp;omega
  have HE:P3 (A=5):=(by show _=_;rw[<-HA.o,aw HK.o,ay c3]);go_enter func151,ntmps151;go_wp2_with fail;go_quiet ((go_at_call 175;exact eU (cK _)));have hb2:=dr hb nq;go_wp2_with fail;go_ret;exact⟨by rw[HE.o];rfl,hb2⟩
section
variable {B:Nat->Prop} {gn:Nat}
def fD (B:Nat->Prop):Nat->World->Value->List Ex->Prop
 |0,_,sl,ks=>ks=[]/\ ∃p c,sl= .slice p 0 c
 |d+1,w,sl,ks=>(ks=[]/\ ∃p c,sl= .slice p 0 c)\/ ∃g o c:Nat,B g/\sl= .slice (some (ae g o)) ks.length c/\ks.length<9223372036854775808/\ ∀(j:Nat) (k:Ex),ks[j]? =some k->k.name.length<=9223372036854775807/\ ∃sk:Value,
  w.cell? (ae g (o+j*5))=some (ag k.kind)/\w.cell? (ae g (o+j*5+1))=some (ag k.a)/\w.cell? (ae g (o+j*5+2))=some (ag k.b)/\
  w.cell? (ae g (o+j*5+3))=some (.string ⟨k.name.toArray⟩)/\w.cell? (ae g (o+j*5+4))=some sk/\fD B d w sk k.kids
theorem fD.kept {w w':World}(hw: ∀g,B g->g<w.heap.size->w'.heap[g]? =w.heap[g]?): ∀{d:Nat} {sl:Value} {ks:List Ex},fD B d w sl ks->fD B d w' sl ks
 |0,_,_,h=>h
 |d+1,sl,ks,h=>by
  rcases h with h|⟨g,o,c,hB,hs,hl,hk⟩
  ·exact .inl h
  ·refine .inr ⟨g,o,c,hB,hs,hl,fun j k hj=> ?_⟩;obtain⟨hn,sk,c0,c1,c2,c3,c4,r⟩:=hk j k hj;have e:w'.heap[g]? =w.heap[g]? :=hw g hB (bT c0);have ce: ∀i,w'.cell? (ae g i)=w.cell? (ae g i):=fun i=>dL e;exact⟨hn,sk,(ce _).trans c0,(ce _).trans c1,(ce _).trans c2,(ce _).trans c3,(ce _).trans c4,fD.kept hw r⟩
theorem fD.mono {B':Nat->Prop}(hB: ∀g,B g->B' g): ∀{d:Nat} {w:World} {sl:Value} {ks:List Ex},fD B d w sl ks->fD B' d w sl ks
 |0,_,_,_,h=>h
 |d+1,w,sl,ks,h=>by
  rcases h with h|⟨g,o,c,hg,hs,hl,hk⟩
  ·exact .inl h
  ·refine .inr ⟨g,o,c,hB g hg,hs,hl,fun j k hj=> ?_⟩;obtain⟨hn,sk,c0,c1,c2,c3,c4,r⟩:=hk j k hj;exact⟨hn,sk,c0,c1,c2,c3,c4,fD.mono hB r⟩
theorem fD.form {d:Nat}{w:World}{sl:Value}{ks:List Ex}(h:fD B d w sl ks): ∃p c,sl= .slice p ks.length c:=by
 cases d with
 |zero=>
  obtain⟨rfl,p,c,rfl⟩:=h;exact⟨p,c,rfl⟩
 |succ d=>
  rcases h with⟨rfl,p,c,rfl⟩|⟨g,o,c,_,hs,_⟩
  ·exact⟨p,c,rfl⟩
  ·exact⟨_,c,hs⟩
def lM (w:World)(gn n:Nat):Prop:=w.heap[gn]? =ah #[ag (n:Int)] 3
def Bq (gn:Nat)(w:World)(x:Int×Nat)(r:Ending)(w':World):Prop:=r= .returned (ag x.1)/\lM w' gn x.2/\bm gn w w'
def K9 (f:FuncId)(gn:Nat)(w:World)(sl:Value)(ks:List Ex):Prop:=
 ∃g o c:Nat,sl= .slice (some (ae g o)) ks.length c/\g≠gn/\ks.length<9223372036854775808/\ ∀(j:Nat) (k:Ex),ks[j]? =some k-> ∃(p:Option Addr) (q:Nat),
  w.cell? (ae g (o+j*5))=some (ag k.kind)/\w.cell? (ae g (o+j*5+1))=some (ag k.a)/\w.cell? (ae g (o+j*5+2))=some (ag k.b)/\
  w.cell? (ae g (o+j*5+3))=some (.string ⟨k.name.toArray⟩)/\w.cell? (ae g (o+j*5+4))=some (.slice p k.kids.length q)/\
  ∀(W:World) (deep n:Nat),bm gn w W->lM W gn n->n<=600->deep<=41->Calls prog f #[.agg #[ag k.kind,ag k.a,ag k.b,.string ⟨k.name.toArray⟩,.slice p k.kids.length q],ag (deep:Int),ab gn 0] W (Bq gn W (shapeP k deep n))
theorem GK (f:FuncId)(hB: ∀k,B k->k≠gn)
  (step: ∀(e:Ex) (p:Option Addr) (c:Nat) (w:World) (deep n:Nat),(e.kids=[]\/K9 f gn w (.slice p e.kids.length c) e.kids)->e.name.length<=9223372036854775807->lM w gn n->n<=600->deep<=41->Calls prog f #[.agg #[ag e.kind,ag e.a,ag e.b,.string ⟨e.name.toArray⟩,.slice p e.kids.length c],ag (deep:Int),ab gn 0] w (Bq gn w (shapeP e deep n))):
  ∀(d:Nat) (e:Ex) (sl:Value) (w:World) (deep n:Nat),fD B d w sl e.kids->e.name.length<=9223372036854775807->lM w gn n->n<=600->deep<=41->Calls prog f #[exV e sl,ag (deep:Int),ab gn 0] w (Bq gn w (shapeP e deep n)):=by
 intro d;induction d with
 |zero=>
  intro e sl w deep n hk hn hc h6 hd;obtain⟨p,c,rfl⟩:=hk.form;exact step e p c w deep n (.inl hk.1) hn hc h6 hd
 |succ d ih=>
  intro e sl w deep n hk hn hc h6 hd;obtain⟨p,c,hsl⟩:=hk.form;subst hsl;refine step e p c w deep n ?_ hn hc h6 hd;rcases hk with⟨h,_⟩|⟨g,o,c',hg,hs,hl,hkid⟩
  ·exact .inl h
  ·refine .inr ⟨g,o,c',hs,hB g hg,hl,fun j k hj=> ?_⟩;obtain⟨hn',sk,c0,c1,c2,c3,c4,r⟩:=hkid j k hj;obtain⟨p',q',rfl⟩:=r.form;exact⟨p',q',c0,c1,c2,c3,c4,fun W deep n hK hC h6 hd=>ih k _ W deep n (r.kept fun g' hg' hl'=>hK.block g' hl' (fun e=>hB g' hg' (aK e))) hn' hC h6 hd⟩
theorem EL (e:Ex)(p:Option Addr)(c:Nat)(w:World)(deep n:Nat)(hk:e.kids=[]\/K9 115 gn w (.slice p e.kids.length c) e.kids)(hn:e.name.length<=9223372036854775807)(hc:lM w gn n)(h6:n<=600)(hd:deep<=41):
  Calls prog 115 #[.agg #[ag e.kind,ag e.a,ag e.b,.string ⟨e.name.toArray⟩,.slice p e.kids.length c],ag (deep:Int),ab gn 0] w (Bq gn w (shapeP e deep n)):=by
 have hgl:=aF hc;have hbA:=am w (.cells #[ag e.kind,ag e.a,ag e.b,.string ⟨e.name.toArray⟩,.slice p e.kids.length c] 52);have hxA:=aC w (.cells #[ag e.kind,ag e.a,ag e.b,.string ⟨e.name.toArray⟩,.slice p e.kids.length c] 52);have hcA:=(hbA.block _ hgl).trans hc;generalize hwA:w.alloc (.cells #[ag e.kind,ag e.a,ag e.b,.string ⟨e.name.toArray⟩,.slice p e.kids.length c] 52)=wA at*;have z0:=ak 0 hcA;have y0:=bl _ _ 0 _ _ hcA;have hc1:(wA.setCell ⟨gn,0,none⟩ (ag ((n+1:Nat):Int))).heap[gn]? =ah #[ag ((n+1:Nat):Int)] 3:=aX _ _ 0 _ _ _ hcA;have hx1:=(aN wA ⟨gn,0,none⟩ w.heap.size (ag ((n+1:Nat):Int)) (by show w.heap.size≠gn;omega)).trans hxA;have hk1:=(bm.of_below (g:=gn) hbA).trans (bm.set wA gn 0 (ag ((n+1:Nat):Int)));have ei:(n:Int)+1=((n+1:Nat):Int):=by omega
 have hn6:(n:Int)<=600:=by omega
 have q1:=ak 0 hc1;have q4:=ak 4 hx1;have cA:=fun w=>GI e p c hn w;unfold exV at cA;generalize hX:shapeP e deep n=X;rw[jB]at hX;have HX:P3 ((if 600<n+1\/40<deep then(4,n+1) else if aloneP e≠0 then(aloneP e,n+1) else gL e.kids (deep+1) (0,n+1))=X):=hX;have HC:P3 (lM (wA.setCell ⟨gn,0,none⟩ (ag ((n+1:Nat):Int))) gn (n+1)):=hc1;clear hX hc hcA hbA hxA;by_cases c1:600<n+1
 ·have HE:P3 (X=(4,n+1)):=by show _=_;rw[<-HX.o,ay (.inl c1)]
  have c1':(600:Int)<((n+1:Nat):Int):=(by omega);clear HX c1 hc1;generalize ((n+1:Nat):Int)=vv at*;go_enter func115,ntmps115;go_wp2_with fail;go_ret;rw[HE.o];exact⟨rfl,HC.o,hk1⟩
 have c1': ¬(600:Int)<((n+1:Nat):Int):=by omega
 by_cases c2:40<deep
 ·have HE:P3 (X=(4,n+1)):=by show _=_;rw[<-HX.o,ay (.inr c2)]
  have c2':(40:Int)<(deep:Int):=(by omega);clear HX c1 c2 hc1;generalize ((n+1:Nat):Int)=vv at*;go_enter func115,ntmps115;go_wp2_with fail;go_ret;rw[HE.o];exact⟨rfl,HC.o,hk1⟩
 have c2': ¬(40:Int)<(deep:Int):=by omega
 by_cases c3:aloneP e=0
 ·have hX3:=HX.o;rw[aw (by omega),aw (by simpa using c3)]at hX3;have HS:P3 (gL (e.kids.drop 0) (deep+1) (0,n+1)=X):=hX3;rw[c3]at cA;have hm6:n+1<=600:=(by omega);clear HX c1 hX3 c3 hc1;generalize hvv:((n+1:Nat):Int)=vv at*;generalize hw1:wA.setCell ⟨gn,0,none⟩ (ag vv)=w1 at*;go_enter func115,ntmps115;go_wp2_with(refine aR rfl 52 _ rfl _ rfl _ _ _ _ hx1 eD rfl (by kernel_rfl) ?_)
  refine(cA _).mono ?_;rintro r w2 ⟨rfl,hb2⟩;have hk2:=hk1.trans (bm.of_below hb2);have hc2:lM w2 gn (n+1):=ai hb2 HC.o;have q42:=aj hb2 q4;have HC2:P3 (lM w2 gn (n+1)):=hc2;clear cA hw1 HC hc2 hk1 hx1 q4 q1 z0 y0 hwA hb2;go_wp2_with fail;go_loopw [32] (fun t wr=> ∃j m:Nat,t=ag (j:Int)/\j<=e.kids.length/\gL (e.kids.drop j) (deep+1) (0,m)=X/\m<=600/\lM wr gn m/\bm gn w wr) (fun t _=>e.kids.length-(intOf t).toNat);case atStart=>exact⟨0,n+1,rfl,by omega,HS.o,hm6,HC2.o,hk2⟩
  case round=>
   obtain⟨j,m,rfl,hj,hXr,hm,hcr,hkr⟩:=hrel;clear HS HC2 hk2 q42;have hj0:(0:Int)<=(j:Int):=(by omega);by_cases hlt:j<e.kids.length
   ·have hlt':(j:Int)<(e.kids.length:Int):=(by omega);obtain⟨k,hjk⟩: ∃k,e.kids[j]? =some k:=⟨e.kids[j],ax hlt⟩
    rw[CR hjk]at hXr;have hks:e.kids≠[]:=fun h=>(by rw[h]at hlt;simp at hlt);obtain⟨g,o,c',hsl,hgn,hlen,hkid⟩:=hk.resolve_left hks;obtain⟨pk,ck,d0,d1,d2,d3,d4,ihk⟩:=hkid j k hjk;have eb:wr.heap[g]? =w.heap[g]? :=hkr.block g (bT d0) (fun e=>hgn (aK e));have ce: ∀i,wr.cell? (ae g i)=w.cell? (ae g i):=fun i=>dL eb;have f0:=(ce _).trans d0;have f1:=(ce _).trans d1;have f2:=(ce _).trans d2;have f3:=(ce _).trans d3;have f4:=(ce _).trans d4;have hbB:ao wr (wr.alloc (.cells #[ag k.kind,ag k.a,ag k.b,.string ⟨k.name.toArray⟩,.slice pk k.kids.length ck] 52)):=am _ _;have hxB:=aC wr (.cells #[ag k.kind,ag k.a,ag k.b,.string ⟨k.name.toArray⟩,.slice pk k.kids.length ck] 52);have hkB:=hkr.trans (bm.of_below hbB);have hcB:lM (wr.alloc (.cells #[ag k.kind,ag k.a,ag k.b,.string ⟨k.name.toArray⟩,.slice pk k.kids.length ck] 52)) gn m:=ai hbB hcr;have cR:=ihk _ (deep+1) m hkB hcB hm (by omega);have hdd:(deep:Int)+1=((deep+1:Nat):Int):=(by omega);have hd40:(deep:Int)<=40:=(by omega);have hle:=fun h=>tg (e:=k) (deep:=deep+1) (n:=m) h;injection hsl with e1 e2 e3;subst e1;subst e3;clear ce d0 d1 d2 d3 d4 ihk hkid eb hcr hks hjk hcB hbB;have HXr:P3 (gL (e.kids.drop (j+1)) (deep+1) (shapeP k (deep+1) m)=X):=hXr;clear hXr;generalize shapeP k (deep+1) m=Y at*;generalize ((deep+1:Nat):Int)=dv at*;generalize hwB:wr.alloc (.cells #[ag k.kind,ag k.a,ag k.b,.string ⟨k.name.toArray⟩,.slice pk k.kids.length ck] 52)=wB at*;obtain⟨y1,y2⟩:=Y;go_wp2_with(refine aR rfl 52 _ rfl _ rfl _ _ _ _ hxB eD rfl (by kernel_rfl) ?_)
    refine cR.mono ?_;rintro r w3 ⟨rfl,hc3,hk3⟩;have hkw3:=hkB.trans hk3;dsimp only at hc3 hle⊢;clear cR hk3 hkB hxB hwB f0 f1 f2 f3 f4;by_cases hy:y1=0
    ·subst hy;have hy2:=hle rfl;go_wp2_with fail;go_roundw;case rel=>exact⟨j+1,y2,by go_num,by omega,HXr.o,hy2,hc3,hkw3⟩
     case measure=>simp[intOf];omega
    ·have hyb:(y1 !=0)=true:=(by simpa using hy);have HE:P3 (X=(y1,y2)):=(by show _=_;rw[<-HXr.o,j8 hy]);clear HXr hle;go_wp2_with fail;go_ret;rw[HE.o];exact⟨rfl,hc3,hkw3⟩
   ·have hlt': ¬(j:Int)<(e.kids.length:Int):=(by omega);have HE:P3 (X=(0,m)):=(by show _=_;rw[<-hXr,List.drop_eq_nil_of_le (by omega)];rfl);clear hXr;go_wp2_with fail;go_ret;rw[HE.o];exact⟨rfl,hcr,hkr⟩
 ·have hX3:=HX.o;rw[aw (by omega),ay c3]at hX3;have HE:P3 (X=(aloneP e,n+1)):=hX3.symm;have n3:(aloneP e !=0)=true:=(by simpa using c3);clear HX hX3 c3 c1 hc1;generalize aloneP e=al at*;generalize hvv:((n+1:Nat):Int)=vv at*;generalize hw1:wA.setCell ⟨gn,0,none⟩ (ag vv)=w1 at*;go_enter func115,ntmps115;go_wp2_with(refine aR rfl 52 _ rfl _ rfl _ _ _ _ hx1 eD rfl (by kernel_rfl) ?_)
  refine(cA _).mono ?_;rintro r w2 ⟨rfl,hb2⟩;have hk2:=hk1.trans (bm.of_below hb2);have HC2:P3 (lM w2 gn (n+1)):=ai hb2 HC.o;clear cA hw1 HC hk1 hx1 q4 q1 z0 y0 hwA hb2;go_wp2_with fail;go_ret;rw[HE.o];exact⟨rfl,HC2.o,hk2⟩
theorem GL (hB: ∀k,B k->k≠gn)(d:Nat)(e:Ex)(sl:Value)(w:World)(deep n:Nat)(hk:fD B d w sl e.kids)(hn:e.name.length<=9223372036854775807)(hc:lM w gn n)(h6:n<=600)(hd:deep<=41):
 Calls prog 115 #[exV e sl,ag (deep:Int),ab gn 0] w (Bq gn w (shapeP e deep n)):=GK _ hB (fun e p c w deep n=>EL e p c w deep n) d e sl w deep n hk hn hc h6 hd
end
theorem Br: ∀(us:List (Ru×Value)) (j:Nat) (p:Ru×Value),us[j]? =some p->(kR us)[j*6]? =some (.string ⟨p.1.1.toArray⟩)/\(kR us)[j*6+1]? =some (ag p.1.2.kind)/\(kR us)[j*6+2]? =some (ag p.1.2.a)/\(kR us)[j*6+3]? =some (ag p.1.2.b)/\(kR us)[j*6+4]? =some (.string ⟨p.1.2.name.toArray⟩)/\(kR us)[j*6+5]? =some p.2
 |[],j,p,h=>by simp at h
 |q::us,0,p,h=>by
  have:q=p:=(by simpa using h);subst this;simp[kR]
 |q::us,j+1,p,h=>by
  have:=Br us j p (by simpa using h);have e:(j+1)*6=j*6+1+1+1+1+1+1:=(by omega);rw[e];simpa[kR] using this
def Bs (w:World)(v:Value)(us:List (Ru×Value)):Prop:=
 (us=[]/\ ∃p c,v= .slice p 0 c)\/ ∃g o c:Nat,v= .slice (some (ae g o)) us.length c/\us.length<9223372036854775808/\ ∀(j:Nat) (p:Ru×Value),us[j]? =some p->
  w.cell? (ae g (o+j*6))=some (.string ⟨p.1.1.toArray⟩)/\w.cell? (ae g (o+j*6+1))=some (ag p.1.2.kind)/\w.cell? (ae g (o+j*6+2))=some (ag p.1.2.a)/\w.cell? (ae g (o+j*6+3))=some (ag p.1.2.b)/\
  w.cell? (ae g (o+j*6+4))=some (.string ⟨p.1.2.name.toArray⟩)/\w.cell? (ae g (o+j*6+5))=some p.2
theorem Bs.below {w w':World}{v:Value}{us:List (Ru×Value)}(h:Bs w v us)(hb:ao w w'):Bs w' v us:=by
 rcases h with h|⟨g,o,c,hv,hl,hc⟩
 ·exact .inl h
 ·refine .inr ⟨g,o,c,hv,hl,fun j p hj=> ?_⟩;obtain⟨c0,c1,c2,c3,c4,c5⟩:=hc j p hj;exact⟨aj hb c0,aj hb c1,aj hb c2,aj hb c3,aj hb c4,aj hb c5⟩
theorem Bt {w:World}{base:Nat}{v:Value}{us:List (Ru×Value)}(h:w.ownsRow base 54 6 v us.length (kR us))(hl:us.length<9223372036854775808):Bs w v us:=by
 by_cases h0:us.length=0
 ·obtain⟨p,c,rfl⟩:=bU h;exact .inl ⟨gV.1 h0,p,c,by rw[h0]⟩
 ·obtain⟨g,cap,hv,hc⟩:=sZ h (by omega);refine .inr ⟨g,0,cap,hv,hl,fun j p hj=> ?_⟩;obtain⟨f0,f1,f2,f3,f4,f5⟩:=Br us j p hj;rw[bK];exact⟨hc _ _ f0,hc _ _ f1,hc _ _ f2,hc _ _ f3,hc _ _ f4,hc _ _ f5⟩
namespace Lx
def ruleP (u:Ru):Int:=if Go.Proofs.YtjkilacmkbmmbaaGreatDoor.namedL u.1=false then 7 else(shapeP u.2 1 0).1
def ju:List Ru->Nat->Int×Nat
 |[],_=>(0,0)
 |u::l,i=>if ruleP u≠0 then(ruleP u,i) else ju l (i+1)
def fy (l:List Ru):Int×Nat:=if 40<l.length then(5,0) else ju l 0
theorem CT {l:List Ru}{j:Nat}{u:Ru}(h:l[j]? =some u):ju (l.drop j) j=if ruleP u≠0 then(ruleP u,j) else ju (l.drop (j+1)) (j+1):=by
 obtain⟨h1,h2⟩:=aE.1 h;rw[bx h1,h2];rfl
end Lx
def qf (w:World)(p:Ru×Value):Prop:=p.1.1.length<=9223372036854775807/\p.1.2.name.length<=9223372036854775807/\ ∃d,fD (fun k=>k<w.heap.size) d w p.2 p.1.2.kids
theorem qf.below {w w':World}{p:Ru×Value}(h:qf w p)(hb:ao w w'):qf w' p:=by
 obtain⟨h1,h2,d,h3⟩:=h;exact⟨h1,h2,d,(h3.kept fun g _ hl=>hb.block g hl).mono fun g hg=>aO hg hb.size⟩
structure InR (w:World)(v:Value)(us:List (Ru×Value)):Prop where
 row:Bs w v us
 len:us.length<9223372036854775808
 all: ∀p∈us,qf w p
theorem InR.below {w w':World}{v:Value}{us:List (Ru×Value)}(h:InR w v us)(hb:ao w w'):InR w' v us:=⟨h.row.below hb,h.len,fun p hp=>(h.all p hp).below hb⟩
theorem mz {fn:Func}(s:Nat)(h:fn.results= #[ResultVar.cell s 47]){R:Ending->World->Prop}{a:Act}{w:World}(g:Nat)(er at_:Int)(hd:a.defers=[])(h2:a.tmps.getD s undef=ab g 0)
  (hg:w.heap[g]? =ah #[ag er,ag at_] 47) (hR:R (.returned (.agg #[ag er,ag at_])) w):bodyPost prog fn R .ret a w:=by
 refine aU (v:= .agg #[ag er,ag at_]) ?_ hd hR;have h2':a.tmps[s]?.getD undef=ab g 0:=by simpa using h2
 have hv:=dR (P:=prog) w g 47 47 _ _ _ hg oJ rfl (by kernel_rfl);simp[results,h,h2',asAddr,hv]
theorem GM (u:Ru)(p:Option Addr)(c:Nat)(w:World)(h:qf w (u,.slice p u.2.kids.length c)):
  Calls prog 75 #[.agg #[.string ⟨u.1.toArray⟩,ag u.2.kind,ag u.2.a,ag u.2.b,.string ⟨u.2.name.toArray⟩,.slice p u.2.kids.length c]] w fun r w'=>r= .returned (ag (ruleP u))/\ao w w':=by
 obtain⟨h1,h2,d,h3⟩:=h;dsimp only at h1 h2 h3;have hbA:=am w (.cells #[.string ⟨u.1.toArray⟩,ag u.2.kind,ag u.2.a,ag u.2.b,.string ⟨u.2.name.toArray⟩,.slice p u.2.kids.length c] 54);have hxA:=aC w (.cells #[.string ⟨u.1.toArray⟩,ag u.2.kind,ag u.2.a,ag u.2.b,.string ⟨u.2.name.toArray⟩,.slice p u.2.kids.length c] 54);generalize hwA:w.alloc (.cells #[.string ⟨u.1.toArray⟩,ag u.2.kind,ag u.2.a,ag u.2.b,.string ⟨u.2.name.toArray⟩,.slice p u.2.kids.length c] 54)=wA at*;have z0:=ak 0 hxA;have cN:=zj ⟨u.1.toArray⟩ u.1 rfl h1 wA;have HP:P3 (ruleP u=if namedL u.1=false then 7 else(shapeP u.2 1 0).1):=rfl;cases hnb:namedL u.1 with
 |false=>
  have HE:P3 (ruleP u=7):=(by show _=_;rw[HP.o,ay hnb]);rw[hnb]at cN;clear HP h3 hxA;go_enter func75,ntmps75;go_wp2_with fail;refine cN.mono ?_;rintro r w1 ⟨rfl,hb1⟩;have hbw:=au hbA hb1;clear cN hb1 hbA hwA z0;go_wp2_with fail;go_ret;rw[HE.o];exact⟨rfl,hbw⟩
 |true=>
  have HE:P3 (ruleP u=(shapeP u.2 1 0).1):=(by show _=_;rw[HP.o,aw (by simp[hnb])]);rw[hnb]at cN;have hszA:w.heap.size<wA.heap.size:=aF hxA;clear HP;go_enter func75,ntmps75;go_wp2_with fail;refine cN.mono ?_;rintro r w1 ⟨rfl,hb1⟩;have hb1w:=au hbA hb1;have hsz1:=hb1.size;have hx1:=ai hb1 hxA;have hbC:ao w1 (w1.alloc (.cells #[ag 0] 3)):=am _ _;have hn2:=aC w1 (.cells #[ag 0] 3);have hxC:=ai hbC hx1;have hlx:=aF hx1;have hbCw:=au hb1w hbC;generalize hwC:w1.alloc (.cells #[ag 0] 3)=wC at*;have z2:=ak 0 hn2;have y2:=bl _ _ 0 _ _ hn2;have hc2:lM (wC.setCell ⟨w1.heap.size,0,none⟩ (ag 0)) w1.heap.size 0:=aX _ _ 0 _ _ _ hn2;have hx2:=(aN wC ⟨w1.heap.size,0,none⟩ w.heap.size (ag 0) (by show w.heap.size≠w1.heap.size;omega)).trans hxC;have hb2w:ao w (wC.setCell ⟨w1.heap.size,0,none⟩ (ag 0)):=hbCw.setCell (p:=⟨w1.heap.size,0,none⟩) (by show w.heap.size<=w1.heap.size;omega) _;have cE:=GL (B:=fun k=>k<w.heap.size) (gn:=w1.heap.size) (fun k hk=>by omega) d u.2 (.slice p u.2.kids.length c) (wC.setCell ⟨w1.heap.size,0,none⟩ (ag 0)) 1 0 (h3.kept fun g hg _=>hb2w.block g hg) h2 hc2 (by omega) (by omega);unfold exV at cE;clear cN h3 hc2 hx1 hb1 hbA hxA z0 hwA hbC hn2 hxC hbCw;generalize hw2:wC.setCell ⟨w1.heap.size,0,none⟩ (ag 0)=w2 at*;have e1:=ak 1 hx2;have e2:=ak 2 hx2;have e3:=ak 3 hx2;have e4:=ak 4 hx2;have e5:=ak 5 hx2;go_wp2_with fail;refine cE.mono ?_;rintro r w3 ⟨rfl,-,hk3⟩;have hb3w:ao w w3:=⟨hk3.os.trans hb2w.os,hk3.tape.trans hb2w.tape,hk3.output.trans hb2w.output,a6 hb2w.size hk3.size,fun k hk=>(hk3.block k (by have:=hb2w.size;omega) (fun e=>by have:=aK e;omega)).trans (hb2w.block k hk)⟩
  clear cE hk3 hb2w hw2 e1 e2 e3 e4 e5 hx2;go_wp2_with fail;go_ret;rw[HE.o];exact⟨rfl,hb3w⟩
theorem GN (us:List (Ru×Value))(v:Value)(w:World)(h:InR w v us):
  Calls prog 39 #[v] w fun r w'=>r= .returned (.agg #[ag (fy (us.map (fun p=>p.1))).1,ag ((fy (us.map (fun p=>p.1))).2:Int)])/\ao w w':=by
 have hlen:=h.len
 have hform: ∃p c,v= .slice p us.length c:=by
  rcases h.row with⟨rfl,p,c,hv⟩|⟨g,o,c,hv,_⟩
  ·exact⟨p,c,hv⟩
  ·exact⟨_,c,hv⟩
 obtain⟨p,c,rfl⟩:=hform;have hb0:=am w (.cells #[ag 0,ag 0] 47);have hr0:=aC w (.cells #[ag 0,ag 0] 47);generalize hX:fy (us.map (fun p=>p.1))=X;have hX':=hX;unfold fy at hX';rw[aZ]at hX';have HIN:P3 (InR w (.slice p us.length c) us):=h;clear hX;generalize hwA:w.alloc (.cells #[ag 0,ag 0] 47)=wA at*;by_cases hm:40<us.length
 ·have hm':(40:Int)<(us.length:Int):=by omega
  rw[ay hm]at hX';subst hX';clear HIN h;go_enter func39,ntmps39;go_wp2_with(refine az rfl 47 _ _ rfl _ _ rfl rfl _ _ hr0 (by kernel_rfl) (by simp) (by simp[Value.oneCell']) ?_)
  exact mz 2 (by kernel_rfl) w.heap.size 5 0 rfl rfl (aJ _ _ _ _ _ _ hr0) ⟨rfl,below_setRow hb0 (aA _) _⟩
 ·have hm': ¬(40:Int)<(us.length:Int):=by omega
  rw[aw hm]at hX';have HS:P3 (ju ((us.map (fun p=>p.1)).drop 0) 0=X):=hX';clear hX' h;go_enter func39,ntmps39;go_wp2_with fail;clear hwA;go_loopw [12] (fun t wr=> ∃j:Nat,t=ag (j:Int)/\j<=us.length/\ju ((us.map (fun p=>p.1)).drop j) j=X/\wr.heap[w.heap.size]? =ah #[ag 0,ag 0] 47/\ao w wr) (fun t _=>us.length-(intOf t).toNat);case atStart=>exact⟨0,rfl,by omega,HS.o,hr0,hb0⟩
  case round=>
   obtain⟨j,rfl,hj,hXr,hrr,hbr⟩:=hrel;clear HS hr0 hb0;have hj0:(0:Int)<=(j:Int):=(by omega);have hj4:(j:Int)<=40:=(by omega);by_cases hlt:j<us.length
   ·have hlt':(j:Int)<(us.length:Int):=(by omega);obtain⟨⟨u,sk⟩,hjk⟩: ∃k,us[j]? =some k:=⟨us[j],ax hlt⟩
    have hju:(us.map (fun p=>p.1))[j]? =some u:=(by rw[bg,hjk];rfl);rw[CT hju]at hXr;have hin:=HIN.o.all _ (aM hjk)
    obtain⟨pk,ck,hsk⟩: ∃p c,sk= .slice p u.2.kids.length c:=by
     obtain⟨_,_,d,hd⟩:=hin;exact hd.form
    subst hsk;rcases HIN.o.row with⟨h,_⟩|⟨g,o,c',hsl,_,hcells⟩
    ·rw[h]at hlt;simp at hlt
    injection hsl with e1 e2 e3;subst e1;subst e3;obtain⟨d0,d1,d2,d3,d4,d5⟩:=hcells j _ hjk;dsimp only at d0 d1 d2 d3 d4 d5;have f0:=aj hbr d0;have f1:=aj hbr d1;have f2:=aj hbr d2;have f3:=aj hbr d3;have f4:=aj hbr d4;have f5:=aj hbr d5;have hbB:ao wr (wr.alloc (.cells #[.string ⟨u.1.toArray⟩,ag u.2.kind,ag u.2.a,ag u.2.b,.string ⟨u.2.name.toArray⟩,.slice pk u.2.kids.length ck] 54)):=am _ _;have hxB:=aC wr (.cells #[.string ⟨u.1.toArray⟩,ag u.2.kind,ag u.2.a,ag u.2.b,.string ⟨u.2.name.toArray⟩,.slice pk u.2.kids.length ck] 54);have hbBw:=au hbr hbB;have hrB:=ai hbB hrr;have cR:=GM u pk ck _ (hin.below hbBw);clear d0 d1 d2 d3 d4 d5 hcells hin hjk hju hbB hrr hbr;have HXr:P3 ((if ruleP u≠0 then(ruleP u,j) else ju ((us.map (fun p=>p.1)).drop (j+1)) (j+1))=X):=hXr;clear hXr;generalize ruleP u=R at*;generalize hwB:wr.alloc (.cells #[.string ⟨u.1.toArray⟩,ag u.2.kind,ag u.2.a,ag u.2.b,.string ⟨u.2.name.toArray⟩,.slice pk u.2.kids.length ck] 54)=wB at*;go_wp2_with(refine aR rfl 54 _ rfl _ rfl _ _ _ _ hxB Bk rfl (by kernel_rfl) ?_)
    refine cR.mono ?_;rintro r w3 ⟨rfl,hb3⟩;have hb3w:=au hbBw hb3;have hr3:=ai hb3 hrB;clear cR hb3 hbBw hrB hxB hwB f0 f1 f2 f3 f4 f5;by_cases hy:R=0
    ·subst hy;have hXX:=HXr.o;rw[aw (by simp)]at hXX;have HN:P3 (ju ((us.map (fun p=>p.1)).drop (j+1)) (j+1)=X):=hXX;clear hXX HXr;go_wp2_with fail;go_roundw;case rel=>exact⟨j+1,by go_num,by omega,HN.o,hr3,hb3w⟩
     case measure=>simp[intOf];omega
    ·have hyb:(R !=0)=true:=(by simpa using hy);have hXX:=HXr.o;rw[ay hy]at hXX;subst hXX;clear HXr;go_wp2_with(refine az rfl 47 _ _ rfl _ _ rfl rfl _ _ hr3 (by kernel_rfl) (by simp) (by simp[Value.oneCell']) ?_)
     exact mz 2 (by kernel_rfl) w.heap.size R (j:Int) rfl rfl (aJ _ _ _ _ _ _ hr3) ⟨rfl,below_setRow hb3w (aA _) _⟩
   ·have hlt': ¬(j:Int)<(us.length:Int):=(by omega);rw[List.drop_eq_nil_of_le (by simp;omega)]at hXr;have hXX:(0,0)=X:=hXr;subst hXX;clear hXr;go_wp2_with(refine az rfl 47 _ _ rfl _ _ rfl rfl _ _ hrr (by kernel_rfl) (by simp) (by simp[Value.oneCell']) ?_)
    exact mz 2 (by kernel_rfl) w.heap.size 0 0 rfl rfl (aJ _ _ _ _ _ _ hrr) ⟨rfl,below_setRow hbr (aA _) _⟩
theorem aD {p:Prop}(h:p):P3 p:=h
theorem InR.cells {w:World}{us:List (Ru×Value)}{pv:Option Addr}{cv:Nat}(h:InR w (.slice pv us.length cv) us): ∀(j:Nat) (p:Ru×Value),us[j]? =some p-> ∃g o:Nat,pv=some ⟨g,o,none⟩/\
   w.cell? (ae g (o+j*6))=some (.string ⟨p.1.1.toArray⟩)/\w.cell? (ae g (o+j*6+1))=some (ag p.1.2.kind)/\w.cell? (ae g (o+j*6+2))=some (ag p.1.2.a)/\w.cell? (ae g (o+j*6+3))=some (ag p.1.2.b)/\
   w.cell? (ae g (o+j*6+4))=some (.string ⟨p.1.2.name.toArray⟩)/\w.cell? (ae g (o+j*6+5))=some p.2:=fun j p hj=>by
 rcases h.row with⟨h0,_⟩|⟨g,o,c,hv',hl,hc⟩
 ·rw[h0]at hj;simp at hj
 ·injection hv' with e1;exact⟨g,o,e1,hc j p hj⟩
theorem InR.form {w:World}{v:Value}{us:List (Ru×Value)}(h:InR w v us): ∃p c,v= .slice p us.length c:=by
 rcases h.row with⟨rfl,p,c,hv⟩|⟨g,o,c,hv,_⟩
 ·exact⟨p,c,hv⟩
 ·exact⟨_,c,hv⟩
theorem ti (x y:List UInt8):(x==y)=decide (x=y):=by
 by_cases h:x=y
 ·subst h;simp
 ·simp[h]
theorem AN:prog.underlying 82=some (.map 9 3):=by kernel_rfl
theorem sa:prog.underlying 9=some .string:=by kernel_rfl
theorem zk (k:Value)(e:MapEntry): ∀(es:List MapEntry) (i:Nat),Instr.findNow .string k (es++[e]) i=match Instr.findNow .string k es i with
  |some (some r)=>some (some r)
  |some none=>(match Instr.sameNow .string k e.key with|some true=>some (some (i+es.length,e.val))|some false=>some none|none=>none)
  |none=>none
 |[],i=>by
  simp only[List.nil_append,Instr.findNow,fc,Nat.add_zero];cases Instr.sameNow .string k e.key with
  |none=>rfl
  |some b=>cases b<;>rfl
 |x::es,i=>by
  simp only[List.cons_append,Instr.findNow];cases Instr.sameNow .string k x.key with
  |none=>rfl
  |some b=>
   cases b with
   |true=>rfl
   |false=>
    have:=zk k e es (i+1);rw[this];simp only[bz];rw[show i+1+es.length=i+(es.length+1) by omega]
def EsN (es:List MapEntry)(l:List Ru):Prop:= ∀x:List UInt8,(0<=atP5 l x/\ ∃i,Instr.findNow .string (.string ⟨x.toArray⟩) es 0=some (some (i,ag (atP5 l x))))\/(atP5 l x= -1/\Instr.findNow .string (.string ⟨x.toArray⟩) es 0=some none)
def iT (w:World)(b:Nat)(l:List Ru):Prop:= ∃es c,w.heap[b]? =some (.map es c)/\EsN es.toList l
theorem iT.later {w w':World}{b:Nat}{l:List Ru}(h:iT w b l)(hk:w'.heap[b]? =w.heap[b]?):iT w' b l:=by
 obtain⟨es,c,h1,h2⟩:=h;exact⟨es,c,hk.trans h1,h2⟩
theorem gN {w:World}{b:Nat}{l:List Ru}(h:iT w b l):b<w.heap.size:=by
 obtain⟨es,c,h1,_⟩:=h;exact(cQ.1 h1).1
theorem vE: ∀(l:List Ru) (i:Nat) (u:Ru) (x:List UInt8),atF (l++[u]) i x=if 0<=atF l i x then atF l i x else if u.1=x then((i+l.length:Nat):Int) else-1
 |[],i,u,x=>by simp[atF]
 |v::l,i,u,x=>by
  have:=vE l (i+1) u x;have e1:atF (v::l++[u]) i x=if v.1=x then(i:Int) else atF (l++[u]) (i+1) x:=rfl;have e2:atF (v::l) i x=if v.1=x then(i:Int) else atF l (i+1) x:=rfl;by_cases h:v.1=x
  ·rw[ay h]at e1 e2;rw[e1,e2,ay (by omega)]
  ·rw[aw h]at e1 e2;rw[e1,e2,this,bz,show i+1+l.length=i+(l.length+1) by omega]
theorem JB (x y:List UInt8):Instr.sameNow .string (.string ⟨x.toArray⟩) (.string ⟨y.toArray⟩)=some (decide (x=y)):=by
 have e:((⟨x.toArray⟩:ByteArray)==⟨y.toArray⟩)=decide (x=y):=by
  show(x.toArray==y.toArray)=_;by_cases h:x=y
  ·subst h;simp
  ·simp[h]
 simp[Instr.sameNow,e]
theorem EsN.taken {es:List MapEntry}{l:List Ru}{u:Ru}(h:EsN es l)(ht:0<=atP5 l u.1):EsN es (l++[u]):=fun x=>by
 have e:atP5 (l++[u]) x=atP5 l x:=by
  unfold atP5 at*;rw[vE];split
  ·rfl
  ·rename_i hx;have hne:u.1≠x:=fun e=>(by subst e;exact hx ht);rw[aw hne];have:=xc l 0 x;omega
 rw[e];exact h x
theorem EsN.push {es:List MapEntry}{l:List Ru}{u:Ru}{c:Nat}(h:EsN es l):EsN (es++[⟨.string ⟨u.1.toArray⟩,ag (l.length:Int),c⟩]) (l++[u]):=fun x=>by
 rw[zk]
 have e:atP5 (l++[u]) x=if 0<=atP5 l x then atP5 l x else if u.1=x then(l.length:Int) else-1:=by
  unfold atP5;rw[vE,bK]
 rcases h x with⟨h1,i,h2⟩|⟨h1,h2⟩
 ·rw[ay h1]at e;rw[h2,e];exact .inl ⟨h1,i,rfl⟩
 ·rw[aw (by omega)]at e;rw[h2];dsimp only;rw[JB];by_cases hx:x=u.1
  ·subst hx;rw[ay rfl]at e;rw[e,a7 rfl];exact .inl ⟨by omega,_,rfl⟩
  ·rw[aw (fun e=>hx e.symm)]at e;rw[e,bj hx];exact .inr ⟨rfl,rfl⟩
theorem EsN.nil:EsN [] []:=fun _=> .inr ⟨rfl,rfl⟩
theorem La {w:World}{b:Nat}{l:List Ru}(h:iT w b l)(x:List UInt8):(Instr.lookup 82 (.map (some b)) (.string ⟨x.toArray⟩) true).run prog w= .ok (.tuple #[ag (if 0<=atP5 l x then atP5 l x else 0),.bool (decide (0<=atP5 l x))]) w:=by
 obtain⟨es,c,hb,hE⟩:=h;have hc: ∀z,(Instr.checkKey z 10000 9 (.string ⟨x.toArray⟩)).run prog w= .ok () w:=fun z=>MapKept.run_checkKey (k:= .string _) sa (by simp[MapKept.IsKey]) z 9999;have hz:(zeroValue 3).run prog w= .ok (ag 0) w:=by kernel_rfl
 rcases hE x with⟨h1,i,h2⟩|⟨h1,h2⟩
 ·simp[Instr.lookup,fX AN,fh hb,hc,fZ sa h2,Result.andThen,h1]
 ·simp[Instr.lookup,fX AN,fh hb,hc,fZ sa h2,hz,Result.andThen,h1]
theorem EM {w:World}{b:Nat}{l:List Ru}(h:iT w b l)(x:List UInt8)(hx:0<=atP5 l x):(Instr.lookup 82 (.map (some b)) (.string ⟨x.toArray⟩) false).run prog w= .ok (ag (atP5 l x)) w:=by
 obtain⟨es,c,hb,hE⟩:=h;have hc: ∀z,(Instr.checkKey z 10000 9 (.string ⟨x.toArray⟩)).run prog w= .ok () w:=fun z=>MapKept.run_checkKey (k:= .string _) sa (by simp[MapKept.IsKey]) z 9999;rcases hE x with⟨h1,i,h2⟩|⟨h1,h2⟩
 ·simp[Instr.lookup,fX AN,fh hb,hc,fZ sa h2,Result.andThen]
 ·omega
theorem PF {w:World}{b:Nat}{l:List Ru}{u:Ru}(h:iT w b l)(ht:atP5 l u.1= -1): ∃o,(Instr.mapUpdate 82 (.map (some b)) (.string ⟨u.1.toArray⟩) (ag (l.length:Int))).run prog w= .ok () (xd w b o)/\iT (xd w b o) b (l++[u]):=by
 obtain⟨es,c,hb,hE⟩:=h;have hc:(Instr.checkKey false 10000 9 (.string ⟨u.1.toArray⟩)).run prog w= .ok () w:=MapKept.run_checkKey (k:= .string _) sa (by simp[MapKept.IsKey]) false 9999
 have hn:Instr.findNow .string (.string ⟨u.1.toArray⟩) es.toList 0=some none:=by
  rcases hE u.1 with⟨h1,_⟩|⟨_,h2⟩
  ·omega
  ·exact h2
 refine⟨.map (es.push ⟨.string ⟨u.1.toArray⟩,ag (l.length:Int),c⟩) (c+1),?_,es.push ⟨.string ⟨u.1.toArray⟩,ag (l.length:Int),c⟩,c+1,(MapKept.heap_set hb).1,?_⟩
 ·simp[Instr.mapUpdate,fX AN,fh hb,hc,fZ sa hn,MapKept.run_setObj_map _ hb,Result.andThen,xd]
 ·rw[Array.toList_push];exact hE.push
theorem GQ (n:Nat)(_:n<9223372036854775808)(w:World):(Instr.makeMap 82 (some (ag (n:Int)))).run prog w= .ok (.map (some w.heap.size)) (w.alloc (.map #[] 0)):=by
 unfold Instr.makeMap;simp[go_sem]
def EN (us:List (Ru×Value))(w:World)(r:Ending)(w':World):Prop:= ∃b,r= .returned (.map (some b))/\w.heap.size<=b/\iT w' b (us.map (fun p=>p.1))/\ao w w'
def PG (us:List (Ru×Value))(w:World)(t:Value)(wr:World):Prop:= ∃j:Nat,t=ag (j:Int)/\j<=us.length/\iT wr w.heap.size ((us.map (fun p=>p.1)).take j)/\ao w wr
theorem oD (us:List (Ru×Value))(v:Value)(w:World)(h:InR w v us):Calls prog 28 #[v] w (EN us w):=by
 obtain⟨pv,cv,rfl⟩:=h.form;have HK:=aD h.cells;have hlen:=h.len
 have HA:P3 (∀p∈us,∃q n c,p.2= .slice q n c):=fun p hp=>by
  obtain⟨_,_,d,hd⟩:=h.all p hp;obtain⟨q,c,e⟩:=hd.form;exact⟨q,_,c,e⟩
 clear h;have hb0:=am w (.map #[] 0);have hm0:iT (w.alloc (.map #[] 0)) w.heap.size []:=⟨#[],0,(MapKept.heap_alloc w _).1,EsN.nil⟩
 have hmk:=fun W=>GQ us.length hlen W;go_enter func28,ntmps28;go_wp2_with fail;go_loopw [4,5,6,7,13] (fun _ _ _ _ t wr=>PG us w t wr) (fun _ _ _ _ t _=>us.length-(intOf t).toNat);case atStart=>exact⟨0,rfl,by omega,hm0,hb0⟩
 case round=>
  obtain⟨j,rfl,hj,hM,hbr⟩:=hrel;clear hb0 hm0;have hj0:(0:Int)<=(j:Int):=(by omega);by_cases hlt:j<us.length
  ·have hlt':(j:Int)<(us.length:Int):=(by omega);obtain⟨⟨u,sk⟩,hjk⟩: ∃p,us[j]? =some p:=⟨us[j],ax hlt⟩
   have htk:(us.map (fun p=>p.1)).take (j+1)=(us.map (fun p=>p.1)).take j++[u]:=by
    have hum:(us.map (fun p=>p.1))[j]? =some u:=(by rw[bg,hjk];rfl);rw[ft,hum];rfl
   have htl:((us.map (fun p=>p.1)).take j).length=j:=(by simp;omega);obtain⟨g,o,hpe,c0,c1,c2,c3,c4,c5⟩:=HK.o j _ hjk;obtain⟨qs,ns,cs,hsk⟩:=HA.o _ (aM hjk);dsimp only at c0 c1 c2 c3 c4 c5 hsk;subst hsk hpe;have d0:=aj hbr c0;have d1:=aj hbr c1;have d2:=aj hbr c2;have d3:=aj hbr c3;have d4:=aj hbr c4;have d5:=aj hbr c5;have hbA:=hbr.alloc hbr.size (.cells #[.string ⟨u.1.toArray⟩,ag u.2.kind,ag u.2.a,ag u.2.b,.string ⟨u.2.name.toArray⟩,.slice qs ns cs] 54);have hxB:=aC wr (.cells #[.string ⟨u.1.toArray⟩,ag u.2.kind,ag u.2.a,ag u.2.b,.string ⟨u.2.name.toArray⟩,.slice qs ns cs] 54);have hMA:iT (wr.alloc (.cells #[.string ⟨u.1.toArray⟩,ag u.2.kind,ag u.2.a,ag u.2.b,.string ⟨u.2.name.toArray⟩,.slice qs ns cs] 54)) w.heap.size ((us.map (fun p=>p.1)).take j):=hM.later (dB _ _ _ (gN hM));have hlk:=La hMA u.1;clear hjk c0 c1 c2 c3 c4 c5 hM;generalize hwB:wr.alloc (.cells #[.string ⟨u.1.toArray⟩,ag u.2.kind,ag u.2.a,ag u.2.b,.string ⟨u.2.name.toArray⟩,.slice qs ns cs] 54)=wB at*;have z0:=ak 0 hxB;by_cases ht:0<=atP5 ((us.map (fun p=>p.1)).take j) u.1
   ·rw[ay ht,a7 ht]at hlk
    have hMN:iT wB w.heap.size ((us.map (fun p=>p.1)).take (j+1)):=by
     obtain⟨es,c,h1,h2⟩:=hMA;rw[htk];exact⟨es,c,h1,h2.taken ht⟩
    generalize atP5 ((us.map (fun p=>p.1)).take j) u.1=n at*;have HM:=aD hMN;clear hMA htk htl hMN ht;go_wp2_with fail;go_roundw;case rel=>exact⟨j+1,by go_num,by omega,HM.o,hbA⟩
    case measure=>simp[intOf];omega
   ·rw[aw ht,bj ht]at hlk
    have hm1:atP5 ((us.map (fun p=>p.1)).take j) u.1= -1:=by
     have:=(nP ((us.map (fun p=>p.1)).take j) u.1).1;omega
    obtain⟨ob,hup,hMN⟩:=PF hMA hm1;rw[htl]at hup;rw[<-htk]at hMN;have hbN:=CU hbA (aA _) ob;have HM:=aD hMN;clear hMA htk htl hMN ht hm1;go_wp2_with fail;go_roundw;case rel=>exact⟨j+1,by go_num,by omega,HM.o,hbN⟩
    case measure=>simp[intOf];omega
  ·have ej:j=us.length:=(by omega);have hlt': ¬(j:Int)<(us.length:Int):=(by omega)
   have HO:P3 (EN us w (.returned (.map (some w.heap.size))) wr):=by
    refine⟨w.heap.size,rfl,aA _,?_,hbr⟩;rw[ej,cj (by simp)]at hM;exact hM
   clear hM HK HA ej;go_wp2_with fail;go_ret;exact HO.o
end Go.Proofs.YtjkilacmkbmmbaaGreatDoor
