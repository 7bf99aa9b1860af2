/- Texts of the proof. -/
import Derived.Test.YtpdoienkhgnceaaGreatDoorPt14
import Derived.Deep.OwnRows
import Derived.Laws.EntriesVeiled
set_option maxRecDepth 100000
set_option maxHeartbeats 8000000
namespace Go.Proofs.YtpdoienkhgnceaaGreatDoor
open Go.Proofs.Tryz Go.RowKit Lx Vx Mx Msk
namespace Lx
def kidsP (k:Int):Nat:=if k=4\/k=5\/k=9 then 1 else if k=6\/k=7\/k=8 then 2 else 0
def rangeP (k a b:Int):Bool:=
 if k=3 then decide (0<=a/\a<b/\b<=1440)
 else if k=4 then decide (1<=a/\a<128)
 else if k=5 then decide (0<=a/\a<=b/\b<146097)
 else if k=9 then decide (a≠0/\ -1440<a/\a<1440) else true
def aloneP (e:Ex):Int:=
 if e.kind<1\/10<e.kind then 1 else if e.kids.length≠kidsP e.kind then 5 else if rangeP e.kind e.a e.b=false then 3 else if e.kind=10/\Go.Proofs.YtpdoienkhgnceaaGreatDoor.namedL e.name=false then 7 else 0
def shapeP (e:Ex)(a n:Nat):Int×Nat:=
 if 600<n+1\/40<a then(4,n+1)
 else if aloneP e≠0 then(aloneP e,n+1)
 else e.kids.attach.foldl (fun b k=>if b.1≠0 then b else shapeP k.1 (a+1) b.2) (0,n+1)
 termination_by SizeOf.sizeOf e
 decreasing_by exact fy k.2
def gF (c:List Ex)(b:Nat)(a:Int×Nat):Int×Nat:=c.foldl (fun a k=>if a.1≠0 then a else shapeP k b a.2) a
theorem jd (e:Ex)(a n:Nat):shapeP e a n=if 600<n+1\/40<a then(4,n+1) else if aloneP e≠0 then(aloneP e,n+1) else gF e.kids (a+1) (0,n+1):=by
 rw[shapeP];unfold gF;rw[<-List.foldl_attach (f:=fun(b:Int×Nat) k=>if b.1≠0 then b else shapeP k (a+1) b.2)]
theorem qH (b:Nat)(a:Int×Nat):gF [] b a=a:=rfl
theorem gT (k:Ex)(c:List Ex)(a:Nat)(b:Int×Nat):gF (k::c) a b=gF c a (if b.1≠0 then b else shapeP k a b.2):=rfl
theorem jX {c:List Ex}{b:Nat}{a:Int×Nat}(h:a.1≠0):gF c b a=a:=by
 induction c with
 |nil=>rfl
 |cons k c d=>rw[gT,ax h,d]
theorem FdQ {b:List Ex}{a j m:Nat}{k:Ex}(h:b[j]? =some k):gF (b.drop j) a (0,m)=gF (b.drop (j+1)) a (shapeP k a m):=by
 obtain⟨c,d⟩:=aE.1 h;rw[bG c,d,gT,aw (by simp)]
theorem Ds: ∀(N:Nat) (e:Ex) (a n:Nat),SizeOf.sizeOf e<=N->(shapeP e a n).1=0->(shapeP e a n).2<=600
 |0,e,_,_,o,_=>by cases e;simp at o
 |N+1,e,a,n,o,h=>by
  rw[jd]at h⊢;split at h
  ·cases h
  ·rename_i m;rw[aw m];split at h
   ·rename_i i;exact absurd h i
   ·rename_i i;rw[aw i]
    have g: ∀(d:List Ex),(∀k∈d,SizeOf.sizeOf k<=N)-> ∀b:Int×Nat,b.2<=600->(gF d (a+1) b).1=0->(gF d (a+1) b).2<=600:=by
     intro d;induction d with
     |nil=>intro _ b ha _;exact ha
     |cons k d r=>
      intro f b ha c;rw[gT]at c⊢;by_cases p:b.1≠0
      ·rw[ax p]at c⊢;exact r (fun q j=>f q (bj _ j)) b ha c
      ·rw[aw p]at c⊢;refine r (fun q j=>f q (bj _ j)) _ ?_ c;by_cases l:(shapeP k (a+1) b.2).1=0
       ·exact Ds N k (a+1) b.2 (f k aV) l
       ·rw[jX l]at c;exact absurd c l
    exact g e.kids (fun k f=>by have:=fy f;omega) (0,n+1) (by simp at m⊢;omega) h
theorem sd {e:Ex}{deep n:Nat}(h:(shapeP e deep n).1=0):(shapeP e deep n).2<=600:=Ds _ e deep n (aA _) h
end Lx
theorem H8 (k:Int)(w:World):Calls prog 178 #[ag k] w fun e j=>e= .returned (ag (kidsP k:Int))/\j=w:=by
 have a: ∀(b b5 g c d f:Bool),(k==4)=b->(k==5)=b5->(k==9)=g->(k==6)=c->(k==7)=d->(k==8)=f->
   Calls prog 178 #[ag k] w fun e j=>e= .returned (ag (if b||(b5||g) then 1 else if c||(d||f) then 2 else 0))/\j=w:=by
  intro b b5 g c d f l m q n o p;cases b<;>cases b5<;>cases g<;>cases c<;>cases d<;>cases f<;>(go_enter func178,ntmps178;go_wp2;go_ret;exact⟨rfl,rfl⟩)
 refine(a _ _ _ _ _ _ rfl rfl rfl rfl rfl rfl).mono ?_;rintro e j ⟨rfl,rfl⟩;refine⟨?_,rfl⟩;unfold kidsP;simp only[iD,beq_iff_eq];by_cases c1:k=4\/k=5\/k=9
 ·rw[ax c1,ax c1];rfl
 ·rw[aw c1,aw c1];by_cases i:k=6\/k=7\/k=8
  ·rw[ax i,ax i];rfl
  ·rw[aw i,aw i];rfl
theorem Fe (k a b:Int)(nm:ByteArray)(p:Option Addr)(n c:Nat)(w:World):Calls prog 179 #[.agg #[ag k,ag a,ag b,.string nm,.slice p n c]] w fun e o=>e= .returned (.bool (rangeP k a b))/\ao w o:=by
 have d:ao w (w.alloc (.cells #[ag k,ag a,ag b,.string nm,.slice p n c] 78)):=am _ _;unfold rangeP;by_cases g:k=3
 ·subst g;rw[ax rfl];by_cases c1:0<=a
  ·by_cases f:a<b
   ·by_cases m:b<=1440
    ·go_enter func179,ntmps179;go_wp2;go_ret;exact⟨by first|(simp;done)|(simp;omega),d⟩
    ·go_enter func179,ntmps179;go_wp2;go_ret;exact⟨by first|(simp;done)|(simp;omega),d⟩
   ·go_enter func179,ntmps179;go_wp2;go_ret;exact⟨by first|(simp;done)|(simp;omega),d⟩
  ·go_enter func179,ntmps179;go_wp2;go_ret;exact⟨by first|(simp;done)|(simp;omega),d⟩
 rw[aw g];have q:(k==3)=false:=bl.2 g;by_cases i:k=4
 ·subst i;rw[ax rfl];by_cases c1:1<=a
  ·by_cases f:a<128
   ·go_enter func179,ntmps179;go_wp2;go_ret;exact⟨by first|(simp;done)|(simp;omega),d⟩
   ·go_enter func179,ntmps179;go_wp2;go_ret;exact⟨by first|(simp;done)|(simp;omega),d⟩
  ·go_enter func179,ntmps179;go_wp2;go_ret;exact⟨by first|(simp;done)|(simp;omega),d⟩
 rw[aw i];have r:(k==4)=false:=bl.2 i;by_cases j:k=5
 ·subst j;rw[ax rfl];by_cases c1:0<=a
  ·by_cases f:a<=b
   ·by_cases m:b<146097
    ·go_enter func179,ntmps179;go_wp2;go_ret;exact⟨by first|(simp;done)|(simp;omega),d⟩
    ·go_enter func179,ntmps179;go_wp2;go_ret;exact⟨by first|(simp;done)|(simp;omega),d⟩
   ·go_enter func179,ntmps179;go_wp2;go_ret;exact⟨by first|(simp;done)|(simp;omega),d⟩
  ·go_enter func179,ntmps179;go_wp2;go_ret;exact⟨by first|(simp;done)|(simp;omega),d⟩
 rw[aw j];have s:(k==5)=false:=bl.2 j;by_cases l:k=9
 ·subst l;rw[ax rfl];by_cases c1:a=0
  ·subst c1;go_enter func179,ntmps179;go_wp2;go_ret;exact⟨by first|(simp;done)|(simp;omega),d⟩
  ·have u:(a !=0)=true:=(by simpa using c1);by_cases f: -1440<a
   ·by_cases m:a<1440
    ·go_enter func179,ntmps179;go_wp2;go_ret;exact⟨by first|(simp;done)|(simp;omega),d⟩
    ·go_enter func179,ntmps179;go_wp2;go_ret;exact⟨by first|(simp;done)|(simp;omega),d⟩
   ·go_enter func179,ntmps179;go_wp2;go_ret;exact⟨by first|(simp;done)|(simp;omega),d⟩
 rw[aw l];have t:(k==9)=false:=bl.2 l;go_enter func179,ntmps179;go_wp2;go_ret;exact⟨rfl,d⟩
theorem Bx (s:ByteArray)(l:List UInt8)(b:s.data.toList=l)(g:l.length<=9223372036854775807)(w:World):
  Calls prog 90 #[.string s] w fun e f=>e= .returned (.bool (namedL l))/\ao w f:=by
 by_cases a:l.length<=20
 ·exact JU s l b (by omega) w
 ·have j:s.size=l.length:=by rw[<-b,Lib.size_eq]
  have i:s.toList.isEmpty=false:=(by rw[Lib.toList_data,b];cases l<;>simp at a⊢);have d: ¬(l.length:Int)<=20:=(by omega);have c:T4 (namedL l=false):=(by show namedL l=false;simp[namedL,a]);clear a;go_enter func90,ntmps90;go_wp2_with fail;go_ret;exact⟨by rw[c.o];rfl,aF _ _⟩
theorem Kg (e:Ex)(p:Option Addr)(c:Nat)(u:e.name.length<=9223372036854775807)(w:World):Calls prog 138 #[exV e (.slice p e.kids.length c)] w fun r P=>r= .returned (ag (aloneP e))/\ao w P:=by
 have t:ao w (w.alloc (.cells #[ag e.kind,ag e.a,ag e.b,.string ⟨e.name.toArray⟩,.slice p e.kids.length c] 78)):=am _ _;have v:=aB w (.cells #[ag e.kind,ag e.a,ag e.b,.string ⟨e.name.toArray⟩,.slice p e.kids.length c] 78);have E:=fun w=>H8 e.kind w;have cR:=fun w=>Fe e.kind e.a e.b ⟨e.name.toArray⟩ p e.kids.length c w;have H:=fun w=>Bx ⟨e.name.toArray⟩ e.name rfl u w;unfold aloneP exV;generalize kidsP e.kind=kp at*;generalize rangeP e.kind e.a e.b=G at*;generalize namedL e.name=nb at*;generalize e.kind=k at*;generalize e.a=a at*;generalize e.b=b at*;generalize (⟨e.name.toArray⟩:ByteArray)=nm at*;generalize e.kids.length=n at*;clear u;generalize I:(if k<1\/10<k then(1:Int) else if n≠kp then 5 else if G=false then 3 else if k=10/\nb=false then 7 else 0)=A;have l:T4 ((if k<1\/10<k then(1:Int) else if n≠kp then 5 else if G=false then 3 else if k=10/\nb=false then 7 else 0)=A):=I;clear I;by_cases c1:k<1
 ·have f:T4 (A=1):=by show _=_;rw[<-l.o,ax (.inl c1)]
  go_enter func138,ntmps138;go_wp2_with fail;go_ret;exact⟨by rw[f.o];rfl,t⟩
 by_cases L:10<k
 ·have f:T4 (A=1):=by show _=_;rw[<-l.o,ax (.inr L)]
  go_enter func138,ntmps138;go_wp2_with fail;go_ret;exact⟨by rw[f.o];rfl,t⟩
 have J: ¬(k<1\/10<k):=by omega
 have s:T4 (¬(k<1\/10<k)):=J;clear J;have k0:=ak 0 v;have K:=ak 3 v;have N:=ak 4 v;generalize F:w.alloc (.cells #[ag k,ag a,ag b,.string nm,.slice p n c] 78)=C at*;by_cases D:n=kp
 ·have O:((n:Int) !=(kp:Int))=false:=by simp;omega
  have z:T4 (¬n≠kp):=fun h=>h D;clear D;go_enter func138,ntmps138;go_wp2_with fail;go_quiet ((go_at_call 178;exact fB (E _)));have q:(C.drewN nq).heap[w.heap.size]? =ah #[ag k,ag a,ag b,.string nm,.slice p n c] 78:=v;have x:(C.drewN nq).cell? (ae w.heap.size 0)=some (ag k):=k0;have y:(C.drewN nq).cell? (ae w.heap.size 3)=some (.string nm):=K;have j:=du t nq;clear v k0 K N F t E;generalize C.drewN nq=U at*;cases G with
  |false=>
   have f:T4 (A=3):=(by show _=_;rw[<-l.o,aw s.o,aw z.o,ax rfl]);go_wp2_with(refine aO rfl 78 _ rfl _ rfl _ _ _ _ q d9 rfl (by kernel_rfl) ?_)
   refine(cR _).mono ?_;rintro r Q ⟨rfl,g⟩;have d:=au j g;go_wp2_with fail;go_ret;exact⟨by rw[f.o];rfl,d⟩
  |true=>
   go_wp2_with(refine aO rfl 78 _ rfl _ rfl _ _ _ _ q d9 rfl (by kernel_rfl) ?_)
   refine(cR _).mono ?_;rintro r Q ⟨rfl,g⟩;have d:=au j g;have S:=aj g x;have T:=aj g y;clear cR q x y g;by_cases B:k=10
   ·have M:(k==10)=true:=(by simpa using B);cases nb with
    |false=>
     have f:T4 (A=7):=(by show _=_;rw[<-l.o,aw s.o,aw z.o,aw (by decide),ax ⟨B,rfl⟩]);go_wp2_with fail;refine(H _).mono ?_;rintro r R ⟨rfl,m⟩;have i:=au d m;go_wp2_with fail;go_ret;exact⟨by rw[f.o];rfl,i⟩
    |true=>
     have f:T4 (A=0):=(by show _=_;rw[<-l.o,aw s.o,aw z.o,aw (by decide),aw (by simp)]);go_wp2_with fail;refine(H _).mono ?_;rintro r R ⟨rfl,m⟩;have i:=au d m;go_wp2_with fail;go_ret;exact⟨by rw[f.o];rfl,i⟩
   ·have M:(k==10)=false:=(by simpa using B);have f:T4 (A=0):=(by show _=_;rw[<-l.o,aw s.o,aw z.o,aw (by decide),aw (fun h=>B h.1)]);go_wp2_with fail;go_ret;exact⟨by rw[f.o];rfl,d⟩
 ·have O:((n:Int) !=(kp:Int))=true:=by simp;omega
  have f:T4 (A=5):=(by show _=_;rw[<-l.o,aw s.o,ax D]);go_enter func138,ntmps138;go_wp2_with fail;go_quiet ((go_at_call 178;exact fB (E _)));have j:=du t nq;go_wp2_with fail;go_ret;exact⟨by rw[f.o];rfl,j⟩
section
variable {B:Nat->Prop} {gn:Nat}
def fV (B:Nat->Prop):Nat->World->Value->List Ex->Prop
 |0,_,sl,e=>e=[]/\ ∃p c,sl= .slice p 0 c
 |d+1,w,sl,e=>(e=[]/\ ∃p c,sl= .slice p 0 c)\/ ∃g o c:Nat,B g/\sl= .slice (some (ae g o)) e.length c/\e.length<9223372036854775808/\ ∀(j:Nat) (k:Ex),e[j]? =some k->k.name.length<=9223372036854775807/\ ∃f:Value,
  w.cell? (ae g (o+j*5))=some (ag k.kind)/\w.cell? (ae g (o+j*5+1))=some (ag k.a)/\w.cell? (ae g (o+j*5+2))=some (ag k.b)/\
  w.cell? (ae g (o+j*5+3))=some (.string ⟨k.name.toArray⟩)/\w.cell? (ae g (o+j*5+4))=some f/\fV B d w f k.kids
theorem fV.kept {w w':World}(l: ∀g,B g->g<w.heap.size->w'.heap[g]? =w.heap[g]?): ∀{d:Nat} {sl:Value} {b:List Ex},fV B d w sl b->fV B d w' sl b
 |0,_,_,h=>h
 |d+1,sl,b,h=>by
  rcases h with h|⟨g,o,c,f,v,t,s⟩
  ·exact .inl h
  ·refine .inr ⟨g,o,c,f,v,t,fun j k q=> ?_⟩;obtain⟨u,x,c0,c1,m,n,p,r⟩:=s j k q;have e:w'.heap[g]? =w.heap[g]? :=l g f (aU c0);have a: ∀i,w'.cell? (ae g i)=w.cell? (ae g i):=fun i=>dP e;exact⟨u,x,(a _).trans c0,(a _).trans c1,(a _).trans m,(a _).trans n,(a _).trans p,fV.kept l r⟩
theorem fV.mono {b:Nat->Prop}(e: ∀g,B g->b g): ∀{d:Nat} {w:World} {sl:Value} {a:List Ex},fV B d w sl a->fV b d w sl a
 |0,_,_,_,h=>h
 |d+1,w,sl,a,h=>by
  rcases h with h|⟨g,o,c,m,t,q,p⟩
  ·exact .inl h
  ·refine .inr ⟨g,o,c,e g m,t,q,fun j k n=> ?_⟩;obtain⟨s,u,c0,c1,f,i,l,r⟩:=p j k n;exact⟨s,u,c0,c1,f,i,l,fV.mono e r⟩
theorem fV.form {d:Nat}{w:World}{sl:Value}{a:List Ex}(h:fV B d w sl a): ∃p c,sl= .slice p a.length c:=by
 cases d with
 |zero=>
  obtain⟨rfl,p,c,rfl⟩:=h;exact⟨p,c,rfl⟩
 |succ d=>
  rcases h with⟨rfl,p,c,rfl⟩|⟨g,o,c,_,b,_⟩
  ·exact⟨p,c,rfl⟩
  ·exact⟨_,c,b⟩
def mH (w:World)(gn n:Nat):Prop:=w.heap[gn]? =ah #[ag (n:Int)] 3
def Dt (gn:Nat)(w:World)(x:Int×Nat)(r:Ending)(a:World):Prop:=r= .returned (ag x.1)/\mH a gn x.2/\bp gn w a
def Ov (f:FuncId)(gn:Nat)(w:World)(sl:Value)(e:List Ex):Prop:=
 ∃g o c:Nat,sl= .slice (some (ae g o)) e.length c/\g≠gn/\e.length<9223372036854775808/\ ∀(j:Nat) (k:Ex),e[j]? =some k-> ∃(p:Option Addr) (q:Nat),
  w.cell? (ae g (o+j*5))=some (ag k.kind)/\w.cell? (ae g (o+j*5+1))=some (ag k.a)/\w.cell? (ae g (o+j*5+2))=some (ag k.b)/\
  w.cell? (ae g (o+j*5+3))=some (.string ⟨k.name.toArray⟩)/\w.cell? (ae g (o+j*5+4))=some (.slice p k.kids.length q)/\
  ∀(W:World) (d n:Nat),bp gn w W->mH W gn n->n<=600->d<=41->Calls prog f #[.agg #[ag k.kind,ag k.a,ag k.b,.string ⟨k.name.toArray⟩,.slice p k.kids.length q],ag (d:Int),ab gn 0] W (Dt gn W (shapeP k d n))
theorem Kh (f:FuncId)(D: ∀k,B k->k≠gn)
  (l: ∀(e:Ex) (p:Option Addr) (c:Nat) (w:World) (i n:Nat),(e.kids=[]\/Ov f gn w (.slice p e.kids.length c) e.kids)->e.name.length<=9223372036854775807->mH w gn n->n<=600->i<=41->Calls prog f #[.agg #[ag e.kind,ag e.a,ag e.b,.string ⟨e.name.toArray⟩,.slice p e.kids.length c],ag (i:Int),ab gn 0] w (Dt gn w (shapeP e i n))):
  ∀(d:Nat) (e:Ex) (sl:Value) (w:World) (i n:Nat),fV B d w sl e.kids->e.name.length<=9223372036854775807->mH w gn n->n<=600->i<=41->Calls prog f #[exV e sl,ag (i:Int),ab gn 0] w (Dt gn w (shapeP e i n)):=by
 intro d;induction d with
 |zero=>
  intro e sl w i n s y u m q;obtain⟨p,c,rfl⟩:=s.form;exact l e p c w i n (.inl s.1) y u m q
 |succ d O=>
  intro e sl w i n s y u m q;obtain⟨p,c,A⟩:=s.form;subst A;refine l e p c w i n ?_ y u m q;rcases s with⟨h,_⟩|⟨g,o,E,K,N,M,t⟩
  ·exact .inl h
  ·refine .inr ⟨g,o,E,N,D g K,M,fun j k L=> ?_⟩;obtain⟨z,R,c0,c1,F,G,H,r⟩:=t j k L;obtain⟨P,Q,rfl⟩:=r.form;exact⟨P,Q,c0,c1,F,G,H,fun W i n J I m q=>O k _ W i n (r.kept fun C v x=>J.block C x (fun e=>D C v (ay e))) z I m q⟩
theorem H9 (e:Ex)(p:Option Addr)(c:Nat)(w:World)(d n:Nat)(hk:e.kids=[]\/Ov 91 gn w (.slice p e.kids.length c) e.kids)(hn:e.name.length<=9223372036854775807)(hc:mH w gn n)(h6:n<=600)(hd:d<=41):
  Calls prog 91 #[.agg #[ag e.kind,ag e.a,ag e.b,.string ⟨e.name.toArray⟩,.slice p e.kids.length c],ag (d:Int),ab gn 0] w (Dt gn w (shapeP e d n)):=by
 have an:=aH hc;have H:=am w (.cells #[ag e.kind,ag e.a,ag e.b,.string ⟨e.name.toArray⟩,.slice p e.kids.length c] 78);have a2:=aB w (.cells #[ag e.kind,ag e.a,ag e.b,.string ⟨e.name.toArray⟩,.slice p e.kids.length c] 78);have z:=(H.block _ an).trans hc;generalize aC:w.alloc (.cells #[ag e.kind,ag e.a,ag e.b,.string ⟨e.name.toArray⟩,.slice p e.kids.length c] 78)=E at*;have z0:=ak 0 z;have y0:=bu _ _ 0 _ _ z;have J:(E.setCell ⟨gn,0,none⟩ (ag ((n+1:Nat):Int))).heap[gn]? =ah #[ag ((n+1:Nat):Int)] 3:=aY _ _ 0 _ _ _ z;have D:=(aM E ⟨gn,0,none⟩ w.heap.size (ag ((n+1:Nat):Int)) (by show w.heap.size≠gn;omega)).trans a2;have s:=(bp.of_below (g:=gn) H).trans (bp.set E gn 0 (ag ((n+1:Nat):Int)));have ei:(n:Int)+1=((n+1:Nat):Int):=by omega
 have aA:(n:Int)<=600:=by omega
 have q1:=ak 0 J;have q4:=ak 4 D;have U:=fun w=>Kg e p c hn w;unfold exV at U;generalize hX:shapeP e d n=X;rw[jd]at hX;have S:T4 ((if 600<n+1\/40<d then(4,n+1) else if aloneP e≠0 then(aloneP e,n+1) else gF e.kids (d+1) (0,n+1))=X):=hX;have R:T4 (mH (E.setCell ⟨gn,0,none⟩ (ag ((n+1:Nat):Int))) gn (n+1)):=J;by_cases c1:600<n+1
 ·have q:T4 (X=(4,n+1)):=by show _=_;rw[<-S.o,ax (.inl c1)]
  have aa:(600:Int)<((n+1:Nat):Int):=(by omega);generalize ((n+1:Nat):Int)=Q at*;go_enter func91,ntmps91;go_wp2_with fail;go_ret;rw[q.o];exact⟨rfl,R.o,s⟩
 have aa: ¬(600:Int)<((n+1:Nat):Int):=by omega
 by_cases c2:40<d
 ·have q:T4 (X=(4,n+1)):=by show _=_;rw[<-S.o,ax (.inr c2)]
  have ac:(40:Int)<(d:Int):=(by omega);generalize ((n+1:Nat):Int)=Q at*;go_enter func91,ntmps91;go_wp2_with fail;go_ret;rw[q.o];exact⟨rfl,R.o,s⟩
 have ac: ¬(40:Int)<(d:Int):=by omega
 by_cases T:aloneP e=0
 ·have l:=S.o;rw[aw (by omega),aw (by simpa using T)]at l;have HS:T4 (gF (e.kids.drop 0) (d+1) (0,n+1)=X):=l;rw[T]at U;have au:n+1<=600:=(by omega);generalize a0:((n+1:Nat):Int)=Q at*;generalize a1:E.setCell ⟨gn,0,none⟩ (ag Q)=w1 at*;go_enter func91,ntmps91;go_wp2_with(refine aO rfl 78 _ rfl _ rfl _ _ _ _ D d9 rfl (by kernel_rfl) ?_)
  refine(U _).mono ?_;rintro r Z ⟨rfl,f⟩;have A:=s.trans (bp.of_below f);have ad:mH Z gn (n+1):=ai f R.o;have aF:=aj f q4;have v:T4 (mH Z gn (n+1)):=ad;go_wp2_with fail;go_loopw [32] (fun t wr=> ∃j m:Nat,t=ag (j:Int)/\j<=e.kids.length/\gF (e.kids.drop j) (d+1) (0,m)=X/\m<=600/\mH wr gn m/\bp gn w wr) (fun t _=>e.kids.length-(intOf t).toNat);case atStart=>exact⟨0,n+1,rfl,by omega,HS.o,au,v.o,A⟩
  case round=>
   obtain⟨j,m,rfl,hj,x,hm,K,B⟩:=hrel;have a9:(0:Int)<=(j:Int):=(by omega);by_cases C:j<e.kids.length
   ·have P:(j:Int)<(e.kids.length:Int):=(by omega);obtain⟨k,L⟩: ∃k,e.kids[j]? =some k:=⟨e.kids[j],az C⟩
    rw[FdQ L]at x;have ar:e.kids≠[]:=fun h=>(by rw[h]at C;simp at C);obtain⟨g,o,c',av,ap,a7,N⟩:=hk.resolve_left ar;obtain⟨W,V,d0,d1,d2,d3,d4,a5⟩:=N j k L;have eb:wr.heap[g]? =w.heap[g]? :=B.block g (aU d0) (fun e=>ap (ay e));have G: ∀i,wr.cell? (ae g i)=w.cell? (ae g i):=fun i=>dP eb;have f0:=(G _).trans d0;have f1:=(G _).trans d1;have f2:=(G _).trans d2;have f3:=(G _).trans d3;have f4:=(G _).trans d4;have I:ao wr (wr.alloc (.cells #[ag k.kind,ag k.a,ag k.b,.string ⟨k.name.toArray⟩,.slice W k.kids.length V] 78)):=am _ _;have a3:=aB wr (.cells #[ag k.kind,ag k.a,ag k.b,.string ⟨k.name.toArray⟩,.slice W k.kids.length V] 78);have M:=B.trans (bp.of_below I);have af:mH (wr.alloc (.cells #[ag k.kind,ag k.a,ag k.b,.string ⟨k.name.toArray⟩,.slice W k.kids.length V] 78)) gn m:=ai I K;have cR:=a5 _ (d+1) m M af hm (by omega);have a8:(d:Int)+1=((d+1:Nat):Int):=(by omega);have a6:(d:Int)<=40:=(by omega);have O:=fun h=>sd (e:=k) (deep:=d+1) (n:=m) h;injection av with e1 e2 e3;subst e1;subst e3;have F:T4 (gF (e.kids.drop (j+1)) (d+1) (shapeP k (d+1) m)=X):=x;generalize shapeP k (d+1) m=Y at*;generalize ((d+1:Nat):Int)=dv at*;generalize aD:wr.alloc (.cells #[ag k.kind,ag k.a,ag k.b,.string ⟨k.name.toArray⟩,.slice W k.kids.length V] 78)=wB at*;obtain⟨y1,y2⟩:=Y;go_wp2_with(refine aO rfl 78 _ rfl _ rfl _ _ _ _ a3 d9 rfl (by kernel_rfl) ?_)
    refine cR.mono ?_;rintro r w3 ⟨rfl,y,aq⟩;have u:=M.trans aq;dsimp only at y O⊢;by_cases hy:y1=0
    ·subst hy;have a4:=O rfl;go_wp2_with fail;go_roundw;case rel=>exact⟨j+1,y2,by go_num,by omega,F.o,a4,y,u⟩
     case measure=>simp[intOf];omega
    ·have aE:(y1 !=0)=true:=(by simpa using hy);have q:T4 (X=(y1,y2)):=(by show _=_;rw[<-F.o,jX hy]);go_wp2_with fail;go_ret;rw[q.o];exact⟨rfl,y,u⟩
   ·have P: ¬(j:Int)<(e.kids.length:Int):=(by omega);have q:T4 (X=(0,m)):=(by show _=_;rw[<-x,List.drop_eq_nil_of_le (by omega)];rfl);go_wp2_with fail;go_ret;rw[q.o];exact⟨rfl,K,B⟩
 ·have l:=S.o;rw[aw (by omega),ax T]at l;have q:T4 (X=(aloneP e,n+1)):=l.symm;have n3:(aloneP e !=0)=true:=(by simpa using T);generalize aloneP e=al at*;generalize a0:((n+1:Nat):Int)=Q at*;generalize a1:E.setCell ⟨gn,0,none⟩ (ag Q)=w1 at*;go_enter func91,ntmps91;go_wp2_with(refine aO rfl 78 _ rfl _ rfl _ _ _ _ D d9 rfl (by kernel_rfl) ?_)
  refine(U _).mono ?_;rintro r Z ⟨rfl,f⟩;have A:=s.trans (bp.of_below f);have v:T4 (mH Z gn (n+1)):=ai f R.o;go_wp2_with fail;go_ret;rw[q.o];exact⟨rfl,v.o,A⟩
theorem Ki (f: ∀k,B k->k≠gn)(d:Nat)(e:Ex)(sl:Value)(w:World)(a n:Nat)(j:fV B d w sl e.kids)(l:e.name.length<=9223372036854775807)(g:mH w gn n)(b:n<=600)(i:a<=41):
 Calls prog 91 #[exV e sl,ag (a:Int),ab gn 0] w (Dt gn w (shapeP e a n)):=Kh _ f (fun e p c w a n=>H9 e p c w a n) d e sl w a n j l g b i
end
theorem Du: ∀(c:List (Ru×Value)) (j:Nat) (p:Ru×Value),c[j]? =some p->(lN c)[j*6]? =some (.string ⟨p.1.1.toArray⟩)/\(lN c)[j*6+1]? =some (ag p.1.2.kind)/\(lN c)[j*6+2]? =some (ag p.1.2.a)/\(lN c)[j*6+3]? =some (ag p.1.2.b)/\(lN c)[j*6+4]? =some (.string ⟨p.1.2.name.toArray⟩)/\(lN c)[j*6+5]? =some p.2
 |[],j,p,h=>by simp at h
 |q::c,0,p,h=>by
  have:q=p:=(by simpa using h);subst this;simp[lN]
 |q::c,j+1,p,h=>by
  have:=Du c j p (by simpa using h);have e:(j+1)*6=j*6+1+1+1+1+1+1:=(by omega);rw[e];simpa[lN] using this
def Dv (w:World)(v:Value)(d:List (Ru×Value)):Prop:=
 (d=[]/\ ∃p c,v= .slice p 0 c)\/ ∃g o c:Nat,v= .slice (some (ae g o)) d.length c/\d.length<9223372036854775808/\ ∀(j:Nat) (p:Ru×Value),d[j]? =some p->
  w.cell? (ae g (o+j*6))=some (.string ⟨p.1.1.toArray⟩)/\w.cell? (ae g (o+j*6+1))=some (ag p.1.2.kind)/\w.cell? (ae g (o+j*6+2))=some (ag p.1.2.a)/\w.cell? (ae g (o+j*6+3))=some (ag p.1.2.b)/\
  w.cell? (ae g (o+j*6+4))=some (.string ⟨p.1.2.name.toArray⟩)/\w.cell? (ae g (o+j*6+5))=some p.2
theorem Dv.below {w d:World}{v:Value}{b:List (Ru×Value)}(h:Dv w v b)(a:ao w d):Dv d v b:=by
 rcases h with h|⟨g,o,c,q,n,l⟩
 ·exact .inl h
 ·refine .inr ⟨g,o,c,q,n,fun j p m=> ?_⟩;obtain⟨c0,c1,e,f,i,k⟩:=l j p m;exact⟨aj a c0,aj a c1,aj a e,aj a f,aj a i,aj a k⟩
theorem uP {w:World}{d:Nat}{v:Value}{b:List (Ru×Value)}(h:w.ownsRow d 80 6 v b.length (lN b))(i:b.length<9223372036854775808):Dv w v b:=by
 by_cases e:b.length=0
 ·obtain⟨p,c,rfl⟩:=dy h;exact .inl ⟨gG.1 e,p,c,by rw[e]⟩
 ·obtain⟨g,cap,k,a⟩:=uJ h (by omega);refine .inr ⟨g,0,cap,k,i,fun j p f=> ?_⟩;obtain⟨f0,f1,f2,f3,f4,f5⟩:=Du b j p f;rw[bN];exact⟨a _ _ f0,a _ _ f1,a _ _ f2,a _ _ f3,a _ _ f4,a _ _ f5⟩
namespace Lx
def ruleP (u:Ru):Int:=if Go.Proofs.YtpdoienkhgnceaaGreatDoor.namedL u.1=false then 7 else(shapeP u.2 1 0).1
def iA:List Ru->Nat->Int×Nat
 |[],_=>(0,0)
 |u::l,i=>if ruleP u≠0 then(ruleP u,i) else iA l (i+1)
def dQ7 (l:List Ru):Int×Nat:=if 40<l.length then(5,0) else iA l 0
theorem Ff {l:List Ru}{j:Nat}{u:Ru}(h:l[j]? =some u):iA (l.drop j) j=if ruleP u≠0 then(ruleP u,j) else iA (l.drop (j+1)) (j+1):=by
 obtain⟨a,b⟩:=aE.1 h;rw[bG a,b];rfl
end Lx
def rC (w:World)(p:Ru×Value):Prop:=p.1.1.length<=9223372036854775807/\p.1.2.name.length<=9223372036854775807/\ ∃d,fV (fun k=>k<w.heap.size) d w p.2 p.1.2.kids
theorem rC.below {w b:World}{p:Ru×Value}(h:rC w p)(a:ao w b):rC b p:=by
 obtain⟨c,e,d,f⟩:=h;exact⟨c,e,d,(f.kept fun g _ j=>a.block g j).mono fun g i=>aT i a.size⟩
structure InR (w:World)(v:Value)(us:List (Ru×Value)):Prop where
 row:Dv w v us
 len:us.length<9223372036854775808
 all: ∀p∈us,rC w p
theorem InR.below {w c:World}{v:Value}{b:List (Ru×Value)}(h:InR w v b)(a:ao w c):InR c v b:=⟨h.row.below a,h.len,fun p d=>(h.all p d).below a⟩
theorem og {c:Func}(s:Nat)(h:c.results= #[ResultVar.cell s 26]){R:Ending->World->Prop}{a:Act}{w:World}(g:Nat)(er at_:Int)(f:a.defers=[])(d:a.tmps.getD s undef=ab g 0)
  (i:w.heap[g]? =ah #[ag er,ag at_] 26) (e:R (.returned (.agg #[ag er,ag at_])) w):bodyPost prog c R .ret a w:=by
 refine aX (v:= .agg #[ag er,ag at_]) ?_ f e;have b:a.tmps[s]?.getD undef=ab g 0:=by simpa using d
 have j:=dZ (P:=prog) w g 26 26 _ _ _ i od rfl (by kernel_rfl);simp[results,h,b,asAddr,j]
theorem Kj (u:Ru)(p:Option Addr)(c:Nat)(w:World)(h:rC w (u,.slice p u.2.kids.length c)):
  Calls prog 46 #[.agg #[.string ⟨u.1.toArray⟩,ag u.2.kind,ag u.2.a,ag u.2.b,.string ⟨u.2.name.toArray⟩,.slice p u.2.kids.length c]] w fun r U=>r= .returned (ag (ruleP u))/\ao w U:=by
 obtain⟨I,J,d,K⟩:=h;dsimp only at I J K;have v:=am w (.cells #[.string ⟨u.1.toArray⟩,ag u.2.kind,ag u.2.a,ag u.2.b,.string ⟨u.2.name.toArray⟩,.slice p u.2.kids.length c] 80);have q:=aB w (.cells #[.string ⟨u.1.toArray⟩,ag u.2.kind,ag u.2.a,ag u.2.b,.string ⟨u.2.name.toArray⟩,.slice p u.2.kids.length c] 80);generalize S:w.alloc (.cells #[.string ⟨u.1.toArray⟩,ag u.2.kind,ag u.2.a,ag u.2.b,.string ⟨u.2.name.toArray⟩,.slice p u.2.kids.length c] 80)=O at*;have z0:=ak 0 q;have C:=Bx ⟨u.1.toArray⟩ u.1 rfl I O;have H:T4 (ruleP u=if namedL u.1=false then 7 else(shapeP u.2 1 0).1):=rfl;cases hnb:namedL u.1 with
 |false=>
  have D:T4 (ruleP u=7):=(by show _=_;rw[H.o,ax hnb]);rw[hnb]at C;go_enter func46,ntmps46;go_wp2_with fail;refine C.mono ?_;rintro r i ⟨rfl,j⟩;have E:=au v j;go_wp2_with fail;go_ret;rw[D.o];exact⟨rfl,E⟩
 |true=>
  have D:T4 (ruleP u=(shapeP u.2 1 0).1):=(by show _=_;rw[H.o,aw (by simp[hnb])]);rw[hnb]at C;have N:w.heap.size<O.heap.size:=aH q;go_enter func46,ntmps46;go_wp2_with fail;refine C.mono ?_;rintro r i ⟨rfl,j⟩;have s:=au v j;have M:=j.size;have z:=ai j q;have x:ao i (i.alloc (.cells #[ag 0] 3)):=am _ _;have n:=aB i (.cells #[ag 0] 3);have G:=ai x z;have Q:=aH z;have y:=au s x;generalize T:i.alloc (.cells #[ag 0] 3)=A at*;have z2:=ak 0 n;have y2:=bu _ _ 0 _ _ n;have F:mH (A.setCell ⟨i.heap.size,0,none⟩ (ag 0)) i.heap.size 0:=aY _ _ 0 _ _ _ n;have m:=(aM A ⟨i.heap.size,0,none⟩ w.heap.size (ag 0) (by show w.heap.size≠i.heap.size;omega)).trans G;have f:ao w (A.setCell ⟨i.heap.size,0,none⟩ (ag 0)):=y.setCell (p:=⟨i.heap.size,0,none⟩) (by show w.heap.size<=i.heap.size;omega) _;have cE:=Ki (B:=fun k=>k<w.heap.size) (gn:=i.heap.size) (fun k L=>by omega) d u.2 (.slice p u.2.kids.length c) (A.setCell ⟨i.heap.size,0,none⟩ (ag 0)) 1 0 (K.kept fun g P _=>f.block g P) J F (by omega) (by omega);unfold exV at cE;generalize R:A.setCell ⟨i.heap.size,0,none⟩ (ag 0)=w2 at*;have W:=ak 1 m;have X:=ak 2 m;have Y:=ak 3 m;have Z:=ak 4 m;have e5:=ak 5 m;go_wp2_with fail;refine cE.mono ?_;rintro r V ⟨rfl,-,l⟩;have t:ao w V:=⟨l.os.trans f.os,l.tape.trans f.tape,l.output.trans f.output,bh f.size l.size,fun k L=>(l.block k (by have:=f.size;omega) (fun e=>by have:=ay e;omega)).trans (f.block k L)⟩
  go_wp2_with fail;go_ret;rw[D.o];exact⟨rfl,t⟩
theorem By (e:List (Ru×Value))(v:Value)(w:World)(h:InR w v e):
  Calls prog 19 #[v] w fun r w'=>r= .returned (.agg #[ag (dQ7 (e.map (fun p=>p.1))).1,ag ((dQ7 (e.map (fun p=>p.1))).2:Int)])/\ao w w':=by
 have aa:=h.len
 have x: ∃p c,v= .slice p e.length c:=by
  rcases h.row with⟨rfl,p,c,S⟩|⟨g,o,c,S,_⟩
  ·exact⟨p,c,S⟩
  ·exact⟨_,c,S⟩
 obtain⟨p,c,rfl⟩:=x;have F:=am w (.cells #[ag 0,ag 0] 26);have A:=aB w (.cells #[ag 0,ag 0] 26);generalize hX:dQ7 (e.map (fun p=>p.1))=X;have l:=hX;unfold dQ7 at l;rw[bm]at l;have D:T4 (InR w (.slice p e.length c) e):=h;generalize ad:w.alloc (.cells #[ag 0,ag 0] 26)=wA at*;by_cases hm:40<e.length
 ·have N:(40:Int)<(e.length:Int):=by omega
  rw[ax hm]at l;subst l;go_enter func19,ntmps19;go_wp2_with(refine aC rfl 26 _ _ rfl _ _ rfl rfl _ _ A (by kernel_rfl) (by simp) (by simp[Value.oneCell']) ?_)
  exact og 2 (by kernel_rfl) w.heap.size 5 0 rfl rfl (aK _ _ _ _ _ _ A) ⟨rfl,below_setRow F (aA _) _⟩
 ·have N: ¬(40:Int)<(e.length:Int):=by omega
  rw[aw hm]at l;have HS:T4 (iA ((e.map (fun p=>p.1)).drop 0) 0=X):=l;go_enter func19,ntmps19;go_wp2_with fail;go_loopw [12] (fun t wr=> ∃j:Nat,t=ag (j:Int)/\j<=e.length/\iA ((e.map (fun p=>p.1)).drop j) j=X/\wr.heap[w.heap.size]? =ah #[ag 0,ag 0] 26/\ao w wr) (fun t _=>e.length-(intOf t).toNat);case atStart=>exact⟨0,rfl,by omega,HS.o,A,F⟩
  case round=>
   obtain⟨j,rfl,hj,m,C,f⟩:=hrel;have ab:(0:Int)<=(j:Int):=(by omega);have ac:(j:Int)<=40:=(by omega);by_cases z:j<e.length
   ·have J:(j:Int)<(e.length:Int):=(by omega);obtain⟨⟨u,sk⟩,y⟩: ∃k,e[j]? =some k:=⟨e[j],az z⟩
    have M:(e.map (fun p=>p.1))[j]? =some u:=(by rw[bf,y];rfl);rw[Ff M]at m;have I:=D.o.all _ (aL y)
    obtain⟨L,K,P⟩: ∃p c,sk= .slice p u.2.kids.length c:=by
     obtain⟨_,_,d,hd⟩:=I;exact hd.form
    subst P;rcases D.o.row with⟨h,_⟩|⟨g,o,c',Q,_,n⟩
    ·rw[h]at z;simp at z
    injection Q with e1 e2 e3;subst e1;subst e3;obtain⟨V,W,Y,Z,d4,d5⟩:=n j _ y;dsimp only at V W Y Z d4 d5;have f0:=aj f V;have f1:=aj f W;have f2:=aj f Y;have f3:=aj f Z;have f4:=aj f d4;have f5:=aj f d5;have H:ao wr (wr.alloc (.cells #[.string ⟨u.1.toArray⟩,ag u.2.kind,ag u.2.a,ag u.2.b,.string ⟨u.2.name.toArray⟩,.slice L u.2.kids.length K] 80)):=am _ _;have T:=aB wr (.cells #[.string ⟨u.1.toArray⟩,ag u.2.kind,ag u.2.a,ag u.2.b,.string ⟨u.2.name.toArray⟩,.slice L u.2.kids.length K] 80);have s:=au f H;have O:=ai H C;have cR:=Kj u L K _ (I.below s);have E:T4 ((if ruleP u≠0 then(ruleP u,j) else iA ((e.map (fun p=>p.1)).drop (j+1)) (j+1))=X):=m;generalize ruleP u=R at*;generalize ae:wr.alloc (.cells #[.string ⟨u.1.toArray⟩,ag u.2.kind,ag u.2.a,ag u.2.b,.string ⟨u.2.name.toArray⟩,.slice L u.2.kids.length K] 80)=wB at*;go_wp2_with(refine aO rfl 80 _ rfl _ rfl _ _ _ _ T Do rfl (by kernel_rfl) ?_)
    refine cR.mono ?_;rintro r w3 ⟨rfl,G⟩;have q:=au s G;have B:=ai G O;by_cases U:R=0
    ·subst U;have i:=E.o;rw[aw (by simp)]at i;have HN:T4 (iA ((e.map (fun p=>p.1)).drop (j+1)) (j+1)=X):=i;go_wp2_with fail;go_roundw;case rel=>exact⟨j+1,by go_num,by omega,HN.o,B,q⟩
     case measure=>simp[intOf];omega
    ·have af:(R !=0)=true:=(by simpa using U);have i:=E.o;rw[ax U]at i;subst i;go_wp2_with(refine aC rfl 26 _ _ rfl _ _ rfl rfl _ _ B (by kernel_rfl) (by simp) (by simp[Value.oneCell']) ?_)
     exact og 2 (by kernel_rfl) w.heap.size R (j:Int) rfl rfl (aK _ _ _ _ _ _ B) ⟨rfl,below_setRow q (aA _) _⟩
   ·have J: ¬(j:Int)<(e.length:Int):=(by omega);rw[List.drop_eq_nil_of_le (by simp;omega)]at m;have i:(0,0)=X:=m;subst i;go_wp2_with(refine aC rfl 26 _ _ rfl _ _ rfl rfl _ _ C (by kernel_rfl) (by simp) (by simp[Value.oneCell']) ?_)
    exact og 2 (by kernel_rfl) w.heap.size 0 0 rfl rfl (aK _ _ _ _ _ _ C) ⟨rfl,below_setRow f (aA _) _⟩
theorem aG {p:Prop}(h:p):T4 p:=h
theorem InR.cells {w:World}{f:List (Ru×Value)}{i:Option Addr}{k:Nat}(h:InR w (.slice i f.length k) f): ∀(j:Nat) (p:Ru×Value),f[j]? =some p-> ∃g o:Nat,i=some ⟨g,o,none⟩/\
   w.cell? (ae g (o+j*6))=some (.string ⟨p.1.1.toArray⟩)/\w.cell? (ae g (o+j*6+1))=some (ag p.1.2.kind)/\w.cell? (ae g (o+j*6+2))=some (ag p.1.2.a)/\w.cell? (ae g (o+j*6+3))=some (ag p.1.2.b)/\
   w.cell? (ae g (o+j*6+4))=some (.string ⟨p.1.2.name.toArray⟩)/\w.cell? (ae g (o+j*6+5))=some p.2:=fun j p d=>by
 rcases h.row with⟨m,_⟩|⟨g,o,c,e,q,n⟩
 ·rw[m]at d;simp at d
 ·injection e with l;exact⟨g,o,l,n j p d⟩
theorem InR.form {w:World}{v:Value}{b:List (Ru×Value)}(h:InR w v b): ∃p c,v= .slice p b.length c:=by
 rcases h.row with⟨rfl,p,c,a⟩|⟨g,o,c,a,_⟩
 ·exact⟨p,c,a⟩
 ·exact⟨_,c,a⟩
theorem uQ (x y:List UInt8):(x==y)=decide (x=y):=by
 by_cases h:x=y
 ·subst h;simp
 ·simp[h]
theorem CP:prog.underlying 66=some (.map 9 3):=by kernel_rfl
theorem tN:prog.underlying 9=some .string:=by kernel_rfl
theorem Bz (k:Value)(e:MapEntry): ∀(a:List MapEntry) (i:Nat),Instr.findNow .string k (a++[e]) i=match Instr.findNow .string k a i with
  |some (some r)=>some (some r)
  |some none=>(match Instr.sameNow .string k e.key with|some true=>some (some (i+a.length,e.val))|some false=>some none|none=>none)
  |none=>none
 |[],i=>by
  simp only[List.nil_append,Instr.findNow,fN,Nat.add_zero];cases Instr.sameNow .string k e.key with
  |none=>rfl
  |some b=>cases b<;>rfl
 |x::a,i=>by
  simp only[List.cons_append,Instr.findNow];cases Instr.sameNow .string k x.key with
  |none=>rfl
  |some b=>
   cases b with
   |true=>rfl
   |false=>
    have:=Bz k e a (i+1);rw[this];simp only[bK];rw[show i+1+a.length=i+(a.length+1) by omega]
def EsN (a:List MapEntry)(l:List Ru):Prop:= ∀x:List UInt8,(0<=atP5 l x/\ ∃i,Instr.findNow .string (.string ⟨x.toArray⟩) a 0=some (some (i,ag (atP5 l x))))\/(atP5 l x= -1/\Instr.findNow .string (.string ⟨x.toArray⟩) a 0=some none)
def jn (w:World)(b:Nat)(l:List Ru):Prop:= ∃a c,w.heap[b]? =some (.map a c)/\EsN a.toList l
theorem jn.later {w w':World}{b:Nat}{l:List Ru}(h:jn w b l)(f:w'.heap[b]? =w.heap[b]?):jn w' b l:=by
 obtain⟨a,c,d,e⟩:=h;exact⟨a,c,f.trans d,e⟩
theorem ij {w:World}{b:Nat}{l:List Ru}(h:jn w b l):b<w.heap.size:=by
 obtain⟨d,c,a,_⟩:=h;exact(bz.1 a).1
theorem xL: ∀(l:List Ru) (i:Nat) (u:Ru) (x:List UInt8),atF (l++[u]) i x=if 0<=atF l i x then atF l i x else if u.1=x then((i+l.length:Nat):Int) else-1
 |[],i,u,x=>by simp[atF]
 |v::l,i,u,x=>by
  have:=xL l (i+1) u x;have a:atF (v::l++[u]) i x=if v.1=x then(i:Int) else atF (l++[u]) (i+1) x:=rfl;have b:atF (v::l) i x=if v.1=x then(i:Int) else atF l (i+1) x:=rfl;by_cases h:v.1=x
  ·rw[ax h]at a b;rw[a,b,ax (by omega)]
  ·rw[aw h]at a b;rw[a,b,this,bK,show i+1+l.length=i+(l.length+1) by omega]
theorem MO (x y:List UInt8):Instr.sameNow .string (.string ⟨x.toArray⟩) (.string ⟨y.toArray⟩)=some (decide (x=y)):=by
 have e:((⟨x.toArray⟩:ByteArray)==⟨y.toArray⟩)=decide (x=y):=by
  show(x.toArray==y.toArray)=_;by_cases h:x=y
  ·subst h;simp
  ·simp[h]
 simp[Instr.sameNow,e]
theorem EsN.taken {b:List MapEntry}{l:List Ru}{u:Ru}(h:EsN b l)(c:0<=atP5 l u.1):EsN b (l++[u]):=fun x=>by
 have e:atP5 (l++[u]) x=atP5 l x:=by
  unfold atP5 at*;rw[xL];split
  ·rfl
  ·rename_i d;have a:u.1≠x:=fun e=>(by subst e;exact d c);rw[aw a];have:=za l 0 x;omega
 rw[e];exact h x
theorem EsN.push {f:List MapEntry}{l:List Ru}{u:Ru}{c:Nat}(h:EsN f l):EsN (f++[⟨.string ⟨u.1.toArray⟩,ag (l.length:Int),c⟩]) (l++[u]):=fun x=>by
 rw[Bz]
 have e:atP5 (l++[u]) x=if 0<=atP5 l x then atP5 l x else if u.1=x then(l.length:Int) else-1:=by
  unfold atP5;rw[xL,bN]
 rcases h x with⟨a,i,b⟩|⟨a,b⟩
 ·rw[ax a]at e;rw[b,e];exact .inl ⟨a,i,rfl⟩
 ·rw[aw (by omega)]at e;rw[b];dsimp only;rw[MO];by_cases d:x=u.1
  ·subst d;rw[ax rfl]at e;rw[e,bc rfl];exact .inl ⟨by omega,_,rfl⟩
  ·rw[aw (fun e=>d e.symm)]at e;rw[e,bo d];exact .inr ⟨rfl,rfl⟩
theorem EsN.nil:EsN [] []:=fun _=> .inr ⟨rfl,rfl⟩
theorem Ow {w:World}{b:Nat}{l:List Ru}(h:jn w b l)(x:List UInt8):(Instr.lookup 66 (.map (some b)) (.string ⟨x.toArray⟩) true).run prog w= .ok (.tuple #[ag (if 0<=atP5 l x then atP5 l x else 0),.bool (decide (0<=atP5 l x))]) w:=by
 obtain⟨m,c,e,g⟩:=h;have f: ∀z,(Instr.checkKey z 10000 9 (.string ⟨x.toArray⟩)).run prog w= .ok () w:=fun z=>MapKept.run_checkKey (k:= .string _) tN (by simp[MapKept.IsKey]) z 9999;have j:(zeroValue 3).run prog w= .ok (ag 0) w:=by kernel_rfl
 rcases g x with⟨a,i,d⟩|⟨a,d⟩
 ·simp[Instr.lookup,gS CP,fR e,f,gV tN d,Result.andThen,a]
 ·simp[Instr.lookup,gS CP,fR e,f,gV tN d,j,Result.andThen,a]
theorem Ia {w:World}{b:Nat}{l:List Ru}(h:jn w b l)(x:List UInt8)(m:0<=atP5 l x):(Instr.lookup 66 (.map (some b)) (.string ⟨x.toArray⟩) false).run prog w= .ok (ag (atP5 l x)) w:=by
 obtain⟨j,c,f,e⟩:=h;have g: ∀z,(Instr.checkKey z 10000 9 (.string ⟨x.toArray⟩)).run prog w= .ok () w:=fun z=>MapKept.run_checkKey (k:= .string _) tN (by simp[MapKept.IsKey]) z 9999;rcases e x with⟨d,i,a⟩|⟨d,a⟩
 ·simp[Instr.lookup,gS CP,fR f,g,gV tN a,Result.andThen]
 ·omega
theorem Tw {w:World}{b:Nat}{l:List Ru}{u:Ru}(h:jn w b l)(m:atP5 l u.1= -1): ∃o,(Instr.mapUpdate 66 (.map (some b)) (.string ⟨u.1.toArray⟩) (ag (l.length:Int))).run prog w= .ok () (zb w b o)/\jn (zb w b o) b (l++[u]):=by
 obtain⟨a,c,d,e⟩:=h;have g:(Instr.checkKey false 10000 9 (.string ⟨u.1.toArray⟩)).run prog w= .ok () w:=MapKept.run_checkKey (k:= .string _) tN (by simp[MapKept.IsKey]) false 9999
 have i:Instr.findNow .string (.string ⟨u.1.toArray⟩) a.toList 0=some none:=by
  rcases e u.1 with⟨j,_⟩|⟨_,f⟩
  ·omega
  ·exact f
 refine⟨.map (a.push ⟨.string ⟨u.1.toArray⟩,ag (l.length:Int),c⟩) (c+1),?_,a.push ⟨.string ⟨u.1.toArray⟩,ag (l.length:Int),c⟩,c+1,(MapKept.heap_set d).1,?_⟩
 ·simp[Instr.mapUpdate,gS CP,fR d,g,gV tN i,MapKept.run_setObj_map _ d,Result.andThen,zb]
 ·rw[Array.toList_push];exact e.push
theorem Km (n:Nat)(_:n<9223372036854775808)(w:World):(Instr.makeMap 66 (some (ag (n:Int)))).run prog w= .ok (.map (some w.heap.size)) (w.alloc (.map #[] 0)):=by
 unfold Instr.makeMap;simp[go_sem]
def Ib (c:List (Ru×Value))(w:World)(r:Ending)(a:World):Prop:= ∃b,r= .returned (.map (some b))/\w.heap.size<=b/\jn a b (c.map (fun p=>p.1))/\ao w a
def Tx (a:List (Ru×Value))(w:World)(t:Value)(wr:World):Prop:= ∃j:Nat,t=ag (j:Int)/\j<=a.length/\jn wr w.heap.size ((a.map (fun p=>p.1)).take j)/\ao w wr
theorem pU (f:List (Ru×Value))(v:Value)(w:World)(h:InR w v f):Calls prog 17 #[v] w (Ib f w):=by
 obtain⟨pv,cv,rfl⟩:=h.form;have X:=aG h.cells;have B:=h.len
 have V:T4 (∀p∈f,∃q n c,p.2= .slice q n c):=fun p hp=>by
  obtain⟨_,_,d,hd⟩:=h.all p hp;obtain⟨q,c,e⟩:=hd.form;exact⟨q,_,c,e⟩
 clear h;have z:=am w (.map #[] 0);have E:jn (w.alloc (.map #[] 0)) w.heap.size []:=⟨#[],0,(MapKept.heap_alloc w _).1,EsN.nil⟩
 have ab:=fun W=>Km f.length B W;go_enter func17,ntmps17;go_wp2_with fail;go_loopw [4,5,6,7,13] (fun _ _ _ _ t wr=>Tx f w t wr) (fun _ _ _ _ t _=>f.length-(intOf t).toNat);case atStart=>exact⟨0,rfl,by omega,E,z⟩
 case round=>
  obtain⟨j,rfl,hj,y,i⟩:=hrel;clear z E;have aa:(0:Int)<=(j:Int):=(by omega);by_cases Q:j<f.length
  ·have D:(j:Int)<(f.length:Int):=(by omega);obtain⟨⟨u,sk⟩,m⟩: ∃p,f[j]? =some p:=⟨f[j],az Q⟩
   have r:(f.map (fun p=>p.1)).take (j+1)=(f.map (fun p=>p.1)).take j++[u]:=by
    have S:(f.map (fun p=>p.1))[j]? =some u:=(by rw[bf,m];rfl);rw[fF,S];rfl
   have x:((f.map (fun p=>p.1)).take j).length=j:=(by simp;omega);obtain⟨g,o,R,c0,c1,L,M,N,O⟩:=X.o j _ m;obtain⟨J,I,H,G⟩:=V.o _ (aL m);dsimp only at c0 c1 L M N O G;subst G R;have d0:=aj i c0;have d1:=aj i c1;have d2:=aj i L;have d3:=aj i M;have d4:=aj i N;have d5:=aj i O;have A:=i.alloc i.size (.cells #[.string ⟨u.1.toArray⟩,ag u.2.kind,ag u.2.a,ag u.2.b,.string ⟨u.2.name.toArray⟩,.slice J I H] 80);have U:=aB wr (.cells #[.string ⟨u.1.toArray⟩,ag u.2.kind,ag u.2.a,ag u.2.b,.string ⟨u.2.name.toArray⟩,.slice J I H] 80);have l:jn (wr.alloc (.cells #[.string ⟨u.1.toArray⟩,ag u.2.kind,ag u.2.a,ag u.2.b,.string ⟨u.2.name.toArray⟩,.slice J I H] 80)) w.heap.size ((f.map (fun p=>p.1)).take j):=y.later (dD _ _ _ (ij y));have C:=Ow l u.1;clear m c0 c1 L M N O y;generalize ac:wr.alloc (.cells #[.string ⟨u.1.toArray⟩,ag u.2.kind,ag u.2.a,ag u.2.b,.string ⟨u.2.name.toArray⟩,.slice J I H] 80)=wB at*;have z0:=ak 0 U;by_cases s:0<=atP5 ((f.map (fun p=>p.1)).take j) u.1
   ·rw[ax s,bc s]at C
    have k:jn wB w.heap.size ((f.map (fun p=>p.1)).take (j+1)):=by
     obtain⟨es,c,h1,h2⟩:=l;rw[r];exact⟨es,c,h1,h2.taken s⟩
    generalize atP5 ((f.map (fun p=>p.1)).take j) u.1=n at*;have K:=aG k;clear l r x k s;go_wp2_with fail;go_roundw;case rel=>exact⟨j+1,by go_num,by omega,K.o,A⟩
    case measure=>simp[intOf];omega
   ·rw[aw s,bo s]at C
    have F:atP5 ((f.map (fun p=>p.1)).take j) u.1= -1:=by
     have:=(py ((f.map (fun p=>p.1)).take j) u.1).1;omega
    obtain⟨ob,T,k⟩:=Tw l F;rw[x]at T;rw[<-r]at k;have P:=Fg A (aA _) ob;have K:=aG k;clear l r x k s F;go_wp2_with fail;go_roundw;case rel=>exact⟨j+1,by go_num,by omega,K.o,P⟩
    case measure=>simp[intOf];omega
  ·have Y:j=f.length:=(by omega);have D: ¬(j:Int)<(f.length:Int):=(by omega)
   have Z:T4 (Ib f w (.returned (.map (some w.heap.size))) wr):=by
    refine⟨w.heap.size,rfl,aA _,?_,i⟩;rw[Y,da (by simp)]at y;exact y
   clear y X V Y;go_wp2_with fail;go_ret;exact Z.o
def fI (n:Nat)(m:Nat->Bool):Array Value:=((List.range n).map fun i=>Value.bool (m i)).toArray
theorem oh {n:Nat}{m:Nat->Bool}{i:Nat}(h:i<n):(fI n m)[i]? =some (.bool (m i)):=by
 simp[fI,h]
theorem zd {n:Nat}{m:Nat->Bool}{i:Nat}:(fI n m).setIfInBounds i (.bool true)=fI n (upd m i):=by
 apply Array.ext
 ·simp[fI]
 ·intro k c a;have b:k<n:=(by simpa[fI] using a);rw[Array.getElem_setIfInBounds (by simpa[fI] using b)];by_cases e:i=k
  ·subst e;simp[fI,upd]
  ·rw[aw e];simp[fI,upd,show k≠i from fun h=>e h.symm]
theorem xh (n:Nat):madeCells #[Value.bool false] n=fI n (fun _=>false):=by
 apply Array.ext
 ·simp[fI,madeCells]
 ·intro k a b;simp[fI,madeCells,Nat.mod_one]
structure tO (w:World)(so:Value)(n:Nat)(S:Nat->List Nat):Prop where
 form: ∃p c,so= .slice p n c/\ ∀i,i<n-> ∃(g o:Nat) (v:Value),p=some ⟨g,o,none⟩/\w.cell? (ae g (o+i))=some v/\fk w v ((S i).map fun k:Nat=>(k:Int))
 lt: ∀i,∀k∈S i,k<n
theorem tO.below {w d:World}{b:Value}{n:Nat}{S:Nat->List Nat}(h:tO w b n S)(a:ao w d):tO d b n S:=by
 obtain⟨p,c,f,j⟩:=h.form;refine⟨⟨p,c,f,fun i hi=> ?_⟩,h.lt⟩;obtain⟨g,o,v,e,k,l⟩:=j i hi;exact⟨g,o,v,e,aj a k,l.below a⟩
structure FSt (w:World)(n:Nat)(so:Value)(m:Nat->Bool)(wr:World):Prop where
 bel:ao w wr
 b1:wr.heap[w.heap.size]? =ah #[so] 51
 marks:wr.heap[w.heap.size+1]? =ah (fI n m) 4
 b2:wr.heap[w.heap.size+1+1]? =ah #[.slice (some (ae (w.heap.size+1) 0)) n n] 68
 b3:wr.heap[w.heap.size+1+1+1]? =ah #[.func (.func 82) #[] #[ab w.heap.size 0,ab (w.heap.size+1+1) 0,ab (w.heap.size+1+1+1) 0]] 101
theorem FSt.set {w wr:World}{n:Nat}{b:Value}{m:Nat->Bool}(h:FSt w n b m wr)(i:Nat):FSt w n b (upd m i) (wr.setCell ⟨w.heap.size+1,i,none⟩ (.bool true)):=by
 have a: ∀q,q≠w.heap.size+1->(wr.setCell ⟨w.heap.size+1,i,none⟩ (.bool true)).heap[q]? =wr.heap[q]? :=fun q c=>aM wr ⟨w.heap.size+1,i,none⟩ q _ c;refine⟨h.bel.setCell (by show w.heap.size<=w.heap.size+1;omega) _,(a _ (by omega)).trans h.b1,?_,(a _ (by omega)).trans h.b2,(a _ (by omega)).trans h.b3⟩;rw[<-zd];exact aY wr (w.heap.size+1) i _ _ _ h.marks
def tP (S:Nat->List Nat)(f:Nat)(m:Nat->Bool)(l:List Nat):Nat->Bool:=l.foldl (fun m n=>if m n=true then m else fol S f (upd m n) n) m
def MP (w:World)(n:Nat)(a:Value)(S:Nat->List Nat)(f:Nat)(m:Nat->Bool)(r:Nat)(t:Value)(wr:World):Prop:= ∃j:Nat,t=ag (j:Int)/\j<=(S r).length/\(∀k,m k=true->tP S f m ((S r).take j) k=true)/\FSt w n a (tP S f m ((S r).take j)) wr
def Ty (w:World)(n:Nat)(b:Value)(a:Nat->Bool)(e:Ending)(c:World):Prop:=e= .returned (.tuple #[])/\FSt w n b a c
theorem ze (w:World)(H:Value)(n:Nat)(S:Nat->List Nat)(F:tO w H n S)(hn:n<9223372036854775808): ∀(f:Nat) (m:Nat->Bool) (r:Nat) (wr:World),FSt w n H m wr->r<n->unm m n+1<=f->
  Calls prog 82 #[ag (r:Int),ab w.heap.size 0,ab (w.heap.size+1+1) 0,ab (w.heap.size+1+1+1) 0] wr (Ty w n H (fol S f m r))
 |0,_,_,_,_,_,h=>by omega
 |f+1,m,r,wr,I,hr,hu=>by
  have ih:=ze w H n S F hn f;obtain⟨p,c,rfl,u⟩:=F.form;obtain⟨g,o,v,hp,z,C⟩:=u r hr;subst hp;obtain⟨pv,cv,rfl,K,d⟩:=C;have B:=F.lt r;rw[bm]at K;rw[bm]at z;have O:T4 (∀(j k:Nat),(S r)[j]? =some k-> ∃g o:Nat,pv=some ⟨g,o,none⟩/\w.cell? (ae g (o+j))=some (ag (k:Int))):=fun j k G=>d j _ (by rw[bf,G];rfl);have P:T4 (∀j k:Nat,(S r)[j]? =some k->k<n):=fun j k G=>B k (aL G);have Q:T4 (fol S (f+1) m r=tP S f m (S r)):=rfl;have d0:=aj I.bel z;have k1:=ak 0 I.b1;have aa:(0:Int)<=(r:Int):=(by omega);have ac:(r:Int)<(n:Int):=(by omega);go_enter func82,ntmps82;go_wp2_with fail;go_loopw [6,12] (fun _ t wr=>MP w n (.slice (some (ae g o)) n c) S f m r t wr) (fun _ t _=>(S r).length-(intOf t).toNat);case atStart=>exact⟨0,rfl,by omega,fun k V=>V,I⟩
  case round=>
   obtain⟨j,rfl,G,x,b⟩:=hrel;have U:(0:Int)<=(j:Int):=(by omega);by_cases J:j<(S r).length
   ·have A:(j:Int)<((S r).length:Int):=(by omega);obtain⟨k,l⟩: ∃k,(S r)[j]? =some k:=⟨(S r)[j],az J⟩
    have s:=P.o j k l;obtain⟨g',o',L,c0⟩:=O.o j k l;subst L;have e0:=aj b.bel c0
    have a:tP S f m ((S r).take (j+1))=if tP S f m ((S r).take j) k=true then tP S f m ((S r).take j) else fol S f (upd (tP S f m ((S r).take j)) k) k:=by
     unfold tP;rw[fF,l,Option.toList_some,List.foldl_append];rfl
    have k2:=ak 0 b.b2;have k3:=ak 0 b.b3;have N:=(aW _ _ k _ _ _ b.marks).trans (oh s);have kz:=bu _ _ k _ _ b.marks;have X:(0:Int)<=(k:Int):=(by omega);have Y:(k:Int)<(n:Int):=(by omega);have Z:=yZ x n;generalize hM:tP S f m ((S r).take j)=M at*;cases hMk:M k with
    |true=>
     rw[hMk]at N;rw[ax hMk]at a;have y:T4 (MP w n (.slice (some (ae g o)) n c) S f m r (ag ((j+1:Nat):Int)) wr):=⟨j+1,rfl,by omega,by rw[a];exact x,by rw[a];exact b⟩
     go_wp2_with fail;go_roundw;case rel=>exact y.o
     case measure=>simp[intOf];omega
    |false=>
     rw[hMk]at N;rw[aw (by rw[hMk];decide)]at a;have ad:=AT hMk n s;have i:=b.set k;have R:=ih (upd M k) k _ i s (by omega);have af:=ak 0 i.b3;have E: ∀q,m q=true->fol S f (upd M k) k q=true:=fun q hq=>(Dx F.lt f (upd M k) k (by omega)).up q (by simp[upd,x q hq]);have y:T4 (∀W,FSt w n (.slice (some (ae g o)) n c) (fol S f (upd M k) k) W->MP w n (.slice (some (ae g o)) n c) S f m r (ag ((j+1:Nat):Int)) W):=fun W T=>⟨j+1,rfl,by omega,by rw[a];exact E,by rw[a];exact T⟩
     go_wp2_with fail;refine R.mono ?_;rintro e w2 ⟨rfl,D⟩;go_wp2_with fail;go_roundw;case rel=>exact y.o _ D
     case measure=>simp[intOf];omega
   ·have A: ¬(j:Int)<((S r).length:Int):=(by omega)
    have y:T4 (FSt w n (.slice (some (ae g o)) n c) (fol S (f+1) m r) wr):=by
     have e:(S r).take j=S r:=da (by omega);rw[e]at b;show FSt _ _ _ _ _;rw[Q.o];exact b
    go_wp2_with fail;refine aX (eN rfl _ _ _) rfl ?_;exact⟨rfl,y.o⟩
def Ox (n:Nat)(m:Nat->Bool)(w:World)(e:Ending)(a:World):Prop:= ∃g,e= .returned (.slice (some (ae g 0)) n n)/\a.heap[g]? =ah (fI n m) 4/\ao w a
theorem Dz:(prog.info? 4).map (fun i=>(i.zero,i.size,i.bytes))=some (some (.bool false),1,1):=by kernel_rfl
theorem BA:prog.underlying 68=some (.slice 4):=by kernel_rfl
theorem xi (v:Value)(n:Nat)(S:Nat->List Nat)(r:Nat)(w:World)(t:tO w v n S)(I:n<=1000000)(F:r<n):
  Calls prog 44 #[v,ag (r:Int)] w (Ox n (fol S (n+1) (fun _=>false) r) w):=by
 obtain⟨p,c,rfl,_⟩:=t.form;have g:=run_make_row' (P:=prog) 68 4 (.bool false) 1 BA Dz rfl .i64 .i64 n (by omega) (by omega)
 have J:unm (fun _=>false) n<=n:=by
  have: ∀n,unm (fun _=>false) n=n:=by
   intro n;induction n with
   |zero=>rfl
   |succ n G=>simp[unm,G];omega
  rw[this];omega
 rw[xh]at g;have k:=am w (.cells #[.slice p n c] 51);have l:=k.alloc k.size (.cells (fI n (fun _=>false)) 4);have m:=l.alloc l.size (.cells #[.slice (some (ae (w.heap.size+1) 0)) n n] 68);have y:=m.alloc m.size (.cells #[.nilFunc] 101);have u:(w.alloc (.cells #[.slice p n c] 51)).heap.size=w.heap.size+1:=by simp
 have j:((w.alloc (.cells #[.slice p n c] 51)).alloc (.cells (fI n (fun _=>false)) 4)).heap.size=w.heap.size+1+1:=by simp
 have d:(((w.alloc (.cells #[.slice p n c] 51)).alloc (.cells (fI n (fun _=>false)) 4)).alloc (.cells #[.slice (some (ae (w.heap.size+1) 0)) n n] 68)).heap.size=w.heap.size+1+1+1:=by simp
 have z:((((w.alloc (.cells #[.slice p n c] 51)).alloc (.cells (fI n (fun _=>false)) 4)).alloc (.cells #[.slice (some (ae (w.heap.size+1) 0)) n n] 68)).alloc (.cells #[.nilFunc] 101)).heap[w.heap.size]? =ah #[.slice p n c] 51:=(dD _ _ _ (by rw[d];omega)).trans ((dD _ _ _ (by rw[j];omega)).trans ((dD _ _ _ (by rw[u];omega)).trans (aB w _)))
 have A:((((w.alloc (.cells #[.slice p n c] 51)).alloc (.cells (fI n (fun _=>false)) 4)).alloc (.cells #[.slice (some (ae (w.heap.size+1) 0)) n n] 68)).alloc (.cells #[.nilFunc] 101)).heap[w.heap.size+1]? =ah (fI n (fun _=>false)) 4:=by
  refine(dD _ _ _ (by rw[d];omega)).trans ((dD _ _ _ (by rw[j];omega)).trans ?_);have:=aB (w.alloc (.cells #[.slice p n c] 51)) (.cells (fI n (fun _=>false)) 4);rw[u]at this;exact this
 have B:((((w.alloc (.cells #[.slice p n c] 51)).alloc (.cells (fI n (fun _=>false)) 4)).alloc (.cells #[.slice (some (ae (w.heap.size+1) 0)) n n] 68)).alloc (.cells #[.nilFunc] 101)).heap[w.heap.size+1+1]? =ah #[.slice (some (ae (w.heap.size+1) 0)) n n] 68:=by
  refine(dD _ _ _ (by rw[d];omega)).trans ?_;have:=aB ((w.alloc (.cells #[.slice p n c] 51)).alloc (.cells (fI n (fun _=>false)) 4)) (.cells #[.slice (some (ae (w.heap.size+1) 0)) n n] 68);rw[j]at this;exact this
 have f:((((w.alloc (.cells #[.slice p n c] 51)).alloc (.cells (fI n (fun _=>false)) 4)).alloc (.cells #[.slice (some (ae (w.heap.size+1) 0)) n n] 68)).alloc (.cells #[.nilFunc] 101)).heap[w.heap.size+1+1+1]? =ah #[.nilFunc] 101:=by
  have:=aB (((w.alloc (.cells #[.slice p n c] 51)).alloc (.cells (fI n (fun _=>false)) 4)).alloc (.cells #[.slice (some (ae (w.heap.size+1) 0)) n n] 68)) (.cells #[.nilFunc] 101);rw[d]at this;exact this
 have N:=ak 0 f;have M:=bu _ _ 0 _ _ f;generalize C:((((w.alloc (.cells #[.slice p n c] 51)).alloc (.cells (fI n (fun _=>false)) 4)).alloc (.cells #[.slice (some (ae (w.heap.size+1) 0)) n n] 68)).alloc (.cells #[.nilFunc] 101))=b at*;have i: ∀q,q≠w.heap.size+1+1+1->(b.setCell ⟨w.heap.size+1+1+1,0,none⟩ (.func (.func 82) #[] #[ab w.heap.size 0,ab (w.heap.size+1+1) 0,ab (w.heap.size+1+1+1) 0])).heap[q]? =b.heap[q]? :=fun q E=>aM b ⟨w.heap.size+1+1+1,0,none⟩ q _ E
 have a:FSt w n (.slice p n c) (fun _=>false) (b.setCell ⟨w.heap.size+1+1+1,0,none⟩ (.func (.func 82) #[] #[ab w.heap.size 0,ab (w.heap.size+1+1) 0,ab (w.heap.size+1+1+1) 0])):=
  ⟨y.setCell (by show w.heap.size<=w.heap.size+1+1+1;omega) _,(i _ (by omega)).trans z,(i _ (by omega)).trans A,(i _ (by omega)).trans B,aY b (w.heap.size+1+1+1) 0 _ _ _ f⟩
 have cF:=ze w (.slice p n c) n S t (by omega) (n+1) (fun _=>false) r _ a F (by omega);have L:=ak 0 a.b3;have D: ∀(s:Fn) (first cap:Array Value) (w:World),(Instr.makeFunc s first cap).run prog w= .ok (.func s first cap) w:=fun _ _ _ _=>rfl;go_enter func44,ntmps44;go_wp2_with fail;refine cF.mono ?_;rintro e H ⟨rfl,a⟩;have K:=ak 0 a.b2;have x:T4 (Ox n (fol S (n+1) (fun _=>false) r) w (.returned (.slice (some (ae (w.heap.size+1) 0)) n n)) H):=⟨_,rfl,a.marks,a.bel⟩
 go_wp2_with fail;go_ret;exact x.o
end Go.Proofs.YtpdoienkhgnceaaGreatDoor
