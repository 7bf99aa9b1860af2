/- Texts of the proof. -/
import Derived.Test.YtlkehieagdkgiaaGreatDoorPe17
set_option maxRecDepth 100000
set_option maxHeartbeats 8000000
namespace Go.Proofs.YtlkehieagdkgiaaGreatDoor
open Go.Proofs.Tryz Go.RowKit Lx Vx Mx Msk
namespace Lx
def kidsP (k:Int):Nat:=if k=4\/k=5\/k=9 then 1 else if k=6\/k=7\/k=8 then 2 else 0
def rangeP (k a b:Int):Bool:=
 if k=3 then decide (0<=a/\a<b/\b<=1440)
 else if k=4 then decide (1<=a/\a<128)
 else if k=5 then decide (0<=a/\a<=b/\b<146097)
 else if k=9 then decide (a≠0/\ -1440<a/\a<1440) else true
def aloneP (e:Ex):Int:=
 if e.kind<1\/10<e.kind then 1 else if e.kids.length≠kidsP e.kind then 5 else if rangeP e.kind e.a e.b=false then 3 else if e.kind=10/\Go.Proofs.YtlkehieagdkgiaaGreatDoor.namedL e.name=false then 7 else 0
def shapeP (e:Ex)(a n:Nat):Int×Nat:=
 if 600<n+1\/40<a then(4,n+1)
 else if aloneP e≠0 then(aloneP e,n+1)
 else e.kids.attach.foldl (fun b k=>if b.1≠0 then b else shapeP k.1 (a+1) b.2) (0,n+1)
 termination_by SizeOf.sizeOf e
 decreasing_by exact iZ k.2
def ii (c:List Ex)(b:Nat)(a:Int×Nat):Int×Nat:=c.foldl (fun a k=>if a.1≠0 then a else shapeP k b a.2) a
theorem kL (e:Ex)(a n:Nat):shapeP e a n=if 600<n+1\/40<a then(4,n+1) else if aloneP e≠0 then(aloneP e,n+1) else ii e.kids (a+1) (0,n+1):=by
 rw[shapeP];unfold ii;rw[<-List.foldl_attach (f:=fun(b:Int×Nat) k=>if b.1≠0 then b else shapeP k (a+1) b.2)]
theorem FL (b:Nat)(a:Int×Nat):ii [] b a=a:=rfl
theorem jX (k:Ex)(c:List Ex)(a:Nat)(b:Int×Nat):ii (k::c) a b=ii c a (if b.1≠0 then b else shapeP k a b.2):=rfl
theorem kM {c:List Ex}{b:Nat}{a:Int×Nat}(h:a.1≠0):ii c b a=a:=by
 induction c with
 |nil=>rfl
 |cons k c d=>rw[jX,aB h,d]
theorem DH {b:List Ex}{a j m:Nat}{k:Ex}(h:b[j]? =some k):ii (b.drop j) a (0,m)=ii (b.drop (j+1)) a (shapeP k a m):=by
 obtain⟨c,d⟩:=aF.1 h;rw[bJ c,d,jX,ax (by simp)]
theorem Ce: ∀(N:Nat) (e:Ex) (a n:Nat),SizeOf.sizeOf e<=N->(shapeP e a n).1=0->(shapeP e a n).2<=600
 |0,e,_,_,o,_=>by cases e;simp at o
 |N+1,e,a,n,o,h=>by
  rw[kL]at h⊢;split at h
  ·cases h
  ·rename_i m;rw[ax m];split at h
   ·rename_i i;exact absurd h i
   ·rename_i i;rw[ax i]
    have g: ∀(d:List Ex),(∀k∈d,SizeOf.sizeOf k<=N)-> ∀b:Int×Nat,b.2<=600->(ii d (a+1) b).1=0->(ii d (a+1) b).2<=600:=by
     intro d;induction d with
     |nil=>intro _ b ha _;exact ha
     |cons k d r=>
      intro f b ha c;rw[jX]at c⊢;by_cases p:b.1≠0
      ·rw[aB p]at c⊢;exact r (fun q j=>f q (bL _ j)) b ha c
      ·rw[ax p]at c⊢;refine r (fun q j=>f q (bL _ j)) _ ?_ c;by_cases l:(shapeP k (a+1) b.2).1=0
       ·exact Ce N k (a+1) b.2 (f k bq) l
       ·rw[kM l]at c;exact absurd c l
    exact g e.kids (fun k f=>by have:=iZ f;omega) (0,n+1) (by simp at m⊢;omega) h
theorem AD {e:Ex}{deep n:Nat}(h:(shapeP e deep n).1=0):(shapeP e deep n).2<=600:=Ce _ e deep n (aD _) h
end Lx
theorem FM (k:Int)(w:World):Calls prog 169 #[ag k] w fun e w'=>e= .returned (ag (kidsP k:Int))/\w'=w:=by
 have a: ∀(b b5 g c d f:Bool),(k==4)=b->(k==5)=b5->(k==9)=g->(k==6)=c->(k==7)=d->(k==8)=f->
   Calls prog 169 #[ag k] w fun e w'=>e= .returned (ag (if b||(b5||g) then 1 else if c||(d||f) then 2 else 0))/\w'=w:=by
  intro b b5 g c d f j l p m n o;cases b<;>cases b5<;>cases g<;>cases c<;>cases d<;>cases f<;>(go_enter func169,ntmps169;go_wp2;go_ret;exact⟨rfl,rfl⟩)
 refine(a _ _ _ _ _ _ rfl rfl rfl rfl rfl rfl).mono ?_;rintro e w' ⟨rfl,rfl⟩;refine⟨?_,rfl⟩;unfold kidsP;simp only[iC,beq_iff_eq];by_cases c1:k=4\/k=5\/k=9
 ·rw[aB c1,aB c1];rfl
 ·rw[ax c1,ax c1];by_cases i:k=6\/k=7\/k=8
  ·rw[aB i,aB i];rfl
  ·rw[ax i,ax i];rfl
theorem DK (k a b:Int)(nm:ByteArray)(p:Option Addr)(n c:Nat)(w:World):Calls prog 170 #[.agg #[ag k,ag a,ag b,.string nm,.slice p n c]] w fun e w'=>e= .returned (.bool (rangeP k a b))/\aq w w':=by
 have d:aq w (w.alloc (.cells #[ag k,ag a,ag b,.string nm,.slice p n c] 84)):=am _ _;unfold rangeP;by_cases g:k=3
 ·subst g;rw[aB rfl];by_cases c1:0<=a
  ·by_cases f:a<b
   ·by_cases m:b<=1440
    ·go_enter func170,ntmps170;go_wp2;go_ret;exact⟨by first|(simp;done)|(simp;omega),d⟩
    ·go_enter func170,ntmps170;go_wp2;go_ret;exact⟨by first|(simp;done)|(simp;omega),d⟩
   ·go_enter func170,ntmps170;go_wp2;go_ret;exact⟨by first|(simp;done)|(simp;omega),d⟩
  ·go_enter func170,ntmps170;go_wp2;go_ret;exact⟨by first|(simp;done)|(simp;omega),d⟩
 rw[ax g];have o:(k==3)=false:=bm.2 g;by_cases i:k=4
 ·subst i;rw[aB rfl];by_cases c1:1<=a
  ·by_cases f:a<128
   ·go_enter func170,ntmps170;go_wp2;go_ret;exact⟨by first|(simp;done)|(simp;omega),d⟩
   ·go_enter func170,ntmps170;go_wp2;go_ret;exact⟨by first|(simp;done)|(simp;omega),d⟩
  ·go_enter func170,ntmps170;go_wp2;go_ret;exact⟨by first|(simp;done)|(simp;omega),d⟩
 rw[ax i];have q:(k==4)=false:=bm.2 i;by_cases j:k=5
 ·subst j;rw[aB rfl];by_cases c1:0<=a
  ·by_cases f:a<=b
   ·by_cases m:b<146097
    ·go_enter func170,ntmps170;go_wp2;go_ret;exact⟨by first|(simp;done)|(simp;omega),d⟩
    ·go_enter func170,ntmps170;go_wp2;go_ret;exact⟨by first|(simp;done)|(simp;omega),d⟩
   ·go_enter func170,ntmps170;go_wp2;go_ret;exact⟨by first|(simp;done)|(simp;omega),d⟩
  ·go_enter func170,ntmps170;go_wp2;go_ret;exact⟨by first|(simp;done)|(simp;omega),d⟩
 rw[ax j];have r:(k==5)=false:=bm.2 j;by_cases l:k=9
 ·subst l;rw[aB rfl];by_cases c1:a=0
  ·subst c1;go_enter func170,ntmps170;go_wp2;go_ret;exact⟨by first|(simp;done)|(simp;omega),d⟩
  ·have t:(a !=0)=true:=(by simpa using c1);by_cases f: -1440<a
   ·by_cases m:a<1440
    ·go_enter func170,ntmps170;go_wp2;go_ret;exact⟨by first|(simp;done)|(simp;omega),d⟩
    ·go_enter func170,ntmps170;go_wp2;go_ret;exact⟨by first|(simp;done)|(simp;omega),d⟩
   ·go_enter func170,ntmps170;go_wp2;go_ret;exact⟨by first|(simp;done)|(simp;omega),d⟩
 rw[ax l];have s:(k==9)=false:=bm.2 l;go_enter func170,ntmps170;go_wp2;go_ret;exact⟨rfl,d⟩
theorem AE (s:ByteArray)(l:List UInt8)(b:s.data.toList=l)(f:l.length<=9223372036854775807)(w:World):
  Calls prog 115 #[.string s] w fun e w'=>e= .returned (.bool (namedL l))/\aq w w':=by
 by_cases a:l.length<=20
 ·exact Ht s l b (by omega) w
 ·have i:s.size=l.length:=by rw[<-b,Lib.size_eq]
  have g:s.toList.isEmpty=false:=(by rw[Lib.toList_data,b];cases l<;>simp at a⊢);have d: ¬(l.length:Int)<=20:=(by omega);have c:Rb (namedL l=false):=(by show namedL l=false;simp[namedL,a]);clear a;go_enter func115,ntmps115;go_wp2_with fail;go_ret;exact⟨by rw[c.o];rfl,aH _ _⟩
theorem Ih (e:Ex)(p:Option Addr)(c:Nat)(u:e.name.length<=9223372036854775807)(w:World):Calls prog 143 #[exV e (.slice p e.kids.length c)] w fun r w'=>r= .returned (ag (aloneP e))/\aq w w':=by
 have t:aq w (w.alloc (.cells #[ag e.kind,ag e.a,ag e.b,.string ⟨e.name.toArray⟩,.slice p e.kids.length c] 84)):=am _ _;have v:=aG w (.cells #[ag e.kind,ag e.a,ag e.b,.string ⟨e.name.toArray⟩,.slice p e.kids.length c] 84);have E:=fun w=>FM e.kind w;have cR:=fun w=>DK e.kind e.a e.b ⟨e.name.toArray⟩ p e.kids.length c w;have H:=fun w=>AE ⟨e.name.toArray⟩ e.name rfl u w;unfold aloneP exV;generalize kidsP e.kind=kp at*;generalize rangeP e.kind e.a e.b=G at*;generalize namedL e.name=nb at*;generalize e.kind=k at*;generalize e.a=a at*;generalize e.b=b at*;generalize (⟨e.name.toArray⟩:ByteArray)=nm at*;generalize e.kids.length=n at*;clear u;generalize I:(if k<1\/10<k then(1:Int) else if n≠kp then 5 else if G=false then 3 else if k=10/\nb=false then 7 else 0)=A;have l:Rb ((if k<1\/10<k then(1:Int) else if n≠kp then 5 else if G=false then 3 else if k=10/\nb=false then 7 else 0)=A):=I;clear I;by_cases c1:k<1
 ·have f:Rb (A=1):=by show _=_;rw[<-l.o,aB (.inl c1)]
  go_enter func143,ntmps143;go_wp2_with fail;go_ret;exact⟨by rw[f.o];rfl,t⟩
 by_cases L:10<k
 ·have f:Rb (A=1):=by show _=_;rw[<-l.o,aB (.inr L)]
  go_enter func143,ntmps143;go_wp2_with fail;go_ret;exact⟨by rw[f.o];rfl,t⟩
 have J: ¬(k<1\/10<k):=by omega
 have s:Rb (¬(k<1\/10<k)):=J;clear J;have k0:=ak 0 v;have K:=ak 3 v;have N:=ak 4 v;generalize F:w.alloc (.cells #[ag k,ag a,ag b,.string nm,.slice p n c] 84)=C at*;by_cases D:n=kp
 ·have O:((n:Int) !=(kp:Int))=false:=by simp;omega
  have z:Rb (¬n≠kp):=fun h=>h D;clear D;go_enter func143,ntmps143;go_wp2_with fail;go_quiet ((go_at_call 169;exact fF (E _)));have q:(C.drewN nq).heap[w.heap.size]? =ah #[ag k,ag a,ag b,.string nm,.slice p n c] 84:=v;have x:(C.drewN nq).cell? (ae w.heap.size 0)=some (ag k):=k0;have y:(C.drewN nq).cell? (ae w.heap.size 3)=some (.string nm):=K;have j:=du t nq;clear v k0 K N F t E;generalize C.drewN nq=T at*;cases G with
  |false=>
   have f:Rb (A=3):=(by show _=_;rw[<-l.o,ax s.o,ax z.o,aB rfl]);go_wp2_with(refine aR rfl 84 _ rfl _ rfl _ _ _ _ q fo rfl (by kernel_rfl) ?_)
   refine(cR _).mono ?_;rintro r P ⟨rfl,g⟩;have d:=aw j g;go_wp2_with fail;go_ret;exact⟨by rw[f.o];rfl,d⟩
  |true=>
   go_wp2_with(refine aR rfl 84 _ rfl _ rfl _ _ _ _ q fo rfl (by kernel_rfl) ?_)
   refine(cR _).mono ?_;rintro r P ⟨rfl,g⟩;have d:=aw j g;have R:=aj g x;have S:=aj g y;clear cR q x y g;by_cases B:k=10
   ·have M:(k==10)=true:=(by simpa using B);cases nb with
    |false=>
     have f:Rb (A=7):=(by show _=_;rw[<-l.o,ax s.o,ax z.o,ax (by decide),aB ⟨B,rfl⟩]);go_wp2_with fail;refine(H _).mono ?_;rintro r Q ⟨rfl,m⟩;have i:=aw d m;go_wp2_with fail;go_ret;exact⟨by rw[f.o];rfl,i⟩
    |true=>
     have f:Rb (A=0):=(by show _=_;rw[<-l.o,ax s.o,ax z.o,ax (by decide),ax (by simp)]);go_wp2_with fail;refine(H _).mono ?_;rintro r Q ⟨rfl,m⟩;have i:=aw d m;go_wp2_with fail;go_ret;exact⟨by rw[f.o];rfl,i⟩
   ·have M:(k==10)=false:=(by simpa using B);have f:Rb (A=0):=(by show _=_;rw[<-l.o,ax s.o,ax z.o,ax (by decide),ax (fun h=>B h.1)]);go_wp2_with fail;go_ret;exact⟨by rw[f.o];rfl,d⟩
 ·have O:((n:Int) !=(kp:Int))=true:=by simp;omega
  have f:Rb (A=5):=(by show _=_;rw[<-l.o,ax s.o,aB D]);go_enter func143,ntmps143;go_wp2_with fail;go_quiet ((go_at_call 169;exact fF (E _)));have j:=du t nq;go_wp2_with fail;go_ret;exact⟨by rw[f.o];rfl,j⟩
section
variable {B:Nat->Prop} {gn:Nat}
def fP (B:Nat->Prop):Nat->World->Value->List Ex->Prop
 |0,_,sl,e=>e=[]/\ ∃p c,sl= .slice p 0 c
 |d+1,w,sl,e=>(e=[]/\ ∃p c,sl= .slice p 0 c)\/ ∃g o c:Nat,B g/\sl= .slice (some (ae g o)) e.length c/\e.length<9223372036854775808/\ ∀(j:Nat) (k:Ex),e[j]? =some k->k.name.length<=9223372036854775807/\ ∃f:Value,
  w.cell? (ae g (o+j*5))=some (ag k.kind)/\w.cell? (ae g (o+j*5+1))=some (ag k.a)/\w.cell? (ae g (o+j*5+2))=some (ag k.b)/\
  w.cell? (ae g (o+j*5+3))=some (.string ⟨k.name.toArray⟩)/\w.cell? (ae g (o+j*5+4))=some f/\fP B d w f k.kids
theorem fP.kept {w w':World}(l: ∀g,B g->g<w.heap.size->w'.heap[g]? =w.heap[g]?): ∀{d:Nat} {sl:Value} {b:List Ex},fP B d w sl b->fP B d w' sl b
 |0,_,_,h=>h
 |d+1,sl,b,h=>by
  rcases h with h|⟨g,o,c,f,v,t,s⟩
  ·exact .inl h
  ·refine .inr ⟨g,o,c,f,v,t,fun j k q=> ?_⟩;obtain⟨u,x,c0,c1,m,n,p,r⟩:=s j k q;have e:w'.heap[g]? =w.heap[g]? :=l g f (cZ c0);have a: ∀i,w'.cell? (ae g i)=w.cell? (ae g i):=fun i=>et e;exact⟨u,x,(a _).trans c0,(a _).trans c1,(a _).trans m,(a _).trans n,(a _).trans p,fP.kept l r⟩
theorem fP.mono {b:Nat->Prop}(e: ∀g,B g->b g): ∀{d:Nat} {w:World} {sl:Value} {a:List Ex},fP B d w sl a->fP b d w sl a
 |0,_,_,_,h=>h
 |d+1,w,sl,a,h=>by
  rcases h with h|⟨g,o,c,m,t,q,p⟩
  ·exact .inl h
  ·refine .inr ⟨g,o,c,e g m,t,q,fun j k n=> ?_⟩;obtain⟨s,u,c0,c1,f,i,l,r⟩:=p j k n;exact⟨s,u,c0,c1,f,i,l,fP.mono e r⟩
theorem fP.form {d:Nat}{w:World}{sl:Value}{a:List Ex}(h:fP B d w sl a): ∃p c,sl= .slice p a.length c:=by
 cases d with
 |zero=>
  obtain⟨rfl,p,c,rfl⟩:=h;exact⟨p,c,rfl⟩
 |succ d=>
  rcases h with⟨rfl,p,c,rfl⟩|⟨g,o,c,_,b,_⟩
  ·exact⟨p,c,rfl⟩
  ·exact⟨_,c,b⟩
def mu (w:World)(gn n:Nat):Prop:=w.heap[gn]? =ah #[ag (n:Int)] 3
def Cf (gn:Nat)(w:World)(x:Int×Nat)(r:Ending)(w':World):Prop:=r= .returned (ag x.1)/\mu w' gn x.2/\bp gn w w'
def LZ (f:FuncId)(gn:Nat)(w:World)(sl:Value)(e:List Ex):Prop:=
 ∃g o c:Nat,sl= .slice (some (ae g o)) e.length c/\g≠gn/\e.length<9223372036854775808/\ ∀(j:Nat) (k:Ex),e[j]? =some k-> ∃(p:Option Addr) (q:Nat),
  w.cell? (ae g (o+j*5))=some (ag k.kind)/\w.cell? (ae g (o+j*5+1))=some (ag k.a)/\w.cell? (ae g (o+j*5+2))=some (ag k.b)/\
  w.cell? (ae g (o+j*5+3))=some (.string ⟨k.name.toArray⟩)/\w.cell? (ae g (o+j*5+4))=some (.slice p k.kids.length q)/\
  ∀(W:World) (d n:Nat),bp gn w W->mu W gn n->n<=600->d<=41->Calls prog f #[.agg #[ag k.kind,ag k.a,ag k.b,.string ⟨k.name.toArray⟩,.slice p k.kids.length q],ag (d:Int),ab gn 0] W (Cf gn W (shapeP k d n))
theorem Ii (f:FuncId)(D: ∀k,B k->k≠gn)
  (l: ∀(e:Ex) (p:Option Addr) (c:Nat) (w:World) (i n:Nat),(e.kids=[]\/LZ f gn w (.slice p e.kids.length c) e.kids)->e.name.length<=9223372036854775807->mu w gn n->n<=600->i<=41->Calls prog f #[.agg #[ag e.kind,ag e.a,ag e.b,.string ⟨e.name.toArray⟩,.slice p e.kids.length c],ag (i:Int),ab gn 0] w (Cf gn w (shapeP e i n))):
  ∀(d:Nat) (e:Ex) (sl:Value) (w:World) (i n:Nat),fP B d w sl e.kids->e.name.length<=9223372036854775807->mu w gn n->n<=600->i<=41->Calls prog f #[exV e sl,ag (i:Int),ab gn 0] w (Cf gn w (shapeP e i n)):=by
 intro d;induction d with
 |zero=>
  intro e sl w i n s y u m q;obtain⟨p,c,rfl⟩:=s.form;exact l e p c w i n (.inl s.1) y u m q
 |succ d O=>
  intro e sl w i n s y u m q;obtain⟨p,c,A⟩:=s.form;subst A;refine l e p c w i n ?_ y u m q;rcases s with⟨h,_⟩|⟨g,o,E,K,N,M,t⟩
  ·exact .inl h
  ·refine .inr ⟨g,o,E,N,D g K,M,fun j k L=> ?_⟩;obtain⟨z,R,c0,c1,F,G,H,r⟩:=t j k L;obtain⟨P,Q,rfl⟩:=r.form;exact⟨P,Q,c0,c1,F,G,H,fun W i n J I m q=>O k _ W i n (r.kept fun C v x=>J.block C x (fun e=>D C v (aN e))) z I m q⟩
theorem FN (e:Ex)(p:Option Addr)(c:Nat)(w:World)(d n:Nat)(hk:e.kids=[]\/LZ 116 gn w (.slice p e.kids.length c) e.kids)(hn:e.name.length<=9223372036854775807)(hc:mu w gn n)(h6:n<=600)(hd:d<=41):
  Calls prog 116 #[.agg #[ag e.kind,ag e.a,ag e.b,.string ⟨e.name.toArray⟩,.slice p e.kids.length c],ag (d:Int),ab gn 0] w (Cf gn w (shapeP e d n)):=by
 have an:=aI hc;have H:=am w (.cells #[ag e.kind,ag e.a,ag e.b,.string ⟨e.name.toArray⟩,.slice p e.kids.length c] 84);have a0:=aG w (.cells #[ag e.kind,ag e.a,ag e.b,.string ⟨e.name.toArray⟩,.slice p e.kids.length c] 84);have z:=(H.block _ an).trans hc;generalize a9:w.alloc (.cells #[ag e.kind,ag e.a,ag e.b,.string ⟨e.name.toArray⟩,.slice p e.kids.length c] 84)=E at*;have z0:=ak 0 z;have y0:=bo _ _ 0 _ _ z;have J:(E.setCell ⟨gn,0,none⟩ (ag ((n+1:Nat):Int))).heap[gn]? =ah #[ag ((n+1:Nat):Int)] 3:=aY _ _ 0 _ _ _ z;have D:=(aO E ⟨gn,0,none⟩ w.heap.size (ag ((n+1:Nat):Int)) (by show w.heap.size≠gn;omega)).trans a0;have s:=(bp.of_below (g:=gn) H).trans (bp.set E gn 0 (ag ((n+1:Nat):Int)));have ei:(n:Int)+1=((n+1:Nat):Int):=by omega
 have a8:(n:Int)<=600:=by omega
 have q1:=ak 0 J;have q4:=ak 4 D;have U:=fun w=>Ih e p c hn w;unfold exV at U;generalize hX:shapeP e d n=X;rw[kL]at hX;have S:Rb ((if 600<n+1\/40<d then(4,n+1) else if aloneP e≠0 then(aloneP e,n+1) else ii e.kids (d+1) (0,n+1))=X):=hX;have R:Rb (mu (E.setCell ⟨gn,0,none⟩ (ag ((n+1:Nat):Int))) gn (n+1)):=J;by_cases c1:600<n+1
 ·have q:Rb (X=(4,n+1)):=by show _=_;rw[<-S.o,aB (.inl c1)]
  have aa:(600:Int)<((n+1:Nat):Int):=(by omega);generalize ((n+1:Nat):Int)=Q at*;go_enter func116,ntmps116;go_wp2_with fail;go_ret;rw[q.o];exact⟨rfl,R.o,s⟩
 have aa: ¬(600:Int)<((n+1:Nat):Int):=by omega
 by_cases c2:40<d
 ·have q:Rb (X=(4,n+1)):=by show _=_;rw[<-S.o,aB (.inr c2)]
  have ac:(40:Int)<(d:Int):=(by omega);generalize ((n+1:Nat):Int)=Q at*;go_enter func116,ntmps116;go_wp2_with fail;go_ret;rw[q.o];exact⟨rfl,R.o,s⟩
 have ac: ¬(40:Int)<(d:Int):=by omega
 by_cases T:aloneP e=0
 ·have l:=S.o;rw[ax (by omega),ax (by simpa using T)]at l;have HS:Rb (ii (e.kids.drop 0) (d+1) (0,n+1)=X):=l;rw[T]at U;have au:n+1<=600:=(by omega);generalize aw:((n+1:Nat):Int)=Q at*;generalize az:E.setCell ⟨gn,0,none⟩ (ag Q)=w1 at*;go_enter func116,ntmps116;go_wp2_with(refine aR rfl 84 _ rfl _ rfl _ _ _ _ D fo rfl (by kernel_rfl) ?_)
  refine(U _).mono ?_;rintro r Z ⟨rfl,f⟩;have A:=s.trans (bp.of_below f);have ad:mu Z gn (n+1):=ai f R.o;have aD:=aj f q4;have v:Rb (mu Z gn (n+1)):=ad;go_wp2_with fail;go_loopw [32] (fun t wr=> ∃j m:Nat,t=ag (j:Int)/\j<=e.kids.length/\ii (e.kids.drop j) (d+1) (0,m)=X/\m<=600/\mu wr gn m/\bp gn w wr) (fun t _=>e.kids.length-(intOf t).toNat);case atStart=>exact⟨0,n+1,rfl,by omega,HS.o,au,v.o,A⟩
  case round=>
   obtain⟨j,m,rfl,hj,x,hm,K,B⟩:=hrel;have a7:(0:Int)<=(j:Int):=(by omega);by_cases C:j<e.kids.length
   ·have P:(j:Int)<(e.kids.length:Int):=(by omega);obtain⟨k,L⟩: ∃k,e.kids[j]? =some k:=⟨e.kids[j],ay C⟩
    rw[DH L]at x;have ar:e.kids≠[]:=fun h=>(by rw[h]at C;simp at C);obtain⟨g,o,c',av,ao,a5,N⟩:=hk.resolve_left ar;obtain⟨W,V,d0,d1,d2,d3,d4,a3⟩:=N j k L;have eb:wr.heap[g]? =w.heap[g]? :=B.block g (cZ d0) (fun e=>ao (aN e));have G: ∀i,wr.cell? (ae g i)=w.cell? (ae g i):=fun i=>et eb;have f0:=(G _).trans d0;have f1:=(G _).trans d1;have f2:=(G _).trans d2;have f3:=(G _).trans d3;have f4:=(G _).trans d4;have I:aq wr (wr.alloc (.cells #[ag k.kind,ag k.a,ag k.b,.string ⟨k.name.toArray⟩,.slice W k.kids.length V] 84)):=am _ _;have a1:=aG wr (.cells #[ag k.kind,ag k.a,ag k.b,.string ⟨k.name.toArray⟩,.slice W k.kids.length V] 84);have M:=B.trans (bp.of_below I);have af:mu (wr.alloc (.cells #[ag k.kind,ag k.a,ag k.b,.string ⟨k.name.toArray⟩,.slice W k.kids.length V] 84)) gn m:=ai I K;have cR:=a3 _ (d+1) m M af hm (by omega);have a6:(d:Int)+1=((d+1:Nat):Int):=(by omega);have a4:(d:Int)<=40:=(by omega);have O:=fun h=>AD (e:=k) (deep:=d+1) (n:=m) h;injection av with e1 e2 e3;subst e1;subst e3;have F:Rb (ii (e.kids.drop (j+1)) (d+1) (shapeP k (d+1) m)=X):=x;generalize shapeP k (d+1) m=Y at*;generalize ((d+1:Nat):Int)=dv at*;generalize aA:wr.alloc (.cells #[ag k.kind,ag k.a,ag k.b,.string ⟨k.name.toArray⟩,.slice W k.kids.length V] 84)=wB at*;obtain⟨y1,y2⟩:=Y;go_wp2_with(refine aR rfl 84 _ rfl _ rfl _ _ _ _ a1 fo rfl (by kernel_rfl) ?_)
    refine cR.mono ?_;rintro r w3 ⟨rfl,y,ap⟩;have u:=M.trans ap;dsimp only at y O⊢;by_cases hy:y1=0
    ·subst hy;have a2:=O rfl;go_wp2_with fail;go_roundw;case rel=>exact⟨j+1,y2,by go_num,by omega,F.o,a2,y,u⟩
     case measure=>simp[intOf];omega
    ·have aC:(y1 !=0)=true:=(by simpa using hy);have q:Rb (X=(y1,y2)):=(by show _=_;rw[<-F.o,kM hy]);go_wp2_with fail;go_ret;rw[q.o];exact⟨rfl,y,u⟩
   ·have P: ¬(j:Int)<(e.kids.length:Int):=(by omega);have q:Rb (X=(0,m)):=(by show _=_;rw[<-x,List.drop_eq_nil_of_le (by omega)];rfl);go_wp2_with fail;go_ret;rw[q.o];exact⟨rfl,K,B⟩
 ·have l:=S.o;rw[ax (by omega),aB T]at l;have q:Rb (X=(aloneP e,n+1)):=l.symm;have n3:(aloneP e !=0)=true:=(by simpa using T);generalize aloneP e=al at*;generalize aw:((n+1:Nat):Int)=Q at*;generalize az:E.setCell ⟨gn,0,none⟩ (ag Q)=w1 at*;go_enter func116,ntmps116;go_wp2_with(refine aR rfl 84 _ rfl _ rfl _ _ _ _ D fo rfl (by kernel_rfl) ?_)
  refine(U _).mono ?_;rintro r Z ⟨rfl,f⟩;have A:=s.trans (bp.of_below f);have v:Rb (mu Z gn (n+1)):=ai f R.o;go_wp2_with fail;go_ret;rw[q.o];exact⟨rfl,v.o,A⟩
theorem Ij (f: ∀k,B k->k≠gn)(d:Nat)(e:Ex)(sl:Value)(w:World)(a n:Nat)(j:fP B d w sl e.kids)(l:e.name.length<=9223372036854775807)(g:mu w gn n)(b:n<=600)(i:a<=41):
 Calls prog 116 #[exV e sl,ag (a:Int),ab gn 0] w (Cf gn w (shapeP e a n)):=Ii _ f (fun e p c w a n=>FN e p c w a n) d e sl w a n j l g b i
end
theorem Cg: ∀(c:List (Ru×Value)) (j:Nat) (p:Ru×Value),c[j]? =some p->(lC c)[j*6]? =some (.string ⟨p.1.1.toArray⟩)/\(lC c)[j*6+1]? =some (ag p.1.2.kind)/\(lC c)[j*6+2]? =some (ag p.1.2.a)/\(lC c)[j*6+3]? =some (ag p.1.2.b)/\(lC c)[j*6+4]? =some (.string ⟨p.1.2.name.toArray⟩)/\(lC c)[j*6+5]? =some p.2
 |[],j,p,h=>by simp at h
 |q::c,0,p,h=>by
  have:q=p:=(by simpa using h);subst this;simp[lC]
 |q::c,j+1,p,h=>by
  have:=Cg c j p (by simpa using h);have e:(j+1)*6=j*6+1+1+1+1+1+1:=(by omega);rw[e];simpa[lC] using this
def Ch (w:World)(v:Value)(d:List (Ru×Value)):Prop:=
 (d=[]/\ ∃p c,v= .slice p 0 c)\/ ∃g o c:Nat,v= .slice (some (ae g o)) d.length c/\d.length<9223372036854775808/\ ∀(j:Nat) (p:Ru×Value),d[j]? =some p->
  w.cell? (ae g (o+j*6))=some (.string ⟨p.1.1.toArray⟩)/\w.cell? (ae g (o+j*6+1))=some (ag p.1.2.kind)/\w.cell? (ae g (o+j*6+2))=some (ag p.1.2.a)/\w.cell? (ae g (o+j*6+3))=some (ag p.1.2.b)/\
  w.cell? (ae g (o+j*6+4))=some (.string ⟨p.1.2.name.toArray⟩)/\w.cell? (ae g (o+j*6+5))=some p.2
theorem Ch.below {w w':World}{v:Value}{b:List (Ru×Value)}(h:Ch w v b)(a:aq w w'):Ch w' v b:=by
 rcases h with h|⟨g,o,c,n,m,k⟩
 ·exact .inl h
 ·refine .inr ⟨g,o,c,n,m,fun j p l=> ?_⟩;obtain⟨c0,c1,d,e,f,i⟩:=k j p l;exact⟨aj a c0,aj a c1,aj a d,aj a e,aj a f,aj a i⟩
theorem Ci {w:World}{d:Nat}{v:Value}{b:List (Ru×Value)}(h:w.ownsRow d 86 6 v b.length (lC b))(i:b.length<9223372036854775808):Ch w v b:=by
 by_cases e:b.length=0
 ·obtain⟨p,c,rfl⟩:=cg h;exact .inl ⟨iu.1 e,p,c,by rw[e]⟩
 ·obtain⟨g,cap,k,a⟩:=ub h (by omega);refine .inr ⟨g,0,cap,k,i,fun j p f=> ?_⟩;obtain⟨f0,f1,f2,f3,f4,f5⟩:=Cg b j p f;rw[cY];exact⟨a _ _ f0,a _ _ f1,a _ _ f2,a _ _ f3,a _ _ f4,a _ _ f5⟩
namespace Lx
def ruleP (u:Ru):Int:=if Go.Proofs.YtlkehieagdkgiaaGreatDoor.namedL u.1=false then 7 else(shapeP u.2 1 0).1
def jR:List Ru->Nat->Int×Nat
 |[],_=>(0,0)
 |u::l,i=>if ruleP u≠0 then(ruleP u,i) else jR l (i+1)
def gC (l:List Ru):Int×Nat:=if 40<l.length then(5,0) else jR l 0
theorem DL {l:List Ru}{j:Nat}{u:Ru}(h:l[j]? =some u):jR (l.drop j) j=if ruleP u≠0 then(ruleP u,j) else jR (l.drop (j+1)) (j+1):=by
 obtain⟨a,b⟩:=aF.1 h;rw[bJ a,b];rfl
end Lx
def qX (w:World)(p:Ru×Value):Prop:=p.1.1.length<=9223372036854775807/\p.1.2.name.length<=9223372036854775807/\ ∃d,fP (fun k=>k<w.heap.size) d w p.2 p.1.2.kids
theorem qX.below {w w':World}{p:Ru×Value}(h:qX w p)(a:aq w w'):qX w' p:=by
 obtain⟨b,c,d,e⟩:=h;exact⟨b,c,d,(e.kept fun g _ i=>a.block g i).mono fun g f=>aU f a.size⟩
structure InR (w:World)(v:Value)(us:List (Ru×Value)):Prop where
 row:Ch w v us
 len:us.length<9223372036854775808
 all: ∀p∈us,qX w p
theorem InR.below {w w':World}{v:Value}{b:List (Ru×Value)}(h:InR w v b)(a:aq w w'):InR w' v b:=⟨h.row.below a,h.len,fun p c=>(h.all p c).below a⟩
theorem nt {c:Func}(s:Nat)(h:c.results= #[ResultVar.cell s 48]){R:Ending->World->Prop}{a:Act}{w:World}(g:Nat)(er at_:Int)(f:a.defers=[])(d:a.tmps.getD s undef=ab g 0)
  (i:w.heap[g]? =ah #[ag er,ag at_] 48) (e:R (.returned (.agg #[ag er,ag at_])) w):bodyPost prog c R .ret a w:=by
 refine aX (v:= .agg #[ag er,ag at_]) ?_ f e;have b:a.tmps[s]?.getD undef=ab g 0:=by simpa using d
 have j:=en (P:=prog) w g 48 48 _ _ _ i pN rfl (by kernel_rfl);simp[results,h,b,asAddr,j]
theorem Ik (u:Ru)(p:Option Addr)(c:Nat)(w:World)(h:qX w (u,.slice p u.2.kids.length c)):
  Calls prog 74 #[.agg #[.string ⟨u.1.toArray⟩,ag u.2.kind,ag u.2.a,ag u.2.b,.string ⟨u.2.name.toArray⟩,.slice p u.2.kids.length c]] w fun r w'=>r= .returned (ag (ruleP u))/\aq w w':=by
 obtain⟨I,J,d,K⟩:=h;dsimp only at I J K;have v:=am w (.cells #[.string ⟨u.1.toArray⟩,ag u.2.kind,ag u.2.a,ag u.2.b,.string ⟨u.2.name.toArray⟩,.slice p u.2.kids.length c] 86);have q:=aG w (.cells #[.string ⟨u.1.toArray⟩,ag u.2.kind,ag u.2.a,ag u.2.b,.string ⟨u.2.name.toArray⟩,.slice p u.2.kids.length c] 86);generalize S:w.alloc (.cells #[.string ⟨u.1.toArray⟩,ag u.2.kind,ag u.2.a,ag u.2.b,.string ⟨u.2.name.toArray⟩,.slice p u.2.kids.length c] 86)=O at*;have z0:=ak 0 q;have C:=AE ⟨u.1.toArray⟩ u.1 rfl I O;have H:Rb (ruleP u=if namedL u.1=false then 7 else(shapeP u.2 1 0).1):=rfl;cases hnb:namedL u.1 with
 |false=>
  have D:Rb (ruleP u=7):=(by show _=_;rw[H.o,aB hnb]);rw[hnb]at C;go_enter func74,ntmps74;go_wp2_with fail;refine C.mono ?_;rintro r i ⟨rfl,j⟩;have E:=aw v j;go_wp2_with fail;go_ret;rw[D.o];exact⟨rfl,E⟩
 |true=>
  have D:Rb (ruleP u=(shapeP u.2 1 0).1):=(by show _=_;rw[H.o,ax (by simp[hnb])]);rw[hnb]at C;have N:w.heap.size<O.heap.size:=aI q;go_enter func74,ntmps74;go_wp2_with fail;refine C.mono ?_;rintro r i ⟨rfl,j⟩;have s:=aw v j;have M:=j.size;have z:=ai j q;have x:aq i (i.alloc (.cells #[ag 0] 3)):=am _ _;have n:=aG i (.cells #[ag 0] 3);have G:=ai x z;have Q:=aI z;have y:=aw s x;generalize T:i.alloc (.cells #[ag 0] 3)=A at*;have z2:=ak 0 n;have y2:=bo _ _ 0 _ _ n;have F:mu (A.setCell ⟨i.heap.size,0,none⟩ (ag 0)) i.heap.size 0:=aY _ _ 0 _ _ _ n;have m:=(aO A ⟨i.heap.size,0,none⟩ w.heap.size (ag 0) (by show w.heap.size≠i.heap.size;omega)).trans G;have f:aq w (A.setCell ⟨i.heap.size,0,none⟩ (ag 0)):=y.setCell (p:=⟨i.heap.size,0,none⟩) (by show w.heap.size<=i.heap.size;omega) _;have cE:=Ij (B:=fun k=>k<w.heap.size) (gn:=i.heap.size) (fun k L=>by omega) d u.2 (.slice p u.2.kids.length c) (A.setCell ⟨i.heap.size,0,none⟩ (ag 0)) 1 0 (K.kept fun g P _=>f.block g P) J F (by omega) (by omega);unfold exV at cE;generalize R:A.setCell ⟨i.heap.size,0,none⟩ (ag 0)=w2 at*;have V:=ak 1 m;have W:=ak 2 m;have X:=ak 3 m;have Y:=ak 4 m;have Z:=ak 5 m;go_wp2_with fail;refine cE.mono ?_;rintro r U ⟨rfl,-,l⟩;have t:aq w U:=⟨l.os.trans f.os,l.tape.trans f.tape,l.output.trans f.output,bg f.size l.size,fun k L=>(l.block k (by have:=f.size;omega) (fun e=>by have:=aN e;omega)).trans (f.block k L)⟩
  go_wp2_with fail;go_ret;rw[D.o];exact⟨rfl,t⟩
theorem Il (e:List (Ru×Value))(v:Value)(w:World)(h:InR w v e):
  Calls prog 42 #[v] w fun r w'=>r= .returned (.agg #[ag (gC (e.map (fun p=>p.1))).1,ag ((gC (e.map (fun p=>p.1))).2:Int)])/\aq w w':=by
 have aa:=h.len
 have x: ∃p c,v= .slice p e.length c:=by
  rcases h.row with⟨rfl,p,c,S⟩|⟨g,o,c,S,_⟩
  ·exact⟨p,c,S⟩
  ·exact⟨_,c,S⟩
 obtain⟨p,c,rfl⟩:=x;have F:=am w (.cells #[ag 0,ag 0] 48);have A:=aG w (.cells #[ag 0,ag 0] 48);generalize hX:gC (e.map (fun p=>p.1))=X;have l:=hX;unfold gC at l;rw[bc]at l;have D:Rb (InR w (.slice p e.length c) e):=h;generalize ad:w.alloc (.cells #[ag 0,ag 0] 48)=wA at*;by_cases hm:40<e.length
 ·have N:(40:Int)<(e.length:Int):=by omega
  rw[aB hm]at l;subst l;go_enter func42,ntmps42;go_wp2_with(refine az rfl 48 _ _ rfl _ _ rfl rfl _ _ A (by kernel_rfl) (by simp) (by simp[Value.oneCell']) ?_)
  exact nt 2 (by kernel_rfl) w.heap.size 5 0 rfl rfl (aL _ _ _ _ _ _ A) ⟨rfl,below_setRow F (aD _) _⟩
 ·have N: ¬(40:Int)<(e.length:Int):=by omega
  rw[ax hm]at l;have HS:Rb (jR ((e.map (fun p=>p.1)).drop 0) 0=X):=l;go_enter func42,ntmps42;go_wp2_with fail;go_loopw [12] (fun t wr=> ∃j:Nat,t=ag (j:Int)/\j<=e.length/\jR ((e.map (fun p=>p.1)).drop j) j=X/\wr.heap[w.heap.size]? =ah #[ag 0,ag 0] 48/\aq w wr) (fun t _=>e.length-(intOf t).toNat);case atStart=>exact⟨0,rfl,by omega,HS.o,A,F⟩
  case round=>
   obtain⟨j,rfl,hj,m,C,f⟩:=hrel;have ab:(0:Int)<=(j:Int):=(by omega);have ac:(j:Int)<=40:=(by omega);by_cases z:j<e.length
   ·have J:(j:Int)<(e.length:Int):=(by omega);obtain⟨⟨u,sk⟩,y⟩: ∃k,e[j]? =some k:=⟨e[j],ay z⟩
    have M:(e.map (fun p=>p.1))[j]? =some u:=(by rw[a8,y];rfl);rw[DL M]at m;have I:=D.o.all _ (aM y)
    obtain⟨L,K,P⟩: ∃p c,sk= .slice p u.2.kids.length c:=by
     obtain⟨_,_,d,hd⟩:=I;exact hd.form
    subst P;rcases D.o.row with⟨h,_⟩|⟨g,o,c',Q,_,n⟩
    ·rw[h]at z;simp at z
    injection Q with e1 e2 e3;subst e1;subst e3;obtain⟨V,W,Y,Z,d4,d5⟩:=n j _ y;dsimp only at V W Y Z d4 d5;have f0:=aj f V;have f1:=aj f W;have f2:=aj f Y;have f3:=aj f Z;have f4:=aj f d4;have f5:=aj f d5;have H:aq wr (wr.alloc (.cells #[.string ⟨u.1.toArray⟩,ag u.2.kind,ag u.2.a,ag u.2.b,.string ⟨u.2.name.toArray⟩,.slice L u.2.kids.length K] 86)):=am _ _;have T:=aG wr (.cells #[.string ⟨u.1.toArray⟩,ag u.2.kind,ag u.2.a,ag u.2.b,.string ⟨u.2.name.toArray⟩,.slice L u.2.kids.length K] 86);have s:=aw f H;have O:=ai H C;have cR:=Ik u L K _ (I.below s);have E:Rb ((if ruleP u≠0 then(ruleP u,j) else jR ((e.map (fun p=>p.1)).drop (j+1)) (j+1))=X):=m;generalize ruleP u=R at*;generalize ae:wr.alloc (.cells #[.string ⟨u.1.toArray⟩,ag u.2.kind,ag u.2.a,ag u.2.b,.string ⟨u.2.name.toArray⟩,.slice L u.2.kids.length K] 86)=wB at*;go_wp2_with(refine aR rfl 86 _ rfl _ rfl _ _ _ _ T B9 rfl (by kernel_rfl) ?_)
    refine cR.mono ?_;rintro r w3 ⟨rfl,G⟩;have q:=aw s G;have B:=ai G O;by_cases U:R=0
    ·subst U;have i:=E.o;rw[ax (by simp)]at i;have HN:Rb (jR ((e.map (fun p=>p.1)).drop (j+1)) (j+1)=X):=i;go_wp2_with fail;go_roundw;case rel=>exact⟨j+1,by go_num,by omega,HN.o,B,q⟩
     case measure=>simp[intOf];omega
    ·have af:(R !=0)=true:=(by simpa using U);have i:=E.o;rw[aB U]at i;subst i;go_wp2_with(refine az rfl 48 _ _ rfl _ _ rfl rfl _ _ B (by kernel_rfl) (by simp) (by simp[Value.oneCell']) ?_)
     exact nt 2 (by kernel_rfl) w.heap.size R (j:Int) rfl rfl (aL _ _ _ _ _ _ B) ⟨rfl,below_setRow q (aD _) _⟩
   ·have J: ¬(j:Int)<(e.length:Int):=(by omega);rw[List.drop_eq_nil_of_le (by simp;omega)]at m;have i:(0,0)=X:=m;subst i;go_wp2_with(refine az rfl 48 _ _ rfl _ _ rfl rfl _ _ C (by kernel_rfl) (by simp) (by simp[Value.oneCell']) ?_)
    exact nt 2 (by kernel_rfl) w.heap.size 0 0 rfl rfl (aL _ _ _ _ _ _ C) ⟨rfl,below_setRow f (aD _) _⟩
theorem aE {p:Prop}(h:p):Rb p:=h
theorem InR.cells {w:World}{f:List (Ru×Value)}{i:Option Addr}{k:Nat}(h:InR w (.slice i f.length k) f): ∀(j:Nat) (p:Ru×Value),f[j]? =some p-> ∃g o:Nat,i=some ⟨g,o,none⟩/\
   w.cell? (ae g (o+j*6))=some (.string ⟨p.1.1.toArray⟩)/\w.cell? (ae g (o+j*6+1))=some (ag p.1.2.kind)/\w.cell? (ae g (o+j*6+2))=some (ag p.1.2.a)/\w.cell? (ae g (o+j*6+3))=some (ag p.1.2.b)/\
   w.cell? (ae g (o+j*6+4))=some (.string ⟨p.1.2.name.toArray⟩)/\w.cell? (ae g (o+j*6+5))=some p.2:=fun j p d=>by
 rcases h.row with⟨m,_⟩|⟨g,o,c,e,q,n⟩
 ·rw[m]at d;simp at d
 ·injection e with l;exact⟨g,o,l,n j p d⟩
theorem InR.form {w:World}{v:Value}{b:List (Ru×Value)}(h:InR w v b): ∃p c,v= .slice p b.length c:=by
 rcases h.row with⟨rfl,p,c,a⟩|⟨g,o,c,a,_⟩
 ·exact⟨p,c,a⟩
 ·exact⟨_,c,a⟩
theorem rJ (x y:List UInt8):(x==y)=decide (x=y):=by
 by_cases h:x=y
 ·subst h;simp
 ·simp[h]
theorem OI (i:List (Ru×Value))(v:Value)(x:List UInt8)(w:World)(h:InR w v i):Calls prog 11 #[v,.string ⟨x.toArray⟩] w fun r w'=>r= .returned (ag (atP5 (i.map (fun p=>p.1)) x))/\aq w w':=by
 obtain⟨pv,T,rfl⟩:=h.form;have E:=aE h.cells;have L:=h.len
 have D:Rb (∀p∈i,∃q n c,p.2= .slice q n c):=fun p Q=>by
  obtain⟨_,_,d,O⟩:=h.all p Q;obtain⟨q,c,e⟩:=O.form;exact⟨q,_,c,e⟩
 clear h;go_enter func11,ntmps11;go_wp2_with fail;go_loopw [5,6,9] (fun _ _ t wr=> ∃j:Nat,t=ag (j:Int)/\j<=i.length/\atP5 (i.map (fun p=>p.1)) x=atF ((i.map (fun p=>p.1)).drop j) j x/\aq w wr) (fun _ _ t _=>i.length-(intOf t).toNat);case atStart=>exact⟨0,rfl,by omega,rfl,aH _ _⟩
 case round=>
  obtain⟨j,rfl,hj,l,f⟩:=hrel;have P:(0:Int)<=(j:Int):=(by omega);by_cases J:j<i.length
  ·have z:(j:Int)<(i.length:Int):=(by omega);obtain⟨⟨u,sk⟩,m⟩: ∃p,i[j]? =some p:=⟨i[j],ay J⟩
   have C:(i.map (fun p=>p.1))[j]? =some u:=(by rw[a8,m];rfl);rw[Cl C]at l;obtain⟨g,o,K,c0,c1,F,G,H,I⟩:=E.o j _ m;obtain⟨S,R,M,B⟩:=D.o _ (aM m);dsimp only at c0 c1 F G H I B;subst B K;have U:=aj f c0;have V:=aj f c1;have W:=aj f F;have X:=aj f G;have Y:=aj f H;have Z:=aj f I;have y:=f.alloc f.size (.cells #[.string ⟨u.1.toArray⟩,ag u.2.kind,ag u.2.a,ag u.2.b,.string ⟨u.2.name.toArray⟩,.slice S R M] 86);have A:=rJ u.1 x;clear C m c0 c1 F G H I;by_cases k:u.1=x
   ·rw[aB k]at l;rw[bh k]at A;have s:=aE l;clear l k E D;go_wp2_with fail;go_ret;exact⟨by(rw[s.o])<;>rfl,y⟩
   ·rw[ax k]at l;rw[bn k]at A;have s:=aE l;clear l k;go_wp2_with fail;go_roundw;case rel=>exact⟨j+1,by go_num,by omega,s.o,y⟩
    case measure=>simp[intOf];omega
  ·have N:j=i.length:=(by omega);have z: ¬(j:Int)<(i.length:Int):=(by omega)
   have s:Rb (atP5 (i.map (fun p=>p.1)) x= -1):=by
    show _=_;rw[l,dq (by simp;omega)];rfl
   clear l E D N;go_wp2_with fail;go_ret;exact⟨by(rw[s.o])<;>rfl,f⟩
theorem BE:prog.underlying 76=some (.map 9 3):=by kernel_rfl
theorem tm:prog.underlying 9=some .string:=by kernel_rfl
theorem AF (k:Value)(e:MapEntry): ∀(a:List MapEntry) (i:Nat),Instr.findNow .string k (a++[e]) i=match Instr.findNow .string k a i with
  |some (some r)=>some (some r)
  |some none=>(match Instr.sameNow .string k e.key with|some true=>some (some (i+a.length,e.val))|some false=>some none|none=>none)
  |none=>none
 |[],i=>by
  simp only[List.nil_append,Instr.findNow,gU,Nat.add_zero];cases Instr.sameNow .string k e.key with
  |none=>rfl
  |some b=>cases b<;>rfl
 |x::a,i=>by
  simp only[List.cons_append,Instr.findNow];cases Instr.sameNow .string k x.key with
  |none=>rfl
  |some b=>
   cases b with
   |true=>rfl
   |false=>
    have:=AF k e a (i+1);rw[this];simp only[bV];rw[show i+1+a.length=i+(a.length+1) by omega]
def EsN (a:List MapEntry)(l:List Ru):Prop:= ∀x:List UInt8,(0<=atP5 l x/\ ∃i,Instr.findNow .string (.string ⟨x.toArray⟩) a 0=some (some (i,ag (atP5 l x))))\/(atP5 l x= -1/\Instr.findNow .string (.string ⟨x.toArray⟩) a 0=some none)
def jr (w:World)(b:Nat)(l:List Ru):Prop:= ∃a c,w.heap[b]? =some (.map a c)/\EsN a.toList l
theorem jr.later {w w':World}{b:Nat}{l:List Ru}(h:jr w b l)(f:w'.heap[b]? =w.heap[b]?):jr w' b l:=by
 obtain⟨a,c,d,e⟩:=h;exact⟨a,c,f.trans d,e⟩
theorem ik {w:World}{b:Nat}{l:List Ru}(h:jr w b l):b<w.heap.size:=by
 obtain⟨d,c,a,_⟩:=h;exact(dr.1 a).1
theorem wH: ∀(l:List Ru) (i:Nat) (u:Ru) (x:List UInt8),atF (l++[u]) i x=if 0<=atF l i x then atF l i x else if u.1=x then((i+l.length:Nat):Int) else-1
 |[],i,u,x=>by simp[atF]
 |v::l,i,u,x=>by
  have:=wH l (i+1) u x;have a:atF (v::l++[u]) i x=if v.1=x then(i:Int) else atF (l++[u]) (i+1) x:=rfl;have b:atF (v::l) i x=if v.1=x then(i:Int) else atF l (i+1) x:=rfl;by_cases h:v.1=x
  ·rw[aB h]at a b;rw[a,b,aB (by omega)]
  ·rw[ax h]at a b;rw[a,b,this,bV,show i+1+l.length=i+(l.length+1) by omega]
theorem Ky (x y:List UInt8):Instr.sameNow .string (.string ⟨x.toArray⟩) (.string ⟨y.toArray⟩)=some (decide (x=y)):=by
 have e:((⟨x.toArray⟩:ByteArray)==⟨y.toArray⟩)=decide (x=y):=by
  show(x.toArray==y.toArray)=_;by_cases h:x=y
  ·subst h;simp
  ·simp[h]
 simp[Instr.sameNow,e]
theorem EsN.taken {b:List MapEntry}{l:List Ru}{u:Ru}(h:EsN b l)(c:0<=atP5 l u.1):EsN b (l++[u]):=fun x=>by
 have e:atP5 (l++[u]) x=atP5 l x:=by
  unfold atP5 at*;rw[wH];split
  ·rfl
  ·rename_i d;have a:u.1≠x:=fun e=>(by subst e;exact d c);rw[ax a];have:=yt l 0 x;omega
 rw[e];exact h x
theorem EsN.push {f:List MapEntry}{l:List Ru}{u:Ru}{c:Nat}(h:EsN f l):EsN (f++[⟨.string ⟨u.1.toArray⟩,ag (l.length:Int),c⟩]) (l++[u]):=fun x=>by
 rw[AF]
 have e:atP5 (l++[u]) x=if 0<=atP5 l x then atP5 l x else if u.1=x then(l.length:Int) else-1:=by
  unfold atP5;rw[wH,cY]
 rcases h x with⟨a,i,b⟩|⟨a,b⟩
 ·rw[aB a]at e;rw[b,e];exact .inl ⟨a,i,rfl⟩
 ·rw[ax (by omega)]at e;rw[b];dsimp only;rw[Ky];by_cases d:x=u.1
  ·subst d;rw[aB rfl]at e;rw[e,bh rfl];exact .inl ⟨by omega,_,rfl⟩
  ·rw[ax (fun e=>d e.symm)]at e;rw[e,bn d];exact .inr ⟨rfl,rfl⟩
theorem EsN.nil:EsN [] []:=fun _=> .inr ⟨rfl,rfl⟩
theorem L0 {w:World}{b:Nat}{l:List Ru}(h:jr w b l)(x:List UInt8):(Instr.lookup 76 (.map (some b)) (.string ⟨x.toArray⟩) true).run prog w= .ok (.tuple #[ag (if 0<=atP5 l x then atP5 l x else 0),.bool (decide (0<=atP5 l x))]) w:=by
 obtain⟨m,c,e,g⟩:=h;have f: ∀z,(Instr.checkKey z 10000 9 (.string ⟨x.toArray⟩)).run prog w= .ok () w:=fun z=>MapKept.run_checkKey (k:= .string _) tm (by simp[MapKept.IsKey]) z 9999;have j:(zeroValue 3).run prog w= .ok (ag 0) w:=by kernel_rfl
 rcases g x with⟨a,i,d⟩|⟨a,d⟩
 ·simp[Instr.lookup,gu BE,fZ e,f,gS tm d,Result.andThen,a]
 ·simp[Instr.lookup,gu BE,fZ e,f,gS tm d,j,Result.andThen,a]
theorem FO {w:World}{b:Nat}{l:List Ru}(h:jr w b l)(x:List UInt8)(m:0<=atP5 l x):(Instr.lookup 76 (.map (some b)) (.string ⟨x.toArray⟩) false).run prog w= .ok (ag (atP5 l x)) w:=by
 obtain⟨j,c,f,e⟩:=h;have g: ∀z,(Instr.checkKey z 10000 9 (.string ⟨x.toArray⟩)).run prog w= .ok () w:=fun z=>MapKept.run_checkKey (k:= .string _) tm (by simp[MapKept.IsKey]) z 9999;rcases e x with⟨d,i,a⟩|⟨d,a⟩
 ·simp[Instr.lookup,gu BE,fZ f,g,gS tm a,Result.andThen]
 ·omega
theorem QK {w:World}{b:Nat}{l:List Ru}{u:Ru}(h:jr w b l)(m:atP5 l u.1= -1): ∃o,(Instr.mapUpdate 76 (.map (some b)) (.string ⟨u.1.toArray⟩) (ag (l.length:Int))).run prog w= .ok () (yu w b o)/\jr (yu w b o) b (l++[u]):=by
 obtain⟨a,c,d,e⟩:=h;have g:(Instr.checkKey false 10000 9 (.string ⟨u.1.toArray⟩)).run prog w= .ok () w:=MapKept.run_checkKey (k:= .string _) tm (by simp[MapKept.IsKey]) false 9999
 have i:Instr.findNow .string (.string ⟨u.1.toArray⟩) a.toList 0=some none:=by
  rcases e u.1 with⟨j,_⟩|⟨_,f⟩
  ·omega
  ·exact f
 refine⟨.map (a.push ⟨.string ⟨u.1.toArray⟩,ag (l.length:Int),c⟩) (c+1),?_,a.push ⟨.string ⟨u.1.toArray⟩,ag (l.length:Int),c⟩,c+1,(MapKept.heap_set d).1,?_⟩
 ·simp[Instr.mapUpdate,gu BE,fZ d,g,gS tm i,MapKept.run_setObj_map _ d,Result.andThen,yu]
 ·rw[Array.toList_push];exact e.push
theorem Ip (n:Nat)(_:n<9223372036854775808)(w:World):(Instr.makeMap 76 (some (ag (n:Int)))).run prog w= .ok (.map (some w.heap.size)) (w.alloc (.map #[] 0)):=by
 unfold Instr.makeMap;simp[go_sem]
def FP (a:List (Ru×Value))(w:World)(r:Ending)(w':World):Prop:= ∃b,r= .returned (.map (some b))/\w.heap.size<=b/\jr w' b (a.map (fun p=>p.1))/\aq w w'
def QL (a:List (Ru×Value))(w:World)(t:Value)(wr:World):Prop:= ∃j:Nat,t=ag (j:Int)/\j<=a.length/\jr wr w.heap.size ((a.map (fun p=>p.1)).take j)/\aq w wr
theorem pJ (f:List (Ru×Value))(v:Value)(w:World)(h:InR w v f):Calls prog 21 #[v] w (FP f w):=by
 obtain⟨pv,cv,rfl⟩:=h.form;have X:=aE h.cells;have B:=h.len
 have V:Rb (∀p∈f,∃q n c,p.2= .slice q n c):=fun p hp=>by
  obtain⟨_,_,d,hd⟩:=h.all p hp;obtain⟨q,c,e⟩:=hd.form;exact⟨q,_,c,e⟩
 clear h;have z:=am w (.map #[] 0);have E:jr (w.alloc (.map #[] 0)) w.heap.size []:=⟨#[],0,(MapKept.heap_alloc w _).1,EsN.nil⟩
 have ab:=fun W=>Ip f.length B W;go_enter func21,ntmps21;go_wp2_with fail;go_loopw [4,5,6,7,13] (fun _ _ _ _ t wr=>QL f w t wr) (fun _ _ _ _ t _=>f.length-(intOf t).toNat);case atStart=>exact⟨0,rfl,by omega,E,z⟩
 case round=>
  obtain⟨j,rfl,hj,y,i⟩:=hrel;clear z E;have aa:(0:Int)<=(j:Int):=(by omega);by_cases Q:j<f.length
  ·have D:(j:Int)<(f.length:Int):=(by omega);obtain⟨⟨u,sk⟩,m⟩: ∃p,f[j]? =some p:=⟨f[j],ay Q⟩
   have r:(f.map (fun p=>p.1)).take (j+1)=(f.map (fun p=>p.1)).take j++[u]:=by
    have S:(f.map (fun p=>p.1))[j]? =some u:=(by rw[a8,m];rfl);rw[eX,S];rfl
   have x:((f.map (fun p=>p.1)).take j).length=j:=(by simp;omega);obtain⟨g,o,R,c0,c1,L,M,N,O⟩:=X.o j _ m;obtain⟨J,I,H,G⟩:=V.o _ (aM m);dsimp only at c0 c1 L M N O G;subst G R;have d0:=aj i c0;have d1:=aj i c1;have d2:=aj i L;have d3:=aj i M;have d4:=aj i N;have d5:=aj i O;have A:=i.alloc i.size (.cells #[.string ⟨u.1.toArray⟩,ag u.2.kind,ag u.2.a,ag u.2.b,.string ⟨u.2.name.toArray⟩,.slice J I H] 86);have U:=aG wr (.cells #[.string ⟨u.1.toArray⟩,ag u.2.kind,ag u.2.a,ag u.2.b,.string ⟨u.2.name.toArray⟩,.slice J I H] 86);have l:jr (wr.alloc (.cells #[.string ⟨u.1.toArray⟩,ag u.2.kind,ag u.2.a,ag u.2.b,.string ⟨u.2.name.toArray⟩,.slice J I H] 86)) w.heap.size ((f.map (fun p=>p.1)).take j):=y.later (dQ _ _ _ (ik y));have C:=L0 l u.1;clear m c0 c1 L M N O y;generalize ac:wr.alloc (.cells #[.string ⟨u.1.toArray⟩,ag u.2.kind,ag u.2.a,ag u.2.b,.string ⟨u.2.name.toArray⟩,.slice J I H] 86)=wB at*;have z0:=ak 0 U;by_cases s:0<=atP5 ((f.map (fun p=>p.1)).take j) u.1
   ·rw[aB s,bh s]at C
    have k:jr wB w.heap.size ((f.map (fun p=>p.1)).take (j+1)):=by
     obtain⟨es,c,h1,h2⟩:=l;rw[r];exact⟨es,c,h1,h2.taken s⟩
    generalize atP5 ((f.map (fun p=>p.1)).take j) u.1=n at*;have K:=aE k;clear l r x k s;go_wp2_with fail;go_roundw;case rel=>exact⟨j+1,by go_num,by omega,K.o,A⟩
    case measure=>simp[intOf];omega
   ·rw[ax s,bn s]at C
    have F:atP5 ((f.map (fun p=>p.1)).take j) u.1= -1:=by
     have:=(ny ((f.map (fun p=>p.1)).take j) u.1).1;omega
    obtain⟨ob,T,k⟩:=QK l F;rw[x]at T;rw[<-r]at k;have P:=DM A (aD _) ob;have K:=aE k;clear l r x k s F;go_wp2_with fail;go_roundw;case rel=>exact⟨j+1,by go_num,by omega,K.o,P⟩
    case measure=>simp[intOf];omega
  ·have Y:j=f.length:=(by omega);have D: ¬(j:Int)<(f.length:Int):=(by omega)
   have Z:Rb (FP f w (.returned (.map (some w.heap.size))) wr):=by
    refine⟨w.heap.size,rfl,aD _,?_,i⟩;rw[Y,dh (by simp)]at y;exact y
   clear y X V Y;go_wp2_with fail;go_ret;exact Z.o
end Go.Proofs.YtlkehieagdkgiaaGreatDoor
