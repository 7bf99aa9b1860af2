/- Texts of the proof. -/
import Derived.Lib.Bytealg
import Derived.Test.YtlkehieagdkgiaaGreatDoorPfZb
set_option maxRecDepth 100000
set_option maxHeartbeats 8000000
namespace Go.Proofs.YtlkehieagdkgiaaGreatDoor
open Go.Proofs.Tryz Go.RowKit Lx Vx Mx Msk
section
section
variable {w w':World} {base e size n:Nat} {v:Value} {xs:List Value}
theorem dj (h:w.ownsRow base e size v n xs): ∃p c,v= .slice p n c:=by
 rcases h.2 with⟨e,e2⟩|⟨b,cap,a,e,_⟩
 ·exact⟨none,0,by rw[e,e2]⟩
 ·exact⟨_,cap,e⟩
theorem kM {g:Nat}{c:Array Value}{T:TypeId}(h:w.ownsRow base e size v n xs)(j:w.heap[g]? =ah c T)(i:T≠e):some g≠v.ownBlock:=by
 rcases h.2 with⟨e,_⟩|⟨b,cap,d,e,_,a,_⟩
 ·rw[e];simp[Value.ownBlock]
 ·rw[e];intro q;have k:g=b:=(by simpa[Value.ownBlock] using q);subst k;rw[j]at a;injection a with a;injection a with _ f _;exact i f
theorem bJ (h:w.ownsRow base e size v n xs)(k: ∀b,v.ownBlock=some b->w'.heap[b]? =w.heap[b]?):w'.ownsRow base e size v n xs:=by
 obtain⟨f,c⟩:=h;refine⟨f,?_⟩;rcases c with c|⟨g,cap,a,d,i,j,r⟩
 ·exact .inl c
 ·exact .inr ⟨g,cap,a,d,i,(k g (by rw[d];rfl)).trans j,r⟩
end
theorem tI {o:Oper}{a:Act}{w:World}{K:Act->World->Prop}{Q:Exit->Act->World->Prop}(s x:Operand)(t:TypeId)
  (H:o.op= .call {callee:= .builtin .append,args:= #[s,x],argTypes:= #[t,t]})
  (base:Nat) (e:TypeId) (i:TypeInfo) (z:Value) (size d:Nat) (L:prog.underlying t=some (.slice e)) (hi:prog.info? e=some i) (N:i.zero=some z)
  (l:i.size=size) (y:i.bytes=d) (B:z.cells.size=size) (A:0<size)
  (v:Value) (n:Nat) (xs:List Value) (J:a.eval s=v) (q:w.ownsRow base e size v n xs)
  (ad:Addr) (m c:Nat) (b:List Value) (M:a.eval x= .slice (some ad) m c) (G:b.length=m*size) (k: ∀j u,b[j]? =some u->w.cell? (ad.add j)=some u) (C: ∀u∈b,u.oneCell'=true)
  (r:n+m<=maxLen) (f:(n+m)*d<=140737488355328) (g:base<=w.heap.size)
  (h: ∀p w',w'.ownsRow base e size p (n+m) (xs++b)->w.grownBy w' v.ownBlock->(p.ownBlock=v.ownBlock\/p.ownBlock=some w.heap.size)->K (a.put o.dst p) w'):o.wp prog a w K Q:=by
 obtain⟨p,w',I,D,E,_,F⟩:=run_append_own_at (P:=prog) w base t o.type e i z size d L hi N l y B A v n xs q ad m c b G k C r f g;unfold Oper.wp execOp;simp only[H,resolve,invoke,builtin,jC,kb,gX,iP,dR,fw,J,M,I];exact h p w' D E F
end
namespace Lx
def isD (c:UInt8):Bool:=decide (48<=c.toNat)&&decide (c.toNat<=57)
def isL (c:UInt8):Bool:=decide (97<=c.toNat)&&decide (c.toNat<=122)
def isC (c:UInt8):Bool:=isL c||(isD c||decide (c.toNat=95))
def ii (p:UInt8->Bool):List UInt8->Nat
 |[]=>0
 |c::l=>if p c then ii p l+1 else 0
def wordLen:List UInt8->Nat
 |[]=>0
 |c::l=>if isL c then ii isC l+1 else 0
theorem lY (p:UInt8->Bool): ∀l,ii p l<=l.length
 |[]=>by simp[ii]
 |c::l=>by have:=lY p l;simp only[ii];split<;>simp;omega
theorem AA (p:UInt8->Bool): ∀l i,i<ii p l->p (l.getD i 0)=true
 |[],i,h=>by simp[ii]at h
 |c::l,i,h=>by
  simp only[ii]at h;split at h
  ·cases i with
   |zero=>simpa
   |succ i=>simpa using AA p l i (by omega)
  ·omega
theorem ww (p:UInt8->Bool): ∀(l:List UInt8) (k:Nat),k<=l.length->(∀i,i<k->p (l.getD i 0)=true)->(k<l.length->p (l.getD k 0)=false)->ii p l=k
 |[],k,h,_,_=>by simp at h;subst h;rfl
 |c::l,0,_,_,a=>by
  have:=a (by simp);simp at this;simp[ii,this]
 |c::l,k+1,h,b,a=>by
  have d:=b 0 (by omega);simp at d;have:=ww p l k (by simpa using h) (fun i hi=>by simpa using b (i+1) (by omega)) (fun e=>by simpa using a (by simpa using e));simp[ii,d,this]
theorem xS: ∀l,wordLen l<=l.length
 |[]=>by simp[wordLen]
 |c::l=>by have:=lY isC l;simp only[wordLen];split<;>simp;omega
def valL (l:List UInt8):Int:=l.foldl (fun n c=>10*n+((c.toNat:Int)-48)) 0
theorem H6 (l:List UInt8)(c:UInt8):valL (l++[c])=10*valL l+((c.toNat:Int)-48):=by simp[valL]
theorem AB (l:List UInt8)(k:Nat)(a:k<l.length):valL (l.take (k+1))=10*valL (l.take k)+(((l.getD k 0).toNat:Int)-48):=by
 rw[List.take_succ_eq_append_getElem a,H6];simp[List.getD,a]
theorem xT (l:List UInt8)(h: ∀i,i<l.length->isD (l.getD i 0)=true): ∀k,k<=l.length->0<=valL (l.take k)/\valL (l.take k)<((10^k:Nat):Int)
 |0,_=>by simp[valL]
 |k+1,b=>by
  have c:=xT l h k (by omega);have a:=h k (by omega);simp only[isD,br,bz]at a;rw[AB l k (by omega),Nat.pow_succ];omega
theorem pZ (l:List UInt8)(h: ∀i,i<l.length->isD (l.getD i 0)=true)(k:Nat)(c:k<=l.length)(a:k<=6):0<=valL (l.take k)/\valL (l.take k)<1000000:=by
 have b:=xT l h k c;have:(10:Nat)^k<=10^6:=Nat.pow_le_pow_right (by omega) a;have e:(10:Nat)^6=1000000:=by decide
 omega
def okB (f c:UInt8):Bool:=if f.toNat=48 then isD c else decide (f.toNat=c.toNat)
def jx (l m:List UInt8):Bool:=decide (m.length<=l.length)&&(List.range m.length).all fun i=>okB (m.getD i 0) (l.getD i 0)
theorem H7 {l m:List UInt8}(a:m.length<=l.length)(b: ∀i,i<m.length->okB (m.getD i 0) (l.getD i 0)=true):jx l m=true:=by
 unfold jx;rw[bn a,jk,du];intro i hi;exact b i (by simpa using hi)
theorem BY {l m:List UInt8}(i:Nat)(a:i<m.length)(b:okB (m.getD i 0) (l.getD i 0)=false):jx l m=false:=by
 cases e:jx l m with
 |false=>rfl
 |true=>
  unfold jx at e;rw[br,du]at e;have:=e.2 i (by simpa using a);rw[b]at this;cases this
theorem DS {l m:List UInt8}(h: ¬m.length<=l.length):jx l m=false:=by simp[jx,h]
theorem qG {l m:List UInt8}(h:jx l m=true):m.length<=l.length/\ ∀i,i<m.length->okB (m.getD i 0) (l.getD i 0)=true:=by
 unfold jx at h;rw[br,du]at h;exact⟨by simpa using h.1,fun i hi=>h.2 i (by simpa using hi)⟩
def oF (l:List UInt8)(i:Nat):Bool:=if i=0 then isL (l.getD 0 0) else isC (l.getD i 0)
theorem xU: ∀(l:List UInt8) (k:Nat),k<=l.length->(∀i,i<k->oF l i=true)->(k<l.length->oF l k=false)->wordLen l=k
 |[],k,h,_,_=>by simp at h;subst h;rfl
 |c::l,0,_,_,a=>by
  have:=a (by simp);simp[oF]at this;simp[wordLen,this]
 |c::l,k+1,h,b,a=>by
  have d:=b 0 (by omega);simp[oF]at d;have e:=ww isC l k (by simpa using h) (fun i hi=>by simpa[oF] using b (i+1) (by omega)) (fun f=>by simpa[oF] using a (by simpa using f));simp[wordLen,d,e]
structure T1 where
 kind:Int
 n:Int
 text:List UInt8
 len:Nat
 err:Int
def bad (e:Int):T1:=⟨0,0,[],0,e⟩
def mO (l:List UInt8):T1:=if 6<ii isD l then bad 3 else⟨6,valL (l.take (ii isD l)),[],ii isD l,0⟩
def xV:List UInt8:=[48,48,48,48,45,48,48,45,48,48]
def xW:List UInt8:=[48,48,58,48,48]
def o7 (l:List UInt8):T1:=if 59<valL ((l.drop 3).take 2)\/1440<60*valL ((l.drop 0).take 2)+valL ((l.drop 3).take 2) then bad 3 else⟨4,60*valL ((l.drop 0).take 2)+valL ((l.drop 3).take 2),[],5,0⟩
theorem mP {l m:List UInt8}(h:jx l m=true)(a n:Nat)(ha:a+n<=m.length)(c: ∀i,i<n->(m.getD (a+i) 0).toNat=48):
  ((l.drop a).take n).length=n/\ ∀i,i<((l.drop a).take n).length->isD (((l.drop a).take n).getD i 0)=true:=by
 obtain⟨d,b⟩:=qG h;have e:((l.drop a).take n).length=n:=by simp;omega
 refine⟨e,fun i hi=> ?_⟩;rw[e]at hi;have:=b (a+i) (by omega);unfold okB at this;rw[aB (c i hi)]at this;rw[bT]at this⊢;rw[jA,aB hi,List.getElem?_drop];exact this
def fh:Bool->List UInt8->Nat
 |_,[]=>0
 |true,c::l=>if c.toNat=10 then fh false l+1 else fh true l+1
 |false,c::l=>if c.toNat=32\/c.toNat=9\/c.toNat=10 then fh false l+1 else if c.toNat=35 then fh true l+1 else 0
theorem oG: ∀(b:Bool) (l:List UInt8),fh b l<=l.length
 |true,[]=>by simp[fh]
 |false,[]=>by simp[fh]
 |true,c::l=>by
  have a:=oG true l;have d:=oG false l;simp only[fh,bO];split<;>omega
 |false,c::l=>by
  have a:=oG true l;have d:=oG false l;simp only[fh,bO];split
  ·omega
  ·split<;>omega
def zN (c:UInt8):Bool:=decide (c.toNat≠10)
def remL (l:List UInt8):Nat:=ii zN l
theorem BZ: ∀(l:List UInt8),fh true l=remL l+fh false (l.drop (remL l))
 |[]=>by simp[remL,ii,fh]
 |c::l=>by
  by_cases h:c.toNat=10
  ·simp[remL,ii,zN,fh,h]
  ·have a:=BZ l;have e:remL (c::l)=remL l+1:=(by simp[remL,ii,zN,h]);rw[e];simp only[fh,h,if_false,List.drop_succ_cons];omega
theorem H8 (l:List UInt8)(b:0<l.length)(d:(l.getD 0 0).toNat=35):fh false l=remL l+fh false (l.drop (remL l))/\1<=remL l:=by
 match l,b with
 |c::r,_=>
  have a:c.toNat=35:=(by simpa using d);have e:remL (c::r)=remL r+1:=(by simp[remL,ii,zN,a]);have:=BZ r;rw[e];refine⟨?_,by omega⟩;simp only[fh,a,List.drop_succ_cons];simp;omega
theorem FH (l:List UInt8)(b:0<l.length)(d:(l.getD 0 0).toNat=32\/(l.getD 0 0).toNat=9\/(l.getD 0 0).toNat=10):fh false l=1+fh false (l.drop 1):=by
 match l,b with
 |c::r,_=>
  have a:c.toNat=32\/c.toNat=9\/c.toNat=10:=(by simpa using d);simp only[fh,aB a,List.drop_succ_cons,List.drop_zero];omega
theorem H9 (l:List UInt8)(a:0<l.length-> ¬((l.getD 0 0).toNat=32\/(l.getD 0 0).toNat=9\/(l.getD 0 0).toNat=10)/\(l.getD 0 0).toNat≠35):fh false l=0:=by
 match l with
 |[]=>rfl
 |c::r=>
  have:=a (by simp);simp only[List.getD_cons_zero]at this;simp only[fh,ax this.1,ax this.2]
theorem AC: ∀l:List UInt8,Go.Lib.indexByte l 10=if remL l<l.length then(remL l:Int) else-1
 |[]=>by simp[Go.Lib.indexByte,remL,ii]
 |c::l=>by
  have f:=AC l;by_cases h:c.toNat=10
  ·have e:c=10:=(by apply UInt8.toNat_inj.1;simpa using h);subst e;simp[Go.Lib.indexByte,remL,ii,zN]
  ·have b:(c==10)=false:=by
    rw[bm];intro e;subst e;simp at h
   have e:remL (c::l)=remL l+1:=(by simp[remL,ii,zN,h]);have d:remL l<=l.length:=lY _ l;unfold Go.Lib.indexByte;rw[b,f,e];by_cases a:remL l<l.length
   ·have g:((remL l:Int)== -1)=false:=(by simp);rw[aB a,g];simp[a]
   ·rw[ax a];simp[a]
structure Ex where
 kind:Int
 a:Int
 b:Int
 name:List UInt8
 kids:List Ex
abbrev Tk:=T1×Nat
def ex0:Ex:=⟨0,0,0,[],[]⟩
abbrev Res:=Except (Int×Nat) (Ex×List Tk×Nat)
def atP (E:Nat):List Tk->Nat
 |[]=>E
 |p::_=>p.2
def textP:List Tk->List UInt8
 |[]=>[]
 |p::_=>p.1.text
def kindP:List Tk->Int
 |[]=>0
 |p::_=>p.1.kind
def numP:List Tk->Int
 |[]=>0
 |p::_=>p.1.n
def isT (x:List UInt8)(r:List Tk):Bool:=textP r==x
def dr (x:Res)(f:Ex->List Tk->Nat->Res):Res:=
 match x with
 | .error e=> .error e
 | .ok (e,r,n)=>f e r n
def dK (E:Nat)(e:Ex)(r:List Tk)(n:Nat):Res:=if 600<n+1 then .error (4,atP E r) else .ok (e,r,n+1)
def eG (E:Nat)(err:Int)(r:List Tk):Res:= .error (err,atP E r)
def qd:List UInt8:=[43]
def gU:List UInt8:=[45]
def tU:List UInt8:=[38]
def lh:List UInt8:=[40]
def pg:List UInt8:=[41]
def pC:List UInt8:=[44]
def nO:List UInt8:=[58]
def sS:List UInt8:=[59]
def wIs:List UInt8:=[61]
def wTo:List UInt8:=[46,46]
def vh:List UInt8:=[114,117,108,101]
def kj:List UInt8:=[110,101,118,101,114]
def jI:List UInt8:=[97,108,119,97,121,115]
def j8:List UInt8:=[119,101,101,107,108,121]
def lN:List UInt8:=[100,97,116,101,115]
def mK:List UInt8:=[115,104,105,102,116]
def fO:List (List UInt8):=[[109,111,110],[116,117,101],[119,101,100],[116,104,117],[102,114,105],[115,97,116],[115,117,110]]
def dayBit (x:List UInt8):Nat:=
 if x=fO.getD 0 [] then 1 else if x=fO.getD 1 [] then 2 else if x=fO.getD 2 [] then 4 else if x=fO.getD 3 [] then 8
 else if x=fO.getD 4 [] then 16 else if x=fO.getD 5 [] then 32 else if x=fO.getD 6 [] then 64 else 0
def goP (E:Nat):Nat->Nat->Nat->Ex->List Tk->Nat->Res
 |0,_,_,_,r,_=>eG E 0 r
 |f+1,0,d,_,r,n=>dr (goP E f 2 d ex0 r n) fun e r n=>goP E f 1 d e r n
 |f+1,1,d,e,r,n=>
  if isT qd r then dr (goP E f 2 d ex0 r.tail n) fun t r n=>dr (dK E ⟨6,0,0,[],[e,t]⟩ r n) fun e r n=>goP E f 1 d e r n
  else if isT gU r then dr (goP E f 2 d ex0 r.tail n) fun t r n=>dr (dK E ⟨7,0,0,[],[e,t]⟩ r n) fun e r n=>goP E f 1 d e r n
  else .ok (e,r,n)
 |f+1,2,d,_,r,n=>dr (goP E f 4 d ex0 r n) fun e r n=>goP E f 3 d e r n
 |f+1,3,d,e,r,n=>
  if isT tU r then dr (goP E f 4 d ex0 r.tail n) fun t r n=>dr (dK E ⟨8,0,0,[],[e,t]⟩ r n) fun e r n=>goP E f 3 d e r n
  else .ok (e,r,n)
 |f+1,4,d,_,r,n=>dr (goP E f 6 d ex0 r n) fun e r n=>goP E f 5 d e r n
 |f+1,5,d,e,r,n=>
  if isT mK r then
   let m:=isT gU r.tail
   let q:=if m then r.tail.tail else r.tail
   if kindP q≠6 then eG E 2 q
   else if 1440<=numP q\/numP q<1 then eG E 3 q
   else dr (dK E ⟨9,if m then-numP q else numP q,0,[],[e]⟩ q.tail n) fun e r n=>goP E f 5 d e r n
  else .ok (e,r,n)
 |f+1,6,d,_,r,n=>
  if 40<d then eG E 4 r
  else if isT lh r then dr (goP E f 0 (d+1) ex0 r.tail n) fun e r n=>if isT pg r then .ok (e,r.tail,n) else eG E 2 r
  else if isT kj r then dK E ⟨1,0,0,[],[]⟩ r.tail n
  else if isT jI r then dK E ⟨2,0,0,[],[]⟩ r.tail n
  else if isT j8 r then goP E f 7 d ex0 r.tail n
  else if isT lN r then
   let q:=r.tail
   if kindP q≠5 then eG E 2 q
   else if isT wTo q.tail then
    let p:=q.tail.tail
    if kindP p≠5 then eG E 2 p
    else if numP p<numP q then eG E 3 p
    else goP E f 8 d ⟨5,numP q,numP p,[],[]⟩ p.tail n
   else goP E f 8 d ⟨5,numP q,numP q,[],[]⟩ q.tail n
  else if kindP r=1 then dK E ⟨10,0,0,textP r,[]⟩ r.tail n
  else if kindP r≠4 then eG E 2 r
  else if isT gU r.tail then
   let q:=r.tail.tail
   if kindP q≠4 then eG E 2 q
   else if numP q<numP r+1 then eG E 3 q
   else dK E ⟨3,numP r,numP q,[],[]⟩ q.tail n
  else eG E 2 r.tail
 |f+1,7,d,e,r,n=>
  if dayBit (textP r)=0 then eG E 2 r
  else if isT pC r.tail then goP E f 7 d ⟨0,((e.a.toNat|||dayBit (textP r):Nat):Int),0,[],[]⟩ r.tail.tail n
  else goP E f 8 d ⟨4,((e.a.toNat|||dayBit (textP r):Nat):Int),0,[],[]⟩ r.tail n
 |f+1,_,d,e,r,n=>
  if isT nO r then dr (goP E f 4 (d+1) ex0 r.tail n) fun k r n=>dK E ⟨e.kind,e.a,e.b,[],[k]⟩ r n else eG E 2 r
theorem fJ {x:List UInt8}{r:List Tk}(a:x≠[])(h:isT x r=true):1<=r.length:=by
 cases r with
 |nil=>simp[isT,textP]at h;exact absurd h (fun e=>a (by first|exact e|exact e.symm))
 |cons p r=>simp
theorem qe {r:List Tk}(h:kindP r≠0):1<=r.length:=by
 cases r with
 |nil=>simp[kindP]at h
 |cons p r=>simp
theorem ph {r:List Tk}(h:dayBit (textP r)≠0):1<=r.length:=by
 cases r with
 |nil=>exact absurd (by decide) h
 |cons p r=>simp
def gN (m:Nat):Nat:=if m=1\/m=3\/m=5 then 0 else 1
theorem dF {x:Res}{f:Ex->List Tk->Nat->Res}{z:Ex×List Tk×Nat}(h:dr x f= .ok z): ∃e r n,x= .ok (e,r,n)/\f e r n= .ok z:=by
 match x with
 | .error _=>cases h
 | .ok (e,r,n)=>exact⟨e,r,n,rfl,h⟩
theorem dU {E:Nat}{e:Ex}{r:List Tk}{n:Nat}{z:Ex×List Tk×Nat}(h:dK E e r n= .ok z):z=(e,r,n+1):=by
 unfold dK at h;split at h
 ·cases h
 ·cases h;rfl
theorem dP {E:Nat}{err:Int}{r:List Tk}{z:Ex×List Tk×Nat}(h:eG E err r= .ok z):False:=by
 unfold eG at h;cases h
theorem vj (E f d:Nat)(e:Ex)(r:List Tk)(n:Nat):goP E (f+1) 0 d e r n=dr (goP E f 2 d ex0 r n) fun e r n=>goP E f 1 d e r n:=rfl
theorem vk (E f d:Nat)(e:Ex)(r:List Tk)(n:Nat):goP E (f+1) 1 d e r n=if isT qd r then dr (goP E f 2 d ex0 r.tail n) fun t r n=>dr (dK E ⟨6,0,0,[],[e,t]⟩ r n) fun e r n=>goP E f 1 d e r n
 else if isT gU r then dr (goP E f 2 d ex0 r.tail n) fun t r n=>dr (dK E ⟨7,0,0,[],[e,t]⟩ r n) fun e r n=>goP E f 1 d e r n
 else .ok (e,r,n):=rfl
theorem vm (E f d:Nat)(e:Ex)(r:List Tk)(n:Nat):goP E (f+1) 2 d e r n=dr (goP E f 4 d ex0 r n) fun e r n=>goP E f 3 d e r n:=rfl
theorem vn (E f d:Nat)(e:Ex)(r:List Tk)(n:Nat):goP E (f+1) 3 d e r n=if isT tU r then dr (goP E f 4 d ex0 r.tail n) fun t r n=>dr (dK E ⟨8,0,0,[],[e,t]⟩ r n) fun e r n=>goP E f 3 d e r n
 else .ok (e,r,n):=rfl
theorem vo (E f d:Nat)(e:Ex)(r:List Tk)(n:Nat):goP E (f+1) 4 d e r n=dr (goP E f 6 d ex0 r n) fun e r n=>goP E f 5 d e r n:=rfl
def fY (r:List Tk):List Tk:=if isT gU r.tail then r.tail.tail else r.tail
theorem vq (E f d:Nat)(e:Ex)(r:List Tk)(n:Nat):goP E (f+1) 5 d e r n=if isT mK r then
  if kindP (fY r)≠6 then eG E 2 (fY r)
  else if 1440<=numP (fY r)\/numP (fY r)<1 then eG E 3 (fY r)
  else dr (dK E ⟨9,if isT gU r.tail then-numP (fY r) else numP (fY r),0,[],[e]⟩ (fY r).tail n) fun e r n=>goP E f 5 d e r n
 else .ok (e,r,n):=rfl
theorem vt (E f d:Nat)(e:Ex)(r:List Tk)(n:Nat):goP E (f+1) 6 d e r n=
 if 40<d then eG E 4 r
 else if isT lh r then dr (goP E f 0 (d+1) ex0 r.tail n) fun e r n=>if isT pg r then .ok (e,r.tail,n) else eG E 2 r
 else if isT kj r then dK E ⟨1,0,0,[],[]⟩ r.tail n
 else if isT jI r then dK E ⟨2,0,0,[],[]⟩ r.tail n
 else if isT j8 r then goP E f 7 d ex0 r.tail n
 else if isT lN r then
  if kindP r.tail≠5 then eG E 2 r.tail
  else if isT wTo r.tail.tail then
   if kindP r.tail.tail.tail≠5 then eG E 2 r.tail.tail.tail
   else if numP r.tail.tail.tail<numP r.tail then eG E 3 r.tail.tail.tail
   else goP E f 8 d ⟨5,numP r.tail,numP r.tail.tail.tail,[],[]⟩ r.tail.tail.tail.tail n
  else goP E f 8 d ⟨5,numP r.tail,numP r.tail,[],[]⟩ r.tail.tail n
 else if kindP r=1 then dK E ⟨10,0,0,textP r,[]⟩ r.tail n
 else if kindP r≠4 then eG E 2 r
 else if isT gU r.tail then
  if kindP r.tail.tail≠4 then eG E 2 r.tail.tail
  else if numP r.tail.tail<numP r+1 then eG E 3 r.tail.tail
  else dK E ⟨3,numP r,numP r.tail.tail,[],[]⟩ r.tail.tail.tail n
 else eG E 2 r.tail:=rfl
theorem vu (E f d:Nat)(e:Ex)(r:List Tk)(n:Nat):goP E (f+1) 7 d e r n=
 if dayBit (textP r)=0 then eG E 2 r
 else if isT pC r.tail then goP E f 7 d ⟨0,((e.a.toNat|||dayBit (textP r):Nat):Int),0,[],[]⟩ r.tail.tail n
 else goP E f 8 d ⟨4,((e.a.toNat|||dayBit (textP r):Nat):Int),0,[],[]⟩ r.tail n:=rfl
theorem vw (E f d:Nat)(e:Ex)(r:List Tk)(n:Nat):goP E (f+1) 8 d e r n=
 if isT nO r then dr (goP E f 4 (d+1) ex0 r.tail n) fun k r n=>dK E ⟨e.kind,e.a,e.b,[],[k]⟩ r n else eG E 2 r:=rfl
theorem Ky (r:List Tk):r.tail.length=r.length-1:=by simp
theorem r8 (r:List Tk):(fY r).length<=r.length-1:=by
 unfold fY;split<;>simp only[Ky]<;>omega
theorem zO (E:Nat): ∀(f m d:Nat) (e:Ex) (r:List Tk) (n:Nat) (w:Ex) (q:List Tk) (x:Nat),m<=8->goP E f m d e r n= .ok (w,q,x)->q.length+gN m<=r.length
 |0,m,d,e,r,n,w,q,x,_,h=>(dP h).elim
 |f+1,m,d,e,r,n,w,q,x,D,h=>by
  have g:=zO E f;match m,D with
  |0,_=>
   rw[vj]at h;obtain⟨k,r1,p,j,i⟩:=dF h;have a:=g 2 _ _ _ _ _ _ _ (by omega) j;have b:=g 1 _ _ _ _ _ _ _ (by omega) i;simp[gN]at*;omega
  |1,_=>
   rw[vk]at h;split at h
   ·obtain⟨k,r1,p,j,i⟩:=dF h;obtain⟨e2,z,y,l,o⟩:=dF i;have c:=dU l;cases c;have a:=g 2 _ _ _ _ _ _ _ (by omega) j;have b:=g 1 _ _ _ _ _ _ _ (by omega) o;simp[gN]at*;omega
   ·split at h
    ·obtain⟨k,r1,p,j,i⟩:=dF h;obtain⟨e2,z,y,l,o⟩:=dF i;have c:=dU l;cases c;have a:=g 2 _ _ _ _ _ _ _ (by omega) j;have b:=g 1 _ _ _ _ _ _ _ (by omega) o;simp[gN]at*;omega
    ·cases h;simp[gN]
  |2,_=>
   rw[vm]at h;obtain⟨k,r1,p,j,i⟩:=dF h;have a:=g 4 _ _ _ _ _ _ _ (by omega) j;have b:=g 3 _ _ _ _ _ _ _ (by omega) i;simp[gN]at*;omega
  |3,_=>
   rw[vn]at h;split at h
   ·obtain⟨k,r1,p,j,i⟩:=dF h;obtain⟨e2,z,y,l,o⟩:=dF i;have c:=dU l;cases c;have a:=g 4 _ _ _ _ _ _ _ (by omega) j;have b:=g 3 _ _ _ _ _ _ _ (by omega) o;simp[gN]at*;omega
   ·cases h;simp[gN]
  |4,_=>
   rw[vo]at h;obtain⟨k,r1,p,j,i⟩:=dF h;have a:=g 6 _ _ _ _ _ _ _ (by omega) j;have b:=g 5 _ _ _ _ _ _ _ (by omega) i;simp[gN]at*;omega
  |5,_=>
   rw[vq]at h;have G:=r8 r;split at h
   ·split at h
    ·exact(dP h).elim
    ·split at h
     ·exact(dP h).elim
     ·obtain⟨e2,z,y,l,o⟩:=dF h;have c:=dU l;cases c;have b:=g 5 _ _ _ _ _ _ _ (by omega) o;simp[gN]at*;omega
   ·cases h;simp[gN]
  |6,_=>
   rw[vt]at h;by_cases c0:40<d
   ·rw[aB c0]at h;exact(dP h).elim
   rw[ax c0]at h;by_cases c1:isT lh r=true
   ·rw[aB c1]at h;have:=fJ (by decide) c1;obtain⟨k,r1,p,j,i⟩:=dF h;have a:=g 0 _ _ _ _ _ _ _ (by omega) j;split at i
    ·cases i;simp[gN]at*;omega
    ·exact(dP i).elim
   rw[ax c1]at h;by_cases s:isT kj r=true
   ·rw[aB s]at h;have:=fJ (by decide) s;cases dU h;simp[gN]at*;omega
   rw[ax s]at h;by_cases t:isT jI r=true
   ·rw[aB t]at h;have:=fJ (by decide) t;cases dU h;simp[gN]at*;omega
   rw[ax t]at h;by_cases u:isT j8 r=true
   ·rw[aB u]at h;have:=fJ (by decide) u;have a:=g 7 _ _ _ _ _ _ _ (by omega) h;simp[gN]at*;omega
   rw[ax u]at h;by_cases v:isT lN r=true
   ·rw[aB v]at h;have:=fJ (by decide) v;split at h
    ·exact(dP h).elim
    split at h
    ·split at h
     ·exact(dP h).elim
     split at h
     ·exact(dP h).elim
     have a:=g 8 _ _ _ _ _ _ _ (by omega) h;simp[gN]at*;omega
    ·have a:=g 8 _ _ _ _ _ _ _ (by omega) h;simp[gN]at*;omega
   rw[ax v]at h;by_cases A:kindP r=1
   ·rw[aB A]at h;have:=qe (r:=r) (by omega);cases dU h;simp[gN]at*;omega
   rw[ax A]at h;by_cases B:kindP r≠4
   ·rw[aB B]at h;exact(dP h).elim
   rw[ax B]at h;have:=qe (r:=r) (by omega);split at h
   ·split at h
    ·exact(dP h).elim
    split at h
    ·exact(dP h).elim
    cases dU h;simp[gN]at*;omega
   ·exact(dP h).elim
  |7,_=>
   rw[vu]at h;split at h
   ·exact(dP h).elim
   ·rename_i C;have:=ph C;split at h
    ·have a:=g 7 _ _ _ _ _ _ _ (by omega) h;simp[gN]at*;omega
    ·have a:=g 8 _ _ _ _ _ _ _ (by omega) h;simp[gN]at*;omega
  |8,_=>
   rw[vw]at h;split at h
   ·rename_i F;have:=fJ (by decide) F;obtain⟨k,r1,p,j,i⟩:=dF h;cases dU i;have a:=g 4 _ _ _ _ _ _ _ (by omega) j;simp[gN]at*;omega
   ·exact(dP h).elim
theorem dW {x y:Res}{f g:Ex->List Tk->Nat->Res}(h:x=y)(a: ∀e r n,y= .ok (e,r,n)->f e r n=g e r n):dr x f=dr y g:=by
 subst h;match x with
 | .error _=>rfl
 | .ok (e,r,n)=>exact a e r n rfl
def fq (m:Nat):Nat:=if m=0 then 4 else if m=2 then 3 else if m=4 then 2 else 1
def fi (m:Nat)(r:List Tk):Nat:=4*r.length+fq m
theorem B0 (E:Nat): ∀(f m d:Nat) (e:Ex) (r:List Tk) (n:Nat),m<=8->fi m r<=f->goP E (f+1) m d e r n=goP E f m d e r n
 |0,m,d,e,r,n,_,h=>by
  unfold fi fq at h;exfalso;split at h
  ·omega
  split at h
  ·omega
  split at h<;>omega
 |f+1,m,d,e,r,n,v,h=>by
  have b:=B0 E f;have len:=zO E f;unfold fi at h b;match m,v with
  |0,_=>
   rw[vj,vj];refine dW (b 2 _ _ _ _ (by omega) (by simp[fq]at*;omega)) fun i r1 k c=> ?_;have a:=len 2 _ _ _ _ _ _ _ (by omega) c;exact b 1 _ _ _ _ (by omega) (by simp[fq,gN]at*;omega)
  |1,_=>
   rw[vk,vk];split
   ·rename_i g;have:=fJ (by decide) g;refine dW (b 2 _ _ _ _ (by omega) (by simp[fq]at*;omega)) fun i r1 k c=> ?_;have a:=len 2 _ _ _ _ _ _ _ (by omega) c;refine dW rfl fun e2 t s j=> ?_;cases dU j;exact b 1 _ _ _ _ (by omega) (by simp[fq,gN]at*;omega)
   ·split
    ·rename_i g;have:=fJ (by decide) g;refine dW (b 2 _ _ _ _ (by omega) (by simp[fq]at*;omega)) fun i r1 k c=> ?_;have a:=len 2 _ _ _ _ _ _ _ (by omega) c;refine dW rfl fun e2 t s j=> ?_;cases dU j;exact b 1 _ _ _ _ (by omega) (by simp[fq,gN]at*;omega)
    ·rfl
  |2,_=>
   rw[vm,vm];refine dW (b 4 _ _ _ _ (by omega) (by simp[fq]at*;omega)) fun i r1 k c=> ?_;have a:=len 4 _ _ _ _ _ _ _ (by omega) c;exact b 3 _ _ _ _ (by omega) (by simp[fq,gN]at*;omega)
  |3,_=>
   rw[vn,vn];split
   ·rename_i g;have:=fJ (by decide) g;refine dW (b 4 _ _ _ _ (by omega) (by simp[fq]at*;omega)) fun i r1 k c=> ?_;have a:=len 4 _ _ _ _ _ _ _ (by omega) c;refine dW rfl fun e2 t s j=> ?_;cases dU j;exact b 3 _ _ _ _ (by omega) (by simp[fq,gN]at*;omega)
   ·rfl
  |4,_=>
   rw[vo,vo];refine dW (b 6 _ _ _ _ (by omega) (by simp[fq]at*;omega)) fun i r1 k c=> ?_;have a:=len 6 _ _ _ _ _ _ _ (by omega) c;exact b 5 _ _ _ _ (by omega) (by simp[fq,gN]at*;omega)
  |5,_=>
   rw[vq,vq];have w:=r8 r;split
   ·rename_i g;have:=fJ (by decide) g;split
    ·rfl
    split
    ·rfl
    refine dW rfl fun e2 t s j=> ?_;cases dU j;exact b 5 _ _ _ _ (by omega) (by simp[fq]at*;omega)
   ·rfl
  |6,_=>
   rw[vt E (f+1),vt E f];by_cases c0:40<d
   ·rw[aB c0,aB c0]
   rw[ax c0,ax c0];by_cases c1:isT lh r=true
   ·rw[aB c1,aB c1];have:=fJ (by decide) c1;exact dW (b 0 _ _ _ _ (by omega) (by simp[fq]at*;omega)) fun i r1 k c=>rfl
   rw[ax c1,ax c1];by_cases p:isT kj r=true
   ·rw[aB p,aB p]
   rw[ax p,ax p];by_cases q:isT jI r=true
   ·rw[aB q,aB q]
   rw[ax q,ax q];by_cases l:isT j8 r=true
   ·rw[aB l,aB l];have:=fJ (by decide) l;exact b 7 _ _ _ _ (by omega) (by simp[fq]at*;omega)
   rw[ax l,ax l];by_cases o:isT lN r=true
   ·rw[aB o,aB o];have:=fJ (by decide) o;rw[b 8 d ⟨5,numP r.tail,numP r.tail.tail.tail,[],[]⟩ r.tail.tail.tail.tail n (by omega) (by simp[fq]at*;omega),b 8 d ⟨5,numP r.tail,numP r.tail,[],[]⟩ r.tail.tail n (by omega) (by simp[fq]at*;omega)]
   rw[ax o,ax o]
  |7,_=>
   rw[vu E (f+1) d e r n,vu E f d e r n];split
   ·rfl
   ·rename_i u;have:=ph u;split
    ·exact b 7 _ _ _ _ (by omega) (by simp[fq]at*;omega)
    ·exact b 8 _ _ _ _ (by omega) (by simp[fq]at*;omega)
  |8,_=>
   rw[vw,vw];split
   ·rename_i g;have:=fJ (by decide) g;exact dW (b 4 _ _ _ _ (by omega) (by simp[fq]at*;omega)) fun i r1 k c=>rfl
   ·rfl
def rd (E m d:Nat)(e:Ex)(r:List Tk)(n:Nat):Res:=goP E (fi m r) m d e r n
theorem iT (E m d:Nat)(e:Ex)(r:List Tk)(n:Nat)(a:m<=8): ∀f,fi m r<=f->goP E f m d e r n=rd E m d e r n
 |f,h=>by
  obtain⟨k,rfl⟩: ∃k,f=fi m r+k:=⟨f-fi m r,by omega⟩
  clear h;induction k with
  |zero=>rfl
  |succ k b=>rw[<-Nat.add_assoc,B0 E _ m d e r n a (by omega)];exact b
theorem lZ {E m d:Nat}{e:Ex}{r:List Tk}{n:Nat}{b:Ex}{a:List Tk}{c:Nat}(f:m<=8)(h:rd E m d e r n= .ok (b,a,c)):a.length+gN m<=r.length:=zO E _ m d e r n b a c f h
theorem QH (E d:Nat)(e:Ex)(r:List Tk)(n:Nat):rd E 0 d e r n=dr (rd E 2 d ex0 r n) fun e r n=>rd E 1 d e r n:=by
 have h:fi 0 r=4*r.length+3+1:=by simp[fi,fq]
 show goP E (fi 0 r) 0 d e r n=_;rw[h,vj];refine dW (iT E 2 d ex0 r n (by omega) _ (by simp[fi,fq])) fun b r1 f c=> ?_;have a:=lZ (by omega) c;exact iT E 1 d b r1 f (by omega) _ (by simp[fi,fq,gN]at*;omega)
theorem QI (E d:Nat)(e:Ex)(r:List Tk)(n:Nat):rd E 2 d e r n=dr (rd E 4 d ex0 r n) fun e r n=>rd E 3 d e r n:=by
 have h:fi 2 r=4*r.length+2+1:=by simp[fi,fq]
 show goP E (fi 2 r) 2 d e r n=_;rw[h,vm];refine dW (iT E 4 d ex0 r n (by omega) _ (by simp[fi,fq])) fun b r1 f c=> ?_;have a:=lZ (by omega) c;exact iT E 3 d b r1 f (by omega) _ (by simp[fi,fq,gN]at*;omega)
theorem QJ (E d:Nat)(e:Ex)(r:List Tk)(n:Nat):rd E 4 d e r n=dr (rd E 6 d ex0 r n) fun e r n=>rd E 5 d e r n:=by
 have h:fi 4 r=4*r.length+1+1:=by simp[fi,fq]
 show goP E (fi 4 r) 4 d e r n=_;rw[h,vo];refine dW (iT E 6 d ex0 r n (by omega) _ (by simp[fi,fq])) fun b r1 f c=> ?_;have a:=lZ (by omega) c;exact iT E 5 d b r1 f (by omega) _ (by simp[fi,fq,gN]at*;omega)
theorem Kz (E d:Nat)(e:Ex)(r:List Tk)(n:Nat):rd E 1 d e r n=
  if isT qd r then dr (rd E 2 d ex0 r.tail n) fun t r n=>dr (dK E ⟨6,0,0,[],[e,t]⟩ r n) fun e r n=>rd E 1 d e r n
  else if isT gU r then dr (rd E 2 d ex0 r.tail n) fun t r n=>dr (dK E ⟨7,0,0,[],[e,t]⟩ r n) fun e r n=>rd E 1 d e r n
  else .ok (e,r,n):=by
 have h:fi 1 r=4*r.length+1:=by simp[fi,fq]
 show goP E (fi 1 r) 1 d e r n=_;rw[h,vk];by_cases c1:isT qd r=true
 ·rw[aB c1,aB c1];have:=fJ (by decide) c1;refine dW (iT E 2 d ex0 r.tail n (by omega) _ (by simp[fi,fq];omega)) fun g r1 i c=> ?_;have a:=lZ (by omega) c;refine dW rfl fun e2 k j f=> ?_;cases dU f;exact iT E 1 d _ _ _ (by omega) _ (by simp[fi,fq,gN]at*;omega)
 ·rw[ax c1,ax c1];by_cases b:isT gU r=true
  ·rw[aB b,aB b];have:=fJ (by decide) b;refine dW (iT E 2 d ex0 r.tail n (by omega) _ (by simp[fi,fq];omega)) fun g r1 i c=> ?_;have a:=lZ (by omega) c;refine dW rfl fun e2 k j f=> ?_;cases dU f;exact iT E 1 d _ _ _ (by omega) _ (by simp[fi,fq,gN]at*;omega)
  ·rw[ax b,ax b]
theorem OD (E d:Nat)(e:Ex)(r:List Tk)(n:Nat):rd E 3 d e r n=
  if isT tU r then dr (rd E 4 d ex0 r.tail n) fun t r n=>dr (dK E ⟨8,0,0,[],[e,t]⟩ r n) fun e r n=>rd E 3 d e r n
  else .ok (e,r,n):=by
 have h:fi 3 r=4*r.length+1:=by simp[fi,fq]
 show goP E (fi 3 r) 3 d e r n=_;rw[h,vn];by_cases c1:isT tU r=true
 ·rw[aB c1,aB c1];have:=fJ (by decide) c1;refine dW (iT E 4 d ex0 r.tail n (by omega) _ (by simp[fi,fq];omega)) fun f r1 g b=> ?_;have a:=lZ (by omega) b;refine dW rfl fun e2 j i c=> ?_;cases dU c;exact iT E 3 d _ _ _ (by omega) _ (by simp[fi,fq,gN]at*;omega)
 ·rw[ax c1,ax c1]
theorem OE (E d:Nat)(e:Ex)(r:List Tk)(n:Nat):rd E 5 d e r n=if isT mK r then
   if kindP (fY r)≠6 then eG E 2 (fY r)
   else if 1440<=numP (fY r)\/numP (fY r)<1 then eG E 3 (fY r)
   else dr (dK E ⟨9,if isT gU r.tail then-numP (fY r) else numP (fY r),0,[],[e]⟩ (fY r).tail n) fun e r n=>rd E 5 d e r n
  else .ok (e,r,n):=by
 have h:fi 5 r=4*r.length+1:=by simp[fi,fq]
 show goP E (fi 5 r) 5 d e r n=_;rw[h,vq];have f:=r8 r;by_cases c1:isT mK r=true
 ·rw[aB c1,aB c1];have:=fJ (by decide) c1;by_cases a:kindP (fY r)≠6
  ·rw[aB a,aB a]
  rw[ax a,ax a];by_cases b:1440<=numP (fY r)\/numP (fY r)<1
  ·rw[aB b,aB b]
  rw[ax b,ax b];refine dW rfl fun e2 i g c=> ?_;cases dU c;exact iT E 5 d _ _ _ (by omega) _ (by simp[fi,fq]at*;omega)
 ·rw[ax c1,ax c1]
theorem OF (E d:Nat)(e:Ex)(r:List Tk)(n:Nat):rd E 6 d e r n=
  if 40<d then eG E 4 r
  else if isT lh r then dr (rd E 0 (d+1) ex0 r.tail n) fun e r n=>if isT pg r then .ok (e,r.tail,n) else eG E 2 r
  else if isT kj r then dK E ⟨1,0,0,[],[]⟩ r.tail n
  else if isT jI r then dK E ⟨2,0,0,[],[]⟩ r.tail n
  else if isT j8 r then rd E 7 d ex0 r.tail n
  else if isT lN r then
   if kindP r.tail≠5 then eG E 2 r.tail
   else if isT wTo r.tail.tail then
    if kindP r.tail.tail.tail≠5 then eG E 2 r.tail.tail.tail
    else if numP r.tail.tail.tail<numP r.tail then eG E 3 r.tail.tail.tail
    else rd E 8 d ⟨5,numP r.tail,numP r.tail.tail.tail,[],[]⟩ r.tail.tail.tail.tail n
   else rd E 8 d ⟨5,numP r.tail,numP r.tail,[],[]⟩ r.tail.tail n
  else if kindP r=1 then dK E ⟨10,0,0,textP r,[]⟩ r.tail n
  else if kindP r≠4 then eG E 2 r
  else if isT gU r.tail then
   if kindP r.tail.tail≠4 then eG E 2 r.tail.tail
   else if numP r.tail.tail<numP r+1 then eG E 3 r.tail.tail
   else dK E ⟨3,numP r,numP r.tail.tail,[],[]⟩ r.tail.tail.tail n
  else eG E 2 r.tail:=by
 have h:fi 6 r=4*r.length+1:=by simp[fi,fq]
 show goP E (fi 6 r) 6 d e r n=_;rw[h,vt];by_cases c0:40<d
 ·rw[aB c0,aB c0]
 rw[ax c0,ax c0];by_cases c1:isT lh r=true
 ·rw[aB c1,aB c1];have:=fJ (by decide) c1;exact dW (iT E 0 _ _ _ _ (by omega) _ (by simp[fi,fq]at*;omega)) fun g r1 j i=>rfl
 rw[ax c1,ax c1];by_cases c:isT kj r=true
 ·rw[aB c,aB c]
 rw[ax c,ax c];by_cases f:isT jI r=true
 ·rw[aB f,aB f]
 rw[ax f,ax f];by_cases a:isT j8 r=true
 ·rw[aB a,aB a];have:=fJ (by decide) a;exact iT E 7 _ _ _ _ (by omega) _ (by simp[fi,fq]at*;omega)
 rw[ax a,ax a];by_cases b:isT lN r=true
 ·rw[aB b,aB b];have:=fJ (by decide) b;rw[iT E 8 d ⟨5,numP r.tail,numP r.tail.tail.tail,[],[]⟩ r.tail.tail.tail.tail n (by omega) _ (by simp[fi,fq]at*;omega),iT E 8 d ⟨5,numP r.tail,numP r.tail,[],[]⟩ r.tail.tail n (by omega) _ (by simp[fi,fq]at*;omega)]
 rw[ax b,ax b]
theorem OG (E d:Nat)(e:Ex)(r:List Tk)(n:Nat):rd E 7 d e r n=
  if dayBit (textP r)=0 then eG E 2 r
  else if isT pC r.tail then rd E 7 d ⟨0,((e.a.toNat|||dayBit (textP r):Nat):Int),0,[],[]⟩ r.tail.tail n
  else rd E 8 d ⟨4,((e.a.toNat|||dayBit (textP r):Nat):Int),0,[],[]⟩ r.tail n:=by
 have h:fi 7 r=4*r.length+1:=by simp[fi,fq]
 show goP E (fi 7 r) 7 d e r n=_;rw[h,vu];by_cases c1:dayBit (textP r)=0
 ·rw[aB c1,aB c1]
 rw[ax c1,ax c1];have:=ph c1;rw[iT E 7 d _ r.tail.tail n (by omega) _ (by simp[fi,fq]at*;omega),iT E 8 d _ r.tail n (by omega) _ (by simp[fi,fq]at*;omega)]
theorem QK (E d:Nat)(e:Ex)(r:List Tk)(n:Nat):rd E 8 d e r n=
  if isT nO r then dr (rd E 4 (d+1) ex0 r.tail n) fun k r n=>dK E ⟨e.kind,e.a,e.b,[],[k]⟩ r n else eG E 2 r:=by
 have h:fi 8 r=4*r.length+1:=by simp[fi,fq]
 show goP E (fi 8 r) 8 d e r n=_;rw[h,vw];by_cases c1:isT nO r=true
 ·rw[aB c1,aB c1];have:=fJ (by decide) c1;exact dW (iT E 4 _ _ _ _ (by omega) _ (by simp[fi,fq]at*;omega)) fun c r1 g f=>rfl
 ·rw[ax c1,ax c1]
end Lx
theorem ma (c:UInt8)(w:World):Calls prog 91 #[.int .u8 (c.toNat:Int)] w fun e w'=>e= .returned (.bool (isD c))/\w'=w:=by
 unfold isD;by_cases a:48<=c.toNat
 ·by_cases b:c.toNat<=57
  ·have d:(48:Int)<=(c.toNat:Int):=(by omega);have f:(c.toNat:Int)<=57:=(by omega);rw[bn a,bn b];go_enter func91,ntmps91;go_wp2;go_ret;exact⟨rfl,rfl⟩
  ·have d:(48:Int)<=(c.toNat:Int):=(by omega);have f: ¬(c.toNat:Int)<=57:=(by omega);rw[bn a,bh b];go_enter func91,ntmps91;go_wp2;go_ret;exact⟨rfl,rfl⟩
 ·have d: ¬(48:Int)<=(c.toNat:Int):=by omega
  rw[bh a];go_enter func91,ntmps91;go_wp2;go_ret;exact⟨rfl,rfl⟩
theorem xX (c:UInt8)(w:World):Calls prog 93 #[.int .u8 (c.toNat:Int)] w fun e w'=>e= .returned (.bool (isL c))/\w'=w:=by
 unfold isL;by_cases a:97<=c.toNat
 ·by_cases b:c.toNat<=122
  ·have d:(97:Int)<=(c.toNat:Int):=(by omega);have f:(c.toNat:Int)<=122:=(by omega);rw[bn a,bn b];go_enter func93,ntmps93;go_wp2;go_ret;exact⟨rfl,rfl⟩
  ·have d:(97:Int)<=(c.toNat:Int):=(by omega);have f: ¬(c.toNat:Int)<=122:=(by omega);rw[bn a,bh b];go_enter func93,ntmps93;go_wp2;go_ret;exact⟨rfl,rfl⟩
 ·have d: ¬(97:Int)<=(c.toNat:Int):=by omega
  rw[bh a];go_enter func93,ntmps93;go_wp2;go_ret;exact⟨rfl,rfl⟩
theorem lQ {s:ByteArray}{l:List UInt8}(b:s.data.toList=l)(k:Nat)(a:k<s.size):s[k]=l.getD k 0:=by
 subst b;have h:k<s.data.size:=a;show s.data[k]=_;rw[bT,bv,gu h];rfl
theorem Ia {a b:Int}(h:a=b):ag a=ag b:=by rw[h]
theorem ni (s:ByteArray)(l:List UInt8)(m:s.data.toList=l)(z:l.length<=6)(d: ∀i,i<l.length->isD (l.getD i 0)=true)(w:World):
  Calls prog 124 #[.string s] w fun e w'=>e= .returned (ag (valL l))/\w'=w:=by
 have A:s.size=l.length:=by rw[<-m,Lib.size_eq]
 go_enter func124,ntmps124;go_wp2;go_loop [3,7] (fun n i=> ∃k:Nat,k<=l.length/\i=ag k/\n=ag (valL (l.take k))) (fun _ i=>l.length-(intOf i).toNat);case atStart=>exact⟨0,by omega,rfl,rfl⟩
 case round=>
  obtain⟨k,y,rfl,rfl⟩:=hrel;by_cases b:k<l.length
  ·have j:(k:Int)<(l.length:Int):=(by omega);have u:(0:Int)<=(k:Int):=(by omega);have x:=pZ l d k (by omega) (by omega);have a:=d k b;have g:=lQ m k (by omega);have e2:=AB l k b;have q:Rg (valL (l.take (k+1))=10*valL (l.take k)+(((l.getD k 0).toNat:Int)-48)):=e2;simp only[isD,br,bz]at a;have r:Rg (48<=(l.getD k 0).toNat/\(l.getD k 0).toNat<=57):=a;have p:Rg (s[k]=l.getD k 0):=g;clear a g e2 d;go_wp2;go_round
   case rel=>
    refine⟨k+1,by omega,by go_num,Ia ?_⟩;have t:=r.o;rw[p.o,q.o];generalize (l.getD k 0).toNat=c at t;generalize valL (l.take k)=v at x;omega
   case measure=>simp[intOf];omega
  ·have f:k=l.length:=(by omega);subst f;have e:valL (l.take l.length)=valL l:=(by rw[gM]);go_wp2;go_ret;exact⟨rfl,rfl⟩
theorem B1 (s t:ByteArray)(l m:List UInt8)(G:s.data.toList=l)(H:t.data.toList=m)(Q:l.length<=9223372036854775807)(R:m.length<=100)(w:World):
  Calls prog 88 #[.string s,.string t] w fun e w'=>e= .returned (.bool (jx l m))/\aq w w':=by
 have T:s.size=l.length:=by rw[<-G,Lib.size_eq]
 have S:t.size=m.length:=by rw[<-H,Lib.size_eq]
 by_cases u:m.length<=l.length
 ·have v: ¬(l.length:Int)<(m.length:Int):=by omega
  go_enter func88,ntmps88;go_wp2;go_loopw [13] (fun i wr=> ∃k:Nat,k<=m.length/\i=ag k/\(∀i,i<k->okB (m.getD i 0) (l.getD i 0)=true)/\aq w wr) (fun i _=>m.length-(intOf i).toNat);case atStart=>exact⟨0,by omega,rfl,fun i h=>by omega,aH _ _⟩
  case round=>
   obtain⟨k,P,rfl,d,b⟩:=hrel;have z:Rg (∀i,i<k->okB (m.getD i 0) (l.getD i 0)=true):=d;clear d;by_cases r:k<m.length
   ·have E:(k:Int)<(m.length:Int):=(by omega);have F:(k:Int)<(l.length:Int):=(by omega);have I:(0:Int)<=(k:Int):=(by omega);have p:=lQ G k (by omega);have e2:=lQ H k (by omega);have N: ∀h:k<s.size,s[k]=l.getD k 0:=fun _=>p;have O: ∀h:k<t.size,t[k]=m.getD k 0:=fun _=>e2;have a:okB (m.getD k 0) (l.getD k 0)=(if(m.getD k 0).toNat=48 then isD (l.getD k 0) else decide ((m.getD k 0).toNat=(l.getD k 0).toNat)):=rfl;generalize x:l.getD k 0=c at*;generalize y:m.getD k 0=f at*;by_cases j:f.toNat=48
    ·have J:(f.toNat:Int)=48:=(by omega);rw[aB j]at a;cases hd:isD c with
     |true=>
      rw[hd]at a;have g:Rg (okB f c=true):=a;have n:=fun w=>ma c w;rw[hd]at n;clear a hd p e2;go_wp2;go_quiet ((go_at_call 91;exact fL (n _)));go_wp2;go_roundw
      case rel=>
       refine⟨k+1,by omega,by go_num,fun i hi=> ?_,dw b _⟩;by_cases e:i=k
       ·subst e;rw[x,y];exact g.o
       ·exact z.o i (by omega)
      case measure=>simp[intOf];omega
     |false=>
      rw[hd]at a;have g:Rg (okB f c=false):=a;have n:=fun w=>ma c w;rw[hd]at n;clear a hd p e2;go_wp2;go_quiet ((go_at_call 91;exact fL (n _)));go_wp2;go_ret;exact⟨by rw[BY k r (by rw[x,y];exact g.o)];rfl,dw b _⟩
    ·have C:((f.toNat:Int)==48)=false:=(by simp;omega);rw[ax j]at a;by_cases q:f.toNat=c.toNat
     ·have g:Rg (okB f c=true):=(by rw[a];exact bn q);have L:((c.toNat:Int)==48)=false:=(by simp;omega);have D:((c.toNat:Int) !=48)=true:=(by simp;omega);have M:((c.toNat:Int) !=(c.toNat:Int))=false:=(by simp);clear a p e2 C j;go_wp2;go_quiet (fail);go_wp2;go_roundw
      case rel=>
       refine⟨k+1,by omega,by go_num,fun i hi=> ?_,dw b _⟩;by_cases e:i=k
       ·subst e;rw[x,y];exact g.o
       ·exact z.o i (by omega)
      case measure=>simp[intOf];omega
     ·have g:Rg (okB f c=false):=(by rw[a];exact bh q);have D:((f.toNat:Int) !=48)=true:=(by simp;omega);have K:((f.toNat:Int) !=(c.toNat:Int))=true:=(by simp;omega);clear a p e2;go_wp2;go_quiet (fail);go_wp2;go_ret;exact⟨by rw[BY k r (by rw[x,y];exact g.o)];rfl,dw b _⟩
   ·have A:Rg (jx l m=true):=H7 u fun i hi=>z.o i (by omega);have B:k=m.length:=(by omega);subst B;go_wp2;go_ret;exact⟨by rw[A.o];rfl,b⟩
 ·have A:Rg (jx l m=false):=DS u;have v:(l.length:Int)<(m.length:Int):=(by omega);go_enter func88,ntmps88;go_wp2;go_ret;exact⟨by rw[A.o];rfl,aH _ _⟩
def sT (t:T1):Value:= .tuple #[.agg #[ag t.kind,ag t.n,ag 0,.string ⟨t.text.toArray⟩],ag (t.len:Int),ag t.err]
theorem zP:prog.underlying 127=some (.struct (prog.fieldsOf 127)):=by kernel_rfl
theorem gF {e:Func}(h:e.results=f92.results){R:Ending->World->Prop}{a:Act}{w:World}(g:Nat)(t:T1)(l:a.defers=[])(f:a.tmps.getD 2 undef=ab g 0)
  (i:a.tmps.getD 3 undef=ag (t.len:Int)) (j:a.tmps.getD 4 undef=ag t.err) (m:w.heap[g]? =ah #[ag t.kind,ag t.n,ag 0,.string ⟨t.text.toArray⟩] 127)
  (k:R (.returned (sT t)) w):bodyPost prog e R .ret a w:=by
 refine aY (v:=sT t) ?_ l k;have b:a.tmps[2]?.getD undef=ab g 0:=by simpa using f
 have c:a.tmps[3]?.getD undef=ag (t.len:Int):=by simpa using i
 have d:a.tmps[4]?.getD undef=ag t.err:=by simpa using j
 have o:=eE (P:=prog) w g 127 127 _ _ _ m zP rfl (by kernel_rfl);simp[results,h,results92,b,c,d,asAddr,o,sT]
theorem vX (s:ByteArray)(l:List UInt8)(y:s.data.toList=l)(C:l.length<=9223372036854775806)(w:World):
  Calls prog 125 #[.string s] w fun e w'=>e= .returned (ag (wordLen l:Int))/\w'=w:=by
 have D:s.size=l.length:=by rw[<-y,Lib.size_eq]
 go_enter func125,ntmps125;go_wp2;go_loop [3] (fun i=> ∃k:Nat,k<=l.length/\i=ag k/\ ∀i,i<k->oF l i=true) (fun i=>l.length-(intOf i).toNat);case atStart=>exact⟨0,by omega,rfl,fun i h=>by omega⟩
 case round=>
  obtain⟨k,v,rfl,g⟩:=hrel;have f:Rg (∀i,i<k->oF l i=true):=g;clear g;by_cases t:k<l.length
  ·have j:(k:Int)<(l.length:Int):=(by omega);have r:(0:Int)<=(k:Int):=(by omega);have A: ∀h:k<s.size,s[k]=l.getD k 0:=fun h=>lQ y k h
   have b:oF l k=if k=0 then isL (l.getD k 0) else isC (l.getD k 0):=by
    unfold oF;split
    ·rename_i h;rw[h]
    ·rfl
   generalize B:l.getD k 0=c at*;have cl:=fun w=>xX c w;have m:=fun w=>ma c w;have a:oF l k=false->Rg (wordLen l=k):=fun h=>xU l k v f.o fun _=>h
   have next:oF l k=true->Rg (∀i,i<k+1->oF l i=true):=fun h i hi=>by
    by_cases e:i=k
    ·rw[e];exact h
    ·exact f.o i (by omega)
   cases hL:isL c with
   |true=>
    have p:=next (by rw[b];split<;>simp[hL,isC])
    rw[hL]at cl;clear b hL a next f
    go_wp2_with(first
     |(go_at_call 93;refine(cl _).mono ?_;rintro e w' ⟨rfl,rfl⟩)
     |(go_at_call 91;refine(m _).mono ?_;rintro e w' ⟨rfl,rfl⟩))
    go_round;case rel=>exact⟨k+1,by omega,by go_num,p.o⟩
    case measure=>simp[intOf];omega
   |false=>
    rw[hL]at cl;by_cases n:k=0
    ·have q:=a (by rw[b,aB n,hL]);clear b hL a next f r j
     subst n;have x:(0:Int)<(l.length:Int):=(by omega)
     go_wp2_with(first
      |(go_at_call 93;refine(cl _).mono ?_;rintro e w' ⟨rfl,rfl⟩)
      |(go_at_call 91;refine(m _).mono ?_;rintro e w' ⟨rfl,rfl⟩))
     go_ret;exact⟨by rw[q.o];rfl,rfl⟩
    ·have z:(0:Int)<(k:Int):=(by omega);cases hD:isD c with
     |true=>
      have p:=next (by rw[b,ax n];simp[hD,isC])
      rw[hD]at m;clear b hL hD a next f
      go_wp2_with(first
       |(go_at_call 93;refine(cl _).mono ?_;rintro e w' ⟨rfl,rfl⟩)
       |(go_at_call 91;refine(m _).mono ?_;rintro e w' ⟨rfl,rfl⟩))
      go_round;case rel=>exact⟨k+1,by omega,by go_num,p.o⟩
      case measure=>simp[intOf];omega
     |false=>
      rw[hD]at m;by_cases d:c.toNat=95
      ·have p:=next (by rw[b,ax n];simp[isC,d])
       have u:((c.toNat:Int)==95)=true:=(by simp;omega);clear b hL hD a next f d
       go_wp2_with(first
        |(go_at_call 93;refine(cl _).mono ?_;rintro e w' ⟨rfl,rfl⟩)
        |(go_at_call 91;refine(m _).mono ?_;rintro e w' ⟨rfl,rfl⟩))
       go_round;case rel=>exact⟨k+1,by omega,by go_num,p.o⟩
       case measure=>simp[intOf];omega
      ·have q:=a (by rw[b,ax n];simp[isC,d,hL,hD]);have u:((c.toNat:Int)==95)=false:=(by simp;omega);clear b hL hD a next f d
       go_wp2_with(first
        |(go_at_call 93;refine(cl _).mono ?_;rintro e w' ⟨rfl,rfl⟩)
        |(go_at_call 91;refine(m _).mono ?_;rintro e w' ⟨rfl,rfl⟩))
       go_ret;exact⟨by rw[q.o];rfl,rfl⟩
  ·have q:Rg (wordLen l=k):=xU l k v f.o fun h=>absurd h t;have j: ¬(k:Int)<(l.length:Int):=(by omega);go_wp2;go_ret;exact⟨by rw[q.o];rfl,rfl⟩
theorem FI (s:ByteArray)(l:List UInt8)(t:s.data.toList=l)(H:l.length<=9223372036854775806)(w:World):
  Calls prog 92 #[.string s] w fun e w'=>e= .returned (sT (mO l))/\aq w w':=by
 have I:s.size=l.length:=by rw[<-t,Lib.size_eq]
 have n:aq w (w.alloc (.cells #[ag 0,ag 0,ag 0,.string ⟨#[]⟩] 127)):=am _ _;go_enter func92,ntmps92;go_wp2;go_loop [5] (fun i=> ∃k:Nat,k<=l.length/\i=ag k/\ ∀i,i<k->isD (l.getD i 0)=true) (fun i=>l.length-(intOf i).toNat);case atStart=>exact⟨0,by omega,rfl,fun i h=>by omega⟩
 case round=>
  obtain⟨k,F,rfl,j⟩:=hrel;have u:Rg (∀i,i<k->isD (l.getD i 0)=true):=j;clear j;by_cases a:k<l.length/\isD (l.getD k 0)=true
  ·obtain⟨f,d⟩:=a;have b:(k:Int)<(l.length:Int):=(by omega);have r:(0:Int)<=(k:Int):=(by omega);have B: ∀h:k<s.size,s[k]=l.getD k 0:=fun h=>lQ t k h;have g:=fun w=>ma (l.getD k 0) w;rw[d]at g;have E:Rg (isD (l.getD k 0)=true):=d;clear d;generalize y:l.getD k 0=c at*;go_wp2_with(go_at_call 91;refine(g _).mono ?_;rintro e w' ⟨rfl,rfl⟩)
   go_round
   case rel=>
    refine⟨k+1,by omega,by go_num,fun i hi=> ?_⟩;by_cases e:i=k
    ·rw[e,y];exact E.o
    ·exact u.o i (by omega)
   case measure=>simp[intOf];omega
  ·have D:ii isD l=k:=ww isD l k F u.o fun h=>by
    cases e:isD (l.getD k 0) with
    |false=>rfl
    |true=>exact absurd ⟨h,e⟩ a
   have z:Rg (ii isD l=k):=D;clear D;by_cases C:6<k
   ·have x:(6:Int)<(k:Int):=(by omega)
    have m:Rg (mO l=bad 3):=by
     have:=z.o;show mO l=bad 3;unfold mO;rw[this,aB C]
    by_cases f:k<l.length
    ·have b:(k:Int)<(l.length:Int):=(by omega);have r:(0:Int)<=(k:Int):=(by omega);have B: ∀h:k<s.size,s[k]=l.getD k 0:=fun h=>lQ t k h
     have d:isD (l.getD k 0)=false:=by
      cases e:isD (l.getD k 0) with
      |false=>rfl
      |true=>exact absurd ⟨f,e⟩ a
     have g:=fun w=>ma (l.getD k 0) w;rw[d]at g;clear d a;generalize y:l.getD k 0=c at*;go_wp2_with(go_at_call 91;refine(g _).mono ?_;rintro e w' ⟨rfl,rfl⟩)
     exact gF rfl w.heap.size (bad 3) rfl rfl rfl rfl (aG w _) ⟨by rw[m.o],n⟩
    ·have b: ¬(k:Int)<(l.length:Int):=(by omega);clear a;go_wp2;exact gF rfl w.heap.size (bad 3) rfl rfl rfl rfl (aG w _) ⟨by rw[m.o],n⟩
   ·have x: ¬(6:Int)<(k:Int):=(by omega);have G:(k:Int)<=(l.length:Int):=(by omega);have r:(0:Int)<=(k:Int):=(by omega)
    have m:Rg (mO l=⟨6,valL (l.take k),[],k,0⟩):=by
     have:=z.o;show mO l=_;unfold mO;rw[this,ax C]
    have A:=fun w=>ni (s.extract 0 k) (l.take k) (by rw[Lib.extract_data,t];simp) (by simp;omega) (fun i hi=>by
     have q:i<k:=(by simp at hi;omega);have:=u.o i q;rw[bT]at this⊢;rw[jA,aB q];exact this) w
    generalize valL (l.take k)=v at*;have p:aq w (w.alloc (.cells #[ag 6,ag v,ag 0,.string ⟨#[]⟩] 127)):=am _ _;by_cases f:k<l.length
    ·have b:(k:Int)<(l.length:Int):=(by omega);have B: ∀h:k<s.size,s[k]=l.getD k 0:=fun h=>lQ t k h
     have d:isD (l.getD k 0)=false:=by
      cases e:isD (l.getD k 0) with
      |false=>rfl
      |true=>exact absurd ⟨f,e⟩ a
     have g:=fun w=>ma (l.getD k 0) w;rw[d]at g;clear d a;generalize y:l.getD k 0=c at*
     go_wp2_with(first
      |(go_at_call 91;refine(g _).mono ?_;rintro e w' ⟨rfl,rfl⟩)
      |(go_at_call 124;refine(A _).mono ?_;rintro e w' ⟨rfl,rfl⟩))
     exact gF rfl w.heap.size ⟨6,v,[],k,0⟩ rfl rfl rfl rfl (aG w _) ⟨by rw[m.o],p⟩
    ·have b: ¬(k:Int)<(l.length:Int):=(by omega);clear a;go_wp2_with(go_at_call 124;refine(A _).mono ?_;rintro e w' ⟨rfl,rfl⟩)
     exact gF rfl w.heap.size ⟨6,v,[],k,0⟩ rfl rfl rfl rfl (aG w _) ⟨by rw[m.o],p⟩
namespace Lx
def mc:List UInt8:=[61,59,58,43,45,38,40,41,44]
theorem B2: ∀(l:List UInt8) (c:UInt8),Go.Lib.indexByte l c<(l.length:Int)
 |[],c=>by simp[Go.Lib.indexByte]
 |b::l,c=>by
  have a:=B2 l c;unfold Go.Lib.indexByte;simp only[bO];split
  ·omega
  ·split<;>omega
theorem B3: ∀(l:List UInt8) (c:UInt8) (i:Nat),Go.Lib.indexByte l c=(i:Int)->l.getD i 0=c
 |[],c,i,h=>by simp[Go.Lib.indexByte]at h
 |b::l,c,i,h=>by
  unfold Go.Lib.indexByte at h;split at h
  ·rename_i a;have:i=0:=(by omega);subst this;simpa using a
  ·split at h
   ·omega
   ·have k:=Go.Lib.indexByte_ge l c;rename_i f;have g:Go.Lib.indexByte l c≠ -1:=(by simpa using f);obtain⟨j,d⟩: ∃j:Nat,Go.Lib.indexByte l c=j:=⟨(Go.Lib.indexByte l c).toNat,by omega⟩
    have e:i=j+1:=(by omega);subst e;simpa using B3 l c j d
def kF (l:List UInt8):T1:=if Go.Lib.hasPrefix l [46,46] then⟨3,0,[46,46],2,0⟩ else if Go.Lib.indexByte mc (l.getD 0 0)<0 then bad 2 else⟨3,0,[l.getD 0 0],1,0⟩
theorem Mi {s:ByteArray}{l:List UInt8}(h:s.data.toList=l):s=⟨l.toArray⟩:=by
 obtain⟨d⟩:=s;simp only at h;subst h;simp
def jR:List (List UInt8):=[[97,108,119,97,121,115],[100,97,116,101,115],[102,114,105],[109,111,110],[110,101,118,101,114],[114,117,108,101],[115,97,116],[115,104,105,102,116],[115,117,110],[116,104,117],[116,117,101],[119,101,100],[119,101,101,107,108,121]]
def isWordL (t:List UInt8):Bool:=jR.any fun w=>w==t
def li (l:List UInt8):T1:=if 20<wordLen l then bad 7 else⟨if isWordL (l.take (wordLen l)) then 2 else 1,0,l.take (wordLen l),wordLen l,0⟩
end Lx
end Go.Proofs.YtlkehieagdkgiaaGreatDoor
