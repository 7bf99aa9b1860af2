/- Texts of the proof. -/
import Derived.Lib.Bytealg
import Derived.Test.YtpdoienkhgnceaaGreatDoorPtZb
set_option maxRecDepth 100000
set_option maxHeartbeats 8000000
namespace Go.Proofs.YtpdoienkhgnceaaGreatDoor
open Go.Proofs.Tryz Go.RowKit Lx Vx Mx Msk
section
section
variable {w w':World} {base e size n:Nat} {v:Value} {xs:List Value}
theorem dy (h:w.ownsRow base e size v n xs): ∃p c,v= .slice p n c:=by
 rcases h.2 with⟨e,d⟩|⟨b,cap,a,e,_⟩
 ·exact⟨none,0,by rw[e,d]⟩
 ·exact⟨_,cap,e⟩
theorem lm {g:Nat}{c:Array Value}{T:TypeId}(h:w.ownsRow base e size v n xs)(j:w.heap[g]? =ah c T)(i:T≠e):some g≠v.ownBlock:=by
 rcases h.2 with⟨e,_⟩|⟨b,cap,d,e,_,a,_⟩
 ·rw[e];simp[Value.ownBlock]
 ·rw[e];intro q;have k:g=b:=(by simpa[Value.ownBlock] using q);subst k;rw[j]at a;injection a with a;injection a with _ f _;exact i f
theorem bH (h:w.ownsRow base e size v n xs)(k: ∀b,v.ownBlock=some b->w'.heap[b]? =w.heap[b]?):w'.ownsRow base e size v n xs:=by
 obtain⟨f,c⟩:=h;refine⟨f,?_⟩;rcases c with c|⟨g,cap,a,d,i,j,r⟩
 ·exact .inl c
 ·exact .inr ⟨g,cap,a,d,i,(k g (by rw[d];rfl)).trans j,r⟩
end
theorem ut {o:Oper}{a:Act}{w:World}{K:Act->World->Prop}{Q:Exit->Act->World->Prop}(s x:Operand)(t:TypeId)
  (H:o.op= .call {callee:= .builtin .append,args:= #[s,x],argTypes:= #[t,t]})
  (base:Nat) (e:TypeId) (i:TypeInfo) (z:Value) (size d:Nat) (L:prog.underlying t=some (.slice e)) (hi:prog.info? e=some i) (N:i.zero=some z)
  (l:i.size=size) (y:i.bytes=d) (B:z.cells.size=size) (A:0<size)
  (v:Value) (n:Nat) (xs:List Value) (J:a.eval s=v) (q:w.ownsRow base e size v n xs)
  (ad:Addr) (m c:Nat) (b:List Value) (M:a.eval x= .slice (some ad) m c) (G:b.length=m*size) (k: ∀j u,b[j]? =some u->w.cell? (ad.add j)=some u) (C: ∀u∈b,u.oneCell'=true)
  (r:n+m<=maxLen) (f:(n+m)*d<=140737488355328) (g:base<=w.heap.size)
  (h: ∀p w',w'.ownsRow base e size p (n+m) (xs++b)->w.grownBy w' v.ownBlock->(p.ownBlock=v.ownBlock\/p.ownBlock=some w.heap.size)->K (a.put o.dst p) w'):o.wp prog a w K Q:=by
 obtain⟨p,w',I,D,E,_,F⟩:=run_append_own_at (P:=prog) w base t o.type e i z size d L hi N l y B A v n xs q ad m c b G k C r f g;unfold Oper.wp execOp;simp only[H,resolve,invoke,builtin,kb,lg,iB,jl,cQ,fu,J,M,I];exact h p w' D E F
end
namespace Lx
def isD (c:UInt8):Bool:=decide (48<=c.toNat)&&decide (c.toNat<=57)
def isL (c:UInt8):Bool:=decide (97<=c.toNat)&&decide (c.toNat<=122)
def isC (c:UInt8):Bool:=isL c||(isD c||decide (c.toNat=95))
def fd (p:UInt8->Bool):List UInt8->Nat
 |[]=>0
 |c::l=>if p c then fd p l+1 else 0
def wordLen:List UInt8->Nat
 |[]=>0
 |c::l=>if isL c then fd isC l+1 else 0
theorem mi (p:UInt8->Bool): ∀l,fd p l<=l.length
 |[]=>by simp[fd]
 |c::l=>by have:=mi p l;simp only[fd];split<;>simp;omega
theorem Bq (p:UInt8->Bool): ∀l i,i<fd p l->p (l.getD i 0)=true
 |[],i,h=>by simp[fd]at h
 |c::l,i,h=>by
  simp only[fd]at h;split at h
  ·cases i with
   |zero=>simpa
   |succ i=>simpa using Bq p l i (by omega)
  ·omega
theorem xF (p:UInt8->Bool): ∀(l:List UInt8) (k:Nat),k<=l.length->(∀i,i<k->p (l.getD i 0)=true)->(k<l.length->p (l.getD k 0)=false)->fd p l=k
 |[],k,h,_,_=>by simp at h;subst h;rfl
 |c::l,0,_,_,a=>by
  have:=a (by simp);simp at this;simp[fd,this]
 |c::l,k+1,h,b,a=>by
  have d:=b 0 (by omega);simp at d;have:=xF p l k (by simpa using h) (fun i hi=>by simpa using b (i+1) (by omega)) (fun e=>by simpa using a (by simpa using e));simp[fd,d,this]
theorem tG: ∀l,wordLen l<=l.length
 |[]=>by simp[wordLen]
 |c::l=>by have:=mi isC l;simp only[wordLen];split<;>simp;omega
def valL (l:List UInt8):Int:=l.foldl (fun n c=>10*n+((c.toNat:Int)-48)) 0
theorem Br (l:List UInt8)(c:UInt8):valL (l++[c])=10*valL l+((c.toNat:Int)-48):=by simp[valL]
theorem Bs (l:List UInt8)(k:Nat)(a:k<l.length):valL (l.take (k+1))=10*valL (l.take k)+(((l.getD k 0).toNat:Int)-48):=by
 rw[List.take_succ_eq_append_getElem a,Br];simp[List.getD,a]
theorem qE (l:List UInt8)(h: ∀i,i<l.length->isD (l.getD i 0)=true): ∀k,k<=l.length->0<=valL (l.take k)/\valL (l.take k)<((10^k:Nat):Int)
 |0,_=>by simp[valL]
 |k+1,b=>by
  have c:=qE l h k (by omega);have a:=h k (by omega);simp only[isD,bx,bL]at a;rw[Bs l k (by omega),Nat.pow_succ];omega
theorem qF (l:List UInt8)(h: ∀i,i<l.length->isD (l.getD i 0)=true)(k:Nat)(c:k<=l.length)(a:k<=6):0<=valL (l.take k)/\valL (l.take k)<1000000:=by
 have b:=qE l h k c;have:(10:Nat)^k<=10^6:=Nat.pow_le_pow_right (by omega) a;have e:(10:Nat)^6=1000000:=by decide
 omega
def okB (f c:UInt8):Bool:=if f.toNat=48 then isD c else decide (f.toNat=c.toNat)
def ir (l m:List UInt8):Bool:=decide (m.length<=l.length)&&(List.range m.length).all fun i=>okB (m.getD i 0) (l.getD i 0)
theorem uI {l m:List UInt8}(a:m.length<=l.length)(b: ∀i,i<m.length->okB (m.getD i 0) (l.getD i 0)=true):ir l m=true:=by
 unfold ir;rw[bc a,jc,dl];intro i hi;exact b i (by simpa using hi)
theorem jK {l m:List UInt8}(i:Nat)(a:i<m.length)(b:okB (m.getD i 0) (l.getD i 0)=false):ir l m=false:=by
 cases e:ir l m with
 |false=>rfl
 |true=>
  unfold ir at e;rw[bx,dl]at e;have:=e.2 i (by simpa using a);rw[b]at this;cases this
theorem E8 {l m:List UInt8}(h: ¬m.length<=l.length):ir l m=false:=by simp[ir,h]
theorem rq {l m:List UInt8}(h:ir l m=true):m.length<=l.length/\ ∀i,i<m.length->okB (m.getD i 0) (l.getD i 0)=true:=by
 unfold ir at h;rw[bx,dl]at h;exact⟨by simpa using h.1,fun i hi=>h.2 i (by simpa using hi)⟩
def pg (l:List UInt8)(i:Nat):Bool:=if i=0 then isL (l.getD 0 0) else isC (l.getD i 0)
theorem yN: ∀(l:List UInt8) (k:Nat),k<=l.length->(∀i,i<k->pg l i=true)->(k<l.length->pg l k=false)->wordLen l=k
 |[],k,h,_,_=>by simp at h;subst h;rfl
 |c::l,0,_,_,a=>by
  have:=a (by simp);simp[pg]at this;simp[wordLen,this]
 |c::l,k+1,h,b,a=>by
  have d:=b 0 (by omega);simp[pg]at d;have e:=xF isC l k (by simpa using h) (fun i hi=>by simpa[pg] using b (i+1) (by omega)) (fun f=>by simpa[pg] using a (by simpa using f));simp[wordLen,d,e]
structure T1 where
 kind:Int
 n:Int
 text:List UInt8
 len:Nat
 err:Int
def bad (e:Int):T1:=⟨0,0,[],0,e⟩
def mj (l:List UInt8):T1:=if 6<fd isD l then bad 3 else⟨6,valL (l.take (fd isD l)),[],fd isD l,0⟩
def iY:List UInt8:=[48,48,48,48,45,48,48,45,48,48]
def kM:List UInt8:=[48,48,58,48,48]
def ng (l:List UInt8):T1:=if 59<valL ((l.drop 3).take 2)\/1440<60*valL ((l.drop 0).take 2)+valL ((l.drop 3).take 2) then bad 3 else⟨4,60*valL ((l.drop 0).take 2)+valL ((l.drop 3).take 2),[],5,0⟩
theorem lJ {l m:List UInt8}(h:ir l m=true)(a n:Nat)(ha:a+n<=m.length)(c: ∀i,i<n->(m.getD (a+i) 0).toNat=48):
  ((l.drop a).take n).length=n/\ ∀i,i<((l.drop a).take n).length->isD (((l.drop a).take n).getD i 0)=true:=by
 obtain⟨d,b⟩:=rq h;have e:((l.drop a).take n).length=n:=by simp;omega
 refine⟨e,fun i hi=> ?_⟩;rw[e]at hi;have:=b (a+i) (by omega);unfold okB at this;rw[ax (c i hi)]at this;rw[eE]at this⊢;rw[gC,ax hi,List.getElem?_drop];exact this
def eA:Bool->List UInt8->Nat
 |_,[]=>0
 |true,c::l=>if c.toNat=10 then eA false l+1 else eA true l+1
 |false,c::l=>if c.toNat=32\/c.toNat=9\/c.toNat=10 then eA false l+1 else if c.toNat=35 then eA true l+1 else 0
theorem ph: ∀(b:Bool) (l:List UInt8),eA b l<=l.length
 |true,[]=>by simp[eA]
 |false,[]=>by simp[eA]
 |true,c::l=>by
  have a:=ph true l;have d:=ph false l;simp only[eA,bK];split<;>omega
 |false,c::l=>by
  have a:=ph true l;have d:=ph false l;simp only[eA,bK];split
  ·omega
  ·split<;>omega
def AM (c:UInt8):Bool:=decide (c.toNat≠10)
def remL (l:List UInt8):Nat:=fd AM l
theorem C8: ∀(l:List UInt8),eA true l=remL l+eA false (l.drop (remL l))
 |[]=>by simp[remL,fd,eA]
 |c::l=>by
  by_cases h:c.toNat=10
  ·simp[remL,fd,AM,eA,h]
  ·have a:=C8 l;have e:remL (c::l)=remL l+1:=(by simp[remL,fd,AM,h]);rw[e];simp only[eA,h,if_false,List.drop_succ_cons];omega
theorem JJ (l:List UInt8)(b:0<l.length)(d:(l.getD 0 0).toNat=35):eA false l=remL l+eA false (l.drop (remL l))/\1<=remL l:=by
 match l,b with
 |c::r,_=>
  have a:c.toNat=35:=(by simpa using d);have e:remL (c::r)=remL r+1:=(by simp[remL,fd,AM,a]);have:=C8 r;rw[e];refine⟨?_,by omega⟩;simp only[eA,a,List.drop_succ_cons];simp;omega
theorem He (l:List UInt8)(b:0<l.length)(d:(l.getD 0 0).toNat=32\/(l.getD 0 0).toNat=9\/(l.getD 0 0).toNat=10):eA false l=1+eA false (l.drop 1):=by
 match l,b with
 |c::r,_=>
  have a:c.toNat=32\/c.toNat=9\/c.toNat=10:=(by simpa using d);simp only[eA,ax a,List.drop_succ_cons,List.drop_zero];omega
theorem JK (l:List UInt8)(a:0<l.length-> ¬((l.getD 0 0).toNat=32\/(l.getD 0 0).toNat=9\/(l.getD 0 0).toNat=10)/\(l.getD 0 0).toNat≠35):eA false l=0:=by
 match l with
 |[]=>rfl
 |c::r=>
  have:=a (by simp);simp only[List.getD_cons_zero]at this;simp only[eA,aw this.1,aw this.2]
theorem Bt: ∀l:List UInt8,Go.Lib.indexByte l 10=if remL l<l.length then(remL l:Int) else-1
 |[]=>by simp[Go.Lib.indexByte,remL,fd]
 |c::l=>by
  have f:=Bt l;by_cases h:c.toNat=10
  ·have e:c=10:=(by apply UInt8.toNat_inj.1;simpa using h);subst e;simp[Go.Lib.indexByte,remL,fd,AM]
  ·have b:(c==10)=false:=by
    rw[bl];intro e;subst e;simp at h
   have e:remL (c::l)=remL l+1:=(by simp[remL,fd,AM,h]);have d:remL l<=l.length:=mi _ l;unfold Go.Lib.indexByte;rw[b,f,e];by_cases a:remL l<l.length
   ·have g:((remL l:Int)== -1)=false:=(by simp);rw[ax a,g];simp[a]
   ·rw[aw a];simp[a]
structure Ex where
 kind:Int
 a:Int
 b:Int
 name:List UInt8
 kids:List Ex
abbrev Tk:=T1×Nat
def ex0:Ex:=⟨0,0,0,[],[]⟩
abbrev Res:=Except (Int×Nat) (Ex×List Tk×Nat)
def atP (E:Nat):List Tk->Nat
 |[]=>E
 |p::_=>p.2
def textP:List Tk->List UInt8
 |[]=>[]
 |p::_=>p.1.text
def kindP:List Tk->Int
 |[]=>0
 |p::_=>p.1.kind
def numP:List Tk->Int
 |[]=>0
 |p::_=>p.1.n
def isT (x:List UInt8)(r:List Tk):Bool:=textP r==x
def dg (x:Res)(f:Ex->List Tk->Nat->Res):Res:=
 match x with
 | .error e=> .error e
 | .ok (e,r,n)=>f e r n
def dp (E:Nat)(e:Ex)(r:List Tk)(n:Nat):Res:=if 600<n+1 then .error (4,atP E r) else .ok (e,r,n+1)
def dN (E:Nat)(err:Int)(r:List Tk):Res:= .error (err,atP E r)
def mG:List UInt8:=[43]
def ft:List UInt8:=[45]
def qr:List UInt8:=[38]
def g7:List UInt8:=[40]
def pR:List UInt8:=[41]
def mW:List UInt8:=[44]
def ml:List UInt8:=[58]
def rW:List UInt8:=[59]
def wIs:List UInt8:=[61]
def wTo:List UInt8:=[46,46]
def la:List UInt8:=[114,117,108,101]
def fw:List UInt8:=[110,101,118,101,114]
def eW:List UInt8:=[97,108,119,97,121,115]
def eX:List UInt8:=[119,101,101,107,108,121]
def fG:List UInt8:=[100,97,116,101,115]
def fY:List UInt8:=[115,104,105,102,116]
def dO:List (List UInt8):=[[109,111,110],[116,117,101],[119,101,100],[116,104,117],[102,114,105],[115,97,116],[115,117,110]]
def dayBit (x:List UInt8):Nat:=
 if x=dO.getD 0 [] then 1 else if x=dO.getD 1 [] then 2 else if x=dO.getD 2 [] then 4 else if x=dO.getD 3 [] then 8
 else if x=dO.getD 4 [] then 16 else if x=dO.getD 5 [] then 32 else if x=dO.getD 6 [] then 64 else 0
def goP (E:Nat):Nat->Nat->Nat->Ex->List Tk->Nat->Res
 |0,_,_,_,r,_=>dN E 0 r
 |f+1,0,d,_,r,n=>dg (goP E f 2 d ex0 r n) fun e r n=>goP E f 1 d e r n
 |f+1,1,d,e,r,n=>
  if isT mG r then dg (goP E f 2 d ex0 r.tail n) fun t r n=>dg (dp E ⟨6,0,0,[],[e,t]⟩ r n) fun e r n=>goP E f 1 d e r n
  else if isT ft r then dg (goP E f 2 d ex0 r.tail n) fun t r n=>dg (dp E ⟨7,0,0,[],[e,t]⟩ r n) fun e r n=>goP E f 1 d e r n
  else .ok (e,r,n)
 |f+1,2,d,_,r,n=>dg (goP E f 4 d ex0 r n) fun e r n=>goP E f 3 d e r n
 |f+1,3,d,e,r,n=>
  if isT qr r then dg (goP E f 4 d ex0 r.tail n) fun t r n=>dg (dp E ⟨8,0,0,[],[e,t]⟩ r n) fun e r n=>goP E f 3 d e r n
  else .ok (e,r,n)
 |f+1,4,d,_,r,n=>dg (goP E f 6 d ex0 r n) fun e r n=>goP E f 5 d e r n
 |f+1,5,d,e,r,n=>
  if isT fY r then
   let m:=isT ft r.tail
   let q:=if m then r.tail.tail else r.tail
   if kindP q≠6 then dN E 2 q
   else if 1440<=numP q\/numP q<1 then dN E 3 q
   else dg (dp E ⟨9,if m then-numP q else numP q,0,[],[e]⟩ q.tail n) fun e r n=>goP E f 5 d e r n
  else .ok (e,r,n)
 |f+1,6,d,_,r,n=>
  if 40<d then dN E 4 r
  else if isT g7 r then dg (goP E f 0 (d+1) ex0 r.tail n) fun e r n=>if isT pR r then .ok (e,r.tail,n) else dN E 2 r
  else if isT fw r then dp E ⟨1,0,0,[],[]⟩ r.tail n
  else if isT eW r then dp E ⟨2,0,0,[],[]⟩ r.tail n
  else if isT eX r then goP E f 7 d ex0 r.tail n
  else if isT fG r then
   let q:=r.tail
   if kindP q≠5 then dN E 2 q
   else if isT wTo q.tail then
    let p:=q.tail.tail
    if kindP p≠5 then dN E 2 p
    else if numP p<numP q then dN E 3 p
    else goP E f 8 d ⟨5,numP q,numP p,[],[]⟩ p.tail n
   else goP E f 8 d ⟨5,numP q,numP q,[],[]⟩ q.tail n
  else if kindP r=1 then dp E ⟨10,0,0,textP r,[]⟩ r.tail n
  else if kindP r≠4 then dN E 2 r
  else if isT ft r.tail then
   let q:=r.tail.tail
   if kindP q≠4 then dN E 2 q
   else if numP q<numP r+1 then dN E 3 q
   else dp E ⟨3,numP r,numP q,[],[]⟩ q.tail n
  else dN E 2 r.tail
 |f+1,7,d,e,r,n=>
  if dayBit (textP r)=0 then dN E 2 r
  else if isT mW r.tail then goP E f 7 d ⟨0,((e.a.toNat|||dayBit (textP r):Nat):Int),0,[],[]⟩ r.tail.tail n
  else goP E f 8 d ⟨4,((e.a.toNat|||dayBit (textP r):Nat):Int),0,[],[]⟩ r.tail n
 |f+1,_,d,e,r,n=>
  if isT ml r then dg (goP E f 4 (d+1) ex0 r.tail n) fun k r n=>dp E ⟨e.kind,e.a,e.b,[],[k]⟩ r n else dN E 2 r
theorem fp {x:List UInt8}{r:List Tk}(a:x≠[])(h:isT x r=true):1<=r.length:=by
 cases r with
 |nil=>simp[isT,textP]at h;exact absurd h (fun e=>a (by first|exact e|exact e.symm))
 |cons p r=>simp
theorem qG {r:List Tk}(h:kindP r≠0):1<=r.length:=by
 cases r with
 |nil=>simp[kindP]at h
 |cons p r=>simp
theorem mX {r:List Tk}(h:dayBit (textP r)≠0):1<=r.length:=by
 cases r with
 |nil=>exact absurd (by decide) h
 |cons p r=>simp
def fK (m:Nat):Nat:=if m=1\/m=3\/m=5 then 0 else 1
theorem bV {x:Res}{f:Ex->List Tk->Nat->Res}{z:Ex×List Tk×Nat}(h:dg x f= .ok z): ∃e r n,x= .ok (e,r,n)/\f e r n= .ok z:=by
 match x with
 | .error _=>cases h
 | .ok (e,r,n)=>exact⟨e,r,n,rfl,h⟩
theorem dx {E:Nat}{e:Ex}{r:List Tk}{n:Nat}{z:Ex×List Tk×Nat}(h:dp E e r n= .ok z):z=(e,r,n+1):=by
 unfold dp at h;split at h
 ·cases h
 ·cases h;rfl
theorem dc {E:Nat}{err:Int}{r:List Tk}{z:Ex×List Tk×Nat}(h:dN E err r= .ok z):False:=by
 unfold dN at h;cases h
theorem rX (E f d:Nat)(e:Ex)(r:List Tk)(n:Nat):goP E (f+1) 0 d e r n=dg (goP E f 2 d ex0 r n) fun e r n=>goP E f 1 d e r n:=rfl
theorem rY (E f d:Nat)(e:Ex)(r:List Tk)(n:Nat):goP E (f+1) 1 d e r n=if isT mG r then dg (goP E f 2 d ex0 r.tail n) fun t r n=>dg (dp E ⟨6,0,0,[],[e,t]⟩ r n) fun e r n=>goP E f 1 d e r n
 else if isT ft r then dg (goP E f 2 d ex0 r.tail n) fun t r n=>dg (dp E ⟨7,0,0,[],[e,t]⟩ r n) fun e r n=>goP E f 1 d e r n
 else .ok (e,r,n):=rfl
theorem rZ (E f d:Nat)(e:Ex)(r:List Tk)(n:Nat):goP E (f+1) 2 d e r n=dg (goP E f 4 d ex0 r n) fun e r n=>goP E f 3 d e r n:=rfl
theorem r6 (E f d:Nat)(e:Ex)(r:List Tk)(n:Nat):goP E (f+1) 3 d e r n=if isT qr r then dg (goP E f 4 d ex0 r.tail n) fun t r n=>dg (dp E ⟨8,0,0,[],[e,t]⟩ r n) fun e r n=>goP E f 3 d e r n
 else .ok (e,r,n):=rfl
theorem r7 (E f d:Nat)(e:Ex)(r:List Tk)(n:Nat):goP E (f+1) 4 d e r n=dg (goP E f 6 d ex0 r n) fun e r n=>goP E f 5 d e r n:=rfl
def eQ (r:List Tk):List Tk:=if isT ft r.tail then r.tail.tail else r.tail
theorem r8 (E f d:Nat)(e:Ex)(r:List Tk)(n:Nat):goP E (f+1) 5 d e r n=if isT fY r then
  if kindP (eQ r)≠6 then dN E 2 (eQ r)
  else if 1440<=numP (eQ r)\/numP (eQ r)<1 then dN E 3 (eQ r)
  else dg (dp E ⟨9,if isT ft r.tail then-numP (eQ r) else numP (eQ r),0,[],[e]⟩ (eQ r).tail n) fun e r n=>goP E f 5 d e r n
 else .ok (e,r,n):=rfl
theorem r9 (E f d:Nat)(e:Ex)(r:List Tk)(n:Nat):goP E (f+1) 6 d e r n=
 if 40<d then dN E 4 r
 else if isT g7 r then dg (goP E f 0 (d+1) ex0 r.tail n) fun e r n=>if isT pR r then .ok (e,r.tail,n) else dN E 2 r
 else if isT fw r then dp E ⟨1,0,0,[],[]⟩ r.tail n
 else if isT eW r then dp E ⟨2,0,0,[],[]⟩ r.tail n
 else if isT eX r then goP E f 7 d ex0 r.tail n
 else if isT fG r then
  if kindP r.tail≠5 then dN E 2 r.tail
  else if isT wTo r.tail.tail then
   if kindP r.tail.tail.tail≠5 then dN E 2 r.tail.tail.tail
   else if numP r.tail.tail.tail<numP r.tail then dN E 3 r.tail.tail.tail
   else goP E f 8 d ⟨5,numP r.tail,numP r.tail.tail.tail,[],[]⟩ r.tail.tail.tail.tail n
  else goP E f 8 d ⟨5,numP r.tail,numP r.tail,[],[]⟩ r.tail.tail n
 else if kindP r=1 then dp E ⟨10,0,0,textP r,[]⟩ r.tail n
 else if kindP r≠4 then dN E 2 r
 else if isT ft r.tail then
  if kindP r.tail.tail≠4 then dN E 2 r.tail.tail
  else if numP r.tail.tail<numP r+1 then dN E 3 r.tail.tail
  else dp E ⟨3,numP r,numP r.tail.tail,[],[]⟩ r.tail.tail.tail n
 else dN E 2 r.tail:=rfl
theorem sa (E f d:Nat)(e:Ex)(r:List Tk)(n:Nat):goP E (f+1) 7 d e r n=
 if dayBit (textP r)=0 then dN E 2 r
 else if isT mW r.tail then goP E f 7 d ⟨0,((e.a.toNat|||dayBit (textP r):Nat):Int),0,[],[]⟩ r.tail.tail n
 else goP E f 8 d ⟨4,((e.a.toNat|||dayBit (textP r):Nat):Int),0,[],[]⟩ r.tail n:=rfl
theorem sb (E f d:Nat)(e:Ex)(r:List Tk)(n:Nat):goP E (f+1) 8 d e r n=
 if isT ml r then dg (goP E f 4 (d+1) ex0 r.tail n) fun k r n=>dp E ⟨e.kind,e.a,e.b,[],[k]⟩ r n else dN E 2 r:=rfl
theorem Mq (r:List Tk):r.tail.length=r.length-1:=by simp
theorem pS (r:List Tk):(eQ r).length<=r.length-1:=by
 unfold eQ;split<;>simp only[Mq]<;>omega
theorem vW (E:Nat): ∀(f m d:Nat) (e:Ex) (r:List Tk) (n:Nat) (w:Ex) (q:List Tk) (y:Nat),m<=8->goP E f m d e r n= .ok (w,q,y)->q.length+fK m<=r.length
 |0,m,d,e,r,n,w,q,y,_,h=>(dc h).elim
 |f+1,m,d,e,r,n,w,q,y,F,h=>by
  have g:=vW E f;match m,F with
  |0,_=>
   rw[rX]at h;obtain⟨k,r1,p,j,i⟩:=bV h;have a:=g 2 _ _ _ _ _ _ _ (by omega) j;have b:=g 1 _ _ _ _ _ _ _ (by omega) i;simp[fK]at*;omega
  |1,_=>
   rw[rY]at h;split at h
   ·obtain⟨k,r1,p,j,i⟩:=bV h;obtain⟨x,A,z,l,o⟩:=bV i;have c:=dx l;cases c;have a:=g 2 _ _ _ _ _ _ _ (by omega) j;have b:=g 1 _ _ _ _ _ _ _ (by omega) o;simp[fK]at*;omega
   ·split at h
    ·obtain⟨k,r1,p,j,i⟩:=bV h;obtain⟨x,A,z,l,o⟩:=bV i;have c:=dx l;cases c;have a:=g 2 _ _ _ _ _ _ _ (by omega) j;have b:=g 1 _ _ _ _ _ _ _ (by omega) o;simp[fK]at*;omega
    ·cases h;simp[fK]
  |2,_=>
   rw[rZ]at h;obtain⟨k,r1,p,j,i⟩:=bV h;have a:=g 4 _ _ _ _ _ _ _ (by omega) j;have b:=g 3 _ _ _ _ _ _ _ (by omega) i;simp[fK]at*;omega
  |3,_=>
   rw[r6]at h;split at h
   ·obtain⟨k,r1,p,j,i⟩:=bV h;obtain⟨x,A,z,l,o⟩:=bV i;have c:=dx l;cases c;have a:=g 4 _ _ _ _ _ _ _ (by omega) j;have b:=g 3 _ _ _ _ _ _ _ (by omega) o;simp[fK]at*;omega
   ·cases h;simp[fK]
  |4,_=>
   rw[r7]at h;obtain⟨k,r1,p,j,i⟩:=bV h;have a:=g 6 _ _ _ _ _ _ _ (by omega) j;have b:=g 5 _ _ _ _ _ _ _ (by omega) i;simp[fK]at*;omega
  |5,_=>
   rw[r8]at h;have H:=pS r;split at h
   ·split at h
    ·exact(dc h).elim
    ·split at h
     ·exact(dc h).elim
     ·obtain⟨x,A,z,l,o⟩:=bV h;have c:=dx l;cases c;have b:=g 5 _ _ _ _ _ _ _ (by omega) o;simp[fK]at*;omega
   ·cases h;simp[fK]
  |6,_=>
   rw[r9]at h;by_cases c0:40<d
   ·rw[ax c0]at h;exact(dc h).elim
   rw[aw c0]at h;by_cases c1:isT g7 r=true
   ·rw[ax c1]at h;have:=fp (by decide) c1;obtain⟨k,r1,p,j,i⟩:=bV h;have a:=g 0 _ _ _ _ _ _ _ (by omega) j;split at i
    ·cases i;simp[fK]at*;omega
    ·exact(dc i).elim
   rw[aw c1]at h;by_cases s:isT fw r=true
   ·rw[ax s]at h;have:=fp (by decide) s;cases dx h;simp[fK]at*;omega
   rw[aw s]at h;by_cases t:isT eW r=true
   ·rw[ax t]at h;have:=fp (by decide) t;cases dx h;simp[fK]at*;omega
   rw[aw t]at h;by_cases u:isT eX r=true
   ·rw[ax u]at h;have:=fp (by decide) u;have a:=g 7 _ _ _ _ _ _ _ (by omega) h;simp[fK]at*;omega
   rw[aw u]at h;by_cases v:isT fG r=true
   ·rw[ax v]at h;have:=fp (by decide) v;split at h
    ·exact(dc h).elim
    split at h
    ·split at h
     ·exact(dc h).elim
     split at h
     ·exact(dc h).elim
     have a:=g 8 _ _ _ _ _ _ _ (by omega) h;simp[fK]at*;omega
    ·have a:=g 8 _ _ _ _ _ _ _ (by omega) h;simp[fK]at*;omega
   rw[aw v]at h;by_cases B:kindP r=1
   ·rw[ax B]at h;have:=qG (r:=r) (by omega);cases dx h;simp[fK]at*;omega
   rw[aw B]at h;by_cases C:kindP r≠4
   ·rw[ax C]at h;exact(dc h).elim
   rw[aw C]at h;have:=qG (r:=r) (by omega);split at h
   ·split at h
    ·exact(dc h).elim
    split at h
    ·exact(dc h).elim
    cases dx h;simp[fK]at*;omega
   ·exact(dc h).elim
  |7,_=>
   rw[sa]at h;split at h
   ·exact(dc h).elim
   ·rename_i D;have:=mX D;split at h
    ·have a:=g 7 _ _ _ _ _ _ _ (by omega) h;simp[fK]at*;omega
    ·have a:=g 8 _ _ _ _ _ _ _ (by omega) h;simp[fK]at*;omega
  |8,_=>
   rw[sb]at h;split at h
   ·rename_i G;have:=fp (by decide) G;obtain⟨k,r1,p,j,i⟩:=bV h;cases dx i;have a:=g 4 _ _ _ _ _ _ _ (by omega) j;simp[fK]at*;omega
   ·exact(dc h).elim
theorem dF {x y:Res}{f g:Ex->List Tk->Nat->Res}(h:x=y)(a: ∀e r n,y= .ok (e,r,n)->f e r n=g e r n):dg x f=dg y g:=by
 subst h;match x with
 | .error _=>rfl
 | .ok (e,r,n)=>exact a e r n rfl
def dQ (m:Nat):Nat:=if m=0 then 4 else if m=2 then 3 else if m=4 then 2 else 1
def dL (m:Nat)(r:List Tk):Nat:=4*r.length+dQ m
theorem C9 (E:Nat): ∀(f m d:Nat) (e:Ex) (r:List Tk) (n:Nat),m<=8->dL m r<=f->goP E (f+1) m d e r n=goP E f m d e r n
 |0,m,d,e,r,n,_,h=>by
  unfold dL dQ at h;exfalso;split at h
  ·omega
  split at h
  ·omega
  split at h<;>omega
 |f+1,m,d,e,r,n,w,h=>by
  have b:=C9 E f;have len:=vW E f;unfold dL at h b;match m,w with
  |0,_=>
   rw[rX,rX];refine dF (b 2 _ _ _ _ (by omega) (by simp[dQ]at*;omega)) fun i r1 k c=> ?_;have a:=len 2 _ _ _ _ _ _ _ (by omega) c;exact b 1 _ _ _ _ (by omega) (by simp[dQ,fK]at*;omega)
  |1,_=>
   rw[rY,rY];split
   ·rename_i g;have:=fp (by decide) g;refine dF (b 2 _ _ _ _ (by omega) (by simp[dQ]at*;omega)) fun i r1 k c=> ?_;have a:=len 2 _ _ _ _ _ _ _ (by omega) c;refine dF rfl fun s u t j=> ?_;cases dx j;exact b 1 _ _ _ _ (by omega) (by simp[dQ,fK]at*;omega)
   ·split
    ·rename_i g;have:=fp (by decide) g;refine dF (b 2 _ _ _ _ (by omega) (by simp[dQ]at*;omega)) fun i r1 k c=> ?_;have a:=len 2 _ _ _ _ _ _ _ (by omega) c;refine dF rfl fun s u t j=> ?_;cases dx j;exact b 1 _ _ _ _ (by omega) (by simp[dQ,fK]at*;omega)
    ·rfl
  |2,_=>
   rw[rZ,rZ];refine dF (b 4 _ _ _ _ (by omega) (by simp[dQ]at*;omega)) fun i r1 k c=> ?_;have a:=len 4 _ _ _ _ _ _ _ (by omega) c;exact b 3 _ _ _ _ (by omega) (by simp[dQ,fK]at*;omega)
  |3,_=>
   rw[r6,r6];split
   ·rename_i g;have:=fp (by decide) g;refine dF (b 4 _ _ _ _ (by omega) (by simp[dQ]at*;omega)) fun i r1 k c=> ?_;have a:=len 4 _ _ _ _ _ _ _ (by omega) c;refine dF rfl fun s u t j=> ?_;cases dx j;exact b 3 _ _ _ _ (by omega) (by simp[dQ,fK]at*;omega)
   ·rfl
  |4,_=>
   rw[r7,r7];refine dF (b 6 _ _ _ _ (by omega) (by simp[dQ]at*;omega)) fun i r1 k c=> ?_;have a:=len 6 _ _ _ _ _ _ _ (by omega) c;exact b 5 _ _ _ _ (by omega) (by simp[dQ,fK]at*;omega)
  |5,_=>
   rw[r8,r8];have x:=pS r;split
   ·rename_i g;have:=fp (by decide) g;split
    ·rfl
    split
    ·rfl
    refine dF rfl fun s u t j=> ?_;cases dx j;exact b 5 _ _ _ _ (by omega) (by simp[dQ]at*;omega)
   ·rfl
  |6,_=>
   rw[r9 E (f+1),r9 E f];by_cases c0:40<d
   ·rw[ax c0,ax c0]
   rw[aw c0,aw c0];by_cases c1:isT g7 r=true
   ·rw[ax c1,ax c1];have:=fp (by decide) c1;exact dF (b 0 _ _ _ _ (by omega) (by simp[dQ]at*;omega)) fun i r1 k c=>rfl
   rw[aw c1,aw c1];by_cases p:isT fw r=true
   ·rw[ax p,ax p]
   rw[aw p,aw p];by_cases q:isT eW r=true
   ·rw[ax q,ax q]
   rw[aw q,aw q];by_cases l:isT eX r=true
   ·rw[ax l,ax l];have:=fp (by decide) l;exact b 7 _ _ _ _ (by omega) (by simp[dQ]at*;omega)
   rw[aw l,aw l];by_cases o:isT fG r=true
   ·rw[ax o,ax o];have:=fp (by decide) o;rw[b 8 d ⟨5,numP r.tail,numP r.tail.tail.tail,[],[]⟩ r.tail.tail.tail.tail n (by omega) (by simp[dQ]at*;omega),b 8 d ⟨5,numP r.tail,numP r.tail,[],[]⟩ r.tail.tail n (by omega) (by simp[dQ]at*;omega)]
   rw[aw o,aw o]
  |7,_=>
   rw[sa E (f+1) d e r n,sa E f d e r n];split
   ·rfl
   ·rename_i v;have:=mX v;split
    ·exact b 7 _ _ _ _ (by omega) (by simp[dQ]at*;omega)
    ·exact b 8 _ _ _ _ (by omega) (by simp[dQ]at*;omega)
  |8,_=>
   rw[sb,sb];split
   ·rename_i g;have:=fp (by decide) g;exact dF (b 4 _ _ _ _ (by omega) (by simp[dQ]at*;omega)) fun i r1 k c=>rfl
   ·rfl
def rd (E m d:Nat)(e:Ex)(r:List Tk)(n:Nat):Res:=goP E (dL m r) m d e r n
theorem iN (E m d:Nat)(e:Ex)(r:List Tk)(n:Nat)(a:m<=8): ∀f,dL m r<=f->goP E f m d e r n=rd E m d e r n
 |f,h=>by
  obtain⟨k,rfl⟩: ∃k,f=dL m r+k:=⟨f-dL m r,by omega⟩
  clear h;induction k with
  |zero=>rfl
  |succ k b=>rw[<-Nat.add_assoc,C9 E _ m d e r n a (by omega)];exact b
theorem mn {E m d:Nat}{e:Ex}{r:List Tk}{n:Nat}{b:Ex}{a:List Tk}{c:Nat}(f:m<=8)(h:rd E m d e r n= .ok (b,a,c)):a.length+fK m<=r.length:=vW E _ m d e r n b a c f h
theorem QR (E d:Nat)(e:Ex)(r:List Tk)(n:Nat):rd E 0 d e r n=dg (rd E 2 d ex0 r n) fun e r n=>rd E 1 d e r n:=by
 have h:dL 0 r=4*r.length+3+1:=by simp[dL,dQ]
 show goP E (dL 0 r) 0 d e r n=_;rw[h,rX];refine dF (iN E 2 d ex0 r n (by omega) _ (by simp[dL,dQ])) fun b r1 f c=> ?_;have a:=mn (by omega) c;exact iN E 1 d b r1 f (by omega) _ (by simp[dL,dQ,fK]at*;omega)
theorem QS (E d:Nat)(e:Ex)(r:List Tk)(n:Nat):rd E 2 d e r n=dg (rd E 4 d ex0 r n) fun e r n=>rd E 3 d e r n:=by
 have h:dL 2 r=4*r.length+2+1:=by simp[dL,dQ]
 show goP E (dL 2 r) 2 d e r n=_;rw[h,rZ];refine dF (iN E 4 d ex0 r n (by omega) _ (by simp[dL,dQ])) fun b r1 f c=> ?_;have a:=mn (by omega) c;exact iN E 3 d b r1 f (by omega) _ (by simp[dL,dQ,fK]at*;omega)
theorem AN (E d:Nat)(e:Ex)(r:List Tk)(n:Nat):rd E 4 d e r n=dg (rd E 6 d ex0 r n) fun e r n=>rd E 5 d e r n:=by
 have h:dL 4 r=4*r.length+1+1:=by simp[dL,dQ]
 show goP E (dL 4 r) 4 d e r n=_;rw[h,r7];refine dF (iN E 6 d ex0 r n (by omega) _ (by simp[dL,dQ])) fun b r1 f c=> ?_;have a:=mn (by omega) c;exact iN E 5 d b r1 f (by omega) _ (by simp[dL,dQ,fK]at*;omega)
theorem AO (E d:Nat)(e:Ex)(r:List Tk)(n:Nat):rd E 1 d e r n=
  if isT mG r then dg (rd E 2 d ex0 r.tail n) fun t r n=>dg (dp E ⟨6,0,0,[],[e,t]⟩ r n) fun e r n=>rd E 1 d e r n
  else if isT ft r then dg (rd E 2 d ex0 r.tail n) fun t r n=>dg (dp E ⟨7,0,0,[],[e,t]⟩ r n) fun e r n=>rd E 1 d e r n
  else .ok (e,r,n):=by
 have h:dL 1 r=4*r.length+1:=by simp[dL,dQ]
 show goP E (dL 1 r) 1 d e r n=_;rw[h,rY];by_cases c1:isT mG r=true
 ·rw[ax c1,ax c1];have:=fp (by decide) c1;refine dF (iN E 2 d ex0 r.tail n (by omega) _ (by simp[dL,dQ];omega)) fun g r1 j c=> ?_;have a:=mn (by omega) c;refine dF rfl fun i l k f=> ?_;cases dx f;exact iN E 1 d _ _ _ (by omega) _ (by simp[dL,dQ,fK]at*;omega)
 ·rw[aw c1,aw c1];by_cases b:isT ft r=true
  ·rw[ax b,ax b];have:=fp (by decide) b;refine dF (iN E 2 d ex0 r.tail n (by omega) _ (by simp[dL,dQ];omega)) fun g r1 j c=> ?_;have a:=mn (by omega) c;refine dF rfl fun i l k f=> ?_;cases dx f;exact iN E 1 d _ _ _ (by omega) _ (by simp[dL,dQ,fK]at*;omega)
  ·rw[aw b,aw b]
theorem Hf (E d:Nat)(e:Ex)(r:List Tk)(n:Nat):rd E 3 d e r n=
  if isT qr r then dg (rd E 4 d ex0 r.tail n) fun t r n=>dg (dp E ⟨8,0,0,[],[e,t]⟩ r n) fun e r n=>rd E 3 d e r n
  else .ok (e,r,n):=by
 have h:dL 3 r=4*r.length+1:=by simp[dL,dQ]
 show goP E (dL 3 r) 3 d e r n=_;rw[h,r6];by_cases c1:isT qr r=true
 ·rw[ax c1,ax c1];have:=fp (by decide) c1;refine dF (iN E 4 d ex0 r.tail n (by omega) _ (by simp[dL,dQ];omega)) fun f r1 i b=> ?_;have a:=mn (by omega) b;refine dF rfl fun g k j c=> ?_;cases dx c;exact iN E 3 d _ _ _ (by omega) _ (by simp[dL,dQ,fK]at*;omega)
 ·rw[aw c1,aw c1]
theorem Hh (E d:Nat)(e:Ex)(r:List Tk)(n:Nat):rd E 5 d e r n=if isT fY r then
   if kindP (eQ r)≠6 then dN E 2 (eQ r)
   else if 1440<=numP (eQ r)\/numP (eQ r)<1 then dN E 3 (eQ r)
   else dg (dp E ⟨9,if isT ft r.tail then-numP (eQ r) else numP (eQ r),0,[],[e]⟩ (eQ r).tail n) fun e r n=>rd E 5 d e r n
  else .ok (e,r,n):=by
 have h:dL 5 r=4*r.length+1:=by simp[dL,dQ]
 show goP E (dL 5 r) 5 d e r n=_;rw[h,r8];have g:=pS r;by_cases c1:isT fY r=true
 ·rw[ax c1,ax c1];have:=fp (by decide) c1;by_cases a:kindP (eQ r)≠6
  ·rw[ax a,ax a]
  rw[aw a,aw a];by_cases b:1440<=numP (eQ r)\/numP (eQ r)<1
  ·rw[ax b,ax b]
  rw[aw b,aw b];refine dF rfl fun f j i c=> ?_;cases dx c;exact iN E 5 d _ _ _ (by omega) _ (by simp[dL,dQ]at*;omega)
 ·rw[aw c1,aw c1]
theorem rt (E d:Nat)(e:Ex)(r:List Tk)(n:Nat):rd E 6 d e r n=
  if 40<d then dN E 4 r
  else if isT g7 r then dg (rd E 0 (d+1) ex0 r.tail n) fun e r n=>if isT pR r then .ok (e,r.tail,n) else dN E 2 r
  else if isT fw r then dp E ⟨1,0,0,[],[]⟩ r.tail n
  else if isT eW r then dp E ⟨2,0,0,[],[]⟩ r.tail n
  else if isT eX r then rd E 7 d ex0 r.tail n
  else if isT fG r then
   if kindP r.tail≠5 then dN E 2 r.tail
   else if isT wTo r.tail.tail then
    if kindP r.tail.tail.tail≠5 then dN E 2 r.tail.tail.tail
    else if numP r.tail.tail.tail<numP r.tail then dN E 3 r.tail.tail.tail
    else rd E 8 d ⟨5,numP r.tail,numP r.tail.tail.tail,[],[]⟩ r.tail.tail.tail.tail n
   else rd E 8 d ⟨5,numP r.tail,numP r.tail,[],[]⟩ r.tail.tail n
  else if kindP r=1 then dp E ⟨10,0,0,textP r,[]⟩ r.tail n
  else if kindP r≠4 then dN E 2 r
  else if isT ft r.tail then
   if kindP r.tail.tail≠4 then dN E 2 r.tail.tail
   else if numP r.tail.tail<numP r+1 then dN E 3 r.tail.tail
   else dp E ⟨3,numP r,numP r.tail.tail,[],[]⟩ r.tail.tail.tail n
  else dN E 2 r.tail:=by
 have h:dL 6 r=4*r.length+1:=by simp[dL,dQ]
 show goP E (dL 6 r) 6 d e r n=_;rw[h,r9];by_cases c0:40<d
 ·rw[ax c0,ax c0]
 rw[aw c0,aw c0];by_cases c1:isT g7 r=true
 ·rw[ax c1,ax c1];have:=fp (by decide) c1;exact dF (iN E 0 _ _ _ _ (by omega) _ (by simp[dL,dQ]at*;omega)) fun g r1 j i=>rfl
 rw[aw c1,aw c1];by_cases c:isT fw r=true
 ·rw[ax c,ax c]
 rw[aw c,aw c];by_cases f:isT eW r=true
 ·rw[ax f,ax f]
 rw[aw f,aw f];by_cases a:isT eX r=true
 ·rw[ax a,ax a];have:=fp (by decide) a;exact iN E 7 _ _ _ _ (by omega) _ (by simp[dL,dQ]at*;omega)
 rw[aw a,aw a];by_cases b:isT fG r=true
 ·rw[ax b,ax b];have:=fp (by decide) b;rw[iN E 8 d ⟨5,numP r.tail,numP r.tail.tail.tail,[],[]⟩ r.tail.tail.tail.tail n (by omega) _ (by simp[dL,dQ]at*;omega),iN E 8 d ⟨5,numP r.tail,numP r.tail,[],[]⟩ r.tail.tail n (by omega) _ (by simp[dL,dQ]at*;omega)]
 rw[aw b,aw b]
theorem Hi (E d:Nat)(e:Ex)(r:List Tk)(n:Nat):rd E 7 d e r n=
  if dayBit (textP r)=0 then dN E 2 r
  else if isT mW r.tail then rd E 7 d ⟨0,((e.a.toNat|||dayBit (textP r):Nat):Int),0,[],[]⟩ r.tail.tail n
  else rd E 8 d ⟨4,((e.a.toNat|||dayBit (textP r):Nat):Int),0,[],[]⟩ r.tail n:=by
 have h:dL 7 r=4*r.length+1:=by simp[dL,dQ]
 show goP E (dL 7 r) 7 d e r n=_;rw[h,sa];by_cases c1:dayBit (textP r)=0
 ·rw[ax c1,ax c1]
 rw[aw c1,aw c1];have:=mX c1;rw[iN E 7 d _ r.tail.tail n (by omega) _ (by simp[dL,dQ]at*;omega),iN E 8 d _ r.tail n (by omega) _ (by simp[dL,dQ]at*;omega)]
theorem QT (E d:Nat)(e:Ex)(r:List Tk)(n:Nat):rd E 8 d e r n=
  if isT ml r then dg (rd E 4 (d+1) ex0 r.tail n) fun k r n=>dp E ⟨e.kind,e.a,e.b,[],[k]⟩ r n else dN E 2 r:=by
 have h:dL 8 r=4*r.length+1:=by simp[dL,dQ]
 show goP E (dL 8 r) 8 d e r n=_;rw[h,sb];by_cases c1:isT ml r=true
 ·rw[ax c1,ax c1];have:=fp (by decide) c1;exact dF (iN E 4 _ _ _ _ (by omega) _ (by simp[dL,dQ]at*;omega)) fun c r1 g f=>rfl
 ·rw[aw c1,aw c1]
end Lx
theorem mo (c:UInt8)(w:World):Calls prog 69 #[.int .u8 (c.toNat:Int)] w fun e g=>e= .returned (.bool (isD c))/\g=w:=by
 unfold isD;by_cases a:48<=c.toNat
 ·by_cases b:c.toNat<=57
  ·have d:(48:Int)<=(c.toNat:Int):=(by omega);have f:(c.toNat:Int)<=57:=(by omega);rw[bc a,bc b];go_enter func69,ntmps69;go_wp2;go_ret;exact⟨rfl,rfl⟩
  ·have d:(48:Int)<=(c.toNat:Int):=(by omega);have f: ¬(c.toNat:Int)<=57:=(by omega);rw[bc a,bo b];go_enter func69,ntmps69;go_wp2;go_ret;exact⟨rfl,rfl⟩
 ·have d: ¬(48:Int)<=(c.toNat:Int):=by omega
  rw[bo a];go_enter func69,ntmps69;go_wp2;go_ret;exact⟨rfl,rfl⟩
theorem yO (c:UInt8)(w:World):Calls prog 71 #[.int .u8 (c.toNat:Int)] w fun e g=>e= .returned (.bool (isL c))/\g=w:=by
 unfold isL;by_cases a:97<=c.toNat
 ·by_cases b:c.toNat<=122
  ·have d:(97:Int)<=(c.toNat:Int):=(by omega);have f:(c.toNat:Int)<=122:=(by omega);rw[bc a,bc b];go_enter func71,ntmps71;go_wp2;go_ret;exact⟨rfl,rfl⟩
  ·have d:(97:Int)<=(c.toNat:Int):=(by omega);have f: ¬(c.toNat:Int)<=122:=(by omega);rw[bc a,bo b];go_enter func71,ntmps71;go_wp2;go_ret;exact⟨rfl,rfl⟩
 ·have d: ¬(97:Int)<=(c.toNat:Int):=by omega
  rw[bo a];go_enter func71,ntmps71;go_wp2;go_ret;exact⟨rfl,rfl⟩
theorem l7 {s:ByteArray}{l:List UInt8}(b:s.data.toList=l)(k:Nat)(a:k<s.size):s[k]=l.getD k 0:=by
 subst b;have h:k<s.data.size:=a;show s.data[k]=_;rw[eE,bq,eO h];rfl
theorem JL {a b:Int}(h:a=b):ag a=ag b:=by rw[h]
theorem oc (s:ByteArray)(l:List UInt8)(p:s.data.toList=l)(B:l.length<=6)(d: ∀i,i<l.length->isD (l.getD i 0)=true)(w:World):
  Calls prog 121 #[.string s] w fun e z=>e= .returned (ag (valL l))/\z=w:=by
 have C:s.size=l.length:=by rw[<-p,Lib.size_eq]
 go_enter func121,ntmps121;go_wp2;go_loop [3,7] (fun n i=> ∃k:Nat,k<=l.length/\i=ag k/\n=ag (valL (l.take k))) (fun _ i=>l.length-(intOf i).toNat);case atStart=>exact⟨0,by omega,rfl,rfl⟩
 case round=>
  obtain⟨k,A,rfl,rfl⟩:=hrel;by_cases b:k<l.length
  ·have m:(k:Int)<(l.length:Int):=(by omega);have x:(0:Int)<=(k:Int):=(by omega);have y:=qF l d k (by omega) (by omega);have a:=d k b;have g:=l7 p k (by omega);have j:=Bs l k b;have r:T4 (valL (l.take (k+1))=10*valL (l.take k)+(((l.getD k 0).toNat:Int)-48)):=j;simp only[isD,bx,bL]at a;have t:T4 (48<=(l.getD k 0).toNat/\(l.getD k 0).toNat<=57):=a;have q:T4 (s[k]=l.getD k 0):=g;clear a g j d;go_wp2;go_round
   case rel=>
    refine⟨k+1,by omega,by go_num,JL ?_⟩;have u:=t.o;rw[q.o,r.o];generalize (l.getD k 0).toNat=c at u;generalize valL (l.take k)=v at y;omega
   case measure=>simp[intOf];omega
  ·have f:k=l.length:=(by omega);subst f;have e:valL (l.take l.length)=valL l:=(by rw[gI]);go_wp2;go_ret;exact⟨rfl,rfl⟩
theorem Da (s t:ByteArray)(l m:List UInt8)(H:s.data.toList=l)(I:t.data.toList=m)(S:l.length<=9223372036854775807)(T:m.length<=100)(w:World):
  Calls prog 66 #[.string s,.string t] w fun e O=>e= .returned (.bool (ir l m))/\ao w O:=by
 have V:s.size=l.length:=by rw[<-H,Lib.size_eq]
 have U:t.size=m.length:=by rw[<-I,Lib.size_eq]
 by_cases v:m.length<=l.length
 ·have x: ¬(l.length:Int)<(m.length:Int):=by omega
  go_enter func66,ntmps66;go_wp2;go_loopw [13] (fun i wr=> ∃k:Nat,k<=m.length/\i=ag k/\(∀i,i<k->okB (m.getD i 0) (l.getD i 0)=true)/\ao w wr) (fun i _=>m.length-(intOf i).toNat);case atStart=>exact⟨0,by omega,rfl,fun i h=>by omega,aF _ _⟩
  case round=>
   obtain⟨k,R,rfl,d,b⟩:=hrel;have A:T4 (∀i,i<k->okB (m.getD i 0) (l.getD i 0)=true):=d;clear d;by_cases u:k<m.length
   ·have F:(k:Int)<(m.length:Int):=(by omega);have G:(k:Int)<(l.length:Int):=(by omega);have J:(0:Int)<=(k:Int):=(by omega);have p:=l7 H k (by omega);have q:=l7 I k (by omega);have P: ∀h:k<s.size,s[k]=l.getD k 0:=fun _=>p;have Q: ∀h:k<t.size,t[k]=m.getD k 0:=fun _=>q;have a:okB (m.getD k 0) (l.getD k 0)=(if(m.getD k 0).toNat=48 then isD (l.getD k 0) else decide ((m.getD k 0).toNat=(l.getD k 0).toNat)):=rfl;generalize y:l.getD k 0=c at*;generalize z:m.getD k 0=f at*;by_cases j:f.toNat=48
    ·have K:(f.toNat:Int)=48:=(by omega);rw[ax j]at a;cases hd:isD c with
     |true=>
      rw[hd]at a;have g:T4 (okB f c=true):=a;have n:=fun w=>mo c w;rw[hd]at n;clear a hd p q;go_wp2;go_quiet ((go_at_call 69;exact fB (n _)));go_wp2;go_roundw
      case rel=>
       refine⟨k+1,by omega,by go_num,fun i hi=> ?_,du b _⟩;by_cases e:i=k
       ·subst e;rw[y,z];exact g.o
       ·exact A.o i (by omega)
      case measure=>simp[intOf];omega
     |false=>
      rw[hd]at a;have g:T4 (okB f c=false):=a;have n:=fun w=>mo c w;rw[hd]at n;clear a hd p q;go_wp2;go_quiet ((go_at_call 69;exact fB (n _)));go_wp2;go_ret;exact⟨by rw[jK k u (by rw[y,z];exact g.o)];rfl,du b _⟩
    ·have D:((f.toNat:Int)==48)=false:=(by simp;omega);rw[aw j]at a;by_cases r:f.toNat=c.toNat
     ·have g:T4 (okB f c=true):=(by rw[a];exact bc r);have M:((c.toNat:Int)==48)=false:=(by simp;omega);have E:((c.toNat:Int) !=48)=true:=(by simp;omega);have N:((c.toNat:Int) !=(c.toNat:Int))=false:=(by simp);clear a p q D j;go_wp2;go_quiet (fail);go_wp2;go_roundw
      case rel=>
       refine⟨k+1,by omega,by go_num,fun i hi=> ?_,du b _⟩;by_cases e:i=k
       ·subst e;rw[y,z];exact g.o
       ·exact A.o i (by omega)
      case measure=>simp[intOf];omega
     ·have g:T4 (okB f c=false):=(by rw[a];exact bo r);have E:((f.toNat:Int) !=48)=true:=(by simp;omega);have L:((f.toNat:Int) !=(c.toNat:Int))=true:=(by simp;omega);clear a p q;go_wp2;go_quiet (fail);go_wp2;go_ret;exact⟨by rw[jK k u (by rw[y,z];exact g.o)];rfl,du b _⟩
   ·have B:T4 (ir l m=true):=uI v fun i hi=>A.o i (by omega);have C:k=m.length:=(by omega);subst C;go_wp2;go_ret;exact⟨by rw[B.o];rfl,b⟩
 ·have B:T4 (ir l m=false):=E8 v;have x:(l.length:Int)<(m.length:Int):=(by omega);go_enter func66,ntmps66;go_wp2;go_ret;exact⟨by rw[B.o];rfl,aF _ _⟩
def tH (t:T1):Value:= .tuple #[.agg #[ag t.kind,ag t.n,ag 0,.string ⟨t.text.toArray⟩],ag (t.len:Int),ag t.err]
theorem AP:prog.underlying 114=some (.struct (prog.fieldsOf 114)):=by kernel_rfl
theorem gg {e:Func}(h:e.results=f70.results){R:Ending->World->Prop}{a:Act}{w:World}(g:Nat)(t:T1)(l:a.defers=[])(f:a.tmps.getD 2 undef=ab g 0)
  (i:a.tmps.getD 3 undef=ag (t.len:Int)) (j:a.tmps.getD 4 undef=ag t.err) (m:w.heap[g]? =ah #[ag t.kind,ag t.n,ag 0,.string ⟨t.text.toArray⟩] 114)
  (k:R (.returned (tH t)) w):bodyPost prog e R .ret a w:=by
 refine aX (v:=tH t) ?_ l k;have b:a.tmps[2]?.getD undef=ab g 0:=by simpa using f
 have c:a.tmps[3]?.getD undef=ag (t.len:Int):=by simpa using i
 have d:a.tmps[4]?.getD undef=ag t.err:=by simpa using j
 have o:=dZ (P:=prog) w g 114 114 _ _ _ m AP rfl (by kernel_rfl);simp[results,h,results70,b,c,d,asAddr,o,tH]
theorem xd (s:ByteArray)(l:List UInt8)(A:s.data.toList=l)(E:l.length<=9223372036854775806)(w:World):
  Calls prog 122 #[.string s] w fun e b=>e= .returned (ag (wordLen l:Int))/\b=w:=by
 have F:s.size=l.length:=by rw[<-A,Lib.size_eq]
 go_enter func122,ntmps122;go_wp2;go_loop [3] (fun i=> ∃k:Nat,k<=l.length/\i=ag k/\ ∀i,i<k->pg l i=true) (fun i=>l.length-(intOf i).toNat);case atStart=>exact⟨0,by omega,rfl,fun i h=>by omega⟩
 case round=>
  obtain⟨k,y,rfl,j⟩:=hrel;have g:T4 (∀i,i<k->pg l i=true):=j;clear j;by_cases v:k<l.length
  ·have m:(k:Int)<(l.length:Int):=(by omega);have u:(0:Int)<=(k:Int):=(by omega);have C: ∀h:k<s.size,s[k]=l.getD k 0:=fun h=>l7 A k h
   have d:pg l k=if k=0 then isL (l.getD k 0) else isC (l.getD k 0):=by
    unfold pg;split
    ·rename_i h;rw[h]
    ·rfl
   generalize D:l.getD k 0=c at*;have p:=fun w=>yO c w;have n:=fun w=>mo c w;have a:pg l k=false->T4 (wordLen l=k):=fun h=>yN l k y g.o fun _=>h
   have next:pg l k=true->T4 (∀i,i<k+1->pg l i=true):=fun h i hi=>by
    by_cases e:i=k
    ·rw[e];exact h
    ·exact g.o i (by omega)
   cases hL:isL c with
   |true=>
    have r:=next (by rw[d];split<;>simp[hL,isC])
    rw[hL]at p;clear d hL a next g
    go_wp2_with(first
     |(go_at_call 71;refine(p _).mono ?_;rintro e b ⟨rfl,rfl⟩)
     |(go_at_call 69;refine(n _).mono ?_;rintro e b ⟨rfl,rfl⟩))
    go_round;case rel=>exact⟨k+1,by omega,by go_num,r.o⟩
    case measure=>simp[intOf];omega
   |false=>
    rw[hL]at p;by_cases q:k=0
    ·have t:=a (by rw[d,ax q,hL]);clear d hL a next g u m
     subst q;have z:(0:Int)<(l.length:Int):=(by omega)
     go_wp2_with(first
      |(go_at_call 71;refine(p _).mono ?_;rintro e b ⟨rfl,rfl⟩)
      |(go_at_call 69;refine(n _).mono ?_;rintro e b ⟨rfl,rfl⟩))
     go_ret;exact⟨by rw[t.o];rfl,rfl⟩
    ·have B:(0:Int)<(k:Int):=(by omega);cases hD:isD c with
     |true=>
      have r:=next (by rw[d,aw q];simp[hD,isC])
      rw[hD]at n;clear d hL hD a next g
      go_wp2_with(first
       |(go_at_call 71;refine(p _).mono ?_;rintro e b ⟨rfl,rfl⟩)
       |(go_at_call 69;refine(n _).mono ?_;rintro e b ⟨rfl,rfl⟩))
      go_round;case rel=>exact⟨k+1,by omega,by go_num,r.o⟩
      case measure=>simp[intOf];omega
     |false=>
      rw[hD]at n;by_cases f:c.toNat=95
      ·have r:=next (by rw[d,aw q];simp[isC,f])
       have x:((c.toNat:Int)==95)=true:=(by simp;omega);clear d hL hD a next g f
       go_wp2_with(first
        |(go_at_call 71;refine(p _).mono ?_;rintro e b ⟨rfl,rfl⟩)
        |(go_at_call 69;refine(n _).mono ?_;rintro e b ⟨rfl,rfl⟩))
       go_round;case rel=>exact⟨k+1,by omega,by go_num,r.o⟩
       case measure=>simp[intOf];omega
      ·have t:=a (by rw[d,aw q];simp[isC,f,hL,hD]);have x:((c.toNat:Int)==95)=false:=(by simp;omega);clear d hL hD a next g f
       go_wp2_with(first
        |(go_at_call 71;refine(p _).mono ?_;rintro e b ⟨rfl,rfl⟩)
        |(go_at_call 69;refine(n _).mono ?_;rintro e b ⟨rfl,rfl⟩))
       go_ret;exact⟨by rw[t.o];rfl,rfl⟩
  ·have t:T4 (wordLen l=k):=yN l k y g.o fun h=>absurd h v;have m: ¬(k:Int)<(l.length:Int):=(by omega);go_wp2;go_ret;exact⟨by rw[t.o];rfl,rfl⟩
theorem Hj (s:ByteArray)(l:List UInt8)(u:s.data.toList=l)(I:l.length<=9223372036854775806)(w:World):
  Calls prog 70 #[.string s] w fun e m=>e= .returned (tH (mj l))/\ao w m:=by
 have J:s.size=l.length:=by rw[<-u,Lib.size_eq]
 have p:ao w (w.alloc (.cells #[ag 0,ag 0,ag 0,.string ⟨#[]⟩] 114)):=am _ _;go_enter func70,ntmps70;go_wp2;go_loop [5] (fun i=> ∃k:Nat,k<=l.length/\i=ag k/\ ∀i,i<k->isD (l.getD i 0)=true) (fun i=>l.length-(intOf i).toNat);case atStart=>exact⟨0,by omega,rfl,fun i h=>by omega⟩
 case round=>
  obtain⟨k,G,rfl,j⟩:=hrel;have x:T4 (∀i,i<k->isD (l.getD i 0)=true):=j;clear j;by_cases a:k<l.length/\isD (l.getD k 0)=true
  ·obtain⟨f,d⟩:=a;have b:(k:Int)<(l.length:Int):=(by omega);have t:(0:Int)<=(k:Int):=(by omega);have C: ∀h:k<s.size,s[k]=l.getD k 0:=fun h=>l7 u k h;have g:=fun w=>mo (l.getD k 0) w;rw[d]at g;have F:T4 (isD (l.getD k 0)=true):=d;clear d;generalize z:l.getD k 0=c at*;go_wp2_with(go_at_call 69;refine(g _).mono ?_;rintro e m ⟨rfl,rfl⟩)
   go_round
   case rel=>
    refine⟨k+1,by omega,by go_num,fun i hi=> ?_⟩;by_cases e:i=k
    ·rw[e,z];exact F.o
    ·exact x.o i (by omega)
   case measure=>simp[intOf];omega
  ·have E:fd isD l=k:=xF isD l k G x.o fun h=>by
    cases e:isD (l.getD k 0) with
    |false=>rfl
    |true=>exact absurd ⟨h,e⟩ a
   have A:T4 (fd isD l=k):=E;clear E;by_cases D:6<k
   ·have y:(6:Int)<(k:Int):=(by omega)
    have n:T4 (mj l=bad 3):=by
     have:=A.o;show mj l=bad 3;unfold mj;rw[this,ax D]
    by_cases f:k<l.length
    ·have b:(k:Int)<(l.length:Int):=(by omega);have t:(0:Int)<=(k:Int):=(by omega);have C: ∀h:k<s.size,s[k]=l.getD k 0:=fun h=>l7 u k h
     have d:isD (l.getD k 0)=false:=by
      cases e:isD (l.getD k 0) with
      |false=>rfl
      |true=>exact absurd ⟨f,e⟩ a
     have g:=fun w=>mo (l.getD k 0) w;rw[d]at g;clear d a;generalize z:l.getD k 0=c at*;go_wp2_with(go_at_call 69;refine(g _).mono ?_;rintro e m ⟨rfl,rfl⟩)
     exact gg rfl w.heap.size (bad 3) rfl rfl rfl rfl (aB w _) ⟨by rw[n.o],p⟩
    ·have b: ¬(k:Int)<(l.length:Int):=(by omega);clear a;go_wp2;exact gg rfl w.heap.size (bad 3) rfl rfl rfl rfl (aB w _) ⟨by rw[n.o],p⟩
   ·have y: ¬(6:Int)<(k:Int):=(by omega);have H:(k:Int)<=(l.length:Int):=(by omega);have t:(0:Int)<=(k:Int):=(by omega)
    have n:T4 (mj l=⟨6,valL (l.take k),[],k,0⟩):=by
     have:=A.o;show mj l=_;unfold mj;rw[this,aw D]
    have B:=fun w=>oc (s.extract 0 k) (l.take k) (by rw[Lib.extract_data,u];simp) (by simp;omega) (fun i hi=>by
     have r:i<k:=(by simp at hi;omega);have:=x.o i r;rw[eE]at this⊢;rw[gC,ax r];exact this) w
    generalize valL (l.take k)=v at*;have q:ao w (w.alloc (.cells #[ag 6,ag v,ag 0,.string ⟨#[]⟩] 114)):=am _ _;by_cases f:k<l.length
    ·have b:(k:Int)<(l.length:Int):=(by omega);have C: ∀h:k<s.size,s[k]=l.getD k 0:=fun h=>l7 u k h
     have d:isD (l.getD k 0)=false:=by
      cases e:isD (l.getD k 0) with
      |false=>rfl
      |true=>exact absurd ⟨f,e⟩ a
     have g:=fun w=>mo (l.getD k 0) w;rw[d]at g;clear d a;generalize z:l.getD k 0=c at*
     go_wp2_with(first
      |(go_at_call 69;refine(g _).mono ?_;rintro e m ⟨rfl,rfl⟩)
      |(go_at_call 121;refine(B _).mono ?_;rintro e m ⟨rfl,rfl⟩))
     exact gg rfl w.heap.size ⟨6,v,[],k,0⟩ rfl rfl rfl rfl (aB w _) ⟨by rw[n.o],q⟩
    ·have b: ¬(k:Int)<(l.length:Int):=(by omega);clear a;go_wp2_with(go_at_call 121;refine(B _).mono ?_;rintro e m ⟨rfl,rfl⟩)
     exact gg rfl w.heap.size ⟨6,v,[],k,0⟩ rfl rfl rfl rfl (aB w _) ⟨by rw[n.o],q⟩
namespace Lx
def lq:List UInt8:=[61,59,58,43,45,38,40,41,44]
theorem Db: ∀(l:List UInt8) (c:UInt8),Go.Lib.indexByte l c<(l.length:Int)
 |[],c=>by simp[Go.Lib.indexByte]
 |b::l,c=>by
  have a:=Db l c;unfold Go.Lib.indexByte;simp only[bK];split
  ·omega
  ·split<;>omega
theorem Dc: ∀(l:List UInt8) (c:UInt8) (i:Nat),Go.Lib.indexByte l c=(i:Int)->l.getD i 0=c
 |[],c,i,h=>by simp[Go.Lib.indexByte]at h
 |b::l,c,i,h=>by
  unfold Go.Lib.indexByte at h;split at h
  ·rename_i a;have:i=0:=(by omega);subst this;simpa using a
  ·split at h
   ·omega
   ·have k:=Go.Lib.indexByte_ge l c;rename_i f;have g:Go.Lib.indexByte l c≠ -1:=(by simpa using f);obtain⟨j,d⟩: ∃j:Nat,Go.Lib.indexByte l c=j:=⟨(Go.Lib.indexByte l c).toNat,by omega⟩
    have e:i=j+1:=(by omega);subst e;simpa using Dc l c j d
def jg (l:List UInt8):T1:=if Go.Lib.hasPrefix l [46,46] then⟨3,0,[46,46],2,0⟩ else if Go.Lib.indexByte lq (l.getD 0 0)<0 then bad 2 else⟨3,0,[l.getD 0 0],1,0⟩
theorem Ot {s:ByteArray}{l:List UInt8}(h:s.data.toList=l):s=⟨l.toArray⟩:=by
 obtain⟨d⟩:=s;simp only at h;subst h;simp
def jz:List (List UInt8):=[[97,108,119,97,121,115],[100,97,116,101,115],[102,114,105],[109,111,110],[110,101,118,101,114],[114,117,108,101],[115,97,116],[115,104,105,102,116],[115,117,110],[116,104,117],[116,117,101],[119,101,100],[119,101,101,107,108,121]]
def isWordL (t:List UInt8):Bool:=jz.any fun w=>w==t
def jW (l:List UInt8):T1:=if 20<wordLen l then bad 7 else⟨if isWordL (l.take (wordLen l)) then 2 else 1,0,l.take (wordLen l),wordLen l,0⟩
end Lx
def lG:Array Value:=(jz.map fun l=>Value.string ⟨l.toArray⟩).toArray
theorem Mr (j:Nat)(a:j<13):lG[j]? =some (.string ⟨(jz.getD j []).toArray⟩):=by
 have h:j<jz.length:=a;unfold lG;simp only[List.getElem?_toArray,bf,eE,az h];rfl
theorem JM (w:World):Calls prog 171 #[] w fun e a=>e= .returned (.slice (some (ae w.heap.size 0)) 13 13)/\a=w.alloc (.cells lG 9):=by
 go_enter func171,ntmps171;go_wp2;go_ret;exact⟨rfl,rfl⟩
theorem JN {x:List UInt8}(h: ∀j,j<13->jz.getD j []≠x):isWordL x=false:=by
 cases e:isWordL x with
 |false=>rfl
 |true=>
  unfold isWordL at e;rw[List.any_eq_true]at e;obtain⟨y,d,c⟩:=e;obtain⟨j,b,rfl⟩:=List.getElem_of_mem d;have a:j<13:=b;exact absurd (by simpa[List.getD,b] using c) (h j a)
theorem Hk {x:List UInt8}(j:Nat)(b:j<13)(h:jz.getD j []=x):isWordL x=true:=by
 unfold isWordL;rw[List.any_eq_true];have a:j<jz.length:=b;exact⟨jz.getD j [],by simp[List.getD,a],by rw[h];exact beq_self_eq_true x⟩
theorem Ms (x:ByteArray)(l:List UInt8)(u:x.data.toList=l)(g:Nat)(w:World)(r:w.heap[g]? =ah lG 9):
  Calls prog 200 #[.slice (some (ae g 0)) 13 13,.string x] w fun e D=>(∃i:Int,e= .returned (ag i)/\decide (0<=i)=isWordL l)/\D=w:=by
 have a: ∀j,j<13->w.cell? (ae g j)=some (.string ⟨(jz.getD j []).toArray⟩):=fun j s=>by rw[aW _ _ _ _ _ _ r,Mr j s]
 have v:T4 (∀j,j<13->w.cell? (ae g j)=some (.string ⟨(jz.getD j []).toArray⟩)):=a;clear a r;go_enter func200,ntmps200;go_wp2;go_loop [8] (fun i=> ∃k:Nat,k<=13/\i=ag k/\ ∀j,j<k->jz.getD j []≠l) (fun i=>13-(intOf i).toNat);case atStart=>exact⟨0,by omega,rfl,fun i h=>by omega⟩
 case round=>
  obtain⟨k,E,rfl,c⟩:=hrel;have q:T4 (∀j,j<k->jz.getD j []≠l):=c;clear c;by_cases f:k<13
  ·have t:(k:Int)<13:=(by omega);have B:(0:Int)<=(k:Int):=(by omega);have A:=v.o k f;generalize p:(⟨(jz.getD k []).toArray⟩:ByteArray)=y at A;have b:y.data.toList=jz.getD k []:=(by rw[<-p]);by_cases d:jz.getD k []=l
   ·have C:(x.toList==y.toList)=true:=(by rw[Lib.toList_data,Lib.toList_data,b,u,d];simp);have m:T4 (isWordL l=true):=Hk k f d;clear d b p;go_wp2;go_ret;exact⟨⟨_,rfl,by rw[m.o];simp⟩,rfl⟩
   ·have C:(x.toList==y.toList)=false:=by
     rw[Lib.toList_data,Lib.toList_data,b,u];rw[bl];exact fun e=>d e.symm
    have z:T4 (jz.getD k []≠l):=d;clear d b p;go_wp2;go_round
    case rel=>
     refine⟨k+1,by omega,by go_num,fun j s=> ?_⟩;by_cases e:j=k
     ·subst e;exact z.o
     ·exact q.o j (by omega)
    case measure=>simp[intOf];omega
  ·have n:k=13:=(by omega);subst n;have m:T4 (isWordL l=false):=JN q.o;go_wp2;go_ret;exact⟨⟨_,rfl,by rw[m.o];simp⟩,rfl⟩
theorem yP (x:ByteArray)(l:List UInt8)(g:x.data.toList=l)(w:World):
  Calls prog 124 #[.string x] w fun e a=>e= .returned (.bool (isWordL l))/\ao w a:=by
 have f:(w.alloc (.cells lG 9)).heap[w.heap.size]? =ah lG 9:=aB w _;have d:ao w (w.alloc (.cells lG 9)):=am _ _;have b:=Ms x l g _ _ f;have c:=JM w;generalize w.alloc (.cells lG 9)=j at*;go_enter func124,ntmps124
 go_wp2_with(first
  |(go_at_call 171;refine c.mono ?_;rintro e a ⟨rfl,rfl⟩)
  |(go_at_call 170;go_in)
  |(go_at_call 200;refine b.mono ?_;rintro e a ⟨⟨i,rfl,hi⟩,rfl⟩))
 go_ret;exact⟨by rw[<-hi];rfl,d⟩
namespace Cal
def lpB (y:Int):Bool:=decide (y%4=0/\(¬y%100=0\/y%400=0))
def lp (y:Int):Int:=if y%4=0/\(¬y%100=0\/y%400=0) then 1 else 0
def dim (y m:Int):Int:=
 if y<2000\/2399<y\/m<1\/12<m then 0
 else if m=2 then 28+lp y
 else if m=4\/m=6\/m=9\/m=11 then 30 else 31
def cum (y m:Int):Int:=
 if m<=1 then 0 else if m=2 then 31 else if m=3 then 59+lp y else if m=4 then 90+lp y
 else if m=5 then 120+lp y else if m=6 then 151+lp y else if m=7 then 181+lp y
 else if m=8 then 212+lp y else if m=9 then 243+lp y else if m=10 then 273+lp y
 else if m=11 then 304+lp y else if m=12 then 334+lp y else 365+lp y
def ys (y:Int):Int:=365*(y-2000)+((y-2000+3)/4-(y-2000+99)/100+(y-2000+399)/400)
theorem Hm (y:Int):0<=lp y/\lp y<=1:=by unfold lp;split<;>omega
theorem TZ (y:Int):lp y=if lpB y=true then 1 else 0:=by unfold lp lpB;simp
theorem QU (y m:Int):0<=dim y m/\dim y m<=31:=by
 have:=Hm y;unfold dim;split
 ·omega
 ·split
  ·omega
  ·split<;>omega
theorem OU (y m:Int)(h:y<2000\/2399<y\/m<1\/12<m):dim y m=0:=by unfold dim;rw[ax h]
theorem AQ (y m:Int)(h:1<=dim y m):2000<=y/\y<=2399/\1<=m/\m<=12:=by
 by_cases g:y<2000\/2399<y\/m<1\/12<m
 ·rw[OU y m g]at h;omega
 ·omega
theorem TX (y:Int):cum y 1=0:=rfl
theorem QV (y:Int):cum y 13=365+lp y:=rfl
theorem De (y m:Int)(a:2000<=y)(b:y<=2399)(c:1<=m)(d:m<=12):cum y (m+1)=cum y m+dim y m:=by
 have h:m=1\/m=2\/m=3\/m=4\/m=5\/m=6\/m=7\/m=8\/m=9\/m=10\/m=11\/m=12:=by omega
 unfold dim;rw[aw (by omega)];rcases h with rfl|rfl|rfl|rfl|rfl|rfl|rfl|rfl|rfl|rfl|rfl|rfl<;>simp[cum]<;>omega
theorem QW (y m:Int)(c:1<=m)(d:m<=13):0<=cum y m/\cum y m<=366:=by
 have:=Hm y;have h:m=1\/m=2\/m=3\/m=4\/m=5\/m=6\/m=7\/m=8\/m=9\/m=10\/m=11\/m=12\/m=13:=by omega
 rcases h with rfl|rfl|rfl|rfl|rfl|rfl|rfl|rfl|rfl|rfl|rfl|rfl|rfl<;>simp[cum]<;>omega
theorem xG (y m k:Int)(c:1<=m)(d:m<k)(e:k<=13)(a:2000<=y)(b:y<=2399):cum y m+dim y m<=cum y k:=by
 rw[<-De y m a b c (by omega)];have:=Hm y;have h:m=1\/m=2\/m=3\/m=4\/m=5\/m=6\/m=7\/m=8\/m=9\/m=10\/m=11\/m=12:=by omega
 have g:k=2\/k=3\/k=4\/k=5\/k=6\/k=7\/k=8\/k=9\/k=10\/k=11\/k=12\/k=13:=by omega
 rcases h with rfl|rfl|rfl|rfl|rfl|rfl|rfl|rfl|rfl|rfl|rfl|rfl<;>
  rcases g with rfl|rfl|rfl|rfl|rfl|rfl|rfl|rfl|rfl|rfl|rfl|rfl<;>first|omega|(simp[cum]<;>omega)
theorem OV:ys 2000=0:=by decide
theorem Ge:ys 2400=146097:=by decide
theorem OW (y:Int):ys (y+1)=ys y+365+lp y:=by unfold ys lp;split<;>omega
theorem s5 (a b:Int)(h:a<=b):ys a<=ys b:=by unfold ys;omega
theorem Ou (y:Int)(a:2000<=y)(b:y<=2400):0<=ys y/\ys y<=146097:=by
 have c:=s5 _ _ a;have d:=s5 _ _ b;rw[OV]at c;rw[Ge]at d;exact⟨c,d⟩
theorem Mv (n:Int)(a:0<=n)(b:n<146097):ys (2000+n/366)<=n/\n<ys (2000+n/366+2):=by unfold ys;omega
theorem OX (a b n:Int)(c:ys a<=n)(d:n<ys (a+1))(e:ys b<=n)(f:n<ys (b+1)):a=b:=by
 by_cases h:a<b
 ·have:=s5 (a+1) b (by omega);omega
 ·by_cases g:b<a
  ·have:=s5 (b+1) a (by omega);omega
  ·omega
def num (y m d:Int):Int:=ys y+cum y m+d-1
theorem s6 (y m d:Int)(h:1<=d)(g:d<=dim y m):0<=num y m d/\num y m d<146097/\ys y<=num y m d/\num y m d<ys (y+1):=by
 obtain⟨a,b,c,e⟩:=AQ y m (by omega);have f:=Ou y a (by omega);have i:=Ou (y+1) (by omega) (by omega);have j:=OW y;have k:=De y m a b c e;have l:=QW y m c (by omega)
 have n:cum y (m+1)<=365+lp y:=by
  by_cases h:m=12
  ·subst h;exact Int.le_of_eq rfl
  ·have:=xG y (m+1) 13 (by omega) (by omega) (by omega) a b;rw[QV]at this;have:=QU y (m+1);omega
 unfold num;omega
theorem TY (y m d i f j:Int)(h:1<=d)(g:d<=dim y m)(o:1<=j)(n:j<=dim i f)(e:num y m d=num i f j):y=i/\m=f/\d=j:=by
 have b1:=s6 y m d h g;have b2:=s6 i f j o n;have s:y=i:=OX y i (num y m d) (by omega) (by omega) (by omega) (by omega);subst s;obtain⟨a,b,c,k⟩:=AQ y m (by omega);obtain⟨_,_,l,t⟩:=AQ y f (by omega)
 have r:m=f:=by
  unfold num at e;by_cases p:m<f
  ·have:=xG y m f c p (by omega) a b;omega
  ·by_cases q:f<m
   ·have:=xG y f m l q (by omega) a b;omega
   ·omega
 subst r;exact⟨rfl,rfl,by unfold num at e;omega⟩
def mq (n:Int):Int:=if ys (2000+n/366+1)<=n then 2000+n/366+1 else 2000+n/366
theorem Tq (n:Int)(a:0<=n)(b:n<146097):2000<=mq n/\mq n<=2399/\ys (mq n)<=n/\n<ys (mq n+1):=by
 have h:=Mv n a b
 have c:ys (mq n)<=n/\n<ys (mq n+1):=by
  unfold mq;split
  ·have e:2000+n/366+1+1=2000+n/366+2:=(by omega);rw[e];exact⟨by assumption,h.2⟩
  ·exact⟨h.1,by omega⟩
 have lo:2000<=mq n:=by unfold mq;split<;>omega
 refine⟨lo,?_,c⟩;by_cases g:mq n<=2399
 ·exact g
 ·have:=s5 2400 (mq n) (by omega);rw[Ge]at this;omega
end Cal
end Go.Proofs.YtpdoienkhgnceaaGreatDoor
