/- Texts of the proof. -/
import Derived.Lib.Bytealg
import Derived.Test.YtlkehieagdkgiaaGreatDoorPeZb
set_option maxRecDepth 100000
set_option maxHeartbeats 8000000
namespace Go.Proofs.YtlkehieagdkgiaaGreatDoor
open Go.Proofs.Tryz Go.RowKit Lx Vx Mx Msk
section
section
variable {w w':World} {base e size n:Nat} {v:Value} {xs:List Value}
theorem cg (h:w.ownsRow base e size v n xs): ∃p c,v= .slice p n c:=by
 rcases h.2 with⟨e,d⟩|⟨b,cap,a,e,_⟩
 ·exact⟨none,0,by rw[e,d]⟩
 ·exact⟨_,cap,e⟩
theorem lj {g:Nat}{c:Array Value}{T:TypeId}(h:w.ownsRow base e size v n xs)(j:w.heap[g]? =ah c T)(i:T≠e):some g≠v.ownBlock:=by
 rcases h.2 with⟨e,_⟩|⟨b,cap,d,e,_,a,_⟩
 ·rw[e];simp[Value.ownBlock]
 ·rw[e];intro q;have k:g=b:=(by simpa[Value.ownBlock] using q);subst k;rw[j]at a;injection a with a;injection a with _ f _;exact i f
theorem br (h:w.ownsRow base e size v n xs)(k: ∀b,v.ownBlock=some b->w'.heap[b]? =w.heap[b]?):w'.ownsRow base e size v n xs:=by
 obtain⟨f,c⟩:=h;refine⟨f,?_⟩;rcases c with c|⟨g,cap,a,d,i,j,r⟩
 ·exact .inl c
 ·exact .inr ⟨g,cap,a,d,i,(k g (by rw[d];rfl)).trans j,r⟩
end
theorem tP {o:Oper}{a:Act}{w:World}{K:Act->World->Prop}{Q:Exit->Act->World->Prop}(s x:Operand)(t:TypeId)
  (H:o.op= .call {callee:= .builtin .append,args:= #[s,x],argTypes:= #[t,t]})
  (base:Nat) (e:TypeId) (i:TypeInfo) (z:Value) (size d:Nat) (L:prog.underlying t=some (.slice e)) (hi:prog.info? e=some i) (N:i.zero=some z)
  (l:i.size=size) (y:i.bytes=d) (B:z.cells.size=size) (A:0<size)
  (v:Value) (n:Nat) (xs:List Value) (J:a.eval s=v) (q:w.ownsRow base e size v n xs)
  (ad:Addr) (m c:Nat) (b:List Value) (M:a.eval x= .slice (some ad) m c) (G:b.length=m*size) (k: ∀j u,b[j]? =some u->w.cell? (ad.add j)=some u) (C: ∀u∈b,u.oneCell'=true)
  (r:n+m<=maxLen) (f:(n+m)*d<=140737488355328) (g:base<=w.heap.size)
  (h: ∀p w',w'.ownsRow base e size p (n+m) (xs++b)->w.grownBy w' v.ownBlock->(p.ownBlock=v.ownBlock\/p.ownBlock=some w.heap.size)->K (a.put o.dst p) w'):o.wp prog a w K Q:=by
 obtain⟨p,w',I,D,E,_,F⟩:=run_append_own_at (P:=prog) w base t o.type e i z size d L hi N l y B A v n xs q ad m c b G k C r f g;unfold Oper.wp execOp;simp only[H,resolve,invoke,builtin,j8,lg,iA,jp,dO,fA,J,M,I];exact h p w' D E F
end
namespace Lx
def isD (c:UInt8):Bool:=decide (48<=c.toNat)&&decide (c.toNat<=57)
def isL (c:UInt8):Bool:=decide (97<=c.toNat)&&decide (c.toNat<=122)
def isC (c:UInt8):Bool:=isL c||(isD c||decide (c.toNat=95))
def g7 (p:UInt8->Bool):List UInt8->Nat
 |[]=>0
 |c::l=>if p c then g7 p l+1 else 0
def wordLen:List UInt8->Nat
 |[]=>0
 |c::l=>if isL c then g7 isC l+1 else 0
theorem lY (p:UInt8->Bool): ∀l,g7 p l<=l.length
 |[]=>by simp[g7]
 |c::l=>by have:=lY p l;simp only[g7];split<;>simp;omega
theorem Aw (p:UInt8->Bool): ∀l i,i<g7 p l->p (l.getD i 0)=true
 |[],i,h=>by simp[g7]at h
 |c::l,i,h=>by
  simp only[g7]at h;split at h
  ·cases i with
   |zero=>simpa
   |succ i=>simpa using Aw p l i (by omega)
  ·omega
theorem ww (p:UInt8->Bool): ∀(l:List UInt8) (k:Nat),k<=l.length->(∀i,i<k->p (l.getD i 0)=true)->(k<l.length->p (l.getD k 0)=false)->g7 p l=k
 |[],k,h,_,_=>by simp at h;subst h;rfl
 |c::l,0,_,_,a=>by
  have:=a (by simp);simp at this;simp[g7,this]
 |c::l,k+1,h,b,a=>by
  have d:=b 0 (by omega);simp at d;have:=ww p l k (by simpa using h) (fun i hi=>by simpa using b (i+1) (by omega)) (fun e=>by simpa using a (by simpa using e));simp[g7,d,this]
theorem xW: ∀l,wordLen l<=l.length
 |[]=>by simp[wordLen]
 |c::l=>by have:=lY isC l;simp only[wordLen];split<;>simp;omega
def valL (l:List UInt8):Int:=l.foldl (fun n c=>10*n+((c.toNat:Int)-48)) 0
theorem Hb (l:List UInt8)(c:UInt8):valL (l++[c])=10*valL l+((c.toNat:Int)-48):=by simp[valL]
theorem Ax (l:List UInt8)(k:Nat)(a:k<l.length):valL (l.take (k+1))=10*valL (l.take k)+(((l.getD k 0).toNat:Int)-48):=by
 rw[List.take_succ_eq_append_getElem a,Hb];simp[List.getD,a]
theorem xX (l:List UInt8)(h: ∀i,i<l.length->isD (l.getD i 0)=true): ∀k,k<=l.length->0<=valL (l.take k)/\valL (l.take k)<((10^k:Nat):Int)
 |0,_=>by simp[valL]
 |k+1,b=>by
  have c:=xX l h k (by omega);have a:=h k (by omega);simp only[isD,bz,bT]at a;rw[Ax l k (by omega),Nat.pow_succ];omega
theorem qp (l:List UInt8)(h: ∀i,i<l.length->isD (l.getD i 0)=true)(k:Nat)(c:k<=l.length)(a:k<=6):0<=valL (l.take k)/\valL (l.take k)<1000000:=by
 have b:=xX l h k c;have:(10:Nat)^k<=10^6:=Nat.pow_le_pow_right (by omega) a;have e:(10:Nat)^6=1000000:=by decide
 omega
def okB (f c:UInt8):Bool:=if f.toNat=48 then isD c else decide (f.toNat=c.toNat)
def jx (l m:List UInt8):Bool:=decide (m.length<=l.length)&&(List.range m.length).all fun i=>okB (m.getD i 0) (l.getD i 0)
theorem Hd {l m:List UInt8}(a:m.length<=l.length)(b: ∀i,i<m.length->okB (m.getD i 0) (l.getD i 0)=true):jx l m=true:=by
 unfold jx;rw[bh a,ip,dD];intro i hi;exact b i (by simpa using hi)
theorem BS {l m:List UInt8}(i:Nat)(a:i<m.length)(b:okB (m.getD i 0) (l.getD i 0)=false):jx l m=false:=by
 cases e:jx l m with
 |false=>rfl
 |true=>
  unfold jx at e;rw[bz,dD]at e;have:=e.2 i (by simpa using a);rw[b]at this;cases this
theorem DB {l m:List UInt8}(h: ¬m.length<=l.length):jx l m=false:=by simp[jx,h]
theorem qO {l m:List UInt8}(h:jx l m=true):m.length<=l.length/\ ∀i,i<m.length->okB (m.getD i 0) (l.getD i 0)=true:=by
 unfold jx at h;rw[bz,dD]at h;exact⟨by simpa using h.1,fun i hi=>h.2 i (by simpa using hi)⟩
def oR (l:List UInt8)(i:Nat):Bool:=if i=0 then isL (l.getD 0 0) else isC (l.getD i 0)
theorem xY: ∀(l:List UInt8) (k:Nat),k<=l.length->(∀i,i<k->oR l i=true)->(k<l.length->oR l k=false)->wordLen l=k
 |[],k,h,_,_=>by simp at h;subst h;rfl
 |c::l,0,_,_,a=>by
  have:=a (by simp);simp[oR]at this;simp[wordLen,this]
 |c::l,k+1,h,b,a=>by
  have d:=b 0 (by omega);simp[oR]at d;have e:=ww isC l k (by simpa using h) (fun i hi=>by simpa[oR] using b (i+1) (by omega)) (fun f=>by simpa[oR] using a (by simpa using f));simp[wordLen,d,e]
structure T1 where
 kind:Int
 n:Int
 text:List UInt8
 len:Nat
 err:Int
def bad (e:Int):T1:=⟨0,0,[],0,e⟩
def mO (l:List UInt8):T1:=if 6<g7 isD l then bad 3 else⟨6,valL (l.take (g7 isD l)),[],g7 isD l,0⟩
def xZ:List UInt8:=[48,48,48,48,45,48,48,45,48,48]
def ya:List UInt8:=[48,48,58,48,48]
def pE (l:List UInt8):T1:=if 59<valL ((l.drop 3).take 2)\/1440<60*valL ((l.drop 0).take 2)+valL ((l.drop 3).take 2) then bad 3 else⟨4,60*valL ((l.drop 0).take 2)+valL ((l.drop 3).take 2),[],5,0⟩
theorem mP {l m:List UInt8}(h:jx l m=true)(a n:Nat)(ha:a+n<=m.length)(c: ∀i,i<n->(m.getD (a+i) 0).toNat=48):
  ((l.drop a).take n).length=n/\ ∀i,i<((l.drop a).take n).length->isD (((l.drop a).take n).getD i 0)=true:=by
 obtain⟨d,b⟩:=qO h;have e:((l.drop a).take n).length=n:=by simp;omega
 refine⟨e,fun i hi=> ?_⟩;rw[e]at hi;have:=b (a+i) (by omega);unfold okB at this;rw[aB (c i hi)]at this;rw[dg]at this⊢;rw[jz,aB hi,List.getElem?_drop];exact this
def eZ:Bool->List UInt8->Nat
 |_,[]=>0
 |true,c::l=>if c.toNat=10 then eZ false l+1 else eZ true l+1
 |false,c::l=>if c.toNat=32\/c.toNat=9\/c.toNat=10 then eZ false l+1 else if c.toNat=35 then eZ true l+1 else 0
theorem oS: ∀(b:Bool) (l:List UInt8),eZ b l<=l.length
 |true,[]=>by simp[eZ]
 |false,[]=>by simp[eZ]
 |true,c::l=>by
  have a:=oS true l;have d:=oS false l;simp only[eZ,bV];split<;>omega
 |false,c::l=>by
  have a:=oS true l;have d:=oS false l;simp only[eZ,bV];split
  ·omega
  ·split<;>omega
def zK (c:UInt8):Bool:=decide (c.toNat≠10)
def remL (l:List UInt8):Nat:=g7 zK l
theorem BT: ∀(l:List UInt8),eZ true l=remL l+eZ false (l.drop (remL l))
 |[]=>by simp[remL,g7,eZ]
 |c::l=>by
  by_cases h:c.toNat=10
  ·simp[remL,g7,zK,eZ,h]
  ·have a:=BT l;have e:remL (c::l)=remL l+1:=(by simp[remL,g7,zK,h]);rw[e];simp only[eZ,h,if_false,List.drop_succ_cons];omega
theorem He (l:List UInt8)(b:0<l.length)(d:(l.getD 0 0).toNat=35):eZ false l=remL l+eZ false (l.drop (remL l))/\1<=remL l:=by
 match l,b with
 |c::r,_=>
  have a:c.toNat=35:=(by simpa using d);have e:remL (c::r)=remL r+1:=(by simp[remL,g7,zK,a]);have:=BT r;rw[e];refine⟨?_,by omega⟩;simp only[eZ,a,List.drop_succ_cons];simp;omega
theorem Fq (l:List UInt8)(b:0<l.length)(d:(l.getD 0 0).toNat=32\/(l.getD 0 0).toNat=9\/(l.getD 0 0).toNat=10):eZ false l=1+eZ false (l.drop 1):=by
 match l,b with
 |c::r,_=>
  have a:c.toNat=32\/c.toNat=9\/c.toNat=10:=(by simpa using d);simp only[eZ,aB a,List.drop_succ_cons,List.drop_zero];omega
theorem Hf (l:List UInt8)(a:0<l.length-> ¬((l.getD 0 0).toNat=32\/(l.getD 0 0).toNat=9\/(l.getD 0 0).toNat=10)/\(l.getD 0 0).toNat≠35):eZ false l=0:=by
 match l with
 |[]=>rfl
 |c::r=>
  have:=a (by simp);simp only[List.getD_cons_zero]at this;simp only[eZ,ax this.1,ax this.2]
theorem Ay: ∀l:List UInt8,Go.Lib.indexByte l 10=if remL l<l.length then(remL l:Int) else-1
 |[]=>by simp[Go.Lib.indexByte,remL,g7]
 |c::l=>by
  have f:=Ay l;by_cases h:c.toNat=10
  ·have e:c=10:=(by apply UInt8.toNat_inj.1;simpa using h);subst e;simp[Go.Lib.indexByte,remL,g7,zK]
  ·have b:(c==10)=false:=by
    rw[bm];intro e;subst e;simp at h
   have e:remL (c::l)=remL l+1:=(by simp[remL,g7,zK,h]);have d:remL l<=l.length:=lY _ l;unfold Go.Lib.indexByte;rw[b,f,e];by_cases a:remL l<l.length
   ·have g:((remL l:Int)== -1)=false:=(by simp);rw[aB a,g];simp[a]
   ·rw[ax a];simp[a]
structure Ex where
 kind:Int
 a:Int
 b:Int
 name:List UInt8
 kids:List Ex
abbrev Tk:=T1×Nat
def ex0:Ex:=⟨0,0,0,[],[]⟩
abbrev Res:=Except (Int×Nat) (Ex×List Tk×Nat)
def atP (E:Nat):List Tk->Nat
 |[]=>E
 |p::_=>p.2
def textP:List Tk->List UInt8
 |[]=>[]
 |p::_=>p.1.text
def kindP:List Tk->Int
 |[]=>0
 |p::_=>p.1.kind
def numP:List Tk->Int
 |[]=>0
 |p::_=>p.1.n
def isT (x:List UInt8)(r:List Tk):Bool:=textP r==x
def dw (x:Res)(f:Ex->List Tk->Nat->Res):Res:=
 match x with
 | .error e=> .error e
 | .ok (e,r,n)=>f e r n
def dK (E:Nat)(e:Ex)(r:List Tk)(n:Nat):Res:=if 600<n+1 then .error (4,atP E r) else .ok (e,r,n+1)
def eo (E:Nat)(err:Int)(r:List Tk):Res:= .error (err,atP E r)
def qq:List UInt8:=[43]
def gO:List UInt8:=[45]
def ua:List UInt8:=[38]
def kV:List UInt8:=[40]
def pF:List UInt8:=[41]
def pM:List UInt8:=[44]
def nT:List UInt8:=[58]
def s8:List UInt8:=[59]
def wIs:List UInt8:=[61]
def wTo:List UInt8:=[46,46]
def vd:List UInt8:=[114,117,108,101]
def kb:List UInt8:=[110,101,118,101,114]
def jF:List UInt8:=[97,108,119,97,121,115]
def j6:List UInt8:=[119,101,101,107,108,121]
def lK:List UInt8:=[100,97,116,101,115]
def mK:List UInt8:=[115,104,105,102,116]
def fH:List (List UInt8):=[[109,111,110],[116,117,101],[119,101,100],[116,104,117],[102,114,105],[115,97,116],[115,117,110]]
def dayBit (x:List UInt8):Nat:=
 if x=fH.getD 0 [] then 1 else if x=fH.getD 1 [] then 2 else if x=fH.getD 2 [] then 4 else if x=fH.getD 3 [] then 8
 else if x=fH.getD 4 [] then 16 else if x=fH.getD 5 [] then 32 else if x=fH.getD 6 [] then 64 else 0
def goP (E:Nat):Nat->Nat->Nat->Ex->List Tk->Nat->Res
 |0,_,_,_,r,_=>eo E 0 r
 |f+1,0,d,_,r,n=>dw (goP E f 2 d ex0 r n) fun e r n=>goP E f 1 d e r n
 |f+1,1,d,e,r,n=>
  if isT qq r then dw (goP E f 2 d ex0 r.tail n) fun t r n=>dw (dK E ⟨6,0,0,[],[e,t]⟩ r n) fun e r n=>goP E f 1 d e r n
  else if isT gO r then dw (goP E f 2 d ex0 r.tail n) fun t r n=>dw (dK E ⟨7,0,0,[],[e,t]⟩ r n) fun e r n=>goP E f 1 d e r n
  else .ok (e,r,n)
 |f+1,2,d,_,r,n=>dw (goP E f 4 d ex0 r n) fun e r n=>goP E f 3 d e r n
 |f+1,3,d,e,r,n=>
  if isT ua r then dw (goP E f 4 d ex0 r.tail n) fun t r n=>dw (dK E ⟨8,0,0,[],[e,t]⟩ r n) fun e r n=>goP E f 3 d e r n
  else .ok (e,r,n)
 |f+1,4,d,_,r,n=>dw (goP E f 6 d ex0 r n) fun e r n=>goP E f 5 d e r n
 |f+1,5,d,e,r,n=>
  if isT mK r then
   let m:=isT gO r.tail
   let q:=if m then r.tail.tail else r.tail
   if kindP q≠6 then eo E 2 q
   else if 1440<=numP q\/numP q<1 then eo E 3 q
   else dw (dK E ⟨9,if m then-numP q else numP q,0,[],[e]⟩ q.tail n) fun e r n=>goP E f 5 d e r n
  else .ok (e,r,n)
 |f+1,6,d,_,r,n=>
  if 40<d then eo E 4 r
  else if isT kV r then dw (goP E f 0 (d+1) ex0 r.tail n) fun e r n=>if isT pF r then .ok (e,r.tail,n) else eo E 2 r
  else if isT kb r then dK E ⟨1,0,0,[],[]⟩ r.tail n
  else if isT jF r then dK E ⟨2,0,0,[],[]⟩ r.tail n
  else if isT j6 r then goP E f 7 d ex0 r.tail n
  else if isT lK r then
   let q:=r.tail
   if kindP q≠5 then eo E 2 q
   else if isT wTo q.tail then
    let p:=q.tail.tail
    if kindP p≠5 then eo E 2 p
    else if numP p<numP q then eo E 3 p
    else goP E f 8 d ⟨5,numP q,numP p,[],[]⟩ p.tail n
   else goP E f 8 d ⟨5,numP q,numP q,[],[]⟩ q.tail n
  else if kindP r=1 then dK E ⟨10,0,0,textP r,[]⟩ r.tail n
  else if kindP r≠4 then eo E 2 r
  else if isT gO r.tail then
   let q:=r.tail.tail
   if kindP q≠4 then eo E 2 q
   else if numP q<numP r+1 then eo E 3 q
   else dK E ⟨3,numP r,numP q,[],[]⟩ q.tail n
  else eo E 2 r.tail
 |f+1,7,d,e,r,n=>
  if dayBit (textP r)=0 then eo E 2 r
  else if isT pM r.tail then goP E f 7 d ⟨0,((e.a.toNat|||dayBit (textP r):Nat):Int),0,[],[]⟩ r.tail.tail n
  else goP E f 8 d ⟨4,((e.a.toNat|||dayBit (textP r):Nat):Int),0,[],[]⟩ r.tail n
 |f+1,_,d,e,r,n=>
  if isT nT r then dw (goP E f 4 (d+1) ex0 r.tail n) fun k r n=>dK E ⟨e.kind,e.a,e.b,[],[k]⟩ r n else eo E 2 r
theorem fB {x:List UInt8}{r:List Tk}(a:x≠[])(h:isT x r=true):1<=r.length:=by
 cases r with
 |nil=>simp[isT,textP]at h;exact absurd h (fun e=>a (by first|exact e|exact e.symm))
 |cons p r=>simp
theorem qr {r:List Tk}(h:kindP r≠0):1<=r.length:=by
 cases r with
 |nil=>simp[kindP]at h
 |cons p r=>simp
theorem pG {r:List Tk}(h:dayBit (textP r)≠0):1<=r.length:=by
 cases r with
 |nil=>exact absurd (by decide) h
 |cons p r=>simp
def gJ (m:Nat):Nat:=if m=1\/m=3\/m=5 then 0 else 1
theorem dI {x:Res}{f:Ex->List Tk->Nat->Res}{z:Ex×List Tk×Nat}(h:dw x f= .ok z): ∃e r n,x= .ok (e,r,n)/\f e r n= .ok z:=by
 match x with
 | .error _=>cases h
 | .ok (e,r,n)=>exact⟨e,r,n,rfl,h⟩
theorem dS {E:Nat}{e:Ex}{r:List Tk}{n:Nat}{z:Ex×List Tk×Nat}(h:dK E e r n= .ok z):z=(e,r,n+1):=by
 unfold dK at h;split at h
 ·cases h
 ·cases h;rfl
theorem dL {E:Nat}{err:Int}{r:List Tk}{z:Ex×List Tk×Nat}(h:eo E err r= .ok z):False:=by
 unfold eo at h;cases h
theorem ve (E f d:Nat)(e:Ex)(r:List Tk)(n:Nat):goP E (f+1) 0 d e r n=dw (goP E f 2 d ex0 r n) fun e r n=>goP E f 1 d e r n:=rfl
theorem vf (E f d:Nat)(e:Ex)(r:List Tk)(n:Nat):goP E (f+1) 1 d e r n=if isT qq r then dw (goP E f 2 d ex0 r.tail n) fun t r n=>dw (dK E ⟨6,0,0,[],[e,t]⟩ r n) fun e r n=>goP E f 1 d e r n
 else if isT gO r then dw (goP E f 2 d ex0 r.tail n) fun t r n=>dw (dK E ⟨7,0,0,[],[e,t]⟩ r n) fun e r n=>goP E f 1 d e r n
 else .ok (e,r,n):=rfl
theorem vh (E f d:Nat)(e:Ex)(r:List Tk)(n:Nat):goP E (f+1) 2 d e r n=dw (goP E f 4 d ex0 r n) fun e r n=>goP E f 3 d e r n:=rfl
theorem vj (E f d:Nat)(e:Ex)(r:List Tk)(n:Nat):goP E (f+1) 3 d e r n=if isT ua r then dw (goP E f 4 d ex0 r.tail n) fun t r n=>dw (dK E ⟨8,0,0,[],[e,t]⟩ r n) fun e r n=>goP E f 3 d e r n
 else .ok (e,r,n):=rfl
theorem vk (E f d:Nat)(e:Ex)(r:List Tk)(n:Nat):goP E (f+1) 4 d e r n=dw (goP E f 6 d ex0 r n) fun e r n=>goP E f 5 d e r n:=rfl
def fR (r:List Tk):List Tk:=if isT gO r.tail then r.tail.tail else r.tail
theorem vn (E f d:Nat)(e:Ex)(r:List Tk)(n:Nat):goP E (f+1) 5 d e r n=if isT mK r then
  if kindP (fR r)≠6 then eo E 2 (fR r)
  else if 1440<=numP (fR r)\/numP (fR r)<1 then eo E 3 (fR r)
  else dw (dK E ⟨9,if isT gO r.tail then-numP (fR r) else numP (fR r),0,[],[e]⟩ (fR r).tail n) fun e r n=>goP E f 5 d e r n
 else .ok (e,r,n):=rfl
theorem vo (E f d:Nat)(e:Ex)(r:List Tk)(n:Nat):goP E (f+1) 6 d e r n=
 if 40<d then eo E 4 r
 else if isT kV r then dw (goP E f 0 (d+1) ex0 r.tail n) fun e r n=>if isT pF r then .ok (e,r.tail,n) else eo E 2 r
 else if isT kb r then dK E ⟨1,0,0,[],[]⟩ r.tail n
 else if isT jF r then dK E ⟨2,0,0,[],[]⟩ r.tail n
 else if isT j6 r then goP E f 7 d ex0 r.tail n
 else if isT lK r then
  if kindP r.tail≠5 then eo E 2 r.tail
  else if isT wTo r.tail.tail then
   if kindP r.tail.tail.tail≠5 then eo E 2 r.tail.tail.tail
   else if numP r.tail.tail.tail<numP r.tail then eo E 3 r.tail.tail.tail
   else goP E f 8 d ⟨5,numP r.tail,numP r.tail.tail.tail,[],[]⟩ r.tail.tail.tail.tail n
  else goP E f 8 d ⟨5,numP r.tail,numP r.tail,[],[]⟩ r.tail.tail n
 else if kindP r=1 then dK E ⟨10,0,0,textP r,[]⟩ r.tail n
 else if kindP r≠4 then eo E 2 r
 else if isT gO r.tail then
  if kindP r.tail.tail≠4 then eo E 2 r.tail.tail
  else if numP r.tail.tail<numP r+1 then eo E 3 r.tail.tail
  else dK E ⟨3,numP r,numP r.tail.tail,[],[]⟩ r.tail.tail.tail n
 else eo E 2 r.tail:=rfl
theorem vq (E f d:Nat)(e:Ex)(r:List Tk)(n:Nat):goP E (f+1) 7 d e r n=
 if dayBit (textP r)=0 then eo E 2 r
 else if isT pM r.tail then goP E f 7 d ⟨0,((e.a.toNat|||dayBit (textP r):Nat):Int),0,[],[]⟩ r.tail.tail n
 else goP E f 8 d ⟨4,((e.a.toNat|||dayBit (textP r):Nat):Int),0,[],[]⟩ r.tail n:=rfl
theorem vt (E f d:Nat)(e:Ex)(r:List Tk)(n:Nat):goP E (f+1) 8 d e r n=
 if isT nT r then dw (goP E f 4 (d+1) ex0 r.tail n) fun k r n=>dK E ⟨e.kind,e.a,e.b,[],[k]⟩ r n else eo E 2 r:=rfl
theorem Ka (r:List Tk):r.tail.length=r.length-1:=by simp
theorem sh (r:List Tk):(fR r).length<=r.length-1:=by
 unfold fR;split<;>simp only[Ka]<;>omega
theorem zL (E:Nat): ∀(f m d:Nat) (e:Ex) (r:List Tk) (n:Nat) (w:Ex) (q:List Tk) (y:Nat),m<=8->goP E f m d e r n= .ok (w,q,y)->q.length+gJ m<=r.length
 |0,m,d,e,r,n,w,q,y,_,h=>(dL h).elim
 |f+1,m,d,e,r,n,w,q,y,F,h=>by
  have g:=zL E f;match m,F with
  |0,_=>
   rw[ve]at h;obtain⟨k,r1,p,j,i⟩:=dI h;have a:=g 2 _ _ _ _ _ _ _ (by omega) j;have b:=g 1 _ _ _ _ _ _ _ (by omega) i;simp[gJ]at*;omega
  |1,_=>
   rw[vf]at h;split at h
   ·obtain⟨k,r1,p,j,i⟩:=dI h;obtain⟨x,A,z,l,o⟩:=dI i;have c:=dS l;cases c;have a:=g 2 _ _ _ _ _ _ _ (by omega) j;have b:=g 1 _ _ _ _ _ _ _ (by omega) o;simp[gJ]at*;omega
   ·split at h
    ·obtain⟨k,r1,p,j,i⟩:=dI h;obtain⟨x,A,z,l,o⟩:=dI i;have c:=dS l;cases c;have a:=g 2 _ _ _ _ _ _ _ (by omega) j;have b:=g 1 _ _ _ _ _ _ _ (by omega) o;simp[gJ]at*;omega
    ·cases h;simp[gJ]
  |2,_=>
   rw[vh]at h;obtain⟨k,r1,p,j,i⟩:=dI h;have a:=g 4 _ _ _ _ _ _ _ (by omega) j;have b:=g 3 _ _ _ _ _ _ _ (by omega) i;simp[gJ]at*;omega
  |3,_=>
   rw[vj]at h;split at h
   ·obtain⟨k,r1,p,j,i⟩:=dI h;obtain⟨x,A,z,l,o⟩:=dI i;have c:=dS l;cases c;have a:=g 4 _ _ _ _ _ _ _ (by omega) j;have b:=g 3 _ _ _ _ _ _ _ (by omega) o;simp[gJ]at*;omega
   ·cases h;simp[gJ]
  |4,_=>
   rw[vk]at h;obtain⟨k,r1,p,j,i⟩:=dI h;have a:=g 6 _ _ _ _ _ _ _ (by omega) j;have b:=g 5 _ _ _ _ _ _ _ (by omega) i;simp[gJ]at*;omega
  |5,_=>
   rw[vn]at h;have H:=sh r;split at h
   ·split at h
    ·exact(dL h).elim
    ·split at h
     ·exact(dL h).elim
     ·obtain⟨x,A,z,l,o⟩:=dI h;have c:=dS l;cases c;have b:=g 5 _ _ _ _ _ _ _ (by omega) o;simp[gJ]at*;omega
   ·cases h;simp[gJ]
  |6,_=>
   rw[vo]at h;by_cases c0:40<d
   ·rw[aB c0]at h;exact(dL h).elim
   rw[ax c0]at h;by_cases c1:isT kV r=true
   ·rw[aB c1]at h;have:=fB (by decide) c1;obtain⟨k,r1,p,j,i⟩:=dI h;have a:=g 0 _ _ _ _ _ _ _ (by omega) j;split at i
    ·cases i;simp[gJ]at*;omega
    ·exact(dL i).elim
   rw[ax c1]at h;by_cases s:isT kb r=true
   ·rw[aB s]at h;have:=fB (by decide) s;cases dS h;simp[gJ]at*;omega
   rw[ax s]at h;by_cases t:isT jF r=true
   ·rw[aB t]at h;have:=fB (by decide) t;cases dS h;simp[gJ]at*;omega
   rw[ax t]at h;by_cases u:isT j6 r=true
   ·rw[aB u]at h;have:=fB (by decide) u;have a:=g 7 _ _ _ _ _ _ _ (by omega) h;simp[gJ]at*;omega
   rw[ax u]at h;by_cases v:isT lK r=true
   ·rw[aB v]at h;have:=fB (by decide) v;split at h
    ·exact(dL h).elim
    split at h
    ·split at h
     ·exact(dL h).elim
     split at h
     ·exact(dL h).elim
     have a:=g 8 _ _ _ _ _ _ _ (by omega) h;simp[gJ]at*;omega
    ·have a:=g 8 _ _ _ _ _ _ _ (by omega) h;simp[gJ]at*;omega
   rw[ax v]at h;by_cases B:kindP r=1
   ·rw[aB B]at h;have:=qr (r:=r) (by omega);cases dS h;simp[gJ]at*;omega
   rw[ax B]at h;by_cases C:kindP r≠4
   ·rw[aB C]at h;exact(dL h).elim
   rw[ax C]at h;have:=qr (r:=r) (by omega);split at h
   ·split at h
    ·exact(dL h).elim
    split at h
    ·exact(dL h).elim
    cases dS h;simp[gJ]at*;omega
   ·exact(dL h).elim
  |7,_=>
   rw[vq]at h;split at h
   ·exact(dL h).elim
   ·rename_i D;have:=pG D;split at h
    ·have a:=g 7 _ _ _ _ _ _ _ (by omega) h;simp[gJ]at*;omega
    ·have a:=g 8 _ _ _ _ _ _ _ (by omega) h;simp[gJ]at*;omega
  |8,_=>
   rw[vt]at h;split at h
   ·rename_i G;have:=fB (by decide) G;obtain⟨k,r1,p,j,i⟩:=dI h;cases dS i;have a:=g 4 _ _ _ _ _ _ _ (by omega) j;simp[gJ]at*;omega
   ·exact(dL h).elim
theorem dU {x y:Res}{f g:Ex->List Tk->Nat->Res}(h:x=y)(a: ∀e r n,y= .ok (e,r,n)->f e r n=g e r n):dw x f=dw y g:=by
 subst h;match x with
 | .error _=>rfl
 | .ok (e,r,n)=>exact a e r n rfl
def fk (m:Nat):Nat:=if m=0 then 4 else if m=2 then 3 else if m=4 then 2 else 1
def fb (m:Nat)(r:List Tk):Nat:=4*r.length+fk m
theorem BU (E:Nat): ∀(f m d:Nat) (e:Ex) (r:List Tk) (n:Nat),m<=8->fb m r<=f->goP E (f+1) m d e r n=goP E f m d e r n
 |0,m,d,e,r,n,_,h=>by
  unfold fb fk at h;exfalso;split at h
  ·omega
  split at h
  ·omega
  split at h<;>omega
 |f+1,m,d,e,r,n,w,h=>by
  have b:=BU E f;have len:=zL E f;unfold fb at h b;match m,w with
  |0,_=>
   rw[ve,ve];refine dU (b 2 _ _ _ _ (by omega) (by simp[fk]at*;omega)) fun i r1 k c=> ?_;have a:=len 2 _ _ _ _ _ _ _ (by omega) c;exact b 1 _ _ _ _ (by omega) (by simp[fk,gJ]at*;omega)
  |1,_=>
   rw[vf,vf];split
   ·rename_i g;have:=fB (by decide) g;refine dU (b 2 _ _ _ _ (by omega) (by simp[fk]at*;omega)) fun i r1 k c=> ?_;have a:=len 2 _ _ _ _ _ _ _ (by omega) c;refine dU rfl fun s u t j=> ?_;cases dS j;exact b 1 _ _ _ _ (by omega) (by simp[fk,gJ]at*;omega)
   ·split
    ·rename_i g;have:=fB (by decide) g;refine dU (b 2 _ _ _ _ (by omega) (by simp[fk]at*;omega)) fun i r1 k c=> ?_;have a:=len 2 _ _ _ _ _ _ _ (by omega) c;refine dU rfl fun s u t j=> ?_;cases dS j;exact b 1 _ _ _ _ (by omega) (by simp[fk,gJ]at*;omega)
    ·rfl
  |2,_=>
   rw[vh,vh];refine dU (b 4 _ _ _ _ (by omega) (by simp[fk]at*;omega)) fun i r1 k c=> ?_;have a:=len 4 _ _ _ _ _ _ _ (by omega) c;exact b 3 _ _ _ _ (by omega) (by simp[fk,gJ]at*;omega)
  |3,_=>
   rw[vj,vj];split
   ·rename_i g;have:=fB (by decide) g;refine dU (b 4 _ _ _ _ (by omega) (by simp[fk]at*;omega)) fun i r1 k c=> ?_;have a:=len 4 _ _ _ _ _ _ _ (by omega) c;refine dU rfl fun s u t j=> ?_;cases dS j;exact b 3 _ _ _ _ (by omega) (by simp[fk,gJ]at*;omega)
   ·rfl
  |4,_=>
   rw[vk,vk];refine dU (b 6 _ _ _ _ (by omega) (by simp[fk]at*;omega)) fun i r1 k c=> ?_;have a:=len 6 _ _ _ _ _ _ _ (by omega) c;exact b 5 _ _ _ _ (by omega) (by simp[fk,gJ]at*;omega)
  |5,_=>
   rw[vn,vn];have x:=sh r;split
   ·rename_i g;have:=fB (by decide) g;split
    ·rfl
    split
    ·rfl
    refine dU rfl fun s u t j=> ?_;cases dS j;exact b 5 _ _ _ _ (by omega) (by simp[fk]at*;omega)
   ·rfl
  |6,_=>
   rw[vo E (f+1),vo E f];by_cases c0:40<d
   ·rw[aB c0,aB c0]
   rw[ax c0,ax c0];by_cases c1:isT kV r=true
   ·rw[aB c1,aB c1];have:=fB (by decide) c1;exact dU (b 0 _ _ _ _ (by omega) (by simp[fk]at*;omega)) fun i r1 k c=>rfl
   rw[ax c1,ax c1];by_cases p:isT kb r=true
   ·rw[aB p,aB p]
   rw[ax p,ax p];by_cases q:isT jF r=true
   ·rw[aB q,aB q]
   rw[ax q,ax q];by_cases l:isT j6 r=true
   ·rw[aB l,aB l];have:=fB (by decide) l;exact b 7 _ _ _ _ (by omega) (by simp[fk]at*;omega)
   rw[ax l,ax l];by_cases o:isT lK r=true
   ·rw[aB o,aB o];have:=fB (by decide) o;rw[b 8 d ⟨5,numP r.tail,numP r.tail.tail.tail,[],[]⟩ r.tail.tail.tail.tail n (by omega) (by simp[fk]at*;omega),b 8 d ⟨5,numP r.tail,numP r.tail,[],[]⟩ r.tail.tail n (by omega) (by simp[fk]at*;omega)]
   rw[ax o,ax o]
  |7,_=>
   rw[vq E (f+1) d e r n,vq E f d e r n];split
   ·rfl
   ·rename_i v;have:=pG v;split
    ·exact b 7 _ _ _ _ (by omega) (by simp[fk]at*;omega)
    ·exact b 8 _ _ _ _ (by omega) (by simp[fk]at*;omega)
  |8,_=>
   rw[vt,vt];split
   ·rename_i g;have:=fB (by decide) g;exact dU (b 4 _ _ _ _ (by omega) (by simp[fk]at*;omega)) fun i r1 k c=>rfl
   ·rfl
def rd (E m d:Nat)(e:Ex)(r:List Tk)(n:Nat):Res:=goP E (fb m r) m d e r n
theorem iQ (E m d:Nat)(e:Ex)(r:List Tk)(n:Nat)(a:m<=8): ∀f,fb m r<=f->goP E f m d e r n=rd E m d e r n
 |f,h=>by
  obtain⟨k,rfl⟩: ∃k,f=fb m r+k:=⟨f-fb m r,by omega⟩
  clear h;induction k with
  |zero=>rfl
  |succ k b=>rw[<-Nat.add_assoc,BU E _ m d e r n a (by omega)];exact b
theorem lZ {E m d:Nat}{e:Ex}{r:List Tk}{n:Nat}{b:Ex}{a:List Tk}{c:Nat}(f:m<=8)(h:rd E m d e r n= .ok (b,a,c)):a.length+gJ m<=r.length:=zL E _ m d e r n b a c f h
theorem QC (E d:Nat)(e:Ex)(r:List Tk)(n:Nat):rd E 0 d e r n=dw (rd E 2 d ex0 r n) fun e r n=>rd E 1 d e r n:=by
 have h:fb 0 r=4*r.length+3+1:=by simp[fb,fk]
 show goP E (fb 0 r) 0 d e r n=_;rw[h,ve];refine dU (iQ E 2 d ex0 r n (by omega) _ (by simp[fb,fk])) fun b r1 f c=> ?_;have a:=lZ (by omega) c;exact iQ E 1 d b r1 f (by omega) _ (by simp[fb,fk,gJ]at*;omega)
theorem QD (E d:Nat)(e:Ex)(r:List Tk)(n:Nat):rd E 2 d e r n=dw (rd E 4 d ex0 r n) fun e r n=>rd E 3 d e r n:=by
 have h:fb 2 r=4*r.length+2+1:=by simp[fb,fk]
 show goP E (fb 2 r) 2 d e r n=_;rw[h,vh];refine dU (iQ E 4 d ex0 r n (by omega) _ (by simp[fb,fk])) fun b r1 f c=> ?_;have a:=lZ (by omega) c;exact iQ E 3 d b r1 f (by omega) _ (by simp[fb,fk,gJ]at*;omega)
theorem QE (E d:Nat)(e:Ex)(r:List Tk)(n:Nat):rd E 4 d e r n=dw (rd E 6 d ex0 r n) fun e r n=>rd E 5 d e r n:=by
 have h:fb 4 r=4*r.length+1+1:=by simp[fb,fk]
 show goP E (fb 4 r) 4 d e r n=_;rw[h,vk];refine dU (iQ E 6 d ex0 r n (by omega) _ (by simp[fb,fk])) fun b r1 f c=> ?_;have a:=lZ (by omega) c;exact iQ E 5 d b r1 f (by omega) _ (by simp[fb,fk,gJ]at*;omega)
theorem Kb (E d:Nat)(e:Ex)(r:List Tk)(n:Nat):rd E 1 d e r n=
  if isT qq r then dw (rd E 2 d ex0 r.tail n) fun t r n=>dw (dK E ⟨6,0,0,[],[e,t]⟩ r n) fun e r n=>rd E 1 d e r n
  else if isT gO r then dw (rd E 2 d ex0 r.tail n) fun t r n=>dw (dK E ⟨7,0,0,[],[e,t]⟩ r n) fun e r n=>rd E 1 d e r n
  else .ok (e,r,n):=by
 have h:fb 1 r=4*r.length+1:=by simp[fb,fk]
 show goP E (fb 1 r) 1 d e r n=_;rw[h,vf];by_cases c1:isT qq r=true
 ·rw[aB c1,aB c1];have:=fB (by decide) c1;refine dU (iQ E 2 d ex0 r.tail n (by omega) _ (by simp[fb,fk];omega)) fun g r1 j c=> ?_;have a:=lZ (by omega) c;refine dU rfl fun i l k f=> ?_;cases dS f;exact iQ E 1 d _ _ _ (by omega) _ (by simp[fb,fk,gJ]at*;omega)
 ·rw[ax c1,ax c1];by_cases b:isT gO r=true
  ·rw[aB b,aB b];have:=fB (by decide) b;refine dU (iQ E 2 d ex0 r.tail n (by omega) _ (by simp[fb,fk];omega)) fun g r1 j c=> ?_;have a:=lZ (by omega) c;refine dU rfl fun i l k f=> ?_;cases dS f;exact iQ E 1 d _ _ _ (by omega) _ (by simp[fb,fk,gJ]at*;omega)
  ·rw[ax b,ax b]
theorem Ov (E d:Nat)(e:Ex)(r:List Tk)(n:Nat):rd E 3 d e r n=
  if isT ua r then dw (rd E 4 d ex0 r.tail n) fun t r n=>dw (dK E ⟨8,0,0,[],[e,t]⟩ r n) fun e r n=>rd E 3 d e r n
  else .ok (e,r,n):=by
 have h:fb 3 r=4*r.length+1:=by simp[fb,fk]
 show goP E (fb 3 r) 3 d e r n=_;rw[h,vj];by_cases c1:isT ua r=true
 ·rw[aB c1,aB c1];have:=fB (by decide) c1;refine dU (iQ E 4 d ex0 r.tail n (by omega) _ (by simp[fb,fk];omega)) fun f r1 i b=> ?_;have a:=lZ (by omega) b;refine dU rfl fun g k j c=> ?_;cases dS c;exact iQ E 3 d _ _ _ (by omega) _ (by simp[fb,fk,gJ]at*;omega)
 ·rw[ax c1,ax c1]
theorem Ow (E d:Nat)(e:Ex)(r:List Tk)(n:Nat):rd E 5 d e r n=if isT mK r then
   if kindP (fR r)≠6 then eo E 2 (fR r)
   else if 1440<=numP (fR r)\/numP (fR r)<1 then eo E 3 (fR r)
   else dw (dK E ⟨9,if isT gO r.tail then-numP (fR r) else numP (fR r),0,[],[e]⟩ (fR r).tail n) fun e r n=>rd E 5 d e r n
  else .ok (e,r,n):=by
 have h:fb 5 r=4*r.length+1:=by simp[fb,fk]
 show goP E (fb 5 r) 5 d e r n=_;rw[h,vn];have g:=sh r;by_cases c1:isT mK r=true
 ·rw[aB c1,aB c1];have:=fB (by decide) c1;by_cases a:kindP (fR r)≠6
  ·rw[aB a,aB a]
  rw[ax a,ax a];by_cases b:1440<=numP (fR r)\/numP (fR r)<1
  ·rw[aB b,aB b]
  rw[ax b,ax b];refine dU rfl fun f j i c=> ?_;cases dS c;exact iQ E 5 d _ _ _ (by omega) _ (by simp[fb,fk]at*;omega)
 ·rw[ax c1,ax c1]
theorem Ox (E d:Nat)(e:Ex)(r:List Tk)(n:Nat):rd E 6 d e r n=
  if 40<d then eo E 4 r
  else if isT kV r then dw (rd E 0 (d+1) ex0 r.tail n) fun e r n=>if isT pF r then .ok (e,r.tail,n) else eo E 2 r
  else if isT kb r then dK E ⟨1,0,0,[],[]⟩ r.tail n
  else if isT jF r then dK E ⟨2,0,0,[],[]⟩ r.tail n
  else if isT j6 r then rd E 7 d ex0 r.tail n
  else if isT lK r then
   if kindP r.tail≠5 then eo E 2 r.tail
   else if isT wTo r.tail.tail then
    if kindP r.tail.tail.tail≠5 then eo E 2 r.tail.tail.tail
    else if numP r.tail.tail.tail<numP r.tail then eo E 3 r.tail.tail.tail
    else rd E 8 d ⟨5,numP r.tail,numP r.tail.tail.tail,[],[]⟩ r.tail.tail.tail.tail n
   else rd E 8 d ⟨5,numP r.tail,numP r.tail,[],[]⟩ r.tail.tail n
  else if kindP r=1 then dK E ⟨10,0,0,textP r,[]⟩ r.tail n
  else if kindP r≠4 then eo E 2 r
  else if isT gO r.tail then
   if kindP r.tail.tail≠4 then eo E 2 r.tail.tail
   else if numP r.tail.tail<numP r+1 then eo E 3 r.tail.tail
   else dK E ⟨3,numP r,numP r.tail.tail,[],[]⟩ r.tail.tail.tail n
  else eo E 2 r.tail:=by
 have h:fb 6 r=4*r.length+1:=by simp[fb,fk]
 show goP E (fb 6 r) 6 d e r n=_;rw[h,vo];by_cases c0:40<d
 ·rw[aB c0,aB c0]
 rw[ax c0,ax c0];by_cases c1:isT kV r=true
 ·rw[aB c1,aB c1];have:=fB (by decide) c1;exact dU (iQ E 0 _ _ _ _ (by omega) _ (by simp[fb,fk]at*;omega)) fun g r1 j i=>rfl
 rw[ax c1,ax c1];by_cases c:isT kb r=true
 ·rw[aB c,aB c]
 rw[ax c,ax c];by_cases f:isT jF r=true
 ·rw[aB f,aB f]
 rw[ax f,ax f];by_cases a:isT j6 r=true
 ·rw[aB a,aB a];have:=fB (by decide) a;exact iQ E 7 _ _ _ _ (by omega) _ (by simp[fb,fk]at*;omega)
 rw[ax a,ax a];by_cases b:isT lK r=true
 ·rw[aB b,aB b];have:=fB (by decide) b;rw[iQ E 8 d ⟨5,numP r.tail,numP r.tail.tail.tail,[],[]⟩ r.tail.tail.tail.tail n (by omega) _ (by simp[fb,fk]at*;omega),iQ E 8 d ⟨5,numP r.tail,numP r.tail,[],[]⟩ r.tail.tail n (by omega) _ (by simp[fb,fk]at*;omega)]
 rw[ax b,ax b]
theorem Oy (E d:Nat)(e:Ex)(r:List Tk)(n:Nat):rd E 7 d e r n=
  if dayBit (textP r)=0 then eo E 2 r
  else if isT pM r.tail then rd E 7 d ⟨0,((e.a.toNat|||dayBit (textP r):Nat):Int),0,[],[]⟩ r.tail.tail n
  else rd E 8 d ⟨4,((e.a.toNat|||dayBit (textP r):Nat):Int),0,[],[]⟩ r.tail n:=by
 have h:fb 7 r=4*r.length+1:=by simp[fb,fk]
 show goP E (fb 7 r) 7 d e r n=_;rw[h,vq];by_cases c1:dayBit (textP r)=0
 ·rw[aB c1,aB c1]
 rw[ax c1,ax c1];have:=pG c1;rw[iQ E 7 d _ r.tail.tail n (by omega) _ (by simp[fb,fk]at*;omega),iQ E 8 d _ r.tail n (by omega) _ (by simp[fb,fk]at*;omega)]
theorem QF (E d:Nat)(e:Ex)(r:List Tk)(n:Nat):rd E 8 d e r n=
  if isT nT r then dw (rd E 4 (d+1) ex0 r.tail n) fun k r n=>dK E ⟨e.kind,e.a,e.b,[],[k]⟩ r n else eo E 2 r:=by
 have h:fb 8 r=4*r.length+1:=by simp[fb,fk]
 show goP E (fb 8 r) 8 d e r n=_;rw[h,vt];by_cases c1:isT nT r=true
 ·rw[aB c1,aB c1];have:=fB (by decide) c1;exact dU (iQ E 4 _ _ _ _ (by omega) _ (by simp[fb,fk]at*;omega)) fun c r1 g f=>rfl
 ·rw[ax c1,ax c1]
end Lx
theorem ma (c:UInt8)(w:World):Calls prog 91 #[.int .u8 (c.toNat:Int)] w fun e w'=>e= .returned (.bool (isD c))/\w'=w:=by
 unfold isD;by_cases a:48<=c.toNat
 ·by_cases b:c.toNat<=57
  ·have d:(48:Int)<=(c.toNat:Int):=(by omega);have f:(c.toNat:Int)<=57:=(by omega);rw[bh a,bh b];go_enter func91,ntmps91;go_wp2;go_ret;exact⟨rfl,rfl⟩
  ·have d:(48:Int)<=(c.toNat:Int):=(by omega);have f: ¬(c.toNat:Int)<=57:=(by omega);rw[bh a,bn b];go_enter func91,ntmps91;go_wp2;go_ret;exact⟨rfl,rfl⟩
 ·have d: ¬(48:Int)<=(c.toNat:Int):=by omega
  rw[bn a];go_enter func91,ntmps91;go_wp2;go_ret;exact⟨rfl,rfl⟩
theorem yc (c:UInt8)(w:World):Calls prog 93 #[.int .u8 (c.toNat:Int)] w fun e w'=>e= .returned (.bool (isL c))/\w'=w:=by
 unfold isL;by_cases a:97<=c.toNat
 ·by_cases b:c.toNat<=122
  ·have d:(97:Int)<=(c.toNat:Int):=(by omega);have f:(c.toNat:Int)<=122:=(by omega);rw[bh a,bh b];go_enter func93,ntmps93;go_wp2;go_ret;exact⟨rfl,rfl⟩
  ·have d:(97:Int)<=(c.toNat:Int):=(by omega);have f: ¬(c.toNat:Int)<=122:=(by omega);rw[bh a,bn b];go_enter func93,ntmps93;go_wp2;go_ret;exact⟨rfl,rfl⟩
 ·have d: ¬(97:Int)<=(c.toNat:Int):=by omega
  rw[bn a];go_enter func93,ntmps93;go_wp2;go_ret;exact⟨rfl,rfl⟩
theorem lN {s:ByteArray}{l:List UInt8}(b:s.data.toList=l)(k:Nat)(a:k<s.size):s[k]=l.getD k 0:=by
 subst b;have h:k<s.data.size:=a;show s.data[k]=_;rw[dg,bx,gh h];rfl
theorem Hh {a b:Int}(h:a=b):ag a=ag b:=by rw[h]
theorem ni (s:ByteArray)(l:List UInt8)(p:s.data.toList=l)(A:l.length<=6)(d: ∀i,i<l.length->isD (l.getD i 0)=true)(w:World):
  Calls prog 124 #[.string s] w fun e w'=>e= .returned (ag (valL l))/\w'=w:=by
 have B:s.size=l.length:=by rw[<-p,Lib.size_eq]
 go_enter func124,ntmps124;go_wp2;go_loop [3,7] (fun n i=> ∃k:Nat,k<=l.length/\i=ag k/\n=ag (valL (l.take k))) (fun _ i=>l.length-(intOf i).toNat);case atStart=>exact⟨0,by omega,rfl,rfl⟩
 case round=>
  obtain⟨k,z,rfl,rfl⟩:=hrel;by_cases b:k<l.length
  ·have m:(k:Int)<(l.length:Int):=(by omega);have x:(0:Int)<=(k:Int):=(by omega);have y:=qp l d k (by omega) (by omega);have a:=d k b;have g:=lN p k (by omega);have j:=Ax l k b;have r:Rb (valL (l.take (k+1))=10*valL (l.take k)+(((l.getD k 0).toNat:Int)-48)):=j;simp only[isD,bz,bT]at a;have t:Rb (48<=(l.getD k 0).toNat/\(l.getD k 0).toNat<=57):=a;have q:Rb (s[k]=l.getD k 0):=g;clear a g j d;go_wp2;go_round
   case rel=>
    refine⟨k+1,by omega,by go_num,Hh ?_⟩;have u:=t.o;rw[q.o,r.o];generalize (l.getD k 0).toNat=c at u;generalize valL (l.take k)=v at y;omega
   case measure=>simp[intOf];omega
  ·have f:k=l.length:=(by omega);subst f;have e:valL (l.take l.length)=valL l:=(by rw[gI]);go_wp2;go_ret;exact⟨rfl,rfl⟩
theorem BV (s t:ByteArray)(l m:List UInt8)(H:s.data.toList=l)(I:t.data.toList=m)(R:l.length<=9223372036854775807)(S:m.length<=100)(w:World):
  Calls prog 88 #[.string s,.string t] w fun e w'=>e= .returned (.bool (jx l m))/\aq w w':=by
 have U:s.size=l.length:=by rw[<-H,Lib.size_eq]
 have T:t.size=m.length:=by rw[<-I,Lib.size_eq]
 by_cases v:m.length<=l.length
 ·have x: ¬(l.length:Int)<(m.length:Int):=by omega
  go_enter func88,ntmps88;go_wp2;go_loopw [13] (fun i wr=> ∃k:Nat,k<=m.length/\i=ag k/\(∀i,i<k->okB (m.getD i 0) (l.getD i 0)=true)/\aq w wr) (fun i _=>m.length-(intOf i).toNat);case atStart=>exact⟨0,by omega,rfl,fun i h=>by omega,aH _ _⟩
  case round=>
   obtain⟨k,Q,rfl,d,b⟩:=hrel;have A:Rb (∀i,i<k->okB (m.getD i 0) (l.getD i 0)=true):=d;clear d;by_cases u:k<m.length
   ·have F:(k:Int)<(m.length:Int):=(by omega);have G:(k:Int)<(l.length:Int):=(by omega);have J:(0:Int)<=(k:Int):=(by omega);have p:=lN H k (by omega);have q:=lN I k (by omega);have O: ∀h:k<s.size,s[k]=l.getD k 0:=fun _=>p;have P: ∀h:k<t.size,t[k]=m.getD k 0:=fun _=>q;have a:okB (m.getD k 0) (l.getD k 0)=(if(m.getD k 0).toNat=48 then isD (l.getD k 0) else decide ((m.getD k 0).toNat=(l.getD k 0).toNat)):=rfl;generalize y:l.getD k 0=c at*;generalize z:m.getD k 0=f at*;by_cases j:f.toNat=48
    ·have K:(f.toNat:Int)=48:=(by omega);rw[aB j]at a;cases hd:isD c with
     |true=>
      rw[hd]at a;have g:Rb (okB f c=true):=a;have n:=fun w=>ma c w;rw[hd]at n;clear a hd p q;go_wp2;go_quiet ((go_at_call 91;exact fF (n _)));go_wp2;go_roundw
      case rel=>
       refine⟨k+1,by omega,by go_num,fun i hi=> ?_,du b _⟩;by_cases e:i=k
       ·subst e;rw[y,z];exact g.o
       ·exact A.o i (by omega)
      case measure=>simp[intOf];omega
     |false=>
      rw[hd]at a;have g:Rb (okB f c=false):=a;have n:=fun w=>ma c w;rw[hd]at n;clear a hd p q;go_wp2;go_quiet ((go_at_call 91;exact fF (n _)));go_wp2;go_ret;exact⟨by rw[BS k u (by rw[y,z];exact g.o)];rfl,du b _⟩
    ·have D:((f.toNat:Int)==48)=false:=(by simp;omega);rw[ax j]at a;by_cases r:f.toNat=c.toNat
     ·have g:Rb (okB f c=true):=(by rw[a];exact bh r);have M:((c.toNat:Int)==48)=false:=(by simp;omega);have E:((c.toNat:Int) !=48)=true:=(by simp;omega);have N:((c.toNat:Int) !=(c.toNat:Int))=false:=(by simp);clear a p q D j;go_wp2;go_quiet (fail);go_wp2;go_roundw
      case rel=>
       refine⟨k+1,by omega,by go_num,fun i hi=> ?_,du b _⟩;by_cases e:i=k
       ·subst e;rw[y,z];exact g.o
       ·exact A.o i (by omega)
      case measure=>simp[intOf];omega
     ·have g:Rb (okB f c=false):=(by rw[a];exact bn r);have E:((f.toNat:Int) !=48)=true:=(by simp;omega);have L:((f.toNat:Int) !=(c.toNat:Int))=true:=(by simp;omega);clear a p q;go_wp2;go_quiet (fail);go_wp2;go_ret;exact⟨by rw[BS k u (by rw[y,z];exact g.o)];rfl,du b _⟩
   ·have B:Rb (jx l m=true):=Hd v fun i hi=>A.o i (by omega);have C:k=m.length:=(by omega);subst C;go_wp2;go_ret;exact⟨by rw[B.o];rfl,b⟩
 ·have B:Rb (jx l m=false):=DB v;have x:(l.length:Int)<(m.length:Int):=(by omega);go_enter func88,ntmps88;go_wp2;go_ret;exact⟨by rw[B.o];rfl,aH _ _⟩
def tb (t:T1):Value:= .tuple #[.agg #[ag t.kind,ag t.n,ag 0,.string ⟨t.text.toArray⟩],ag (t.len:Int),ag t.err]
theorem zN:prog.underlying 127=some (.struct (prog.fieldsOf 127)):=by kernel_rfl
theorem gy {e:Func}(h:e.results=f92.results){R:Ending->World->Prop}{a:Act}{w:World}(g:Nat)(t:T1)(l:a.defers=[])(f:a.tmps.getD 2 undef=ab g 0)
  (i:a.tmps.getD 3 undef=ag (t.len:Int)) (j:a.tmps.getD 4 undef=ag t.err) (m:w.heap[g]? =ah #[ag t.kind,ag t.n,ag 0,.string ⟨t.text.toArray⟩] 127)
  (k:R (.returned (tb t)) w):bodyPost prog e R .ret a w:=by
 refine aX (v:=tb t) ?_ l k;have b:a.tmps[2]?.getD undef=ab g 0:=by simpa using f
 have c:a.tmps[3]?.getD undef=ag (t.len:Int):=by simpa using i
 have d:a.tmps[4]?.getD undef=ag t.err:=by simpa using j
 have o:=en (P:=prog) w g 127 127 _ _ _ m zN rfl (by kernel_rfl);simp[results,h,results92,b,c,d,asAddr,o,tb]
theorem vW (s:ByteArray)(l:List UInt8)(y:s.data.toList=l)(C:l.length<=9223372036854775806)(w:World):
  Calls prog 125 #[.string s] w fun e w'=>e= .returned (ag (wordLen l:Int))/\w'=w:=by
 have D:s.size=l.length:=by rw[<-y,Lib.size_eq]
 go_enter func125,ntmps125;go_wp2;go_loop [3] (fun i=> ∃k:Nat,k<=l.length/\i=ag k/\ ∀i,i<k->oR l i=true) (fun i=>l.length-(intOf i).toNat);case atStart=>exact⟨0,by omega,rfl,fun i h=>by omega⟩
 case round=>
  obtain⟨k,v,rfl,g⟩:=hrel;have f:Rb (∀i,i<k->oR l i=true):=g;clear g;by_cases t:k<l.length
  ·have j:(k:Int)<(l.length:Int):=(by omega);have r:(0:Int)<=(k:Int):=(by omega);have A: ∀h:k<s.size,s[k]=l.getD k 0:=fun h=>lN y k h
   have b:oR l k=if k=0 then isL (l.getD k 0) else isC (l.getD k 0):=by
    unfold oR;split
    ·rename_i h;rw[h]
    ·rfl
   generalize B:l.getD k 0=c at*;have cl:=fun w=>yc c w;have m:=fun w=>ma c w;have a:oR l k=false->Rb (wordLen l=k):=fun h=>xY l k v f.o fun _=>h
   have next:oR l k=true->Rb (∀i,i<k+1->oR l i=true):=fun h i hi=>by
    by_cases e:i=k
    ·rw[e];exact h
    ·exact f.o i (by omega)
   cases hL:isL c with
   |true=>
    have p:=next (by rw[b];split<;>simp[hL,isC])
    rw[hL]at cl;clear b hL a next f
    go_wp2_with(first
     |(go_at_call 93;refine(cl _).mono ?_;rintro e w' ⟨rfl,rfl⟩)
     |(go_at_call 91;refine(m _).mono ?_;rintro e w' ⟨rfl,rfl⟩))
    go_round;case rel=>exact⟨k+1,by omega,by go_num,p.o⟩
    case measure=>simp[intOf];omega
   |false=>
    rw[hL]at cl;by_cases n:k=0
    ·have q:=a (by rw[b,aB n,hL]);clear b hL a next f r j
     subst n;have x:(0:Int)<(l.length:Int):=(by omega)
     go_wp2_with(first
      |(go_at_call 93;refine(cl _).mono ?_;rintro e w' ⟨rfl,rfl⟩)
      |(go_at_call 91;refine(m _).mono ?_;rintro e w' ⟨rfl,rfl⟩))
     go_ret;exact⟨by rw[q.o];rfl,rfl⟩
    ·have z:(0:Int)<(k:Int):=(by omega);cases hD:isD c with
     |true=>
      have p:=next (by rw[b,ax n];simp[hD,isC])
      rw[hD]at m;clear b hL hD a next f
      go_wp2_with(first
       |(go_at_call 93;refine(cl _).mono ?_;rintro e w' ⟨rfl,rfl⟩)
       |(go_at_call 91;refine(m _).mono ?_;rintro e w' ⟨rfl,rfl⟩))
      go_round;case rel=>exact⟨k+1,by omega,by go_num,p.o⟩
      case measure=>simp[intOf];omega
     |false=>
      rw[hD]at m;by_cases d:c.toNat=95
      ·have p:=next (by rw[b,ax n];simp[isC,d])
       have u:((c.toNat:Int)==95)=true:=(by simp;omega);clear b hL hD a next f d
       go_wp2_with(first
        |(go_at_call 93;refine(cl _).mono ?_;rintro e w' ⟨rfl,rfl⟩)
        |(go_at_call 91;refine(m _).mono ?_;rintro e w' ⟨rfl,rfl⟩))
       go_round;case rel=>exact⟨k+1,by omega,by go_num,p.o⟩
       case measure=>simp[intOf];omega
      ·have q:=a (by rw[b,ax n];simp[isC,d,hL,hD]);have u:((c.toNat:Int)==95)=false:=(by simp;omega);clear b hL hD a next f d
       go_wp2_with(first
        |(go_at_call 93;refine(cl _).mono ?_;rintro e w' ⟨rfl,rfl⟩)
        |(go_at_call 91;refine(m _).mono ?_;rintro e w' ⟨rfl,rfl⟩))
       go_ret;exact⟨by rw[q.o];rfl,rfl⟩
  ·have q:Rb (wordLen l=k):=xY l k v f.o fun h=>absurd h t;have j: ¬(k:Int)<(l.length:Int):=(by omega);go_wp2;go_ret;exact⟨by rw[q.o];rfl,rfl⟩
theorem Fs (s:ByteArray)(l:List UInt8)(t:s.data.toList=l)(H:l.length<=9223372036854775806)(w:World):
  Calls prog 92 #[.string s] w fun e w'=>e= .returned (tb (mO l))/\aq w w':=by
 have I:s.size=l.length:=by rw[<-t,Lib.size_eq]
 have n:aq w (w.alloc (.cells #[ag 0,ag 0,ag 0,.string ⟨#[]⟩] 127)):=am _ _;go_enter func92,ntmps92;go_wp2;go_loop [5] (fun i=> ∃k:Nat,k<=l.length/\i=ag k/\ ∀i,i<k->isD (l.getD i 0)=true) (fun i=>l.length-(intOf i).toNat);case atStart=>exact⟨0,by omega,rfl,fun i h=>by omega⟩
 case round=>
  obtain⟨k,F,rfl,j⟩:=hrel;have u:Rb (∀i,i<k->isD (l.getD i 0)=true):=j;clear j;by_cases a:k<l.length/\isD (l.getD k 0)=true
  ·obtain⟨f,d⟩:=a;have b:(k:Int)<(l.length:Int):=(by omega);have r:(0:Int)<=(k:Int):=(by omega);have B: ∀h:k<s.size,s[k]=l.getD k 0:=fun h=>lN t k h;have g:=fun w=>ma (l.getD k 0) w;rw[d]at g;have E:Rb (isD (l.getD k 0)=true):=d;clear d;generalize y:l.getD k 0=c at*;go_wp2_with(go_at_call 91;refine(g _).mono ?_;rintro e w' ⟨rfl,rfl⟩)
   go_round
   case rel=>
    refine⟨k+1,by omega,by go_num,fun i hi=> ?_⟩;by_cases e:i=k
    ·rw[e,y];exact E.o
    ·exact u.o i (by omega)
   case measure=>simp[intOf];omega
  ·have D:g7 isD l=k:=ww isD l k F u.o fun h=>by
    cases e:isD (l.getD k 0) with
    |false=>rfl
    |true=>exact absurd ⟨h,e⟩ a
   have z:Rb (g7 isD l=k):=D;clear D;by_cases C:6<k
   ·have x:(6:Int)<(k:Int):=(by omega)
    have m:Rb (mO l=bad 3):=by
     have:=z.o;show mO l=bad 3;unfold mO;rw[this,aB C]
    by_cases f:k<l.length
    ·have b:(k:Int)<(l.length:Int):=(by omega);have r:(0:Int)<=(k:Int):=(by omega);have B: ∀h:k<s.size,s[k]=l.getD k 0:=fun h=>lN t k h
     have d:isD (l.getD k 0)=false:=by
      cases e:isD (l.getD k 0) with
      |false=>rfl
      |true=>exact absurd ⟨f,e⟩ a
     have g:=fun w=>ma (l.getD k 0) w;rw[d]at g;clear d a;generalize y:l.getD k 0=c at*;go_wp2_with(go_at_call 91;refine(g _).mono ?_;rintro e w' ⟨rfl,rfl⟩)
     exact gy rfl w.heap.size (bad 3) rfl rfl rfl rfl (aG w _) ⟨by rw[m.o],n⟩
    ·have b: ¬(k:Int)<(l.length:Int):=(by omega);clear a;go_wp2;exact gy rfl w.heap.size (bad 3) rfl rfl rfl rfl (aG w _) ⟨by rw[m.o],n⟩
   ·have x: ¬(6:Int)<(k:Int):=(by omega);have G:(k:Int)<=(l.length:Int):=(by omega);have r:(0:Int)<=(k:Int):=(by omega)
    have m:Rb (mO l=⟨6,valL (l.take k),[],k,0⟩):=by
     have:=z.o;show mO l=_;unfold mO;rw[this,ax C]
    have A:=fun w=>ni (s.extract 0 k) (l.take k) (by rw[Lib.extract_data,t];simp) (by simp;omega) (fun i hi=>by
     have q:i<k:=(by simp at hi;omega);have:=u.o i q;rw[dg]at this⊢;rw[jz,aB q];exact this) w
    generalize valL (l.take k)=v at*;have p:aq w (w.alloc (.cells #[ag 6,ag v,ag 0,.string ⟨#[]⟩] 127)):=am _ _;by_cases f:k<l.length
    ·have b:(k:Int)<(l.length:Int):=(by omega);have B: ∀h:k<s.size,s[k]=l.getD k 0:=fun h=>lN t k h
     have d:isD (l.getD k 0)=false:=by
      cases e:isD (l.getD k 0) with
      |false=>rfl
      |true=>exact absurd ⟨f,e⟩ a
     have g:=fun w=>ma (l.getD k 0) w;rw[d]at g;clear d a;generalize y:l.getD k 0=c at*
     go_wp2_with(first
      |(go_at_call 91;refine(g _).mono ?_;rintro e w' ⟨rfl,rfl⟩)
      |(go_at_call 124;refine(A _).mono ?_;rintro e w' ⟨rfl,rfl⟩))
     exact gy rfl w.heap.size ⟨6,v,[],k,0⟩ rfl rfl rfl rfl (aG w _) ⟨by rw[m.o],p⟩
    ·have b: ¬(k:Int)<(l.length:Int):=(by omega);clear a;go_wp2_with(go_at_call 124;refine(A _).mono ?_;rintro e w' ⟨rfl,rfl⟩)
     exact gy rfl w.heap.size ⟨6,v,[],k,0⟩ rfl rfl rfl rfl (aG w _) ⟨by rw[m.o],p⟩
namespace Lx
def mc:List UInt8:=[61,59,58,43,45,38,40,41,44]
theorem BW: ∀(l:List UInt8) (c:UInt8),Go.Lib.indexByte l c<(l.length:Int)
 |[],c=>by simp[Go.Lib.indexByte]
 |b::l,c=>by
  have a:=BW l c;unfold Go.Lib.indexByte;simp only[bV];split
  ·omega
  ·split<;>omega
theorem BX: ∀(l:List UInt8) (c:UInt8) (i:Nat),Go.Lib.indexByte l c=(i:Int)->l.getD i 0=c
 |[],c,i,h=>by simp[Go.Lib.indexByte]at h
 |b::l,c,i,h=>by
  unfold Go.Lib.indexByte at h;split at h
  ·rename_i a;have:i=0:=(by omega);subst this;simpa using a
  ·split at h
   ·omega
   ·have k:=Go.Lib.indexByte_ge l c;rename_i f;have g:Go.Lib.indexByte l c≠ -1:=(by simpa using f);obtain⟨j,d⟩: ∃j:Nat,Go.Lib.indexByte l c=j:=⟨(Go.Lib.indexByte l c).toNat,by omega⟩
    have e:i=j+1:=(by omega);subst e;simpa using BX l c j d
def ku (l:List UInt8):T1:=if Go.Lib.hasPrefix l [46,46] then⟨3,0,[46,46],2,0⟩ else if Go.Lib.indexByte mc (l.getD 0 0)<0 then bad 2 else⟨3,0,[l.getD 0 0],1,0⟩
theorem LX {s:ByteArray}{l:List UInt8}(h:s.data.toList=l):s=⟨l.toArray⟩:=by
 obtain⟨d⟩:=s;simp only at h;subst h;simp
def jP:List (List UInt8):=[[97,108,119,97,121,115],[100,97,116,101,115],[102,114,105],[109,111,110],[110,101,118,101,114],[114,117,108,101],[115,97,116],[115,104,105,102,116],[115,117,110],[116,104,117],[116,117,101],[119,101,100],[119,101,101,107,108,121]]
def isWordL (t:List UInt8):Bool:=jP.any fun w=>w==t
def kW (l:List UInt8):T1:=if 20<wordLen l then bad 7 else⟨if isWordL (l.take (wordLen l)) then 2 else 1,0,l.take (wordLen l),wordLen l,0⟩
end Lx
end Go.Proofs.YtlkehieagdkgiaaGreatDoor
