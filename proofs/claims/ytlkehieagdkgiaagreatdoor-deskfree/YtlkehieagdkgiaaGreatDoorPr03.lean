/- Texts of the proof. -/
import Derived.Lib.Bytealg
import Derived.Test.YtlkehieagdkgiaaGreatDoorPrZb
set_option maxRecDepth 100000
set_option maxHeartbeats 8000000
namespace Go.Proofs.YtlkehieagdkgiaaGreatDoor
open Go.Proofs.Tryz Go.RowKit Lx Vx Mx Msk
section
section
variable {w w':World} {base e size n:Nat} {v:Value} {xs:List Value}
theorem bK (h:w.ownsRow base e size v n xs): ∃p c,v= .slice p n c:=by
 rcases h.2 with⟨e,d⟩|⟨b,cap,a,e,_⟩
 ·exact⟨none,0,by rw[e,d]⟩
 ·exact⟨_,cap,e⟩
theorem lg {g:Nat}{c:Array Value}{T:TypeId}(h:w.ownsRow base e size v n xs)(j:w.heap[g]? =ah c T)(i:T≠e):some g≠v.ownBlock:=by
 rcases h.2 with⟨e,_⟩|⟨b,cap,d,e,_,a,_⟩
 ·rw[e];simp[Value.ownBlock]
 ·rw[e];intro q;have k:g=b:=(by simpa[Value.ownBlock] using q);subst k;rw[j]at a;injection a with a;injection a with _ f _;exact i f
theorem br (h:w.ownsRow base e size v n xs)(k: ∀b,v.ownBlock=some b->w'.heap[b]? =w.heap[b]?):w'.ownsRow base e size v n xs:=by
 obtain⟨f,c⟩:=h;refine⟨f,?_⟩;rcases c with c|⟨g,cap,a,d,i,j,r⟩
 ·exact .inl c
 ·exact .inr ⟨g,cap,a,d,i,(k g (by rw[d];rfl)).trans j,r⟩
end
theorem tJ {o:Oper}{a:Act}{w:World}{K:Act->World->Prop}{Q:Exit->Act->World->Prop}(s x:Operand)(t:TypeId)
  (H:o.op= .call {callee:= .builtin .append,args:= #[s,x],argTypes:= #[t,t]})
  (base:Nat) (e:TypeId) (i:TypeInfo) (z:Value) (size d:Nat) (L:prog.underlying t=some (.slice e)) (hi:prog.info? e=some i) (N:i.zero=some z)
  (l:i.size=size) (y:i.bytes=d) (B:z.cells.size=size) (A:0<size)
  (v:Value) (n:Nat) (xs:List Value) (J:a.eval s=v) (q:w.ownsRow base e size v n xs)
  (ad:Addr) (m c:Nat) (b:List Value) (M:a.eval x= .slice (some ad) m c) (G:b.length=m*size) (k: ∀j u,b[j]? =some u->w.cell? (ad.add j)=some u) (C: ∀u∈b,u.oneCell'=true)
  (r:n+m<=maxLen) (f:(n+m)*d<=140737488355328) (g:base<=w.heap.size)
  (h: ∀p w',w'.ownsRow base e size p (n+m) (xs++b)->w.grownBy w' v.ownBlock->(p.ownBlock=v.ownBlock\/p.ownBlock=some w.heap.size)->K (a.put o.dst p) w'):o.wp prog a w K Q:=by
 obtain⟨p,w',I,D,E,_,F⟩:=run_append_own_at (P:=prog) w base t o.type e i z size d L hi N l y B A v n xs q ad m c b G k C r f g;unfold Oper.wp execOp;simp only[H,resolve,invoke,builtin,jY,kZ,iq,jm,dK,ft,J,M,I];exact h p w' D E F
end
namespace Lx
def isD (c:UInt8):Bool:=decide (48<=c.toNat)&&decide (c.toNat<=57)
def isL (c:UInt8):Bool:=decide (97<=c.toNat)&&decide (c.toNat<=122)
def isC (c:UInt8):Bool:=isL c||(isD c||decide (c.toNat=95))
def gW (p:UInt8->Bool):List UInt8->Nat
 |[]=>0
 |c::l=>if p c then gW p l+1 else 0
def wordLen:List UInt8->Nat
 |[]=>0
 |c::l=>if isL c then gW isC l+1 else 0
theorem lS (p:UInt8->Bool): ∀l,gW p l<=l.length
 |[]=>by simp[gW]
 |c::l=>by have:=lS p l;simp only[gW];split<;>simp;omega
theorem Am (p:UInt8->Bool): ∀l i,i<gW p l->p (l.getD i 0)=true
 |[],i,h=>by simp[gW]at h
 |c::l,i,h=>by
  simp only[gW]at h;split at h
  ·cases i with
   |zero=>simpa
   |succ i=>simpa using Am p l i (by omega)
  ·omega
theorem wn (p:UInt8->Bool): ∀(l:List UInt8) (k:Nat),k<=l.length->(∀i,i<k->p (l.getD i 0)=true)->(k<l.length->p (l.getD k 0)=false)->gW p l=k
 |[],k,h,_,_=>by simp at h;subst h;rfl
 |c::l,0,_,_,a=>by
  have:=a (by simp);simp at this;simp[gW,this]
 |c::l,k+1,h,b,a=>by
  have d:=b 0 (by omega);simp at d;have:=wn p l k (by simpa using h) (fun i hi=>by simpa using b (i+1) (by omega)) (fun e=>by simpa using a (by simpa using e));simp[gW,d,this]
theorem xM: ∀l,wordLen l<=l.length
 |[]=>by simp[wordLen]
 |c::l=>by have:=lS isC l;simp only[wordLen];split<;>simp;omega
def valL (l:List UInt8):Int:=l.foldl (fun n c=>10*n+((c.toNat:Int)-48)) 0
theorem G9 (l:List UInt8)(c:UInt8):valL (l++[c])=10*valL l+((c.toNat:Int)-48):=by simp[valL]
theorem Ao (l:List UInt8)(k:Nat)(a:k<l.length):valL (l.take (k+1))=10*valL (l.take k)+(((l.getD k 0).toNat:Int)-48):=by
 rw[List.take_succ_eq_append_getElem a,G9];simp[List.getD,a]
theorem xN (l:List UInt8)(h: ∀i,i<l.length->isD (l.getD i 0)=true): ∀k,k<=l.length->0<=valL (l.take k)/\valL (l.take k)<((10^k:Nat):Int)
 |0,_=>by simp[valL]
 |k+1,b=>by
  have c:=xN l h k (by omega);have a:=h k (by omega);simp only[isD,bv,bL]at a;rw[Ao l k (by omega),Nat.pow_succ];omega
theorem qf (l:List UInt8)(h: ∀i,i<l.length->isD (l.getD i 0)=true)(k:Nat)(c:k<=l.length)(a:k<=6):0<=valL (l.take k)/\valL (l.take k)<1000000:=by
 have b:=xN l h k c;have:(10:Nat)^k<=10^6:=Nat.pow_le_pow_right (by omega) a;have e:(10:Nat)^6=1000000:=by decide
 omega
def okB (f c:UInt8):Bool:=if f.toNat=48 then isD c else decide (f.toNat=c.toNat)
def ju (l m:List UInt8):Bool:=decide (m.length<=l.length)&&(List.range m.length).all fun i=>okB (m.getD i 0) (l.getD i 0)
theorem Ha {l m:List UInt8}(a:m.length<=l.length)(b: ∀i,i<m.length->okB (m.getD i 0) (l.getD i 0)=true):ju l m=true:=by
 unfold ju;rw[bj a,jd,dt];intro i hi;exact b i (by simpa using hi)
theorem BM {l m:List UInt8}(i:Nat)(a:i<m.length)(b:okB (m.getD i 0) (l.getD i 0)=false):ju l m=false:=by
 cases e:ju l m with
 |false=>rfl
 |true=>
  unfold ju at e;rw[bv,dt]at e;have:=e.2 i (by simpa using a);rw[b]at this;cases this
theorem Dx {l m:List UInt8}(h: ¬m.length<=l.length):ju l m=false:=by simp[ju,h]
theorem qI {l m:List UInt8}(h:ju l m=true):m.length<=l.length/\ ∀i,i<m.length->okB (m.getD i 0) (l.getD i 0)=true:=by
 unfold ju at h;rw[bv,dt]at h;exact⟨by simpa using h.1,fun i hi=>h.2 i (by simpa using hi)⟩
def oJ (l:List UInt8)(i:Nat):Bool:=if i=0 then isL (l.getD 0 0) else isC (l.getD i 0)
theorem xP: ∀(l:List UInt8) (k:Nat),k<=l.length->(∀i,i<k->oJ l i=true)->(k<l.length->oJ l k=false)->wordLen l=k
 |[],k,h,_,_=>by simp at h;subst h;rfl
 |c::l,0,_,_,a=>by
  have:=a (by simp);simp[oJ]at this;simp[wordLen,this]
 |c::l,k+1,h,b,a=>by
  have d:=b 0 (by omega);simp[oJ]at d;have e:=wn isC l k (by simpa using h) (fun i hi=>by simpa[oJ] using b (i+1) (by omega)) (fun f=>by simpa[oJ] using a (by simpa using f));simp[wordLen,d,e]
structure T1 where
 kind:Int
 n:Int
 text:List UInt8
 len:Nat
 err:Int
def bad (e:Int):T1:=⟨0,0,[],0,e⟩
def mJ (l:List UInt8):T1:=if 6<gW isD l then bad 3 else⟨6,valL (l.take (gW isD l)),[],gW isD l,0⟩
def xQ:List UInt8:=[48,48,48,48,45,48,48,45,48,48]
def xR:List UInt8:=[48,48,58,48,48]
def pt (l:List UInt8):T1:=if 59<valL ((l.drop 3).take 2)\/1440<60*valL ((l.drop 0).take 2)+valL ((l.drop 3).take 2) then bad 3 else⟨4,60*valL ((l.drop 0).take 2)+valL ((l.drop 3).take 2),[],5,0⟩
theorem mK {l m:List UInt8}(h:ju l m=true)(a n:Nat)(ha:a+n<=m.length)(c: ∀i,i<n->(m.getD (a+i) 0).toNat=48):
  ((l.drop a).take n).length=n/\ ∀i,i<((l.drop a).take n).length->isD (((l.drop a).take n).getD i 0)=true:=by
 obtain⟨d,b⟩:=qI h;have e:((l.drop a).take n).length=n:=by simp;omega
 refine⟨e,fun i hi=> ?_⟩;rw[e]at hi;have:=b (a+i) (by omega);unfold okB at this;rw[aB (c i hi)]at this;rw[dc]at this⊢;rw[iK,aB hi,List.getElem?_drop];exact this
def eW:Bool->List UInt8->Nat
 |_,[]=>0
 |true,c::l=>if c.toNat=10 then eW false l+1 else eW true l+1
 |false,c::l=>if c.toNat=32\/c.toNat=9\/c.toNat=10 then eW false l+1 else if c.toNat=35 then eW true l+1 else 0
theorem oK: ∀(b:Bool) (l:List UInt8),eW b l<=l.length
 |true,[]=>by simp[eW]
 |false,[]=>by simp[eW]
 |true,c::l=>by
  have a:=oK true l;have d:=oK false l;simp only[eW,bU];split<;>omega
 |false,c::l=>by
  have a:=oK true l;have d:=oK false l;simp only[eW,bU];split
  ·omega
  ·split<;>omega
def zu (c:UInt8):Bool:=decide (c.toNat≠10)
def remL (l:List UInt8):Nat:=gW zu l
theorem BN: ∀(l:List UInt8),eW true l=remL l+eW false (l.drop (remL l))
 |[]=>by simp[remL,gW,eW]
 |c::l=>by
  by_cases h:c.toNat=10
  ·simp[remL,gW,zu,eW,h]
  ·have a:=BN l;have e:remL (c::l)=remL l+1:=(by simp[remL,gW,zu,h]);rw[e];simp only[eW,h,if_false,List.drop_succ_cons];omega
theorem Hb (l:List UInt8)(b:0<l.length)(d:(l.getD 0 0).toNat=35):eW false l=remL l+eW false (l.drop (remL l))/\1<=remL l:=by
 match l,b with
 |c::r,_=>
  have a:c.toNat=35:=(by simpa using d);have e:remL (c::r)=remL r+1:=(by simp[remL,gW,zu,a]);have:=BN r;rw[e];refine⟨?_,by omega⟩;simp only[eW,a,List.drop_succ_cons];simp;omega
theorem Fj (l:List UInt8)(b:0<l.length)(d:(l.getD 0 0).toNat=32\/(l.getD 0 0).toNat=9\/(l.getD 0 0).toNat=10):eW false l=1+eW false (l.drop 1):=by
 match l,b with
 |c::r,_=>
  have a:c.toNat=32\/c.toNat=9\/c.toNat=10:=(by simpa using d);simp only[eW,aB a,List.drop_succ_cons,List.drop_zero];omega
theorem Hd (l:List UInt8)(a:0<l.length-> ¬((l.getD 0 0).toNat=32\/(l.getD 0 0).toNat=9\/(l.getD 0 0).toNat=10)/\(l.getD 0 0).toNat≠35):eW false l=0:=by
 match l with
 |[]=>rfl
 |c::r=>
  have:=a (by simp);simp only[List.getD_cons_zero]at this;simp only[eW,ax this.1,ax this.2]
theorem Aq: ∀l:List UInt8,Go.Lib.indexByte l 10=if remL l<l.length then(remL l:Int) else-1
 |[]=>by simp[Go.Lib.indexByte,remL,gW]
 |c::l=>by
  have f:=Aq l;by_cases h:c.toNat=10
  ·have e:c=10:=(by apply UInt8.toNat_inj.1;simpa using h);subst e;simp[Go.Lib.indexByte,remL,gW,zu]
  ·have b:(c==10)=false:=by
    rw[bl];intro e;subst e;simp at h
   have e:remL (c::l)=remL l+1:=(by simp[remL,gW,zu,h]);have d:remL l<=l.length:=lS _ l;unfold Go.Lib.indexByte;rw[b,f,e];by_cases a:remL l<l.length
   ·have g:((remL l:Int)== -1)=false:=(by simp);rw[aB a,g];simp[a]
   ·rw[ax a];simp[a]
structure Ex where
 kind:Int
 a:Int
 b:Int
 name:List UInt8
 kids:List Ex
abbrev Tk:=T1×Nat
def ex0:Ex:=⟨0,0,0,[],[]⟩
abbrev Res:=Except (Int×Nat) (Ex×List Tk×Nat)
def atP (E:Nat):List Tk->Nat
 |[]=>E
 |p::_=>p.2
def textP:List Tk->List UInt8
 |[]=>[]
 |p::_=>p.1.text
def kindP:List Tk->Int
 |[]=>0
 |p::_=>p.1.kind
def numP:List Tk->Int
 |[]=>0
 |p::_=>p.1.n
def isT (x:List UInt8)(r:List Tk):Bool:=textP r==x
def dq (x:Res)(f:Ex->List Tk->Nat->Res):Res:=
 match x with
 | .error e=> .error e
 | .ok (e,r,n)=>f e r n
def dG (E:Nat)(e:Ex)(r:List Tk)(n:Nat):Res:=if 600<n+1 then .error (4,atP E r) else .ok (e,r,n+1)
def eh (E:Nat)(err:Int)(r:List Tk):Res:= .error (err,atP E r)
def qg:List UInt8:=[43]
def gJ:List UInt8:=[45]
def tU:List UInt8:=[38]
def kS:List UInt8:=[40]
def pA:List UInt8:=[41]
def pH:List UInt8:=[44]
def nJ:List UInt8:=[58]
def sX:List UInt8:=[59]
def wIs:List UInt8:=[61]
def wTo:List UInt8:=[46,46]
def u9:List UInt8:=[114,117,108,101]
def jZ:List UInt8:=[110,101,118,101,114]
def jD:List UInt8:=[97,108,119,97,121,115]
def jW:List UInt8:=[119,101,101,107,108,121]
def lG:List UInt8:=[100,97,116,101,115]
def mF:List UInt8:=[115,104,105,102,116]
def fD:List (List UInt8):=[[109,111,110],[116,117,101],[119,101,100],[116,104,117],[102,114,105],[115,97,116],[115,117,110]]
def dayBit (x:List UInt8):Nat:=
 if x=fD.getD 0 [] then 1 else if x=fD.getD 1 [] then 2 else if x=fD.getD 2 [] then 4 else if x=fD.getD 3 [] then 8
 else if x=fD.getD 4 [] then 16 else if x=fD.getD 5 [] then 32 else if x=fD.getD 6 [] then 64 else 0
def goP (E:Nat):Nat->Nat->Nat->Ex->List Tk->Nat->Res
 |0,_,_,_,r,_=>eh E 0 r
 |f+1,0,d,_,r,n=>dq (goP E f 2 d ex0 r n) fun e r n=>goP E f 1 d e r n
 |f+1,1,d,e,r,n=>
  if isT qg r then dq (goP E f 2 d ex0 r.tail n) fun t r n=>dq (dG E ⟨6,0,0,[],[e,t]⟩ r n) fun e r n=>goP E f 1 d e r n
  else if isT gJ r then dq (goP E f 2 d ex0 r.tail n) fun t r n=>dq (dG E ⟨7,0,0,[],[e,t]⟩ r n) fun e r n=>goP E f 1 d e r n
  else .ok (e,r,n)
 |f+1,2,d,_,r,n=>dq (goP E f 4 d ex0 r n) fun e r n=>goP E f 3 d e r n
 |f+1,3,d,e,r,n=>
  if isT tU r then dq (goP E f 4 d ex0 r.tail n) fun t r n=>dq (dG E ⟨8,0,0,[],[e,t]⟩ r n) fun e r n=>goP E f 3 d e r n
  else .ok (e,r,n)
 |f+1,4,d,_,r,n=>dq (goP E f 6 d ex0 r n) fun e r n=>goP E f 5 d e r n
 |f+1,5,d,e,r,n=>
  if isT mF r then
   let m:=isT gJ r.tail
   let q:=if m then r.tail.tail else r.tail
   if kindP q≠6 then eh E 2 q
   else if 1440<=numP q\/numP q<1 then eh E 3 q
   else dq (dG E ⟨9,if m then-numP q else numP q,0,[],[e]⟩ q.tail n) fun e r n=>goP E f 5 d e r n
  else .ok (e,r,n)
 |f+1,6,d,_,r,n=>
  if 40<d then eh E 4 r
  else if isT kS r then dq (goP E f 0 (d+1) ex0 r.tail n) fun e r n=>if isT pA r then .ok (e,r.tail,n) else eh E 2 r
  else if isT jZ r then dG E ⟨1,0,0,[],[]⟩ r.tail n
  else if isT jD r then dG E ⟨2,0,0,[],[]⟩ r.tail n
  else if isT jW r then goP E f 7 d ex0 r.tail n
  else if isT lG r then
   let q:=r.tail
   if kindP q≠5 then eh E 2 q
   else if isT wTo q.tail then
    let p:=q.tail.tail
    if kindP p≠5 then eh E 2 p
    else if numP p<numP q then eh E 3 p
    else goP E f 8 d ⟨5,numP q,numP p,[],[]⟩ p.tail n
   else goP E f 8 d ⟨5,numP q,numP q,[],[]⟩ q.tail n
  else if kindP r=1 then dG E ⟨10,0,0,textP r,[]⟩ r.tail n
  else if kindP r≠4 then eh E 2 r
  else if isT gJ r.tail then
   let q:=r.tail.tail
   if kindP q≠4 then eh E 2 q
   else if numP q<numP r+1 then eh E 3 q
   else dG E ⟨3,numP r,numP q,[],[]⟩ q.tail n
  else eh E 2 r.tail
 |f+1,7,d,e,r,n=>
  if dayBit (textP r)=0 then eh E 2 r
  else if isT pH r.tail then goP E f 7 d ⟨0,((e.a.toNat|||dayBit (textP r):Nat):Int),0,[],[]⟩ r.tail.tail n
  else goP E f 8 d ⟨4,((e.a.toNat|||dayBit (textP r):Nat):Int),0,[],[]⟩ r.tail n
 |f+1,_,d,e,r,n=>
  if isT nJ r then dq (goP E f 4 (d+1) ex0 r.tail n) fun k r n=>dG E ⟨e.kind,e.a,e.b,[],[k]⟩ r n else eh E 2 r
theorem fu {x:List UInt8}{r:List Tk}(a:x≠[])(h:isT x r=true):1<=r.length:=by
 cases r with
 |nil=>simp[isT,textP]at h;exact absurd h (fun e=>a (by first|exact e|exact e.symm))
 |cons p r=>simp
theorem qh {r:List Tk}(h:kindP r≠0):1<=r.length:=by
 cases r with
 |nil=>simp[kindP]at h
 |cons p r=>simp
theorem pB {r:List Tk}(h:dayBit (textP r)≠0):1<=r.length:=by
 cases r with
 |nil=>exact absurd (by decide) h
 |cons p r=>simp
def gC (m:Nat):Nat:=if m=1\/m=3\/m=5 then 0 else 1
theorem dD {x:Res}{f:Ex->List Tk->Nat->Res}{z:Ex×List Tk×Nat}(h:dq x f= .ok z): ∃e r n,x= .ok (e,r,n)/\f e r n= .ok z:=by
 match x with
 | .error _=>cases h
 | .ok (e,r,n)=>exact⟨e,r,n,rfl,h⟩
theorem dN {E:Nat}{e:Ex}{r:List Tk}{n:Nat}{z:Ex×List Tk×Nat}(h:dG E e r n= .ok z):z=(e,r,n+1):=by
 unfold dG at h;split at h
 ·cases h
 ·cases h;rfl
theorem dI {E:Nat}{err:Int}{r:List Tk}{z:Ex×List Tk×Nat}(h:eh E err r= .ok z):False:=by
 unfold eh at h;cases h
theorem vd (E f d:Nat)(e:Ex)(r:List Tk)(n:Nat):goP E (f+1) 0 d e r n=dq (goP E f 2 d ex0 r n) fun e r n=>goP E f 1 d e r n:=rfl
theorem ve (E f d:Nat)(e:Ex)(r:List Tk)(n:Nat):goP E (f+1) 1 d e r n=if isT qg r then dq (goP E f 2 d ex0 r.tail n) fun t r n=>dq (dG E ⟨6,0,0,[],[e,t]⟩ r n) fun e r n=>goP E f 1 d e r n
 else if isT gJ r then dq (goP E f 2 d ex0 r.tail n) fun t r n=>dq (dG E ⟨7,0,0,[],[e,t]⟩ r n) fun e r n=>goP E f 1 d e r n
 else .ok (e,r,n):=rfl
theorem vf (E f d:Nat)(e:Ex)(r:List Tk)(n:Nat):goP E (f+1) 2 d e r n=dq (goP E f 4 d ex0 r n) fun e r n=>goP E f 3 d e r n:=rfl
theorem vh (E f d:Nat)(e:Ex)(r:List Tk)(n:Nat):goP E (f+1) 3 d e r n=if isT tU r then dq (goP E f 4 d ex0 r.tail n) fun t r n=>dq (dG E ⟨8,0,0,[],[e,t]⟩ r n) fun e r n=>goP E f 3 d e r n
 else .ok (e,r,n):=rfl
theorem vj (E f d:Nat)(e:Ex)(r:List Tk)(n:Nat):goP E (f+1) 4 d e r n=dq (goP E f 6 d ex0 r n) fun e r n=>goP E f 5 d e r n:=rfl
def fO (r:List Tk):List Tk:=if isT gJ r.tail then r.tail.tail else r.tail
theorem vk (E f d:Nat)(e:Ex)(r:List Tk)(n:Nat):goP E (f+1) 5 d e r n=if isT mF r then
  if kindP (fO r)≠6 then eh E 2 (fO r)
  else if 1440<=numP (fO r)\/numP (fO r)<1 then eh E 3 (fO r)
  else dq (dG E ⟨9,if isT gJ r.tail then-numP (fO r) else numP (fO r),0,[],[e]⟩ (fO r).tail n) fun e r n=>goP E f 5 d e r n
 else .ok (e,r,n):=rfl
theorem vn (E f d:Nat)(e:Ex)(r:List Tk)(n:Nat):goP E (f+1) 6 d e r n=
 if 40<d then eh E 4 r
 else if isT kS r then dq (goP E f 0 (d+1) ex0 r.tail n) fun e r n=>if isT pA r then .ok (e,r.tail,n) else eh E 2 r
 else if isT jZ r then dG E ⟨1,0,0,[],[]⟩ r.tail n
 else if isT jD r then dG E ⟨2,0,0,[],[]⟩ r.tail n
 else if isT jW r then goP E f 7 d ex0 r.tail n
 else if isT lG r then
  if kindP r.tail≠5 then eh E 2 r.tail
  else if isT wTo r.tail.tail then
   if kindP r.tail.tail.tail≠5 then eh E 2 r.tail.tail.tail
   else if numP r.tail.tail.tail<numP r.tail then eh E 3 r.tail.tail.tail
   else goP E f 8 d ⟨5,numP r.tail,numP r.tail.tail.tail,[],[]⟩ r.tail.tail.tail.tail n
  else goP E f 8 d ⟨5,numP r.tail,numP r.tail,[],[]⟩ r.tail.tail n
 else if kindP r=1 then dG E ⟨10,0,0,textP r,[]⟩ r.tail n
 else if kindP r≠4 then eh E 2 r
 else if isT gJ r.tail then
  if kindP r.tail.tail≠4 then eh E 2 r.tail.tail
  else if numP r.tail.tail<numP r+1 then eh E 3 r.tail.tail
  else dG E ⟨3,numP r,numP r.tail.tail,[],[]⟩ r.tail.tail.tail n
 else eh E 2 r.tail:=rfl
theorem vo (E f d:Nat)(e:Ex)(r:List Tk)(n:Nat):goP E (f+1) 7 d e r n=
 if dayBit (textP r)=0 then eh E 2 r
 else if isT pH r.tail then goP E f 7 d ⟨0,((e.a.toNat|||dayBit (textP r):Nat):Int),0,[],[]⟩ r.tail.tail n
 else goP E f 8 d ⟨4,((e.a.toNat|||dayBit (textP r):Nat):Int),0,[],[]⟩ r.tail n:=rfl
theorem vq (E f d:Nat)(e:Ex)(r:List Tk)(n:Nat):goP E (f+1) 8 d e r n=
 if isT nJ r then dq (goP E f 4 (d+1) ex0 r.tail n) fun k r n=>dG E ⟨e.kind,e.a,e.b,[],[k]⟩ r n else eh E 2 r:=rfl
theorem J8 (r:List Tk):r.tail.length=r.length-1:=by simp
theorem r7 (r:List Tk):(fO r).length<=r.length-1:=by
 unfold fO;split<;>simp only[J8]<;>omega
theorem zw (E:Nat): ∀(f m d:Nat) (e:Ex) (r:List Tk) (n:Nat) (w:Ex) (q:List Tk) (y:Nat),m<=8->goP E f m d e r n= .ok (w,q,y)->q.length+gC m<=r.length
 |0,m,d,e,r,n,w,q,y,_,h=>(dI h).elim
 |f+1,m,d,e,r,n,w,q,y,F,h=>by
  have g:=zw E f;match m,F with
  |0,_=>
   rw[vd]at h;obtain⟨k,r1,p,j,i⟩:=dD h;have a:=g 2 _ _ _ _ _ _ _ (by omega) j;have b:=g 1 _ _ _ _ _ _ _ (by omega) i;simp[gC]at*;omega
  |1,_=>
   rw[ve]at h;split at h
   ·obtain⟨k,r1,p,j,i⟩:=dD h;obtain⟨x,A,z,l,o⟩:=dD i;have c:=dN l;cases c;have a:=g 2 _ _ _ _ _ _ _ (by omega) j;have b:=g 1 _ _ _ _ _ _ _ (by omega) o;simp[gC]at*;omega
   ·split at h
    ·obtain⟨k,r1,p,j,i⟩:=dD h;obtain⟨x,A,z,l,o⟩:=dD i;have c:=dN l;cases c;have a:=g 2 _ _ _ _ _ _ _ (by omega) j;have b:=g 1 _ _ _ _ _ _ _ (by omega) o;simp[gC]at*;omega
    ·cases h;simp[gC]
  |2,_=>
   rw[vf]at h;obtain⟨k,r1,p,j,i⟩:=dD h;have a:=g 4 _ _ _ _ _ _ _ (by omega) j;have b:=g 3 _ _ _ _ _ _ _ (by omega) i;simp[gC]at*;omega
  |3,_=>
   rw[vh]at h;split at h
   ·obtain⟨k,r1,p,j,i⟩:=dD h;obtain⟨x,A,z,l,o⟩:=dD i;have c:=dN l;cases c;have a:=g 4 _ _ _ _ _ _ _ (by omega) j;have b:=g 3 _ _ _ _ _ _ _ (by omega) o;simp[gC]at*;omega
   ·cases h;simp[gC]
  |4,_=>
   rw[vj]at h;obtain⟨k,r1,p,j,i⟩:=dD h;have a:=g 6 _ _ _ _ _ _ _ (by omega) j;have b:=g 5 _ _ _ _ _ _ _ (by omega) i;simp[gC]at*;omega
  |5,_=>
   rw[vk]at h;have H:=r7 r;split at h
   ·split at h
    ·exact(dI h).elim
    ·split at h
     ·exact(dI h).elim
     ·obtain⟨x,A,z,l,o⟩:=dD h;have c:=dN l;cases c;have b:=g 5 _ _ _ _ _ _ _ (by omega) o;simp[gC]at*;omega
   ·cases h;simp[gC]
  |6,_=>
   rw[vn]at h;by_cases c0:40<d
   ·rw[aB c0]at h;exact(dI h).elim
   rw[ax c0]at h;by_cases c1:isT kS r=true
   ·rw[aB c1]at h;have:=fu (by decide) c1;obtain⟨k,r1,p,j,i⟩:=dD h;have a:=g 0 _ _ _ _ _ _ _ (by omega) j;split at i
    ·cases i;simp[gC]at*;omega
    ·exact(dI i).elim
   rw[ax c1]at h;by_cases s:isT jZ r=true
   ·rw[aB s]at h;have:=fu (by decide) s;cases dN h;simp[gC]at*;omega
   rw[ax s]at h;by_cases t:isT jD r=true
   ·rw[aB t]at h;have:=fu (by decide) t;cases dN h;simp[gC]at*;omega
   rw[ax t]at h;by_cases u:isT jW r=true
   ·rw[aB u]at h;have:=fu (by decide) u;have a:=g 7 _ _ _ _ _ _ _ (by omega) h;simp[gC]at*;omega
   rw[ax u]at h;by_cases v:isT lG r=true
   ·rw[aB v]at h;have:=fu (by decide) v;split at h
    ·exact(dI h).elim
    split at h
    ·split at h
     ·exact(dI h).elim
     split at h
     ·exact(dI h).elim
     have a:=g 8 _ _ _ _ _ _ _ (by omega) h;simp[gC]at*;omega
    ·have a:=g 8 _ _ _ _ _ _ _ (by omega) h;simp[gC]at*;omega
   rw[ax v]at h;by_cases B:kindP r=1
   ·rw[aB B]at h;have:=qh (r:=r) (by omega);cases dN h;simp[gC]at*;omega
   rw[ax B]at h;by_cases C:kindP r≠4
   ·rw[aB C]at h;exact(dI h).elim
   rw[ax C]at h;have:=qh (r:=r) (by omega);split at h
   ·split at h
    ·exact(dI h).elim
    split at h
    ·exact(dI h).elim
    cases dN h;simp[gC]at*;omega
   ·exact(dI h).elim
  |7,_=>
   rw[vo]at h;split at h
   ·exact(dI h).elim
   ·rename_i D;have:=pB D;split at h
    ·have a:=g 7 _ _ _ _ _ _ _ (by omega) h;simp[gC]at*;omega
    ·have a:=g 8 _ _ _ _ _ _ _ (by omega) h;simp[gC]at*;omega
  |8,_=>
   rw[vq]at h;split at h
   ·rename_i G;have:=fu (by decide) G;obtain⟨k,r1,p,j,i⟩:=dD h;cases dN i;have a:=g 4 _ _ _ _ _ _ _ (by omega) j;simp[gC]at*;omega
   ·exact(dI h).elim
theorem dP {x y:Res}{f g:Ex->List Tk->Nat->Res}(h:x=y)(a: ∀e r n,y= .ok (e,r,n)->f e r n=g e r n):dq x f=dq y g:=by
 subst h;match x with
 | .error _=>rfl
 | .ok (e,r,n)=>exact a e r n rfl
def fg (m:Nat):Nat:=if m=0 then 4 else if m=2 then 3 else if m=4 then 2 else 1
def eX (m:Nat)(r:List Tk):Nat:=4*r.length+fg m
theorem BO (E:Nat): ∀(f m d:Nat) (e:Ex) (r:List Tk) (n:Nat),m<=8->eX m r<=f->goP E (f+1) m d e r n=goP E f m d e r n
 |0,m,d,e,r,n,_,h=>by
  unfold eX fg at h;exfalso;split at h
  ·omega
  split at h
  ·omega
  split at h<;>omega
 |f+1,m,d,e,r,n,w,h=>by
  have b:=BO E f;have len:=zw E f;unfold eX at h b;match m,w with
  |0,_=>
   rw[vd,vd];refine dP (b 2 _ _ _ _ (by omega) (by simp[fg]at*;omega)) fun i r1 k c=> ?_;have a:=len 2 _ _ _ _ _ _ _ (by omega) c;exact b 1 _ _ _ _ (by omega) (by simp[fg,gC]at*;omega)
  |1,_=>
   rw[ve,ve];split
   ·rename_i g;have:=fu (by decide) g;refine dP (b 2 _ _ _ _ (by omega) (by simp[fg]at*;omega)) fun i r1 k c=> ?_;have a:=len 2 _ _ _ _ _ _ _ (by omega) c;refine dP rfl fun s u t j=> ?_;cases dN j;exact b 1 _ _ _ _ (by omega) (by simp[fg,gC]at*;omega)
   ·split
    ·rename_i g;have:=fu (by decide) g;refine dP (b 2 _ _ _ _ (by omega) (by simp[fg]at*;omega)) fun i r1 k c=> ?_;have a:=len 2 _ _ _ _ _ _ _ (by omega) c;refine dP rfl fun s u t j=> ?_;cases dN j;exact b 1 _ _ _ _ (by omega) (by simp[fg,gC]at*;omega)
    ·rfl
  |2,_=>
   rw[vf,vf];refine dP (b 4 _ _ _ _ (by omega) (by simp[fg]at*;omega)) fun i r1 k c=> ?_;have a:=len 4 _ _ _ _ _ _ _ (by omega) c;exact b 3 _ _ _ _ (by omega) (by simp[fg,gC]at*;omega)
  |3,_=>
   rw[vh,vh];split
   ·rename_i g;have:=fu (by decide) g;refine dP (b 4 _ _ _ _ (by omega) (by simp[fg]at*;omega)) fun i r1 k c=> ?_;have a:=len 4 _ _ _ _ _ _ _ (by omega) c;refine dP rfl fun s u t j=> ?_;cases dN j;exact b 3 _ _ _ _ (by omega) (by simp[fg,gC]at*;omega)
   ·rfl
  |4,_=>
   rw[vj,vj];refine dP (b 6 _ _ _ _ (by omega) (by simp[fg]at*;omega)) fun i r1 k c=> ?_;have a:=len 6 _ _ _ _ _ _ _ (by omega) c;exact b 5 _ _ _ _ (by omega) (by simp[fg,gC]at*;omega)
  |5,_=>
   rw[vk,vk];have x:=r7 r;split
   ·rename_i g;have:=fu (by decide) g;split
    ·rfl
    split
    ·rfl
    refine dP rfl fun s u t j=> ?_;cases dN j;exact b 5 _ _ _ _ (by omega) (by simp[fg]at*;omega)
   ·rfl
  |6,_=>
   rw[vn E (f+1),vn E f];by_cases c0:40<d
   ·rw[aB c0,aB c0]
   rw[ax c0,ax c0];by_cases c1:isT kS r=true
   ·rw[aB c1,aB c1];have:=fu (by decide) c1;exact dP (b 0 _ _ _ _ (by omega) (by simp[fg]at*;omega)) fun i r1 k c=>rfl
   rw[ax c1,ax c1];by_cases p:isT jZ r=true
   ·rw[aB p,aB p]
   rw[ax p,ax p];by_cases q:isT jD r=true
   ·rw[aB q,aB q]
   rw[ax q,ax q];by_cases l:isT jW r=true
   ·rw[aB l,aB l];have:=fu (by decide) l;exact b 7 _ _ _ _ (by omega) (by simp[fg]at*;omega)
   rw[ax l,ax l];by_cases o:isT lG r=true
   ·rw[aB o,aB o];have:=fu (by decide) o;rw[b 8 d ⟨5,numP r.tail,numP r.tail.tail.tail,[],[]⟩ r.tail.tail.tail.tail n (by omega) (by simp[fg]at*;omega),b 8 d ⟨5,numP r.tail,numP r.tail,[],[]⟩ r.tail.tail n (by omega) (by simp[fg]at*;omega)]
   rw[ax o,ax o]
  |7,_=>
   rw[vo E (f+1) d e r n,vo E f d e r n];split
   ·rfl
   ·rename_i v;have:=pB v;split
    ·exact b 7 _ _ _ _ (by omega) (by simp[fg]at*;omega)
    ·exact b 8 _ _ _ _ (by omega) (by simp[fg]at*;omega)
  |8,_=>
   rw[vq,vq];split
   ·rename_i g;have:=fu (by decide) g;exact dP (b 4 _ _ _ _ (by omega) (by simp[fg]at*;omega)) fun i r1 k c=>rfl
   ·rfl
def rd (E m d:Nat)(e:Ex)(r:List Tk)(n:Nat):Res:=goP E (eX m r) m d e r n
theorem iL (E m d:Nat)(e:Ex)(r:List Tk)(n:Nat)(a:m<=8): ∀f,eX m r<=f->goP E f m d e r n=rd E m d e r n
 |f,h=>by
  obtain⟨k,rfl⟩: ∃k,f=eX m r+k:=⟨f-eX m r,by omega⟩
  clear h;induction k with
  |zero=>rfl
  |succ k b=>rw[<-Nat.add_assoc,BO E _ m d e r n a (by omega)];exact b
theorem lT {E m d:Nat}{e:Ex}{r:List Tk}{n:Nat}{b:Ex}{a:List Tk}{c:Nat}(f:m<=8)(h:rd E m d e r n= .ok (b,a,c)):a.length+gC m<=r.length:=zw E _ m d e r n b a c f h
theorem Qk (E d:Nat)(e:Ex)(r:List Tk)(n:Nat):rd E 0 d e r n=dq (rd E 2 d ex0 r n) fun e r n=>rd E 1 d e r n:=by
 have h:eX 0 r=4*r.length+3+1:=by simp[eX,fg]
 show goP E (eX 0 r) 0 d e r n=_;rw[h,vd];refine dP (iL E 2 d ex0 r n (by omega) _ (by simp[eX,fg])) fun b r1 f c=> ?_;have a:=lT (by omega) c;exact iL E 1 d b r1 f (by omega) _ (by simp[eX,fg,gC]at*;omega)
theorem Ql (E d:Nat)(e:Ex)(r:List Tk)(n:Nat):rd E 2 d e r n=dq (rd E 4 d ex0 r n) fun e r n=>rd E 3 d e r n:=by
 have h:eX 2 r=4*r.length+2+1:=by simp[eX,fg]
 show goP E (eX 2 r) 2 d e r n=_;rw[h,vf];refine dP (iL E 4 d ex0 r n (by omega) _ (by simp[eX,fg])) fun b r1 f c=> ?_;have a:=lT (by omega) c;exact iL E 3 d b r1 f (by omega) _ (by simp[eX,fg,gC]at*;omega)
theorem Qm (E d:Nat)(e:Ex)(r:List Tk)(n:Nat):rd E 4 d e r n=dq (rd E 6 d ex0 r n) fun e r n=>rd E 5 d e r n:=by
 have h:eX 4 r=4*r.length+1+1:=by simp[eX,fg]
 show goP E (eX 4 r) 4 d e r n=_;rw[h,vj];refine dP (iL E 6 d ex0 r n (by omega) _ (by simp[eX,fg])) fun b r1 f c=> ?_;have a:=lT (by omega) c;exact iL E 5 d b r1 f (by omega) _ (by simp[eX,fg,gC]at*;omega)
theorem J9 (E d:Nat)(e:Ex)(r:List Tk)(n:Nat):rd E 1 d e r n=
  if isT qg r then dq (rd E 2 d ex0 r.tail n) fun t r n=>dq (dG E ⟨6,0,0,[],[e,t]⟩ r n) fun e r n=>rd E 1 d e r n
  else if isT gJ r then dq (rd E 2 d ex0 r.tail n) fun t r n=>dq (dG E ⟨7,0,0,[],[e,t]⟩ r n) fun e r n=>rd E 1 d e r n
  else .ok (e,r,n):=by
 have h:eX 1 r=4*r.length+1:=by simp[eX,fg]
 show goP E (eX 1 r) 1 d e r n=_;rw[h,ve];by_cases c1:isT qg r=true
 ·rw[aB c1,aB c1];have:=fu (by decide) c1;refine dP (iL E 2 d ex0 r.tail n (by omega) _ (by simp[eX,fg];omega)) fun g r1 j c=> ?_;have a:=lT (by omega) c;refine dP rfl fun i l k f=> ?_;cases dN f;exact iL E 1 d _ _ _ (by omega) _ (by simp[eX,fg,gC]at*;omega)
 ·rw[ax c1,ax c1];by_cases b:isT gJ r=true
  ·rw[aB b,aB b];have:=fu (by decide) b;refine dP (iL E 2 d ex0 r.tail n (by omega) _ (by simp[eX,fg];omega)) fun g r1 j c=> ?_;have a:=lT (by omega) c;refine dP rfl fun i l k f=> ?_;cases dN f;exact iL E 1 d _ _ _ (by omega) _ (by simp[eX,fg,gC]at*;omega)
  ·rw[ax b,ax b]
theorem Oe (E d:Nat)(e:Ex)(r:List Tk)(n:Nat):rd E 3 d e r n=
  if isT tU r then dq (rd E 4 d ex0 r.tail n) fun t r n=>dq (dG E ⟨8,0,0,[],[e,t]⟩ r n) fun e r n=>rd E 3 d e r n
  else .ok (e,r,n):=by
 have h:eX 3 r=4*r.length+1:=by simp[eX,fg]
 show goP E (eX 3 r) 3 d e r n=_;rw[h,vh];by_cases c1:isT tU r=true
 ·rw[aB c1,aB c1];have:=fu (by decide) c1;refine dP (iL E 4 d ex0 r.tail n (by omega) _ (by simp[eX,fg];omega)) fun f r1 i b=> ?_;have a:=lT (by omega) b;refine dP rfl fun g k j c=> ?_;cases dN c;exact iL E 3 d _ _ _ (by omega) _ (by simp[eX,fg,gC]at*;omega)
 ·rw[ax c1,ax c1]
theorem Of (E d:Nat)(e:Ex)(r:List Tk)(n:Nat):rd E 5 d e r n=if isT mF r then
   if kindP (fO r)≠6 then eh E 2 (fO r)
   else if 1440<=numP (fO r)\/numP (fO r)<1 then eh E 3 (fO r)
   else dq (dG E ⟨9,if isT gJ r.tail then-numP (fO r) else numP (fO r),0,[],[e]⟩ (fO r).tail n) fun e r n=>rd E 5 d e r n
  else .ok (e,r,n):=by
 have h:eX 5 r=4*r.length+1:=by simp[eX,fg]
 show goP E (eX 5 r) 5 d e r n=_;rw[h,vk];have g:=r7 r;by_cases c1:isT mF r=true
 ·rw[aB c1,aB c1];have:=fu (by decide) c1;by_cases a:kindP (fO r)≠6
  ·rw[aB a,aB a]
  rw[ax a,ax a];by_cases b:1440<=numP (fO r)\/numP (fO r)<1
  ·rw[aB b,aB b]
  rw[ax b,ax b];refine dP rfl fun f j i c=> ?_;cases dN c;exact iL E 5 d _ _ _ (by omega) _ (by simp[eX,fg]at*;omega)
 ·rw[ax c1,ax c1]
theorem Og (E d:Nat)(e:Ex)(r:List Tk)(n:Nat):rd E 6 d e r n=
  if 40<d then eh E 4 r
  else if isT kS r then dq (rd E 0 (d+1) ex0 r.tail n) fun e r n=>if isT pA r then .ok (e,r.tail,n) else eh E 2 r
  else if isT jZ r then dG E ⟨1,0,0,[],[]⟩ r.tail n
  else if isT jD r then dG E ⟨2,0,0,[],[]⟩ r.tail n
  else if isT jW r then rd E 7 d ex0 r.tail n
  else if isT lG r then
   if kindP r.tail≠5 then eh E 2 r.tail
   else if isT wTo r.tail.tail then
    if kindP r.tail.tail.tail≠5 then eh E 2 r.tail.tail.tail
    else if numP r.tail.tail.tail<numP r.tail then eh E 3 r.tail.tail.tail
    else rd E 8 d ⟨5,numP r.tail,numP r.tail.tail.tail,[],[]⟩ r.tail.tail.tail.tail n
   else rd E 8 d ⟨5,numP r.tail,numP r.tail,[],[]⟩ r.tail.tail n
  else if kindP r=1 then dG E ⟨10,0,0,textP r,[]⟩ r.tail n
  else if kindP r≠4 then eh E 2 r
  else if isT gJ r.tail then
   if kindP r.tail.tail≠4 then eh E 2 r.tail.tail
   else if numP r.tail.tail<numP r+1 then eh E 3 r.tail.tail
   else dG E ⟨3,numP r,numP r.tail.tail,[],[]⟩ r.tail.tail.tail n
  else eh E 2 r.tail:=by
 have h:eX 6 r=4*r.length+1:=by simp[eX,fg]
 show goP E (eX 6 r) 6 d e r n=_;rw[h,vn];by_cases c0:40<d
 ·rw[aB c0,aB c0]
 rw[ax c0,ax c0];by_cases c1:isT kS r=true
 ·rw[aB c1,aB c1];have:=fu (by decide) c1;exact dP (iL E 0 _ _ _ _ (by omega) _ (by simp[eX,fg]at*;omega)) fun g r1 j i=>rfl
 rw[ax c1,ax c1];by_cases c:isT jZ r=true
 ·rw[aB c,aB c]
 rw[ax c,ax c];by_cases f:isT jD r=true
 ·rw[aB f,aB f]
 rw[ax f,ax f];by_cases a:isT jW r=true
 ·rw[aB a,aB a];have:=fu (by decide) a;exact iL E 7 _ _ _ _ (by omega) _ (by simp[eX,fg]at*;omega)
 rw[ax a,ax a];by_cases b:isT lG r=true
 ·rw[aB b,aB b];have:=fu (by decide) b;rw[iL E 8 d ⟨5,numP r.tail,numP r.tail.tail.tail,[],[]⟩ r.tail.tail.tail.tail n (by omega) _ (by simp[eX,fg]at*;omega),iL E 8 d ⟨5,numP r.tail,numP r.tail,[],[]⟩ r.tail.tail n (by omega) _ (by simp[eX,fg]at*;omega)]
 rw[ax b,ax b]
theorem Oh (E d:Nat)(e:Ex)(r:List Tk)(n:Nat):rd E 7 d e r n=
  if dayBit (textP r)=0 then eh E 2 r
  else if isT pH r.tail then rd E 7 d ⟨0,((e.a.toNat|||dayBit (textP r):Nat):Int),0,[],[]⟩ r.tail.tail n
  else rd E 8 d ⟨4,((e.a.toNat|||dayBit (textP r):Nat):Int),0,[],[]⟩ r.tail n:=by
 have h:eX 7 r=4*r.length+1:=by simp[eX,fg]
 show goP E (eX 7 r) 7 d e r n=_;rw[h,vo];by_cases c1:dayBit (textP r)=0
 ·rw[aB c1,aB c1]
 rw[ax c1,ax c1];have:=pB c1;rw[iL E 7 d _ r.tail.tail n (by omega) _ (by simp[eX,fg]at*;omega),iL E 8 d _ r.tail n (by omega) _ (by simp[eX,fg]at*;omega)]
theorem Qn (E d:Nat)(e:Ex)(r:List Tk)(n:Nat):rd E 8 d e r n=
  if isT nJ r then dq (rd E 4 (d+1) ex0 r.tail n) fun k r n=>dG E ⟨e.kind,e.a,e.b,[],[k]⟩ r n else eh E 2 r:=by
 have h:eX 8 r=4*r.length+1:=by simp[eX,fg]
 show goP E (eX 8 r) 8 d e r n=_;rw[h,vq];by_cases c1:isT nJ r=true
 ·rw[aB c1,aB c1];have:=fu (by decide) c1;exact dP (iL E 4 _ _ _ _ (by omega) _ (by simp[eX,fg]at*;omega)) fun c r1 g f=>rfl
 ·rw[ax c1,ax c1]
end Lx
theorem lU (c:UInt8)(w:World):Calls prog 91 #[.int .u8 (c.toNat:Int)] w fun e w'=>e= .returned (.bool (isD c))/\w'=w:=by
 unfold isD;by_cases a:48<=c.toNat
 ·by_cases b:c.toNat<=57
  ·have d:(48:Int)<=(c.toNat:Int):=(by omega);have f:(c.toNat:Int)<=57:=(by omega);rw[bj a,bj b];go_enter func91,ntmps91;go_wp2;go_ret;exact⟨rfl,rfl⟩
  ·have d:(48:Int)<=(c.toNat:Int):=(by omega);have f: ¬(c.toNat:Int)<=57:=(by omega);rw[bj a,bm b];go_enter func91,ntmps91;go_wp2;go_ret;exact⟨rfl,rfl⟩
 ·have d: ¬(48:Int)<=(c.toNat:Int):=by omega
  rw[bm a];go_enter func91,ntmps91;go_wp2;go_ret;exact⟨rfl,rfl⟩
theorem xS (c:UInt8)(w:World):Calls prog 93 #[.int .u8 (c.toNat:Int)] w fun e w'=>e= .returned (.bool (isL c))/\w'=w:=by
 unfold isL;by_cases a:97<=c.toNat
 ·by_cases b:c.toNat<=122
  ·have d:(97:Int)<=(c.toNat:Int):=(by omega);have f:(c.toNat:Int)<=122:=(by omega);rw[bj a,bj b];go_enter func93,ntmps93;go_wp2;go_ret;exact⟨rfl,rfl⟩
  ·have d:(97:Int)<=(c.toNat:Int):=(by omega);have f: ¬(c.toNat:Int)<=122:=(by omega);rw[bj a,bm b];go_enter func93,ntmps93;go_wp2;go_ret;exact⟨rfl,rfl⟩
 ·have d: ¬(97:Int)<=(c.toNat:Int):=by omega
  rw[bm a];go_enter func93,ntmps93;go_wp2;go_ret;exact⟨rfl,rfl⟩
theorem lJ {s:ByteArray}{l:List UInt8}(b:s.data.toList=l)(k:Nat)(a:k<s.size):s[k]=l.getD k 0:=by
 subst b;have h:k<s.data.size:=a;show s.data[k]=_;rw[dc,bq,fW h];rfl
theorem He {a b:Int}(h:a=b):ag a=ag b:=by rw[h]
theorem mX (s:ByteArray)(l:List UInt8)(p:s.data.toList=l)(A:l.length<=6)(d: ∀i,i<l.length->isD (l.getD i 0)=true)(w:World):
  Calls prog 124 #[.string s] w fun e w'=>e= .returned (ag (valL l))/\w'=w:=by
 have B:s.size=l.length:=by rw[<-p,Lib.size_eq]
 go_enter func124,ntmps124;go_wp2;go_loop [3,7] (fun n i=> ∃k:Nat,k<=l.length/\i=ag k/\n=ag (valL (l.take k))) (fun _ i=>l.length-(intOf i).toNat);case atStart=>exact⟨0,by omega,rfl,rfl⟩
 case round=>
  obtain⟨k,z,rfl,rfl⟩:=hrel;by_cases b:k<l.length
  ·have m:(k:Int)<(l.length:Int):=(by omega);have x:(0:Int)<=(k:Int):=(by omega);have y:=qf l d k (by omega) (by omega);have a:=d k b;have g:=lJ p k (by omega);have j:=Ao l k b;have r:QR (valL (l.take (k+1))=10*valL (l.take k)+(((l.getD k 0).toNat:Int)-48)):=j;simp only[isD,bv,bL]at a;have t:QR (48<=(l.getD k 0).toNat/\(l.getD k 0).toNat<=57):=a;have q:QR (s[k]=l.getD k 0):=g;clear a g j d;go_wp2;go_round
   case rel=>
    refine⟨k+1,by omega,by go_num,He ?_⟩;have u:=t.o;rw[q.o,r.o];generalize (l.getD k 0).toNat=c at u;generalize valL (l.take k)=v at y;omega
   case measure=>simp[intOf];omega
  ·have f:k=l.length:=(by omega);subst f;have e:valL (l.take l.length)=valL l:=(by rw[gz]);go_wp2;go_ret;exact⟨rfl,rfl⟩
theorem BP (s t:ByteArray)(l m:List UInt8)(H:s.data.toList=l)(I:t.data.toList=m)(R:l.length<=9223372036854775807)(S:m.length<=100)(w:World):
  Calls prog 88 #[.string s,.string t] w fun e w'=>e= .returned (.bool (ju l m))/\aq w w':=by
 have U:s.size=l.length:=by rw[<-H,Lib.size_eq]
 have T:t.size=m.length:=by rw[<-I,Lib.size_eq]
 by_cases v:m.length<=l.length
 ·have x: ¬(l.length:Int)<(m.length:Int):=by omega
  go_enter func88,ntmps88;go_wp2;go_loopw [13] (fun i wr=> ∃k:Nat,k<=m.length/\i=ag k/\(∀i,i<k->okB (m.getD i 0) (l.getD i 0)=true)/\aq w wr) (fun i _=>m.length-(intOf i).toNat);case atStart=>exact⟨0,by omega,rfl,fun i h=>by omega,aH _ _⟩
  case round=>
   obtain⟨k,Q,rfl,d,b⟩:=hrel;have A:QR (∀i,i<k->okB (m.getD i 0) (l.getD i 0)=true):=d;clear d;by_cases u:k<m.length
   ·have F:(k:Int)<(m.length:Int):=(by omega);have G:(k:Int)<(l.length:Int):=(by omega);have J:(0:Int)<=(k:Int):=(by omega);have p:=lJ H k (by omega);have q:=lJ I k (by omega);have O: ∀h:k<s.size,s[k]=l.getD k 0:=fun _=>p;have P: ∀h:k<t.size,t[k]=m.getD k 0:=fun _=>q;have a:okB (m.getD k 0) (l.getD k 0)=(if(m.getD k 0).toNat=48 then isD (l.getD k 0) else decide ((m.getD k 0).toNat=(l.getD k 0).toNat)):=rfl;generalize y:l.getD k 0=c at*;generalize z:m.getD k 0=f at*;by_cases j:f.toNat=48
    ·have K:(f.toNat:Int)=48:=(by omega);rw[aB j]at a;cases hd:isD c with
     |true=>
      rw[hd]at a;have g:QR (okB f c=true):=a;have n:=fun w=>lU c w;rw[hd]at n;clear a hd p q;go_wp2;go_quiet ((go_at_call 91;exact fB (n _)));go_wp2;go_roundw
      case rel=>
       refine⟨k+1,by omega,by go_num,fun i hi=> ?_,dp b _⟩;by_cases e:i=k
       ·subst e;rw[y,z];exact g.o
       ·exact A.o i (by omega)
      case measure=>simp[intOf];omega
     |false=>
      rw[hd]at a;have g:QR (okB f c=false):=a;have n:=fun w=>lU c w;rw[hd]at n;clear a hd p q;go_wp2;go_quiet ((go_at_call 91;exact fB (n _)));go_wp2;go_ret;exact⟨by rw[BM k u (by rw[y,z];exact g.o)];rfl,dp b _⟩
    ·have D:((f.toNat:Int)==48)=false:=(by simp;omega);rw[ax j]at a;by_cases r:f.toNat=c.toNat
     ·have g:QR (okB f c=true):=(by rw[a];exact bj r);have M:((c.toNat:Int)==48)=false:=(by simp;omega);have E:((c.toNat:Int) !=48)=true:=(by simp;omega);have N:((c.toNat:Int) !=(c.toNat:Int))=false:=(by simp);clear a p q D j;go_wp2;go_quiet (fail);go_wp2;go_roundw
      case rel=>
       refine⟨k+1,by omega,by go_num,fun i hi=> ?_,dp b _⟩;by_cases e:i=k
       ·subst e;rw[y,z];exact g.o
       ·exact A.o i (by omega)
      case measure=>simp[intOf];omega
     ·have g:QR (okB f c=false):=(by rw[a];exact bm r);have E:((f.toNat:Int) !=48)=true:=(by simp;omega);have L:((f.toNat:Int) !=(c.toNat:Int))=true:=(by simp;omega);clear a p q;go_wp2;go_quiet (fail);go_wp2;go_ret;exact⟨by rw[BM k u (by rw[y,z];exact g.o)];rfl,dp b _⟩
   ·have B:QR (ju l m=true):=Ha v fun i hi=>A.o i (by omega);have C:k=m.length:=(by omega);subst C;go_wp2;go_ret;exact⟨by rw[B.o];rfl,b⟩
 ·have B:QR (ju l m=false):=Dx v;have x:(l.length:Int)<(m.length:Int):=(by omega);go_enter func88,ntmps88;go_wp2;go_ret;exact⟨by rw[B.o];rfl,aH _ _⟩
def sY (t:T1):Value:= .tuple #[.agg #[ag t.kind,ag t.n,ag 0,.string ⟨t.text.toArray⟩],ag (t.len:Int),ag t.err]
theorem zy:prog.underlying 127=some (.struct (prog.fieldsOf 127)):=by kernel_rfl
theorem fY {e:Func}(h:e.results=f92.results){R:Ending->World->Prop}{a:Act}{w:World}(g:Nat)(t:T1)(l:a.defers=[])(f:a.tmps.getD 2 undef=ab g 0)
  (i:a.tmps.getD 3 undef=ag (t.len:Int)) (j:a.tmps.getD 4 undef=ag t.err) (m:w.heap[g]? =ah #[ag t.kind,ag t.n,ag 0,.string ⟨t.text.toArray⟩] 127)
  (k:R (.returned (sY t)) w):bodyPost prog e R .ret a w:=by
 refine aX (v:=sY t) ?_ l k;have b:a.tmps[2]?.getD undef=ab g 0:=by simpa using f
 have c:a.tmps[3]?.getD undef=ag (t.len:Int):=by simpa using i
 have d:a.tmps[4]?.getD undef=ag t.err:=by simpa using j
 have o:=ef (P:=prog) w g 127 127 _ _ _ m zy rfl (by kernel_rfl);simp[results,h,results92,b,c,d,asAddr,o,sY]
theorem vS (s:ByteArray)(l:List UInt8)(y:s.data.toList=l)(C:l.length<=9223372036854775806)(w:World):
  Calls prog 125 #[.string s] w fun e w'=>e= .returned (ag (wordLen l:Int))/\w'=w:=by
 have D:s.size=l.length:=by rw[<-y,Lib.size_eq]
 go_enter func125,ntmps125;go_wp2;go_loop [3] (fun i=> ∃k:Nat,k<=l.length/\i=ag k/\ ∀i,i<k->oJ l i=true) (fun i=>l.length-(intOf i).toNat);case atStart=>exact⟨0,by omega,rfl,fun i h=>by omega⟩
 case round=>
  obtain⟨k,v,rfl,g⟩:=hrel;have f:QR (∀i,i<k->oJ l i=true):=g;clear g;by_cases t:k<l.length
  ·have j:(k:Int)<(l.length:Int):=(by omega);have r:(0:Int)<=(k:Int):=(by omega);have A: ∀h:k<s.size,s[k]=l.getD k 0:=fun h=>lJ y k h
   have b:oJ l k=if k=0 then isL (l.getD k 0) else isC (l.getD k 0):=by
    unfold oJ;split
    ·rename_i h;rw[h]
    ·rfl
   generalize B:l.getD k 0=c at*;have cl:=fun w=>xS c w;have m:=fun w=>lU c w;have a:oJ l k=false->QR (wordLen l=k):=fun h=>xP l k v f.o fun _=>h
   have next:oJ l k=true->QR (∀i,i<k+1->oJ l i=true):=fun h i hi=>by
    by_cases e:i=k
    ·rw[e];exact h
    ·exact f.o i (by omega)
   cases hL:isL c with
   |true=>
    have p:=next (by rw[b];split<;>simp[hL,isC])
    rw[hL]at cl;clear b hL a next f
    go_wp2_with(first
     |(go_at_call 93;refine(cl _).mono ?_;rintro e w' ⟨rfl,rfl⟩)
     |(go_at_call 91;refine(m _).mono ?_;rintro e w' ⟨rfl,rfl⟩))
    go_round;case rel=>exact⟨k+1,by omega,by go_num,p.o⟩
    case measure=>simp[intOf];omega
   |false=>
    rw[hL]at cl;by_cases n:k=0
    ·have q:=a (by rw[b,aB n,hL]);clear b hL a next f r j
     subst n;have x:(0:Int)<(l.length:Int):=(by omega)
     go_wp2_with(first
      |(go_at_call 93;refine(cl _).mono ?_;rintro e w' ⟨rfl,rfl⟩)
      |(go_at_call 91;refine(m _).mono ?_;rintro e w' ⟨rfl,rfl⟩))
     go_ret;exact⟨by rw[q.o];rfl,rfl⟩
    ·have z:(0:Int)<(k:Int):=(by omega);cases hD:isD c with
     |true=>
      have p:=next (by rw[b,ax n];simp[hD,isC])
      rw[hD]at m;clear b hL hD a next f
      go_wp2_with(first
       |(go_at_call 93;refine(cl _).mono ?_;rintro e w' ⟨rfl,rfl⟩)
       |(go_at_call 91;refine(m _).mono ?_;rintro e w' ⟨rfl,rfl⟩))
      go_round;case rel=>exact⟨k+1,by omega,by go_num,p.o⟩
      case measure=>simp[intOf];omega
     |false=>
      rw[hD]at m;by_cases d:c.toNat=95
      ·have p:=next (by rw[b,ax n];simp[isC,d])
       have u:((c.toNat:Int)==95)=true:=(by simp;omega);clear b hL hD a next f d
       go_wp2_with(first
        |(go_at_call 93;refine(cl _).mono ?_;rintro e w' ⟨rfl,rfl⟩)
        |(go_at_call 91;refine(m _).mono ?_;rintro e w' ⟨rfl,rfl⟩))
       go_round;case rel=>exact⟨k+1,by omega,by go_num,p.o⟩
       case measure=>simp[intOf];omega
      ·have q:=a (by rw[b,ax n];simp[isC,d,hL,hD]);have u:((c.toNat:Int)==95)=false:=(by simp;omega);clear b hL hD a next f d
       go_wp2_with(first
        |(go_at_call 93;refine(cl _).mono ?_;rintro e w' ⟨rfl,rfl⟩)
        |(go_at_call 91;refine(m _).mono ?_;rintro e w' ⟨rfl,rfl⟩))
       go_ret;exact⟨by rw[q.o];rfl,rfl⟩
  ·have q:QR (wordLen l=k):=xP l k v f.o fun h=>absurd h t;have j: ¬(k:Int)<(l.length:Int):=(by omega);go_wp2;go_ret;exact⟨by rw[q.o];rfl,rfl⟩
theorem Fk (s:ByteArray)(l:List UInt8)(t:s.data.toList=l)(H:l.length<=9223372036854775806)(w:World):
  Calls prog 92 #[.string s] w fun e w'=>e= .returned (sY (mJ l))/\aq w w':=by
 have I:s.size=l.length:=by rw[<-t,Lib.size_eq]
 have n:aq w (w.alloc (.cells #[ag 0,ag 0,ag 0,.string ⟨#[]⟩] 127)):=am _ _;go_enter func92,ntmps92;go_wp2;go_loop [5] (fun i=> ∃k:Nat,k<=l.length/\i=ag k/\ ∀i,i<k->isD (l.getD i 0)=true) (fun i=>l.length-(intOf i).toNat);case atStart=>exact⟨0,by omega,rfl,fun i h=>by omega⟩
 case round=>
  obtain⟨k,F,rfl,j⟩:=hrel;have u:QR (∀i,i<k->isD (l.getD i 0)=true):=j;clear j;by_cases a:k<l.length/\isD (l.getD k 0)=true
  ·obtain⟨f,d⟩:=a;have b:(k:Int)<(l.length:Int):=(by omega);have r:(0:Int)<=(k:Int):=(by omega);have B: ∀h:k<s.size,s[k]=l.getD k 0:=fun h=>lJ t k h;have g:=fun w=>lU (l.getD k 0) w;rw[d]at g;have E:QR (isD (l.getD k 0)=true):=d;clear d;generalize y:l.getD k 0=c at*;go_wp2_with(go_at_call 91;refine(g _).mono ?_;rintro e w' ⟨rfl,rfl⟩)
   go_round
   case rel=>
    refine⟨k+1,by omega,by go_num,fun i hi=> ?_⟩;by_cases e:i=k
    ·rw[e,y];exact E.o
    ·exact u.o i (by omega)
   case measure=>simp[intOf];omega
  ·have D:gW isD l=k:=wn isD l k F u.o fun h=>by
    cases e:isD (l.getD k 0) with
    |false=>rfl
    |true=>exact absurd ⟨h,e⟩ a
   have z:QR (gW isD l=k):=D;clear D;by_cases C:6<k
   ·have x:(6:Int)<(k:Int):=(by omega)
    have m:QR (mJ l=bad 3):=by
     have:=z.o;show mJ l=bad 3;unfold mJ;rw[this,aB C]
    by_cases f:k<l.length
    ·have b:(k:Int)<(l.length:Int):=(by omega);have r:(0:Int)<=(k:Int):=(by omega);have B: ∀h:k<s.size,s[k]=l.getD k 0:=fun h=>lJ t k h
     have d:isD (l.getD k 0)=false:=by
      cases e:isD (l.getD k 0) with
      |false=>rfl
      |true=>exact absurd ⟨f,e⟩ a
     have g:=fun w=>lU (l.getD k 0) w;rw[d]at g;clear d a;generalize y:l.getD k 0=c at*;go_wp2_with(go_at_call 91;refine(g _).mono ?_;rintro e w' ⟨rfl,rfl⟩)
     exact fY rfl w.heap.size (bad 3) rfl rfl rfl rfl (aG w _) ⟨by rw[m.o],n⟩
    ·have b: ¬(k:Int)<(l.length:Int):=(by omega);clear a;go_wp2;exact fY rfl w.heap.size (bad 3) rfl rfl rfl rfl (aG w _) ⟨by rw[m.o],n⟩
   ·have x: ¬(6:Int)<(k:Int):=(by omega);have G:(k:Int)<=(l.length:Int):=(by omega);have r:(0:Int)<=(k:Int):=(by omega)
    have m:QR (mJ l=⟨6,valL (l.take k),[],k,0⟩):=by
     have:=z.o;show mJ l=_;unfold mJ;rw[this,ax C]
    have A:=fun w=>mX (s.extract 0 k) (l.take k) (by rw[Lib.extract_data,t];simp) (by simp;omega) (fun i hi=>by
     have q:i<k:=(by simp at hi;omega);have:=u.o i q;rw[dc]at this⊢;rw[iK,aB q];exact this) w
    generalize valL (l.take k)=v at*;have p:aq w (w.alloc (.cells #[ag 6,ag v,ag 0,.string ⟨#[]⟩] 127)):=am _ _;by_cases f:k<l.length
    ·have b:(k:Int)<(l.length:Int):=(by omega);have B: ∀h:k<s.size,s[k]=l.getD k 0:=fun h=>lJ t k h
     have d:isD (l.getD k 0)=false:=by
      cases e:isD (l.getD k 0) with
      |false=>rfl
      |true=>exact absurd ⟨f,e⟩ a
     have g:=fun w=>lU (l.getD k 0) w;rw[d]at g;clear d a;generalize y:l.getD k 0=c at*
     go_wp2_with(first
      |(go_at_call 91;refine(g _).mono ?_;rintro e w' ⟨rfl,rfl⟩)
      |(go_at_call 124;refine(A _).mono ?_;rintro e w' ⟨rfl,rfl⟩))
     exact fY rfl w.heap.size ⟨6,v,[],k,0⟩ rfl rfl rfl rfl (aG w _) ⟨by rw[m.o],p⟩
    ·have b: ¬(k:Int)<(l.length:Int):=(by omega);clear a;go_wp2_with(go_at_call 124;refine(A _).mono ?_;rintro e w' ⟨rfl,rfl⟩)
     exact fY rfl w.heap.size ⟨6,v,[],k,0⟩ rfl rfl rfl rfl (aG w _) ⟨by rw[m.o],p⟩
namespace Lx
def lV:List UInt8:=[61,59,58,43,45,38,40,41,44]
theorem BQ: ∀(l:List UInt8) (c:UInt8),Go.Lib.indexByte l c<(l.length:Int)
 |[],c=>by simp[Go.Lib.indexByte]
 |b::l,c=>by
  have a:=BQ l c;unfold Go.Lib.indexByte;simp only[bU];split
  ·omega
  ·split<;>omega
theorem BR: ∀(l:List UInt8) (c:UInt8) (i:Nat),Go.Lib.indexByte l c=(i:Int)->l.getD i 0=c
 |[],c,i,h=>by simp[Go.Lib.indexByte]at h
 |b::l,c,i,h=>by
  unfold Go.Lib.indexByte at h;split at h
  ·rename_i a;have:i=0:=(by omega);subst this;simpa using a
  ·split at h
   ·omega
   ·have k:=Go.Lib.indexByte_ge l c;rename_i f;have g:Go.Lib.indexByte l c≠ -1:=(by simpa using f);obtain⟨j,d⟩: ∃j:Nat,Go.Lib.indexByte l c=j:=⟨(Go.Lib.indexByte l c).toNat,by omega⟩
    have e:i=j+1:=(by omega);subst e;simpa using BR l c j d
def j9 (l:List UInt8):T1:=if Go.Lib.hasPrefix l [46,46] then⟨3,0,[46,46],2,0⟩ else if Go.Lib.indexByte lV (l.getD 0 0)<0 then bad 2 else⟨3,0,[l.getD 0 0],1,0⟩
theorem LM {s:ByteArray}{l:List UInt8}(h:s.data.toList=l):s=⟨l.toArray⟩:=by
 obtain⟨d⟩:=s;simp only at h;subst h;simp
def jM:List (List UInt8):=[[97,108,119,97,121,115],[100,97,116,101,115],[102,114,105],[109,111,110],[110,101,118,101,114],[114,117,108,101],[115,97,116],[115,104,105,102,116],[115,117,110],[116,104,117],[116,117,101],[119,101,100],[119,101,101,107,108,121]]
def isWordL (t:List UInt8):Bool:=jM.any fun w=>w==t
def kT (l:List UInt8):T1:=if 20<wordLen l then bad 7 else⟨if isWordL (l.take (wordLen l)) then 2 else 1,0,l.take (wordLen l),wordLen l,0⟩
end Lx
end Go.Proofs.YtlkehieagdkgiaaGreatDoor
