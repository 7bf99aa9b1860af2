/- Texts of the proof. -/
import Derived.Lib.Bytealg
import Derived.Test.YtaoljfdfhggbbaaGreatDoorPcZb
set_option maxRecDepth 100000
set_option maxHeartbeats 8000000
namespace Go.Proofs.YtaoljfdfhggbbaaGreatDoor
open Go.Proofs.Tryz Go.RowKit Lx Vx Mx Msk
section
section
variable {w w':World} {base e size n:Nat} {v:Value} {xs:List Value}
theorem df (h:w.ownsRow base e size v n xs): ∃p c,v= .slice p n c:=by
 rcases h.2 with⟨e,e2⟩|⟨b,cap,a,e,_⟩
 ·exact⟨none,0,by rw[e,e2]⟩
 ·exact⟨_,cap,e⟩
theorem ko {g:Nat}{c:Array Value}{T:TypeId}(h:w.ownsRow base e size v n xs)(j:w.heap[g]? =ah c T)(i:T≠e):some g≠v.ownBlock:=by
 rcases h.2 with⟨e,_⟩|⟨b,cap,d,e,_,a,_⟩
 ·rw[e];simp[Value.ownBlock]
 ·rw[e];intro q;have k:g=b:=(by simpa[Value.ownBlock] using q);subst k;rw[j]at a;injection a with a;injection a with _ f _;exact i f
theorem br (h:w.ownsRow base e size v n xs)(k: ∀b,v.ownBlock=some b->w'.heap[b]? =w.heap[b]?):w'.ownsRow base e size v n xs:=by
 obtain⟨f,c⟩:=h;refine⟨f,?_⟩;rcases c with c|⟨g,cap,a,d,i,j,r⟩
 ·exact .inl c
 ·exact .inr ⟨g,cap,a,d,i,(k g (by rw[d];rfl)).trans j,r⟩
end
theorem sV {o:Oper}{a:Act}{w:World}{K:Act->World->Prop}{Q:Exit->Act->World->Prop}(s x:Operand)(t:TypeId)
  (H:o.op= .call {callee:= .builtin .append,args:= #[s,x],argTypes:= #[t,t]})
  (base:Nat) (e:TypeId) (i:TypeInfo) (z:Value) (size d:Nat) (L:prog.underlying t=some (.slice e)) (hi:prog.info? e=some i) (N:i.zero=some z)
  (l:i.size=size) (y:i.bytes=d) (B:z.cells.size=size) (A:0<size)
  (v:Value) (n:Nat) (xs:List Value) (J:a.eval s=v) (q:w.ownsRow base e size v n xs)
  (ad:Addr) (m c:Nat) (b:List Value) (M:a.eval x= .slice (some ad) m c) (G:b.length=m*size) (k: ∀j u,b[j]? =some u->w.cell? (ad.add j)=some u) (C: ∀u∈b,u.oneCell'=true)
  (r:n+m<=maxLen) (f:(n+m)*d<=140737488355328) (g:base<=w.heap.size)
  (h: ∀p w',w'.ownsRow base e size p (n+m) (xs++b)->w.grownBy w' v.ownBlock->(p.ownBlock=v.ownBlock\/p.ownBlock=some w.heap.size)->K (a.put o.dst p) w'):o.wp prog a w K Q:=by
 obtain⟨p,w',I,D,E,_,F⟩:=run_append_own_at (P:=prog) w base t o.type e i z size d L hi N l y B A v n xs q ad m c b G k C r f g;unfold Oper.wp execOp;simp only[H,resolve,invoke,builtin,ju,jV,gG,iC,dI,fg,J,M,I];exact h p w' D E F
end
namespace Lx
def isD (c:UInt8):Bool:=decide (48<=c.toNat)&&decide (c.toNat<=57)
def isL (c:UInt8):Bool:=decide (97<=c.toNat)&&decide (c.toNat<=122)
def isC (c:UInt8):Bool:=isL c||(isD c||decide (c.toNat=95))
def gO (p:UInt8->Bool):List UInt8->Nat
 |[]=>0
 |c::l=>if p c then gO p l+1 else 0
def wordLen:List UInt8->Nat
 |[]=>0
 |c::l=>if isL c then gO isC l+1 else 0
theorem lL (p:UInt8->Bool): ∀l,gO p l<=l.length
 |[]=>by simp[gO]
 |c::l=>by have:=lL p l;simp only[gO];split<;>simp;omega
theorem zg (p:UInt8->Bool): ∀l i,i<gO p l->p (l.getD i 0)=true
 |[],i,h=>by simp[gO]at h
 |c::l,i,h=>by
  simp only[gO]at h;split at h
  ·cases i with
   |zero=>simpa
   |succ i=>simpa using zg p l i (by omega)
  ·omega
theorem vG (p:UInt8->Bool): ∀(l:List UInt8) (k:Nat),k<=l.length->(∀i,i<k->p (l.getD i 0)=true)->(k<l.length->p (l.getD k 0)=false)->gO p l=k
 |[],k,h,_,_=>by simp at h;subst h;rfl
 |c::l,0,_,_,a=>by
  have:=a (by simp);simp at this;simp[gO,this]
 |c::l,k+1,h,b,a=>by
  have d:=b 0 (by omega);simp at d;have:=vG p l k (by simpa using h) (fun i hi=>by simpa using b (i+1) (by omega)) (fun e=>by simpa using a (by simpa using e));simp[gO,d,this]
theorem wH: ∀l,wordLen l<=l.length
 |[]=>by simp[wordLen]
 |c::l=>by have:=lL isC l;simp only[wordLen];split<;>simp;omega
def valL (l:List UInt8):Int:=l.foldl (fun n c=>10*n+((c.toNat:Int)-48)) 0
theorem F8 (l:List UInt8)(c:UInt8):valL (l++[c])=10*valL l+((c.toNat:Int)-48):=by simp[valL]
theorem zi (l:List UInt8)(k:Nat)(a:k<l.length):valL (l.take (k+1))=10*valL (l.take k)+(((l.getD k 0).toNat:Int)-48):=by
 rw[List.take_succ_eq_append_getElem a,F8];simp[List.getD,a]
theorem wJ (l:List UInt8)(h: ∀i,i<l.length->isD (l.getD i 0)=true): ∀k,k<=l.length->0<=valL (l.take k)/\valL (l.take k)<((10^k:Nat):Int)
 |0,_=>by simp[valL]
 |k+1,b=>by
  have c:=wJ l h k (by omega);have a:=h k (by omega);simp only[isD,bG,cg]at a;rw[zi l k (by omega),Nat.pow_succ];omega
theorem pH (l:List UInt8)(h: ∀i,i<l.length->isD (l.getD i 0)=true)(k:Nat)(c:k<=l.length)(a:k<=6):0<=valL (l.take k)/\valL (l.take k)<1000000:=by
 have b:=wJ l h k c;have:(10:Nat)^k<=10^6:=Nat.pow_le_pow_right (by omega) a;have e:(10:Nat)^6=1000000:=by decide
 omega
def okB (f c:UInt8):Bool:=if f.toNat=48 then isD c else decide (f.toNat=c.toNat)
def jq (l m:List UInt8):Bool:=decide (m.length<=l.length)&&(List.range m.length).all fun i=>okB (m.getD i 0) (l.getD i 0)
theorem F9 {l m:List UInt8}(a:m.length<=l.length)(b: ∀i,i<m.length->okB (m.getD i 0) (l.getD i 0)=true):jq l m=true:=by
 unfold jq;rw[bm a,i8,dr];intro i hi;exact b i (by simpa using hi)
theorem A3 {l m:List UInt8}(i:Nat)(a:i<m.length)(b:okB (m.getD i 0) (l.getD i 0)=false):jq l m=false:=by
 cases e:jq l m with
 |false=>rfl
 |true=>
  unfold jq at e;rw[bG,dr]at e;have:=e.2 i (by simpa using a);rw[b]at this;cases this
theorem CK {l m:List UInt8}(h: ¬m.length<=l.length):jq l m=false:=by simp[jq,h]
theorem qf {l m:List UInt8}(h:jq l m=true):m.length<=l.length/\ ∀i,i<m.length->okB (m.getD i 0) (l.getD i 0)=true:=by
 unfold jq at h;rw[bG,dr]at h;exact⟨by simpa using h.1,fun i hi=>h.2 i (by simpa using hi)⟩
def oc (l:List UInt8)(i:Nat):Bool:=if i=0 then isL (l.getD 0 0) else isC (l.getD i 0)
theorem wK: ∀(l:List UInt8) (k:Nat),k<=l.length->(∀i,i<k->oc l i=true)->(k<l.length->oc l k=false)->wordLen l=k
 |[],k,h,_,_=>by simp at h;subst h;rfl
 |c::l,0,_,_,a=>by
  have:=a (by simp);simp[oc]at this;simp[wordLen,this]
 |c::l,k+1,h,b,a=>by
  have d:=b 0 (by omega);simp[oc]at d;have e:=vG isC l k (by simpa using h) (fun i hi=>by simpa[oc] using b (i+1) (by omega)) (fun f=>by simpa[oc] using a (by simpa using f));simp[wordLen,d,e]
structure T1 where
 kind:Int
 n:Int
 text:List UInt8
 len:Nat
 err:Int
def bad (e:Int):T1:=⟨0,0,[],0,e⟩
def mx (l:List UInt8):T1:=if 6<gO isD l then bad 3 else⟨6,valL (l.take (gO isD l)),[],gO isD l,0⟩
def wN:List UInt8:=[48,48,48,48,45,48,48,45,48,48]
def wO:List UInt8:=[48,48,58,48,48]
def oK (l:List UInt8):T1:=if 59<valL ((l.drop 3).take 2)\/1440<60*valL ((l.drop 0).take 2)+valL ((l.drop 3).take 2) then bad 3 else⟨4,60*valL ((l.drop 0).take 2)+valL ((l.drop 3).take 2),[],5,0⟩
theorem my {l m:List UInt8}(h:jq l m=true)(a n:Nat)(ha:a+n<=m.length)(c: ∀i,i<n->(m.getD (a+i) 0).toNat=48):
  ((l.drop a).take n).length=n/\ ∀i,i<((l.drop a).take n).length->isD (((l.drop a).take n).getD i 0)=true:=by
 obtain⟨d,b⟩:=qf h;have e:((l.drop a).take n).length=n:=by simp;omega
 refine⟨e,fun i hi=> ?_⟩;rw[e]at hi;have:=b (a+i) (by omega);unfold okB at this;rw[aD (c i hi)]at this;rw[dJ]at this⊢;rw[js,aD hi,List.getElem?_drop];exact this
def eQ:Bool->List UInt8->Nat
 |_,[]=>0
 |true,c::l=>if c.toNat=10 then eQ false l+1 else eQ true l+1
 |false,c::l=>if c.toNat=32\/c.toNat=9\/c.toNat=10 then eQ false l+1 else if c.toNat=35 then eQ true l+1 else 0
theorem od: ∀(b:Bool) (l:List UInt8),eQ b l<=l.length
 |true,[]=>by simp[eQ]
 |false,[]=>by simp[eQ]
 |true,c::l=>by
  have a:=od true l;have d:=od false l;simp only[eQ,bJ];split<;>omega
 |false,c::l=>by
  have a:=od true l;have d:=od false l;simp only[eQ,bJ];split
  ·omega
  ·split<;>omega
def yw (c:UInt8):Bool:=decide (c.toNat≠10)
def remL (l:List UInt8):Nat:=gO yw l
theorem A4: ∀(l:List UInt8),eQ true l=remL l+eQ false (l.drop (remL l))
 |[]=>by simp[remL,gO,eQ]
 |c::l=>by
  by_cases h:c.toNat=10
  ·simp[remL,gO,yw,eQ,h]
  ·have a:=A4 l;have e:remL (c::l)=remL l+1:=(by simp[remL,gO,yw,h]);rw[e];simp only[eQ,h,if_false,List.drop_succ_cons];omega
theorem Ga (l:List UInt8)(b:0<l.length)(d:(l.getD 0 0).toNat=35):eQ false l=remL l+eQ false (l.drop (remL l))/\1<=remL l:=by
 match l,b with
 |c::r,_=>
  have a:c.toNat=35:=(by simpa using d);have e:remL (c::r)=remL r+1:=(by simp[remL,gO,yw,a]);have:=A4 r;rw[e];refine⟨?_,by omega⟩;simp only[eQ,a,List.drop_succ_cons];simp;omega
theorem Eo (l:List UInt8)(b:0<l.length)(d:(l.getD 0 0).toNat=32\/(l.getD 0 0).toNat=9\/(l.getD 0 0).toNat=10):eQ false l=1+eQ false (l.drop 1):=by
 match l,b with
 |c::r,_=>
  have a:c.toNat=32\/c.toNat=9\/c.toNat=10:=(by simpa using d);simp only[eQ,aD a,List.drop_succ_cons,List.drop_zero];omega
theorem Gb (l:List UInt8)(a:0<l.length-> ¬((l.getD 0 0).toNat=32\/(l.getD 0 0).toNat=9\/(l.getD 0 0).toNat=10)/\(l.getD 0 0).toNat≠35):eQ false l=0:=by
 match l with
 |[]=>rfl
 |c::r=>
  have:=a (by simp);simp only[List.getD_cons_zero]at this;simp only[eQ,ax this.1,ax this.2]
theorem zj: ∀l:List UInt8,Go.Lib.indexByte l 10=if remL l<l.length then(remL l:Int) else-1
 |[]=>by simp[Go.Lib.indexByte,remL,gO]
 |c::l=>by
  have f:=zj l;by_cases h:c.toNat=10
  ·have e:c=10:=(by apply UInt8.toNat_inj.1;simpa using h);subst e;simp[Go.Lib.indexByte,remL,gO,yw]
  ·have b:(c==10)=false:=by
    rw[bj];intro e;subst e;simp at h
   have e:remL (c::l)=remL l+1:=(by simp[remL,gO,yw,h]);have d:remL l<=l.length:=lL _ l;unfold Go.Lib.indexByte;rw[b,f,e];by_cases a:remL l<l.length
   ·have g:((remL l:Int)== -1)=false:=(by simp);rw[aD a,g];simp[a]
   ·rw[ax a];simp[a]
structure Ex where
 kind:Int
 a:Int
 b:Int
 name:List UInt8
 kids:List Ex
abbrev Tk:=T1×Nat
def ex0:Ex:=⟨0,0,0,[],[]⟩
abbrev Res:=Except (Int×Nat) (Ex×List Tk×Nat)
def atP (E:Nat):List Tk->Nat
 |[]=>E
 |p::_=>p.2
def textP:List Tk->List UInt8
 |[]=>[]
 |p::_=>p.1.text
def kindP:List Tk->Int
 |[]=>0
 |p::_=>p.1.kind
def numP:List Tk->Int
 |[]=>0
 |p::_=>p.1.n
def isT (x:List UInt8)(r:List Tk):Bool:=textP r==x
def dm (x:Res)(f:Ex->List Tk->Nat->Res):Res:=
 match x with
 | .error e=> .error e
 | .ok (e,r,n)=>f e r n
def dE (E:Nat)(e:Ex)(r:List Tk)(n:Nat):Res:=if 600<n+1 then .error (4,atP E r) else .ok (e,r,n+1)
def dY (E:Nat)(err:Int)(r:List Tk):Res:= .error (err,atP E r)
def pI:List UInt8:=[43]
def gC:List UInt8:=[45]
def tm:List UInt8:=[38]
def kP:List UInt8:=[40]
def oM:List UInt8:=[41]
def oW:List UInt8:=[44]
def mT:List UInt8:=[58]
def sb:List UInt8:=[59]
def wIs:List UInt8:=[61]
def wTo:List UInt8:=[46,46]
def uw:List UInt8:=[114,117,108,101]
def jX:List UInt8:=[110,101,118,101,114]
def jz:List UInt8:=[97,108,119,97,121,115]
def jS:List UInt8:=[119,101,101,107,108,121]
def lz:List UInt8:=[100,97,116,101,115]
def mq:List UInt8:=[115,104,105,102,116]
def fy:List (List UInt8):=[[109,111,110],[116,117,101],[119,101,100],[116,104,117],[102,114,105],[115,97,116],[115,117,110]]
def dayBit (x:List UInt8):Nat:=
 if x=fy.getD 0 [] then 1 else if x=fy.getD 1 [] then 2 else if x=fy.getD 2 [] then 4 else if x=fy.getD 3 [] then 8
 else if x=fy.getD 4 [] then 16 else if x=fy.getD 5 [] then 32 else if x=fy.getD 6 [] then 64 else 0
def goP (E:Nat):Nat->Nat->Nat->Ex->List Tk->Nat->Res
 |0,_,_,_,r,_=>dY E 0 r
 |f+1,0,d,_,r,n=>dm (goP E f 2 d ex0 r n) fun e r n=>goP E f 1 d e r n
 |f+1,1,d,e,r,n=>
  if isT pI r then dm (goP E f 2 d ex0 r.tail n) fun t r n=>dm (dE E ⟨6,0,0,[],[e,t]⟩ r n) fun e r n=>goP E f 1 d e r n
  else if isT gC r then dm (goP E f 2 d ex0 r.tail n) fun t r n=>dm (dE E ⟨7,0,0,[],[e,t]⟩ r n) fun e r n=>goP E f 1 d e r n
  else .ok (e,r,n)
 |f+1,2,d,_,r,n=>dm (goP E f 4 d ex0 r n) fun e r n=>goP E f 3 d e r n
 |f+1,3,d,e,r,n=>
  if isT tm r then dm (goP E f 4 d ex0 r.tail n) fun t r n=>dm (dE E ⟨8,0,0,[],[e,t]⟩ r n) fun e r n=>goP E f 3 d e r n
  else .ok (e,r,n)
 |f+1,4,d,_,r,n=>dm (goP E f 6 d ex0 r n) fun e r n=>goP E f 5 d e r n
 |f+1,5,d,e,r,n=>
  if isT mq r then
   let m:=isT gC r.tail
   let q:=if m then r.tail.tail else r.tail
   if kindP q≠6 then dY E 2 q
   else if 1440<=numP q\/numP q<1 then dY E 3 q
   else dm (dE E ⟨9,if m then-numP q else numP q,0,[],[e]⟩ q.tail n) fun e r n=>goP E f 5 d e r n
  else .ok (e,r,n)
 |f+1,6,d,_,r,n=>
  if 40<d then dY E 4 r
  else if isT kP r then dm (goP E f 0 (d+1) ex0 r.tail n) fun e r n=>if isT oM r then .ok (e,r.tail,n) else dY E 2 r
  else if isT jX r then dE E ⟨1,0,0,[],[]⟩ r.tail n
  else if isT jz r then dE E ⟨2,0,0,[],[]⟩ r.tail n
  else if isT jS r then goP E f 7 d ex0 r.tail n
  else if isT lz r then
   let q:=r.tail
   if kindP q≠5 then dY E 2 q
   else if isT wTo q.tail then
    let p:=q.tail.tail
    if kindP p≠5 then dY E 2 p
    else if numP p<numP q then dY E 3 p
    else goP E f 8 d ⟨5,numP q,numP p,[],[]⟩ p.tail n
   else goP E f 8 d ⟨5,numP q,numP q,[],[]⟩ q.tail n
  else if kindP r=1 then dE E ⟨10,0,0,textP r,[]⟩ r.tail n
  else if kindP r≠4 then dY E 2 r
  else if isT gC r.tail then
   let q:=r.tail.tail
   if kindP q≠4 then dY E 2 q
   else if numP q<numP r+1 then dY E 3 q
   else dE E ⟨3,numP r,numP q,[],[]⟩ q.tail n
  else dY E 2 r.tail
 |f+1,7,d,e,r,n=>
  if dayBit (textP r)=0 then dY E 2 r
  else if isT oW r.tail then goP E f 7 d ⟨0,((e.a.toNat|||dayBit (textP r):Nat):Int),0,[],[]⟩ r.tail.tail n
  else goP E f 8 d ⟨4,((e.a.toNat|||dayBit (textP r):Nat):Int),0,[],[]⟩ r.tail n
 |f+1,_,d,e,r,n=>
  if isT mT r then dm (goP E f 4 (d+1) ex0 r.tail n) fun k r n=>dE E ⟨e.kind,e.a,e.b,[],[k]⟩ r n else dY E 2 r
theorem fp {x:List UInt8}{r:List Tk}(a:x≠[])(h:isT x r=true):1<=r.length:=by
 cases r with
 |nil=>simp[isT,textP]at h;exact absurd h (fun e=>a (by first|exact e|exact e.symm))
 |cons p r=>simp
theorem pJ {r:List Tk}(h:kindP r≠0):1<=r.length:=by
 cases r with
 |nil=>simp[kindP]at h
 |cons p r=>simp
theorem oN {r:List Tk}(h:dayBit (textP r)≠0):1<=r.length:=by
 cases r with
 |nil=>exact absurd (by decide) h
 |cons p r=>simp
def gd (m:Nat):Nat:=if m=1\/m=3\/m=5 then 0 else 1
theorem dz {x:Res}{f:Ex->List Tk->Nat->Res}{z:Ex×List Tk×Nat}(h:dm x f= .ok z): ∃e r n,x= .ok (e,r,n)/\f e r n= .ok z:=by
 match x with
 | .error _=>cases h
 | .ok (e,r,n)=>exact⟨e,r,n,rfl,h⟩
theorem dM {E:Nat}{e:Ex}{r:List Tk}{n:Nat}{z:Ex×List Tk×Nat}(h:dE E e r n= .ok z):z=(e,r,n+1):=by
 unfold dE at h;split at h
 ·cases h
 ·cases h;rfl
theorem dG {E:Nat}{err:Int}{r:List Tk}{z:Ex×List Tk×Nat}(h:dY E err r= .ok z):False:=by
 unfold dY at h;cases h
theorem ux (E f d:Nat)(e:Ex)(r:List Tk)(n:Nat):goP E (f+1) 0 d e r n=dm (goP E f 2 d ex0 r n) fun e r n=>goP E f 1 d e r n:=rfl
theorem uy (E f d:Nat)(e:Ex)(r:List Tk)(n:Nat):goP E (f+1) 1 d e r n=if isT pI r then dm (goP E f 2 d ex0 r.tail n) fun t r n=>dm (dE E ⟨6,0,0,[],[e,t]⟩ r n) fun e r n=>goP E f 1 d e r n
 else if isT gC r then dm (goP E f 2 d ex0 r.tail n) fun t r n=>dm (dE E ⟨7,0,0,[],[e,t]⟩ r n) fun e r n=>goP E f 1 d e r n
 else .ok (e,r,n):=rfl
theorem uz (E f d:Nat)(e:Ex)(r:List Tk)(n:Nat):goP E (f+1) 2 d e r n=dm (goP E f 4 d ex0 r n) fun e r n=>goP E f 3 d e r n:=rfl
theorem uA (E f d:Nat)(e:Ex)(r:List Tk)(n:Nat):goP E (f+1) 3 d e r n=if isT tm r then dm (goP E f 4 d ex0 r.tail n) fun t r n=>dm (dE E ⟨8,0,0,[],[e,t]⟩ r n) fun e r n=>goP E f 3 d e r n
 else .ok (e,r,n):=rfl
theorem uB (E f d:Nat)(e:Ex)(r:List Tk)(n:Nat):goP E (f+1) 4 d e r n=dm (goP E f 6 d ex0 r n) fun e r n=>goP E f 5 d e r n:=rfl
def fH (r:List Tk):List Tk:=if isT gC r.tail then r.tail.tail else r.tail
theorem uC (E f d:Nat)(e:Ex)(r:List Tk)(n:Nat):goP E (f+1) 5 d e r n=if isT mq r then
  if kindP (fH r)≠6 then dY E 2 (fH r)
  else if 1440<=numP (fH r)\/numP (fH r)<1 then dY E 3 (fH r)
  else dm (dE E ⟨9,if isT gC r.tail then-numP (fH r) else numP (fH r),0,[],[e]⟩ (fH r).tail n) fun e r n=>goP E f 5 d e r n
 else .ok (e,r,n):=rfl
theorem uD (E f d:Nat)(e:Ex)(r:List Tk)(n:Nat):goP E (f+1) 6 d e r n=
 if 40<d then dY E 4 r
 else if isT kP r then dm (goP E f 0 (d+1) ex0 r.tail n) fun e r n=>if isT oM r then .ok (e,r.tail,n) else dY E 2 r
 else if isT jX r then dE E ⟨1,0,0,[],[]⟩ r.tail n
 else if isT jz r then dE E ⟨2,0,0,[],[]⟩ r.tail n
 else if isT jS r then goP E f 7 d ex0 r.tail n
 else if isT lz r then
  if kindP r.tail≠5 then dY E 2 r.tail
  else if isT wTo r.tail.tail then
   if kindP r.tail.tail.tail≠5 then dY E 2 r.tail.tail.tail
   else if numP r.tail.tail.tail<numP r.tail then dY E 3 r.tail.tail.tail
   else goP E f 8 d ⟨5,numP r.tail,numP r.tail.tail.tail,[],[]⟩ r.tail.tail.tail.tail n
  else goP E f 8 d ⟨5,numP r.tail,numP r.tail,[],[]⟩ r.tail.tail n
 else if kindP r=1 then dE E ⟨10,0,0,textP r,[]⟩ r.tail n
 else if kindP r≠4 then dY E 2 r
 else if isT gC r.tail then
  if kindP r.tail.tail≠4 then dY E 2 r.tail.tail
  else if numP r.tail.tail<numP r+1 then dY E 3 r.tail.tail
  else dE E ⟨3,numP r,numP r.tail.tail,[],[]⟩ r.tail.tail.tail n
 else dY E 2 r.tail:=rfl
theorem uE (E f d:Nat)(e:Ex)(r:List Tk)(n:Nat):goP E (f+1) 7 d e r n=
 if dayBit (textP r)=0 then dY E 2 r
 else if isT oW r.tail then goP E f 7 d ⟨0,((e.a.toNat|||dayBit (textP r):Nat):Int),0,[],[]⟩ r.tail.tail n
 else goP E f 8 d ⟨4,((e.a.toNat|||dayBit (textP r):Nat):Int),0,[],[]⟩ r.tail n:=rfl
theorem uF (E f d:Nat)(e:Ex)(r:List Tk)(n:Nat):goP E (f+1) 8 d e r n=
 if isT mT r then dm (goP E f 4 (d+1) ex0 r.tail n) fun k r n=>dE E ⟨e.kind,e.a,e.b,[],[k]⟩ r n else dY E 2 r:=rfl
theorem I7 (r:List Tk):r.tail.length=r.length-1:=by simp
theorem rt (r:List Tk):(fH r).length<=r.length-1:=by
 unfold fH;split<;>simp only[I7]<;>omega
theorem yx (E:Nat): ∀(f m d:Nat) (e:Ex) (r:List Tk) (n:Nat) (w:Ex) (q:List Tk) (x:Nat),m<=8->goP E f m d e r n= .ok (w,q,x)->q.length+gd m<=r.length
 |0,m,d,e,r,n,w,q,x,_,h=>(dG h).elim
 |f+1,m,d,e,r,n,w,q,x,D,h=>by
  have g:=yx E f;match m,D with
  |0,_=>
   rw[ux]at h;obtain⟨k,r1,p,j,i⟩:=dz h;have a:=g 2 _ _ _ _ _ _ _ (by omega) j;have b:=g 1 _ _ _ _ _ _ _ (by omega) i;simp[gd]at*;omega
  |1,_=>
   rw[uy]at h;split at h
   ·obtain⟨k,r1,p,j,i⟩:=dz h;obtain⟨e2,z,y,l,o⟩:=dz i;have c:=dM l;cases c;have a:=g 2 _ _ _ _ _ _ _ (by omega) j;have b:=g 1 _ _ _ _ _ _ _ (by omega) o;simp[gd]at*;omega
   ·split at h
    ·obtain⟨k,r1,p,j,i⟩:=dz h;obtain⟨e2,z,y,l,o⟩:=dz i;have c:=dM l;cases c;have a:=g 2 _ _ _ _ _ _ _ (by omega) j;have b:=g 1 _ _ _ _ _ _ _ (by omega) o;simp[gd]at*;omega
    ·cases h;simp[gd]
  |2,_=>
   rw[uz]at h;obtain⟨k,r1,p,j,i⟩:=dz h;have a:=g 4 _ _ _ _ _ _ _ (by omega) j;have b:=g 3 _ _ _ _ _ _ _ (by omega) i;simp[gd]at*;omega
  |3,_=>
   rw[uA]at h;split at h
   ·obtain⟨k,r1,p,j,i⟩:=dz h;obtain⟨e2,z,y,l,o⟩:=dz i;have c:=dM l;cases c;have a:=g 4 _ _ _ _ _ _ _ (by omega) j;have b:=g 3 _ _ _ _ _ _ _ (by omega) o;simp[gd]at*;omega
   ·cases h;simp[gd]
  |4,_=>
   rw[uB]at h;obtain⟨k,r1,p,j,i⟩:=dz h;have a:=g 6 _ _ _ _ _ _ _ (by omega) j;have b:=g 5 _ _ _ _ _ _ _ (by omega) i;simp[gd]at*;omega
  |5,_=>
   rw[uC]at h;have G:=rt r;split at h
   ·split at h
    ·exact(dG h).elim
    ·split at h
     ·exact(dG h).elim
     ·obtain⟨e2,z,y,l,o⟩:=dz h;have c:=dM l;cases c;have b:=g 5 _ _ _ _ _ _ _ (by omega) o;simp[gd]at*;omega
   ·cases h;simp[gd]
  |6,_=>
   rw[uD]at h;by_cases c0:40<d
   ·rw[aD c0]at h;exact(dG h).elim
   rw[ax c0]at h;by_cases c1:isT kP r=true
   ·rw[aD c1]at h;have:=fp (by decide) c1;obtain⟨k,r1,p,j,i⟩:=dz h;have a:=g 0 _ _ _ _ _ _ _ (by omega) j;split at i
    ·cases i;simp[gd]at*;omega
    ·exact(dG i).elim
   rw[ax c1]at h;by_cases s:isT jX r=true
   ·rw[aD s]at h;have:=fp (by decide) s;cases dM h;simp[gd]at*;omega
   rw[ax s]at h;by_cases t:isT jz r=true
   ·rw[aD t]at h;have:=fp (by decide) t;cases dM h;simp[gd]at*;omega
   rw[ax t]at h;by_cases u:isT jS r=true
   ·rw[aD u]at h;have:=fp (by decide) u;have a:=g 7 _ _ _ _ _ _ _ (by omega) h;simp[gd]at*;omega
   rw[ax u]at h;by_cases v:isT lz r=true
   ·rw[aD v]at h;have:=fp (by decide) v;split at h
    ·exact(dG h).elim
    split at h
    ·split at h
     ·exact(dG h).elim
     split at h
     ·exact(dG h).elim
     have a:=g 8 _ _ _ _ _ _ _ (by omega) h;simp[gd]at*;omega
    ·have a:=g 8 _ _ _ _ _ _ _ (by omega) h;simp[gd]at*;omega
   rw[ax v]at h;by_cases A:kindP r=1
   ·rw[aD A]at h;have:=pJ (r:=r) (by omega);cases dM h;simp[gd]at*;omega
   rw[ax A]at h;by_cases B:kindP r≠4
   ·rw[aD B]at h;exact(dG h).elim
   rw[ax B]at h;have:=pJ (r:=r) (by omega);split at h
   ·split at h
    ·exact(dG h).elim
    split at h
    ·exact(dG h).elim
    cases dM h;simp[gd]at*;omega
   ·exact(dG h).elim
  |7,_=>
   rw[uE]at h;split at h
   ·exact(dG h).elim
   ·rename_i C;have:=oN C;split at h
    ·have a:=g 7 _ _ _ _ _ _ _ (by omega) h;simp[gd]at*;omega
    ·have a:=g 8 _ _ _ _ _ _ _ (by omega) h;simp[gd]at*;omega
  |8,_=>
   rw[uF]at h;split at h
   ·rename_i F;have:=fp (by decide) F;obtain⟨k,r1,p,j,i⟩:=dz h;cases dM i;have a:=g 4 _ _ _ _ _ _ _ (by omega) j;simp[gd]at*;omega
   ·exact(dG h).elim
theorem dO {x y:Res}{f g:Ex->List Tk->Nat->Res}(h:x=y)(a: ∀e r n,y= .ok (e,r,n)->f e r n=g e r n):dm x f=dm y g:=by
 subst h;match x with
 | .error _=>rfl
 | .ok (e,r,n)=>exact a e r n rfl
def fc (m:Nat):Nat:=if m=0 then 4 else if m=2 then 3 else if m=4 then 2 else 1
def eR (m:Nat)(r:List Tk):Nat:=4*r.length+fc m
theorem A5 (E:Nat): ∀(f m d:Nat) (e:Ex) (r:List Tk) (n:Nat),m<=8->eR m r<=f->goP E (f+1) m d e r n=goP E f m d e r n
 |0,m,d,e,r,n,_,h=>by
  unfold eR fc at h;exfalso;split at h
  ·omega
  split at h
  ·omega
  split at h<;>omega
 |f+1,m,d,e,r,n,v,h=>by
  have b:=A5 E f;have len:=yx E f;unfold eR at h b;match m,v with
  |0,_=>
   rw[ux,ux];refine dO (b 2 _ _ _ _ (by omega) (by simp[fc]at*;omega)) fun i r1 k c=> ?_;have a:=len 2 _ _ _ _ _ _ _ (by omega) c;exact b 1 _ _ _ _ (by omega) (by simp[fc,gd]at*;omega)
  |1,_=>
   rw[uy,uy];split
   ·rename_i g;have:=fp (by decide) g;refine dO (b 2 _ _ _ _ (by omega) (by simp[fc]at*;omega)) fun i r1 k c=> ?_;have a:=len 2 _ _ _ _ _ _ _ (by omega) c;refine dO rfl fun e2 t s j=> ?_;cases dM j;exact b 1 _ _ _ _ (by omega) (by simp[fc,gd]at*;omega)
   ·split
    ·rename_i g;have:=fp (by decide) g;refine dO (b 2 _ _ _ _ (by omega) (by simp[fc]at*;omega)) fun i r1 k c=> ?_;have a:=len 2 _ _ _ _ _ _ _ (by omega) c;refine dO rfl fun e2 t s j=> ?_;cases dM j;exact b 1 _ _ _ _ (by omega) (by simp[fc,gd]at*;omega)
    ·rfl
  |2,_=>
   rw[uz,uz];refine dO (b 4 _ _ _ _ (by omega) (by simp[fc]at*;omega)) fun i r1 k c=> ?_;have a:=len 4 _ _ _ _ _ _ _ (by omega) c;exact b 3 _ _ _ _ (by omega) (by simp[fc,gd]at*;omega)
  |3,_=>
   rw[uA,uA];split
   ·rename_i g;have:=fp (by decide) g;refine dO (b 4 _ _ _ _ (by omega) (by simp[fc]at*;omega)) fun i r1 k c=> ?_;have a:=len 4 _ _ _ _ _ _ _ (by omega) c;refine dO rfl fun e2 t s j=> ?_;cases dM j;exact b 3 _ _ _ _ (by omega) (by simp[fc,gd]at*;omega)
   ·rfl
  |4,_=>
   rw[uB,uB];refine dO (b 6 _ _ _ _ (by omega) (by simp[fc]at*;omega)) fun i r1 k c=> ?_;have a:=len 6 _ _ _ _ _ _ _ (by omega) c;exact b 5 _ _ _ _ (by omega) (by simp[fc,gd]at*;omega)
  |5,_=>
   rw[uC,uC];have w:=rt r;split
   ·rename_i g;have:=fp (by decide) g;split
    ·rfl
    split
    ·rfl
    refine dO rfl fun e2 t s j=> ?_;cases dM j;exact b 5 _ _ _ _ (by omega) (by simp[fc]at*;omega)
   ·rfl
  |6,_=>
   rw[uD E (f+1),uD E f];by_cases c0:40<d
   ·rw[aD c0,aD c0]
   rw[ax c0,ax c0];by_cases c1:isT kP r=true
   ·rw[aD c1,aD c1];have:=fp (by decide) c1;exact dO (b 0 _ _ _ _ (by omega) (by simp[fc]at*;omega)) fun i r1 k c=>rfl
   rw[ax c1,ax c1];by_cases p:isT jX r=true
   ·rw[aD p,aD p]
   rw[ax p,ax p];by_cases q:isT jz r=true
   ·rw[aD q,aD q]
   rw[ax q,ax q];by_cases l:isT jS r=true
   ·rw[aD l,aD l];have:=fp (by decide) l;exact b 7 _ _ _ _ (by omega) (by simp[fc]at*;omega)
   rw[ax l,ax l];by_cases o:isT lz r=true
   ·rw[aD o,aD o];have:=fp (by decide) o;rw[b 8 d ⟨5,numP r.tail,numP r.tail.tail.tail,[],[]⟩ r.tail.tail.tail.tail n (by omega) (by simp[fc]at*;omega),b 8 d ⟨5,numP r.tail,numP r.tail,[],[]⟩ r.tail.tail n (by omega) (by simp[fc]at*;omega)]
   rw[ax o,ax o]
  |7,_=>
   rw[uE E (f+1) d e r n,uE E f d e r n];split
   ·rfl
   ·rename_i u;have:=oN u;split
    ·exact b 7 _ _ _ _ (by omega) (by simp[fc]at*;omega)
    ·exact b 8 _ _ _ _ (by omega) (by simp[fc]at*;omega)
  |8,_=>
   rw[uF,uF];split
   ·rename_i g;have:=fp (by decide) g;exact dO (b 4 _ _ _ _ (by omega) (by simp[fc]at*;omega)) fun i r1 k c=>rfl
   ·rfl
def rd (E m d:Nat)(e:Ex)(r:List Tk)(n:Nat):Res:=goP E (eR m r) m d e r n
theorem iG (E m d:Nat)(e:Ex)(r:List Tk)(n:Nat)(a:m<=8): ∀f,eR m r<=f->goP E f m d e r n=rd E m d e r n
 |f,h=>by
  obtain⟨k,rfl⟩: ∃k,f=eR m r+k:=⟨f-eR m r,by omega⟩
  clear h;induction k with
  |zero=>rfl
  |succ k b=>rw[<-Nat.add_assoc,A5 E _ m d e r n a (by omega)];exact b
theorem lM {E m d:Nat}{e:Ex}{r:List Tk}{n:Nat}{b:Ex}{a:List Tk}{c:Nat}(f:m<=8)(h:rd E m d e r n= .ok (b,a,c)):a.length+gd m<=r.length:=yx E _ m d e r n b a c f h
theorem Pd (E d:Nat)(e:Ex)(r:List Tk)(n:Nat):rd E 0 d e r n=dm (rd E 2 d ex0 r n) fun e r n=>rd E 1 d e r n:=by
 have h:eR 0 r=4*r.length+3+1:=by simp[eR,fc]
 show goP E (eR 0 r) 0 d e r n=_;rw[h,ux];refine dO (iG E 2 d ex0 r n (by omega) _ (by simp[eR,fc])) fun b r1 f c=> ?_;have a:=lM (by omega) c;exact iG E 1 d b r1 f (by omega) _ (by simp[eR,fc,gd]at*;omega)
theorem Pe (E d:Nat)(e:Ex)(r:List Tk)(n:Nat):rd E 2 d e r n=dm (rd E 4 d ex0 r n) fun e r n=>rd E 3 d e r n:=by
 have h:eR 2 r=4*r.length+2+1:=by simp[eR,fc]
 show goP E (eR 2 r) 2 d e r n=_;rw[h,uz];refine dO (iG E 4 d ex0 r n (by omega) _ (by simp[eR,fc])) fun b r1 f c=> ?_;have a:=lM (by omega) c;exact iG E 3 d b r1 f (by omega) _ (by simp[eR,fc,gd]at*;omega)
theorem Pf (E d:Nat)(e:Ex)(r:List Tk)(n:Nat):rd E 4 d e r n=dm (rd E 6 d ex0 r n) fun e r n=>rd E 5 d e r n:=by
 have h:eR 4 r=4*r.length+1+1:=by simp[eR,fc]
 show goP E (eR 4 r) 4 d e r n=_;rw[h,uB];refine dO (iG E 6 d ex0 r n (by omega) _ (by simp[eR,fc])) fun b r1 f c=> ?_;have a:=lM (by omega) c;exact iG E 5 d b r1 f (by omega) _ (by simp[eR,fc,gd]at*;omega)
theorem I8 (E d:Nat)(e:Ex)(r:List Tk)(n:Nat):rd E 1 d e r n=
  if isT pI r then dm (rd E 2 d ex0 r.tail n) fun t r n=>dm (dE E ⟨6,0,0,[],[e,t]⟩ r n) fun e r n=>rd E 1 d e r n
  else if isT gC r then dm (rd E 2 d ex0 r.tail n) fun t r n=>dm (dE E ⟨7,0,0,[],[e,t]⟩ r n) fun e r n=>rd E 1 d e r n
  else .ok (e,r,n):=by
 have h:eR 1 r=4*r.length+1:=by simp[eR,fc]
 show goP E (eR 1 r) 1 d e r n=_;rw[h,uy];by_cases c1:isT pI r=true
 ·rw[aD c1,aD c1];have:=fp (by decide) c1;refine dO (iG E 2 d ex0 r.tail n (by omega) _ (by simp[eR,fc];omega)) fun g r1 i c=> ?_;have a:=lM (by omega) c;refine dO rfl fun e2 k j f=> ?_;cases dM f;exact iG E 1 d _ _ _ (by omega) _ (by simp[eR,fc,gd]at*;omega)
 ·rw[ax c1,ax c1];by_cases b:isT gC r=true
  ·rw[aD b,aD b];have:=fp (by decide) b;refine dO (iG E 2 d ex0 r.tail n (by omega) _ (by simp[eR,fc];omega)) fun g r1 i c=> ?_;have a:=lM (by omega) c;refine dO rfl fun e2 k j f=> ?_;cases dM f;exact iG E 1 d _ _ _ (by omega) _ (by simp[eR,fc,gd]at*;omega)
  ·rw[ax b,ax b]
theorem M6 (E d:Nat)(e:Ex)(r:List Tk)(n:Nat):rd E 3 d e r n=
  if isT tm r then dm (rd E 4 d ex0 r.tail n) fun t r n=>dm (dE E ⟨8,0,0,[],[e,t]⟩ r n) fun e r n=>rd E 3 d e r n
  else .ok (e,r,n):=by
 have h:eR 3 r=4*r.length+1:=by simp[eR,fc]
 show goP E (eR 3 r) 3 d e r n=_;rw[h,uA];by_cases c1:isT tm r=true
 ·rw[aD c1,aD c1];have:=fp (by decide) c1;refine dO (iG E 4 d ex0 r.tail n (by omega) _ (by simp[eR,fc];omega)) fun f r1 g b=> ?_;have a:=lM (by omega) b;refine dO rfl fun e2 j i c=> ?_;cases dM c;exact iG E 3 d _ _ _ (by omega) _ (by simp[eR,fc,gd]at*;omega)
 ·rw[ax c1,ax c1]
theorem M7 (E d:Nat)(e:Ex)(r:List Tk)(n:Nat):rd E 5 d e r n=if isT mq r then
   if kindP (fH r)≠6 then dY E 2 (fH r)
   else if 1440<=numP (fH r)\/numP (fH r)<1 then dY E 3 (fH r)
   else dm (dE E ⟨9,if isT gC r.tail then-numP (fH r) else numP (fH r),0,[],[e]⟩ (fH r).tail n) fun e r n=>rd E 5 d e r n
  else .ok (e,r,n):=by
 have h:eR 5 r=4*r.length+1:=by simp[eR,fc]
 show goP E (eR 5 r) 5 d e r n=_;rw[h,uC];have f:=rt r;by_cases c1:isT mq r=true
 ·rw[aD c1,aD c1];have:=fp (by decide) c1;by_cases a:kindP (fH r)≠6
  ·rw[aD a,aD a]
  rw[ax a,ax a];by_cases b:1440<=numP (fH r)\/numP (fH r)<1
  ·rw[aD b,aD b]
  rw[ax b,ax b];refine dO rfl fun e2 i g c=> ?_;cases dM c;exact iG E 5 d _ _ _ (by omega) _ (by simp[eR,fc]at*;omega)
 ·rw[ax c1,ax c1]
theorem M8 (E d:Nat)(e:Ex)(r:List Tk)(n:Nat):rd E 6 d e r n=
  if 40<d then dY E 4 r
  else if isT kP r then dm (rd E 0 (d+1) ex0 r.tail n) fun e r n=>if isT oM r then .ok (e,r.tail,n) else dY E 2 r
  else if isT jX r then dE E ⟨1,0,0,[],[]⟩ r.tail n
  else if isT jz r then dE E ⟨2,0,0,[],[]⟩ r.tail n
  else if isT jS r then rd E 7 d ex0 r.tail n
  else if isT lz r then
   if kindP r.tail≠5 then dY E 2 r.tail
   else if isT wTo r.tail.tail then
    if kindP r.tail.tail.tail≠5 then dY E 2 r.tail.tail.tail
    else if numP r.tail.tail.tail<numP r.tail then dY E 3 r.tail.tail.tail
    else rd E 8 d ⟨5,numP r.tail,numP r.tail.tail.tail,[],[]⟩ r.tail.tail.tail.tail n
   else rd E 8 d ⟨5,numP r.tail,numP r.tail,[],[]⟩ r.tail.tail n
  else if kindP r=1 then dE E ⟨10,0,0,textP r,[]⟩ r.tail n
  else if kindP r≠4 then dY E 2 r
  else if isT gC r.tail then
   if kindP r.tail.tail≠4 then dY E 2 r.tail.tail
   else if numP r.tail.tail<numP r+1 then dY E 3 r.tail.tail
   else dE E ⟨3,numP r,numP r.tail.tail,[],[]⟩ r.tail.tail.tail n
  else dY E 2 r.tail:=by
 have h:eR 6 r=4*r.length+1:=by simp[eR,fc]
 show goP E (eR 6 r) 6 d e r n=_;rw[h,uD];by_cases c0:40<d
 ·rw[aD c0,aD c0]
 rw[ax c0,ax c0];by_cases c1:isT kP r=true
 ·rw[aD c1,aD c1];have:=fp (by decide) c1;exact dO (iG E 0 _ _ _ _ (by omega) _ (by simp[eR,fc]at*;omega)) fun g r1 j i=>rfl
 rw[ax c1,ax c1];by_cases c:isT jX r=true
 ·rw[aD c,aD c]
 rw[ax c,ax c];by_cases f:isT jz r=true
 ·rw[aD f,aD f]
 rw[ax f,ax f];by_cases a:isT jS r=true
 ·rw[aD a,aD a];have:=fp (by decide) a;exact iG E 7 _ _ _ _ (by omega) _ (by simp[eR,fc]at*;omega)
 rw[ax a,ax a];by_cases b:isT lz r=true
 ·rw[aD b,aD b];have:=fp (by decide) b;rw[iG E 8 d ⟨5,numP r.tail,numP r.tail.tail.tail,[],[]⟩ r.tail.tail.tail.tail n (by omega) _ (by simp[eR,fc]at*;omega),iG E 8 d ⟨5,numP r.tail,numP r.tail,[],[]⟩ r.tail.tail n (by omega) _ (by simp[eR,fc]at*;omega)]
 rw[ax b,ax b]
theorem M9 (E d:Nat)(e:Ex)(r:List Tk)(n:Nat):rd E 7 d e r n=
  if dayBit (textP r)=0 then dY E 2 r
  else if isT oW r.tail then rd E 7 d ⟨0,((e.a.toNat|||dayBit (textP r):Nat):Int),0,[],[]⟩ r.tail.tail n
  else rd E 8 d ⟨4,((e.a.toNat|||dayBit (textP r):Nat):Int),0,[],[]⟩ r.tail n:=by
 have h:eR 7 r=4*r.length+1:=by simp[eR,fc]
 show goP E (eR 7 r) 7 d e r n=_;rw[h,uE];by_cases c1:dayBit (textP r)=0
 ·rw[aD c1,aD c1]
 rw[ax c1,ax c1];have:=oN c1;rw[iG E 7 d _ r.tail.tail n (by omega) _ (by simp[eR,fc]at*;omega),iG E 8 d _ r.tail n (by omega) _ (by simp[eR,fc]at*;omega)]
theorem Pg (E d:Nat)(e:Ex)(r:List Tk)(n:Nat):rd E 8 d e r n=
  if isT mT r then dm (rd E 4 (d+1) ex0 r.tail n) fun k r n=>dE E ⟨e.kind,e.a,e.b,[],[k]⟩ r n else dY E 2 r:=by
 have h:eR 8 r=4*r.length+1:=by simp[eR,fc]
 show goP E (eR 8 r) 8 d e r n=_;rw[h,uF];by_cases c1:isT mT r=true
 ·rw[aD c1,aD c1];have:=fp (by decide) c1;exact dO (iG E 4 _ _ _ _ (by omega) _ (by simp[eR,fc]at*;omega)) fun c r1 g f=>rfl
 ·rw[ax c1,ax c1]
end Lx
theorem lN (c:UInt8)(w:World):Calls prog 111 #[.int .u8 (c.toNat:Int)] w fun e w'=>e= .returned (.bool (isD c))/\w'=w:=by
 unfold isD;by_cases a:48<=c.toNat
 ·by_cases b:c.toNat<=57
  ·have d:(48:Int)<=(c.toNat:Int):=(by omega);have f:(c.toNat:Int)<=57:=(by omega);rw[bm a,bm b];go_enter func111,ntmps111;go_wp2;go_ret;exact⟨rfl,rfl⟩
  ·have d:(48:Int)<=(c.toNat:Int):=(by omega);have f: ¬(c.toNat:Int)<=57:=(by omega);rw[bm a,bn b];go_enter func111,ntmps111;go_wp2;go_ret;exact⟨rfl,rfl⟩
 ·have d: ¬(48:Int)<=(c.toNat:Int):=by omega
  rw[bn a];go_enter func111,ntmps111;go_wp2;go_ret;exact⟨rfl,rfl⟩
theorem wP (c:UInt8)(w:World):Calls prog 113 #[.int .u8 (c.toNat:Int)] w fun e w'=>e= .returned (.bool (isL c))/\w'=w:=by
 unfold isL;by_cases a:97<=c.toNat
 ·by_cases b:c.toNat<=122
  ·have d:(97:Int)<=(c.toNat:Int):=(by omega);have f:(c.toNat:Int)<=122:=(by omega);rw[bm a,bm b];go_enter func113,ntmps113;go_wp2;go_ret;exact⟨rfl,rfl⟩
  ·have d:(97:Int)<=(c.toNat:Int):=(by omega);have f: ¬(c.toNat:Int)<=122:=(by omega);rw[bm a,bn b];go_enter func113,ntmps113;go_wp2;go_ret;exact⟨rfl,rfl⟩
 ·have d: ¬(97:Int)<=(c.toNat:Int):=by omega
  rw[bn a];go_enter func113,ntmps113;go_wp2;go_ret;exact⟨rfl,rfl⟩
theorem lC {s:ByteArray}{l:List UInt8}(b:s.data.toList=l)(k:Nat)(a:k<s.size):s[k]=l.getD k 0:=by
 subst b;have h:k<s.data.size:=a;show s.data[k]=_;rw[dJ,bp,fP h];rfl
theorem Gc {a b:Int}(h:a=b):ag a=ag b:=by rw[h]
theorem mK (s:ByteArray)(l:List UInt8)(m:s.data.toList=l)(z:l.length<=6)(d: ∀i,i<l.length->isD (l.getD i 0)=true)(w:World):
  Calls prog 135 #[.string s] w fun e w'=>e= .returned (ag (valL l))/\w'=w:=by
 have A:s.size=l.length:=by rw[<-m,Lib.size_eq]
 go_enter func135,ntmps135;go_wp2;go_loop [3,7] (fun n i=> ∃k:Nat,k<=l.length/\i=ag k/\n=ag (valL (l.take k))) (fun _ i=>l.length-(intOf i).toNat);case atStart=>exact⟨0,by omega,rfl,rfl⟩
 case round=>
  obtain⟨k,y,rfl,rfl⟩:=hrel;by_cases b:k<l.length
  ·have j:(k:Int)<(l.length:Int):=(by omega);have u:(0:Int)<=(k:Int):=(by omega);have x:=pH l d k (by omega) (by omega);have a:=d k b;have g:=lC m k (by omega);have e2:=zi l k b;have q:PN (valL (l.take (k+1))=10*valL (l.take k)+(((l.getD k 0).toNat:Int)-48)):=e2;simp only[isD,bG,cg]at a;have r:PN (48<=(l.getD k 0).toNat/\(l.getD k 0).toNat<=57):=a;have p:PN (s[k]=l.getD k 0):=g;clear a g e2 d;go_wp2;go_round
   case rel=>
    refine⟨k+1,by omega,by go_num,Gc ?_⟩;have t:=r.o;rw[p.o,q.o];generalize (l.getD k 0).toNat=c at t;generalize valL (l.take k)=v at x;omega
   case measure=>simp[intOf];omega
  ·have f:k=l.length:=(by omega);subst f;have e:valL (l.take l.length)=valL l:=(by rw[gc]);go_wp2;go_ret;exact⟨rfl,rfl⟩
theorem A6 (s t:ByteArray)(l m:List UInt8)(G:s.data.toList=l)(H:t.data.toList=m)(Q:l.length<=9223372036854775807)(R:m.length<=100)(w:World):
  Calls prog 108 #[.string s,.string t] w fun e w'=>e= .returned (.bool (jq l m))/\aq w w':=by
 have T:s.size=l.length:=by rw[<-G,Lib.size_eq]
 have S:t.size=m.length:=by rw[<-H,Lib.size_eq]
 by_cases u:m.length<=l.length
 ·have v: ¬(l.length:Int)<(m.length:Int):=by omega
  go_enter func108,ntmps108;go_wp2;go_loopw [13] (fun i wr=> ∃k:Nat,k<=m.length/\i=ag k/\(∀i,i<k->okB (m.getD i 0) (l.getD i 0)=true)/\aq w wr) (fun i _=>m.length-(intOf i).toNat);case atStart=>exact⟨0,by omega,rfl,fun i h=>by omega,aI _ _⟩
  case round=>
   obtain⟨k,P,rfl,d,b⟩:=hrel;have z:PN (∀i,i<k->okB (m.getD i 0) (l.getD i 0)=true):=d;clear d;by_cases r:k<m.length
   ·have E:(k:Int)<(m.length:Int):=(by omega);have F:(k:Int)<(l.length:Int):=(by omega);have I:(0:Int)<=(k:Int):=(by omega);have p:=lC G k (by omega);have e2:=lC H k (by omega);have N: ∀h:k<s.size,s[k]=l.getD k 0:=fun _=>p;have O: ∀h:k<t.size,t[k]=m.getD k 0:=fun _=>e2;have a:okB (m.getD k 0) (l.getD k 0)=(if(m.getD k 0).toNat=48 then isD (l.getD k 0) else decide ((m.getD k 0).toNat=(l.getD k 0).toNat)):=rfl;generalize x:l.getD k 0=c at*;generalize y:m.getD k 0=f at*;by_cases j:f.toNat=48
    ·have J:(f.toNat:Int)=48:=(by omega);rw[aD j]at a;cases hd:isD c with
     |true=>
      rw[hd]at a;have g:PN (okB f c=true):=a;have n:=fun w=>lN c w;rw[hd]at n;clear a hd p e2;go_wp2;go_quiet ((go_at_call 111;exact fu (n _)));go_wp2;go_roundw
      case rel=>
       refine⟨k+1,by omega,by go_num,fun i hi=> ?_,dD b _⟩;by_cases e:i=k
       ·subst e;rw[x,y];exact g.o
       ·exact z.o i (by omega)
      case measure=>simp[intOf];omega
     |false=>
      rw[hd]at a;have g:PN (okB f c=false):=a;have n:=fun w=>lN c w;rw[hd]at n;clear a hd p e2;go_wp2;go_quiet ((go_at_call 111;exact fu (n _)));go_wp2;go_ret;exact⟨by rw[A3 k r (by rw[x,y];exact g.o)];rfl,dD b _⟩
    ·have C:((f.toNat:Int)==48)=false:=(by simp;omega);rw[ax j]at a;by_cases q:f.toNat=c.toNat
     ·have g:PN (okB f c=true):=(by rw[a];exact bm q);have L:((c.toNat:Int)==48)=false:=(by simp;omega);have D:((c.toNat:Int) !=48)=true:=(by simp;omega);have M:((c.toNat:Int) !=(c.toNat:Int))=false:=(by simp);clear a p e2 C j;go_wp2;go_quiet (fail);go_wp2;go_roundw
      case rel=>
       refine⟨k+1,by omega,by go_num,fun i hi=> ?_,dD b _⟩;by_cases e:i=k
       ·subst e;rw[x,y];exact g.o
       ·exact z.o i (by omega)
      case measure=>simp[intOf];omega
     ·have g:PN (okB f c=false):=(by rw[a];exact bn q);have D:((f.toNat:Int) !=48)=true:=(by simp;omega);have K:((f.toNat:Int) !=(c.toNat:Int))=true:=(by simp;omega);clear a p e2;go_wp2;go_quiet (fail);go_wp2;go_ret;exact⟨by rw[A3 k r (by rw[x,y];exact g.o)];rfl,dD b _⟩
   ·have A:PN (jq l m=true):=F9 u fun i hi=>z.o i (by omega);have B:k=m.length:=(by omega);subst B;go_wp2;go_ret;exact⟨by rw[A.o];rfl,b⟩
 ·have A:PN (jq l m=false):=CK u;have v:(l.length:Int)<(m.length:Int):=(by omega);go_enter func108,ntmps108;go_wp2;go_ret;exact⟨by rw[A.o];rfl,aI _ _⟩
end Go.Proofs.YtaoljfdfhggbbaaGreatDoor
