/- Texts of the proof. -/
import Derived.Lib.Bytealg
import Derived.Test.YtkfidffapdhbhaaGreatDoorPhZb
set_option maxRecDepth 100000
set_option maxHeartbeats 8000000
namespace Go.Proofs.YtkfidffapdhbhaaGreatDoor
open Go.Proofs.Tryz Go.RowKit Lx Vx Mx Msk
section
section
variable {w w':World} {base e size n:Nat} {v:Value} {xs:List Value}
theorem di (h:w.ownsRow base e size v n xs): ∃p c,v= .slice p n c:=by
 rcases h.2 with⟨e,e2⟩|⟨b,cap,cur,e,_⟩
 ·exact⟨none,0,by rw[e,e2]⟩
 ·exact⟨_,cap,e⟩
theorem kj {g:Nat}{cs:Array Value}{T:TypeId}(h:w.ownsRow base e size v n xs)(hg:w.heap[g]? =ah cs T)(hT:T≠e):some g≠v.ownBlock:=by
 rcases h.2 with⟨e,_⟩|⟨b,cap,cur,e,_,hb,_⟩
 ·rw[e];simp[Value.ownBlock]
 ·rw[e];intro q;have q':g=b:=(by simpa[Value.ownBlock] using q);subst q';rw[hg]at hb;injection hb with hb;injection hb with _ h2 _;exact hT h2
theorem br (h:w.ownsRow base e size v n xs)(hk: ∀b,v.ownBlock=some b->w'.heap[b]? =w.heap[b]?):w'.ownsRow base e size v n xs:=by
 obtain⟨h1,h2⟩:=h;refine⟨h1,?_⟩;rcases h2 with h2|⟨g,cap,cur,hv,hg,hh,r⟩
 ·exact .inl h2
 ·exact .inr ⟨g,cap,cur,hv,hg,(hk g (by rw[hv];rfl)).trans hh,r⟩
end
theorem sR {o:Oper}{a:Act}{w:World}{K:Act->World->Prop}{Q:Exit->Act->World->Prop}(s x:Operand)(t:TypeId)
  (ho:o.op= .call {callee:= .builtin .append,args:= #[s,x],argTypes:= #[t,t]})
  (base:Nat) (e:TypeId) (i:TypeInfo) (z:Value) (size bytes:Nat) (ht:prog.underlying t=some (.slice e)) (hi:prog.info? e=some i) (hz:i.zero=some z)
  (hsize:i.size=size) (hby:i.bytes=bytes) (hzs:z.cells.size=size) (hsz:0<size)
  (v:Value) (n:Nat) (xs:List Value) (hs:a.eval s=v) (hown:w.ownsRow base e size v n xs)
  (ad:Addr) (m c:Nat) (news:List Value) (hx:a.eval x= .slice (some ad) m c) (hl:news.length=m*size) (hnews: ∀j u,news[j]? =some u->w.cell? (ad.add j)=some u) (h1: ∀u∈news,u.oneCell'=true)
  (h63:n+m<=maxLen) (hbytes:(n+m)*bytes<=140737488355328) (hbase:base<=w.heap.size)
  (h: ∀v' w',w'.ownsRow base e size v' (n+m) (xs++news)->w.grownBy w' v.ownBlock->(v'.ownBlock=v.ownBlock\/v'.ownBlock=some w.heap.size)->K (a.put o.dst v') w'):o.wp prog a w K Q:=by
 obtain⟨v',w',hr,h2,h3,_,h5⟩:=run_append_own_at (P:=prog) w base t o.type e i z size bytes ht hi hz hsize hby hzs hsz v n xs hown ad m c news hl hnews h1 h63 hbytes hbase;unfold Oper.wp execOp;simp only[ho,resolve,invoke,builtin,ju,jU,gF,iB,dH,ff,hs,hx,hr];exact h v' w' h2 h3 h5
end
namespace Lx
def isD (c:UInt8):Bool:=decide (48<=c.toNat)&&decide (c.toNat<=57)
def isL (c:UInt8):Bool:=decide (97<=c.toNat)&&decide (c.toNat<=122)
def isC (c:UInt8):Bool:=isL c||(isD c||decide (c.toNat=95))
def gN (p:UInt8->Bool):List UInt8->Nat
 |[]=>0
 |c::l=>if p c then gN p l+1 else 0
def wordLen:List UInt8->Nat
 |[]=>0
 |c::l=>if isL c then gN isC l+1 else 0
theorem lK (p:UInt8->Bool): ∀l,gN p l<=l.length
 |[]=>by simp[gN]
 |c::l=>by have:=lK p l;simp only[gN];split<;>simp;omega
theorem yV (p:UInt8->Bool): ∀l i,i<gN p l->p (l.getD i 0)=true
 |[],i,h=>by simp[gN]at h
 |c::l,i,h=>by
  simp only[gN]at h;split at h
  ·cases i with
   |zero=>simpa
   |succ i=>simpa using yV p l i (by omega)
  ·omega
theorem vA (p:UInt8->Bool): ∀(l:List UInt8) (k:Nat),k<=l.length->(∀i,i<k->p (l.getD i 0)=true)->(k<l.length->p (l.getD k 0)=false)->gN p l=k
 |[],k,h,_,_=>by simp at h;subst h;rfl
 |c::l,0,_,_,h2=>by
  have:=h2 (by simp);simp at this;simp[gN,this]
 |c::l,k+1,h,h1,h2=>by
  have hc:=h1 0 (by omega);simp at hc;have:=vA p l k (by simpa using h) (fun i hi=>by simpa using h1 (i+1) (by omega)) (fun hk=>by simpa using h2 (by simpa using hk));simp[gN,hc,this]
theorem wu: ∀l,wordLen l<=l.length
 |[]=>by simp[wordLen]
 |c::l=>by have:=lK isC l;simp only[wordLen];split<;>simp;omega
def valL (l:List UInt8):Int:=l.foldl (fun n c=>10*n+((c.toNat:Int)-48)) 0
theorem F1 (l:List UInt8)(c:UInt8):valL (l++[c])=10*valL l+((c.toNat:Int)-48):=by simp[valL]
theorem yW (l:List UInt8)(k:Nat)(hk:k<l.length):valL (l.take (k+1))=10*valL (l.take k)+(((l.getD k 0).toNat:Int)-48):=by
 rw[List.take_succ_eq_append_getElem hk,F1];simp[List.getD,hk]
theorem ww (l:List UInt8)(h: ∀i,i<l.length->isD (l.getD i 0)=true): ∀k,k<=l.length->0<=valL (l.take k)/\valL (l.take k)<((10^k:Nat):Int)
 |0,_=>by simp[valL]
 |k+1,hk=>by
  have ih:=ww l h k (by omega);have hd:=h k (by omega);simp only[isD,bx,cg]at hd;rw[yW l k (by omega),Nat.pow_succ];omega
theorem pE (l:List UInt8)(h: ∀i,i<l.length->isD (l.getD i 0)=true)(k:Nat)(hk:k<=l.length)(h6:k<=6):0<=valL (l.take k)/\valL (l.take k)<1000000:=by
 have b:=ww l h k hk;have:(10:Nat)^k<=10^6:=Nat.pow_le_pow_right (by omega) h6;have e:(10:Nat)^6=1000000:=by decide
 omega
def okB (f c:UInt8):Bool:=if f.toNat=48 then isD c else decide (f.toNat=c.toNat)
def jq (l m:List UInt8):Bool:=decide (m.length<=l.length)&&(List.range m.length).all fun i=>okB (m.getD i 0) (l.getD i 0)
theorem F2 {l m:List UInt8}(h1:m.length<=l.length)(h2: ∀i,i<m.length->okB (m.getD i 0) (l.getD i 0)=true):jq l m=true:=by
 unfold jq;rw[bm h1,ja,dr];intro i hi;exact h2 i (by simpa using hi)
theorem AR {l m:List UInt8}(i:Nat)(h1:i<m.length)(h2:okB (m.getD i 0) (l.getD i 0)=false):jq l m=false:=by
 cases e:jq l m with
 |false=>rfl
 |true=>
  unfold jq at e;rw[bx,dr]at e;have:=e.2 i (by simpa using h1);rw[h2]at this;cases this
theorem CA {l m:List UInt8}(h: ¬m.length<=l.length):jq l m=false:=by simp[jq,h]
theorem pZ {l m:List UInt8}(h:jq l m=true):m.length<=l.length/\ ∀i,i<m.length->okB (m.getD i 0) (l.getD i 0)=true:=by
 unfold jq at h;rw[bx,dr]at h;exact⟨by simpa using h.1,fun i hi=>h.2 i (by simpa using hi)⟩
def nT (l:List UInt8)(i:Nat):Bool:=if i=0 then isL (l.getD 0 0) else isC (l.getD i 0)
theorem wx: ∀(l:List UInt8) (k:Nat),k<=l.length->(∀i,i<k->nT l i=true)->(k<l.length->nT l k=false)->wordLen l=k
 |[],k,h,_,_=>by simp at h;subst h;rfl
 |c::l,0,_,_,h2=>by
  have:=h2 (by simp);simp[nT]at this;simp[wordLen,this]
 |c::l,k+1,h,h1,h2=>by
  have hc:=h1 0 (by omega);simp[nT]at hc;have e:=vA isC l k (by simpa using h) (fun i hi=>by simpa[nT] using h1 (i+1) (by omega)) (fun hk=>by simpa[nT] using h2 (by simpa using hk));simp[wordLen,hc,e]
structure T1 where
 kind:Int
 n:Int
 text:List UInt8
 len:Nat
 err:Int
def bad (e:Int):T1:=⟨0,0,[],0,e⟩
def mu (l:List UInt8):T1:=if 6<gN isD l then bad 3 else⟨6,valL (l.take (gN isD l)),[],gN isD l,0⟩
def wy:List UInt8:=[48,48,48,48,45,48,48,45,48,48]
def wz:List UInt8:=[48,48,58,48,48]
def oJ (l:List UInt8):T1:=if 59<valL ((l.drop 3).take 2)\/1440<60*valL ((l.drop 0).take 2)+valL ((l.drop 3).take 2) then bad 3 else⟨4,60*valL ((l.drop 0).take 2)+valL ((l.drop 3).take 2),[],5,0⟩
theorem mw {l m:List UInt8}(h:jq l m=true)(a n:Nat)(ha:a+n<=m.length)(hf: ∀i,i<n->(m.getD (a+i) 0).toNat=48):
  ((l.drop a).take n).length=n/\ ∀i,i<((l.drop a).take n).length->isD (((l.drop a).take n).getD i 0)=true:=by
 obtain⟨h1,h2⟩:=pZ h;have e:((l.drop a).take n).length=n:=by simp;omega
 refine⟨e,fun i hi=> ?_⟩;rw[e]at hi;have:=h2 (a+i) (by omega);unfold okB at this;rw[aD (hf i hi)]at this;rw[dQ]at this⊢;rw[js,aD hi,List.getElem?_drop];exact this
def eP:Bool->List UInt8->Nat
 |_,[]=>0
 |true,c::l=>if c.toNat=10 then eP false l+1 else eP true l+1
 |false,c::l=>if c.toNat=32\/c.toNat=9\/c.toNat=10 then eP false l+1 else if c.toNat=35 then eP true l+1 else 0
theorem nU: ∀(b:Bool) (l:List UInt8),eP b l<=l.length
 |true,[]=>by simp[eP]
 |false,[]=>by simp[eP]
 |true,c::l=>by
  have h1:=nU true l;have h2:=nU false l;simp only[eP,bJ];split<;>omega
 |false,c::l=>by
  have h1:=nU true l;have h2:=nU false l;simp only[eP,bJ];split
  ·omega
  ·split<;>omega
def ym (c:UInt8):Bool:=decide (c.toNat≠10)
def remL (l:List UInt8):Nat:=gN ym l
theorem AS: ∀(l:List UInt8),eP true l=remL l+eP false (l.drop (remL l))
 |[]=>by simp[remL,gN,eP]
 |c::l=>by
  by_cases h:c.toNat=10
  ·simp[remL,gN,ym,eP,h]
  ·have ih:=AS l;have e:remL (c::l)=remL l+1:=(by simp[remL,gN,ym,h]);rw[e];simp only[eP,h,if_false,List.drop_succ_cons];omega
theorem F3 (l:List UInt8)(h0:0<l.length)(hc:(l.getD 0 0).toNat=35):eP false l=remL l+eP false (l.drop (remL l))/\1<=remL l:=by
 match l,h0 with
 |c::r,_=>
  have hc':c.toNat=35:=(by simpa using hc);have e:remL (c::r)=remL r+1:=(by simp[remL,gN,ym,hc']);have:=AS r;rw[e];refine⟨?_,by omega⟩;simp only[eP,hc',List.drop_succ_cons];simp;omega
theorem Ee (l:List UInt8)(h0:0<l.length)(hc:(l.getD 0 0).toNat=32\/(l.getD 0 0).toNat=9\/(l.getD 0 0).toNat=10):eP false l=1+eP false (l.drop 1):=by
 match l,h0 with
 |c::r,_=>
  have hc':c.toNat=32\/c.toNat=9\/c.toNat=10:=(by simpa using hc);simp only[eP,aD hc',List.drop_succ_cons,List.drop_zero];omega
theorem F4 (l:List UInt8)(hc:0<l.length-> ¬((l.getD 0 0).toNat=32\/(l.getD 0 0).toNat=9\/(l.getD 0 0).toNat=10)/\(l.getD 0 0).toNat≠35):eP false l=0:=by
 match l with
 |[]=>rfl
 |c::r=>
  have:=hc (by simp);simp only[List.getD_cons_zero]at this;simp only[eP,ax this.1,ax this.2]
theorem yX: ∀l:List UInt8,Go.Lib.indexByte l 10=if remL l<l.length then(remL l:Int) else-1
 |[]=>by simp[Go.Lib.indexByte,remL,gN]
 |c::l=>by
  have ih:=yX l;by_cases h:c.toNat=10
  ·have e:c=10:=(by apply UInt8.toNat_inj.1;simpa using h);subst e;simp[Go.Lib.indexByte,remL,gN,ym]
  ·have hne:(c==10)=false:=by
    rw[bj];intro e;subst e;simp at h
   have e:remL (c::l)=remL l+1:=(by simp[remL,gN,ym,h]);have hle:remL l<=l.length:=lK _ l;unfold Go.Lib.indexByte;rw[hne,ih,e];by_cases hh:remL l<l.length
   ·have n1:((remL l:Int)== -1)=false:=(by simp);rw[aD hh,n1];simp[hh]
   ·rw[ax hh];simp[hh]
structure Ex where
 kind:Int
 a:Int
 b:Int
 name:List UInt8
 kids:List Ex
abbrev Tk:=T1×Nat
def ex0:Ex:=⟨0,0,0,[],[]⟩
abbrev Res:=Except (Int×Nat) (Ex×List Tk×Nat)
def atP (E:Nat):List Tk->Nat
 |[]=>E
 |p::_=>p.2
def textP:List Tk->List UInt8
 |[]=>[]
 |p::_=>p.1.text
def kindP:List Tk->Int
 |[]=>0
 |p::_=>p.1.kind
def numP:List Tk->Int
 |[]=>0
 |p::_=>p.1.n
def isT (x:List UInt8)(r:List Tk):Bool:=textP r==x
def dl (x:Res)(f:Ex->List Tk->Nat->Res):Res:=
 match x with
 | .error e=> .error e
 | .ok (e,r,n)=>f e r n
def dE (E:Nat)(e:Ex)(r:List Tk)(n:Nat):Res:=if 600<n+1 then .error (4,atP E r) else .ok (e,r,n+1)
def dW (E:Nat)(err:Int)(r:List Tk):Res:= .error (err,atP E r)
def pF:List UInt8:=[43]
def gC:List UInt8:=[45]
def s8:List UInt8:=[38]
def kO:List UInt8:=[40]
def oK:List UInt8:=[41]
def oU:List UInt8:=[44]
def mQ:List UInt8:=[58]
def r0:List UInt8:=[59]
def wIs:List UInt8:=[61]
def wTo:List UInt8:=[46,46]
def um:List UInt8:=[114,117,108,101]
def jW:List UInt8:=[110,101,118,101,114]
def jA:List UInt8:=[97,108,119,97,121,115]
def jS:List UInt8:=[119,101,101,107,108,121]
def lx:List UInt8:=[100,97,116,101,115]
def mn:List UInt8:=[115,104,105,102,116]
def fy:List (List UInt8):=[[109,111,110],[116,117,101],[119,101,100],[116,104,117],[102,114,105],[115,97,116],[115,117,110]]
def dayBit (x:List UInt8):Nat:=
 if x=fy.getD 0 [] then 1 else if x=fy.getD 1 [] then 2 else if x=fy.getD 2 [] then 4 else if x=fy.getD 3 [] then 8
 else if x=fy.getD 4 [] then 16 else if x=fy.getD 5 [] then 32 else if x=fy.getD 6 [] then 64 else 0
def goP (E:Nat):Nat->Nat->Nat->Ex->List Tk->Nat->Res
 |0,_,_,_,r,_=>dW E 0 r
 |f+1,0,d,_,r,n=>dl (goP E f 2 d ex0 r n) fun e r n=>goP E f 1 d e r n
 |f+1,1,d,e,r,n=>
  if isT pF r then dl (goP E f 2 d ex0 r.tail n) fun t r n=>dl (dE E ⟨6,0,0,[],[e,t]⟩ r n) fun e r n=>goP E f 1 d e r n
  else if isT gC r then dl (goP E f 2 d ex0 r.tail n) fun t r n=>dl (dE E ⟨7,0,0,[],[e,t]⟩ r n) fun e r n=>goP E f 1 d e r n
  else .ok (e,r,n)
 |f+1,2,d,_,r,n=>dl (goP E f 4 d ex0 r n) fun e r n=>goP E f 3 d e r n
 |f+1,3,d,e,r,n=>
  if isT s8 r then dl (goP E f 4 d ex0 r.tail n) fun t r n=>dl (dE E ⟨8,0,0,[],[e,t]⟩ r n) fun e r n=>goP E f 3 d e r n
  else .ok (e,r,n)
 |f+1,4,d,_,r,n=>dl (goP E f 6 d ex0 r n) fun e r n=>goP E f 5 d e r n
 |f+1,5,d,e,r,n=>
  if isT mn r then
   let m:=isT gC r.tail
   let q:=if m then r.tail.tail else r.tail
   if kindP q≠6 then dW E 2 q
   else if 1440<=numP q\/numP q<1 then dW E 3 q
   else dl (dE E ⟨9,if m then-numP q else numP q,0,[],[e]⟩ q.tail n) fun e r n=>goP E f 5 d e r n
  else .ok (e,r,n)
 |f+1,6,d,_,r,n=>
  if 40<d then dW E 4 r
  else if isT kO r then dl (goP E f 0 (d+1) ex0 r.tail n) fun e r n=>if isT oK r then .ok (e,r.tail,n) else dW E 2 r
  else if isT jW r then dE E ⟨1,0,0,[],[]⟩ r.tail n
  else if isT jA r then dE E ⟨2,0,0,[],[]⟩ r.tail n
  else if isT jS r then goP E f 7 d ex0 r.tail n
  else if isT lx r then
   let q:=r.tail
   if kindP q≠5 then dW E 2 q
   else if isT wTo q.tail then
    let p:=q.tail.tail
    if kindP p≠5 then dW E 2 p
    else if numP p<numP q then dW E 3 p
    else goP E f 8 d ⟨5,numP q,numP p,[],[]⟩ p.tail n
   else goP E f 8 d ⟨5,numP q,numP q,[],[]⟩ q.tail n
  else if kindP r=1 then dE E ⟨10,0,0,textP r,[]⟩ r.tail n
  else if kindP r≠4 then dW E 2 r
  else if isT gC r.tail then
   let q:=r.tail.tail
   if kindP q≠4 then dW E 2 q
   else if numP q<numP r+1 then dW E 3 q
   else dE E ⟨3,numP r,numP q,[],[]⟩ q.tail n
  else dW E 2 r.tail
 |f+1,7,d,e,r,n=>
  if dayBit (textP r)=0 then dW E 2 r
  else if isT oU r.tail then goP E f 7 d ⟨0,((e.a.toNat|||dayBit (textP r):Nat):Int),0,[],[]⟩ r.tail.tail n
  else goP E f 8 d ⟨4,((e.a.toNat|||dayBit (textP r):Nat):Int),0,[],[]⟩ r.tail n
 |f+1,_,d,e,r,n=>
  if isT mQ r then dl (goP E f 4 (d+1) ex0 r.tail n) fun k r n=>dE E ⟨e.kind,e.a,e.b,[],[k]⟩ r n else dW E 2 r
theorem fp {x:List UInt8}{r:List Tk}(hx:x≠[])(h:isT x r=true):1<=r.length:=by
 cases r with
 |nil=>simp[isT,textP]at h;exact absurd h (fun e=>hx (by first|exact e|exact e.symm))
 |cons p r=>simp
theorem pG {r:List Tk}(h:kindP r≠0):1<=r.length:=by
 cases r with
 |nil=>simp[kindP]at h
 |cons p r=>simp
theorem oM {r:List Tk}(h:dayBit (textP r)≠0):1<=r.length:=by
 cases r with
 |nil=>exact absurd (by decide) h
 |cons p r=>simp
def gg (m:Nat):Nat:=if m=1\/m=3\/m=5 then 0 else 1
theorem dy {x:Res}{f:Ex->List Tk->Nat->Res}{z:Ex×List Tk×Nat}(h:dl x f= .ok z): ∃e r n,x= .ok (e,r,n)/\f e r n= .ok z:=by
 match x with
 | .error _=>cases h
 | .ok (e,r,n)=>exact⟨e,r,n,rfl,h⟩
theorem dK {E:Nat}{e:Ex}{r:List Tk}{n:Nat}{z:Ex×List Tk×Nat}(h:dE E e r n= .ok z):z=(e,r,n+1):=by
 unfold dE at h;split at h
 ·cases h
 ·cases h;rfl
theorem dF {E:Nat}{err:Int}{r:List Tk}{z:Ex×List Tk×Nat}(h:dW E err r= .ok z):False:=by
 unfold dW at h;cases h
theorem uo (E f d:Nat)(e:Ex)(r:List Tk)(n:Nat):goP E (f+1) 0 d e r n=dl (goP E f 2 d ex0 r n) fun e r n=>goP E f 1 d e r n:=rfl
theorem uq (E f d:Nat)(e:Ex)(r:List Tk)(n:Nat):goP E (f+1) 1 d e r n=if isT pF r then dl (goP E f 2 d ex0 r.tail n) fun t r n=>dl (dE E ⟨6,0,0,[],[e,t]⟩ r n) fun e r n=>goP E f 1 d e r n
 else if isT gC r then dl (goP E f 2 d ex0 r.tail n) fun t r n=>dl (dE E ⟨7,0,0,[],[e,t]⟩ r n) fun e r n=>goP E f 1 d e r n
 else .ok (e,r,n):=rfl
theorem ut (E f d:Nat)(e:Ex)(r:List Tk)(n:Nat):goP E (f+1) 2 d e r n=dl (goP E f 4 d ex0 r n) fun e r n=>goP E f 3 d e r n:=rfl
theorem uu (E f d:Nat)(e:Ex)(r:List Tk)(n:Nat):goP E (f+1) 3 d e r n=if isT s8 r then dl (goP E f 4 d ex0 r.tail n) fun t r n=>dl (dE E ⟨8,0,0,[],[e,t]⟩ r n) fun e r n=>goP E f 3 d e r n
 else .ok (e,r,n):=rfl
theorem uw (E f d:Nat)(e:Ex)(r:List Tk)(n:Nat):goP E (f+1) 4 d e r n=dl (goP E f 6 d ex0 r n) fun e r n=>goP E f 5 d e r n:=rfl
def fH (r:List Tk):List Tk:=if isT gC r.tail then r.tail.tail else r.tail
theorem ux (E f d:Nat)(e:Ex)(r:List Tk)(n:Nat):goP E (f+1) 5 d e r n=if isT mn r then
  if kindP (fH r)≠6 then dW E 2 (fH r)
  else if 1440<=numP (fH r)\/numP (fH r)<1 then dW E 3 (fH r)
  else dl (dE E ⟨9,if isT gC r.tail then-numP (fH r) else numP (fH r),0,[],[e]⟩ (fH r).tail n) fun e r n=>goP E f 5 d e r n
 else .ok (e,r,n):=rfl
theorem uy (E f d:Nat)(e:Ex)(r:List Tk)(n:Nat):goP E (f+1) 6 d e r n=
 if 40<d then dW E 4 r
 else if isT kO r then dl (goP E f 0 (d+1) ex0 r.tail n) fun e r n=>if isT oK r then .ok (e,r.tail,n) else dW E 2 r
 else if isT jW r then dE E ⟨1,0,0,[],[]⟩ r.tail n
 else if isT jA r then dE E ⟨2,0,0,[],[]⟩ r.tail n
 else if isT jS r then goP E f 7 d ex0 r.tail n
 else if isT lx r then
  if kindP r.tail≠5 then dW E 2 r.tail
  else if isT wTo r.tail.tail then
   if kindP r.tail.tail.tail≠5 then dW E 2 r.tail.tail.tail
   else if numP r.tail.tail.tail<numP r.tail then dW E 3 r.tail.tail.tail
   else goP E f 8 d ⟨5,numP r.tail,numP r.tail.tail.tail,[],[]⟩ r.tail.tail.tail.tail n
  else goP E f 8 d ⟨5,numP r.tail,numP r.tail,[],[]⟩ r.tail.tail n
 else if kindP r=1 then dE E ⟨10,0,0,textP r,[]⟩ r.tail n
 else if kindP r≠4 then dW E 2 r
 else if isT gC r.tail then
  if kindP r.tail.tail≠4 then dW E 2 r.tail.tail
  else if numP r.tail.tail<numP r+1 then dW E 3 r.tail.tail
  else dE E ⟨3,numP r,numP r.tail.tail,[],[]⟩ r.tail.tail.tail n
 else dW E 2 r.tail:=rfl
theorem uz (E f d:Nat)(e:Ex)(r:List Tk)(n:Nat):goP E (f+1) 7 d e r n=
 if dayBit (textP r)=0 then dW E 2 r
 else if isT oU r.tail then goP E f 7 d ⟨0,((e.a.toNat|||dayBit (textP r):Nat):Int),0,[],[]⟩ r.tail.tail n
 else goP E f 8 d ⟨4,((e.a.toNat|||dayBit (textP r):Nat):Int),0,[],[]⟩ r.tail n:=rfl
theorem uA (E f d:Nat)(e:Ex)(r:List Tk)(n:Nat):goP E (f+1) 8 d e r n=
 if isT mQ r then dl (goP E f 4 (d+1) ex0 r.tail n) fun k r n=>dE E ⟨e.kind,e.a,e.b,[],[k]⟩ r n else dW E 2 r:=rfl
theorem I2 (r:List Tk):r.tail.length=r.length-1:=by simp
theorem rg (r:List Tk):(fH r).length<=r.length-1:=by
 unfold fH;split<;>simp only[I2]<;>omega
theorem yo (E:Nat): ∀(f m d:Nat) (e:Ex) (r:List Tk) (n:Nat) (e':Ex) (r':List Tk) (n':Nat),m<=8->goP E f m d e r n= .ok (e',r',n')->r'.length+gg m<=r.length
 |0,m,d,e,r,n,e',r',n',_,h=>(dF h).elim
 |f+1,m,d,e,r,n,e',r',n',hm,h=>by
  have ih:=yo E f;match m,hm with
  |0,_=>
   rw[uo]at h;obtain⟨e1,r1,n1,h1,h2⟩:=dy h;have a:=ih 2 _ _ _ _ _ _ _ (by omega) h1;have b:=ih 1 _ _ _ _ _ _ _ (by omega) h2;simp[gg]at*;omega
  |1,_=>
   rw[uq]at h;split at h
   ·obtain⟨e1,r1,n1,h1,h2⟩:=dy h;obtain⟨e2,r2,n2,h3,h4⟩:=dy h2;have c:=dK h3;cases c;have a:=ih 2 _ _ _ _ _ _ _ (by omega) h1;have b:=ih 1 _ _ _ _ _ _ _ (by omega) h4;simp[gg]at*;omega
   ·split at h
    ·obtain⟨e1,r1,n1,h1,h2⟩:=dy h;obtain⟨e2,r2,n2,h3,h4⟩:=dy h2;have c:=dK h3;cases c;have a:=ih 2 _ _ _ _ _ _ _ (by omega) h1;have b:=ih 1 _ _ _ _ _ _ _ (by omega) h4;simp[gg]at*;omega
    ·cases h;simp[gg]
  |2,_=>
   rw[ut]at h;obtain⟨e1,r1,n1,h1,h2⟩:=dy h;have a:=ih 4 _ _ _ _ _ _ _ (by omega) h1;have b:=ih 3 _ _ _ _ _ _ _ (by omega) h2;simp[gg]at*;omega
  |3,_=>
   rw[uu]at h;split at h
   ·obtain⟨e1,r1,n1,h1,h2⟩:=dy h;obtain⟨e2,r2,n2,h3,h4⟩:=dy h2;have c:=dK h3;cases c;have a:=ih 4 _ _ _ _ _ _ _ (by omega) h1;have b:=ih 3 _ _ _ _ _ _ _ (by omega) h4;simp[gg]at*;omega
   ·cases h;simp[gg]
  |4,_=>
   rw[uw]at h;obtain⟨e1,r1,n1,h1,h2⟩:=dy h;have a:=ih 6 _ _ _ _ _ _ _ (by omega) h1;have b:=ih 5 _ _ _ _ _ _ _ (by omega) h2;simp[gg]at*;omega
  |5,_=>
   rw[ux]at h;have hs:=rg r;split at h
   ·split at h
    ·exact(dF h).elim
    ·split at h
     ·exact(dF h).elim
     ·obtain⟨e2,r2,n2,h3,h4⟩:=dy h;have c:=dK h3;cases c;have b:=ih 5 _ _ _ _ _ _ _ (by omega) h4;simp[gg]at*;omega
   ·cases h;simp[gg]
  |6,_=>
   rw[uy]at h;by_cases c0:40<d
   ·rw[aD c0]at h;exact(dF h).elim
   rw[ax c0]at h;by_cases c1:isT kO r=true
   ·rw[aD c1]at h;have:=fp (by decide) c1;obtain⟨e1,r1,n1,h1,h2⟩:=dy h;have a:=ih 0 _ _ _ _ _ _ _ (by omega) h1;split at h2
    ·cases h2;simp[gg]at*;omega
    ·exact(dF h2).elim
   rw[ax c1]at h;by_cases c2:isT jW r=true
   ·rw[aD c2]at h;have:=fp (by decide) c2;cases dK h;simp[gg]at*;omega
   rw[ax c2]at h;by_cases c3:isT jA r=true
   ·rw[aD c3]at h;have:=fp (by decide) c3;cases dK h;simp[gg]at*;omega
   rw[ax c3]at h;by_cases c4:isT jS r=true
   ·rw[aD c4]at h;have:=fp (by decide) c4;have a:=ih 7 _ _ _ _ _ _ _ (by omega) h;simp[gg]at*;omega
   rw[ax c4]at h;by_cases c5:isT lx r=true
   ·rw[aD c5]at h;have:=fp (by decide) c5;split at h
    ·exact(dF h).elim
    split at h
    ·split at h
     ·exact(dF h).elim
     split at h
     ·exact(dF h).elim
     have a:=ih 8 _ _ _ _ _ _ _ (by omega) h;simp[gg]at*;omega
    ·have a:=ih 8 _ _ _ _ _ _ _ (by omega) h;simp[gg]at*;omega
   rw[ax c5]at h;by_cases c6:kindP r=1
   ·rw[aD c6]at h;have:=pG (r:=r) (by omega);cases dK h;simp[gg]at*;omega
   rw[ax c6]at h;by_cases c7:kindP r≠4
   ·rw[aD c7]at h;exact(dF h).elim
   rw[ax c7]at h;have:=pG (r:=r) (by omega);split at h
   ·split at h
    ·exact(dF h).elim
    split at h
    ·exact(dF h).elim
    cases dK h;simp[gg]at*;omega
   ·exact(dF h).elim
  |7,_=>
   rw[uz]at h;split at h
   ·exact(dF h).elim
   ·rename_i hd;have:=oM hd;split at h
    ·have a:=ih 7 _ _ _ _ _ _ _ (by omega) h;simp[gg]at*;omega
    ·have a:=ih 8 _ _ _ _ _ _ _ (by omega) h;simp[gg]at*;omega
  |8,_=>
   rw[uA]at h;split at h
   ·rename_i ho;have:=fp (by decide) ho;obtain⟨e1,r1,n1,h1,h2⟩:=dy h;cases dK h2;have a:=ih 4 _ _ _ _ _ _ _ (by omega) h1;simp[gg]at*;omega
   ·exact(dF h).elim
theorem dO {x y:Res}{f g:Ex->List Tk->Nat->Res}(h:x=y)(hf: ∀e r n,y= .ok (e,r,n)->f e r n=g e r n):dl x f=dl y g:=by
 subst h;match x with
 | .error _=>rfl
 | .ok (e,r,n)=>exact hf e r n rfl
def fb (m:Nat):Nat:=if m=0 then 4 else if m=2 then 3 else if m=4 then 2 else 1
def eQ (m:Nat)(r:List Tk):Nat:=4*r.length+fb m
theorem AT (E:Nat): ∀(f m d:Nat) (e:Ex) (r:List Tk) (n:Nat),m<=8->eQ m r<=f->goP E (f+1) m d e r n=goP E f m d e r n
 |0,m,d,e,r,n,_,h=>by
  unfold eQ fb at h;exfalso;split at h
  ·omega
  split at h
  ·omega
  split at h<;>omega
 |f+1,m,d,e,r,n,hm,h=>by
  have ih:=AT E f;have len:=yo E f;unfold eQ at h ih;match m,hm with
  |0,_=>
   rw[uo,uo];refine dO (ih 2 _ _ _ _ (by omega) (by simp[fb]at*;omega)) fun e1 r1 n1 h1=> ?_;have a:=len 2 _ _ _ _ _ _ _ (by omega) h1;exact ih 1 _ _ _ _ (by omega) (by simp[fb,gg]at*;omega)
  |1,_=>
   rw[uq,uq];split
   ·rename_i ho;have:=fp (by decide) ho;refine dO (ih 2 _ _ _ _ (by omega) (by simp[fb]at*;omega)) fun e1 r1 n1 h1=> ?_;have a:=len 2 _ _ _ _ _ _ _ (by omega) h1;refine dO rfl fun e2 r2 n2 h2=> ?_;cases dK h2;exact ih 1 _ _ _ _ (by omega) (by simp[fb,gg]at*;omega)
   ·split
    ·rename_i ho;have:=fp (by decide) ho;refine dO (ih 2 _ _ _ _ (by omega) (by simp[fb]at*;omega)) fun e1 r1 n1 h1=> ?_;have a:=len 2 _ _ _ _ _ _ _ (by omega) h1;refine dO rfl fun e2 r2 n2 h2=> ?_;cases dK h2;exact ih 1 _ _ _ _ (by omega) (by simp[fb,gg]at*;omega)
    ·rfl
  |2,_=>
   rw[ut,ut];refine dO (ih 4 _ _ _ _ (by omega) (by simp[fb]at*;omega)) fun e1 r1 n1 h1=> ?_;have a:=len 4 _ _ _ _ _ _ _ (by omega) h1;exact ih 3 _ _ _ _ (by omega) (by simp[fb,gg]at*;omega)
  |3,_=>
   rw[uu,uu];split
   ·rename_i ho;have:=fp (by decide) ho;refine dO (ih 4 _ _ _ _ (by omega) (by simp[fb]at*;omega)) fun e1 r1 n1 h1=> ?_;have a:=len 4 _ _ _ _ _ _ _ (by omega) h1;refine dO rfl fun e2 r2 n2 h2=> ?_;cases dK h2;exact ih 3 _ _ _ _ (by omega) (by simp[fb,gg]at*;omega)
   ·rfl
  |4,_=>
   rw[uw,uw];refine dO (ih 6 _ _ _ _ (by omega) (by simp[fb]at*;omega)) fun e1 r1 n1 h1=> ?_;have a:=len 6 _ _ _ _ _ _ _ (by omega) h1;exact ih 5 _ _ _ _ (by omega) (by simp[fb,gg]at*;omega)
  |5,_=>
   rw[ux,ux];have hs:=rg r;split
   ·rename_i ho;have:=fp (by decide) ho;split
    ·rfl
    split
    ·rfl
    refine dO rfl fun e2 r2 n2 h2=> ?_;cases dK h2;exact ih 5 _ _ _ _ (by omega) (by simp[fb]at*;omega)
   ·rfl
  |6,_=>
   rw[uy E (f+1),uy E f];by_cases c0:40<d
   ·rw[aD c0,aD c0]
   rw[ax c0,ax c0];by_cases c1:isT kO r=true
   ·rw[aD c1,aD c1];have:=fp (by decide) c1;exact dO (ih 0 _ _ _ _ (by omega) (by simp[fb]at*;omega)) fun e1 r1 n1 h1=>rfl
   rw[ax c1,ax c1];by_cases c2:isT jW r=true
   ·rw[aD c2,aD c2]
   rw[ax c2,ax c2];by_cases c3:isT jA r=true
   ·rw[aD c3,aD c3]
   rw[ax c3,ax c3];by_cases c4:isT jS r=true
   ·rw[aD c4,aD c4];have:=fp (by decide) c4;exact ih 7 _ _ _ _ (by omega) (by simp[fb]at*;omega)
   rw[ax c4,ax c4];by_cases c5:isT lx r=true
   ·rw[aD c5,aD c5];have:=fp (by decide) c5;rw[ih 8 d ⟨5,numP r.tail,numP r.tail.tail.tail,[],[]⟩ r.tail.tail.tail.tail n (by omega) (by simp[fb]at*;omega),ih 8 d ⟨5,numP r.tail,numP r.tail,[],[]⟩ r.tail.tail n (by omega) (by simp[fb]at*;omega)]
   rw[ax c5,ax c5]
  |7,_=>
   rw[uz E (f+1) d e r n,uz E f d e r n];split
   ·rfl
   ·rename_i hd;have:=oM hd;split
    ·exact ih 7 _ _ _ _ (by omega) (by simp[fb]at*;omega)
    ·exact ih 8 _ _ _ _ (by omega) (by simp[fb]at*;omega)
  |8,_=>
   rw[uA,uA];split
   ·rename_i ho;have:=fp (by decide) ho;exact dO (ih 4 _ _ _ _ (by omega) (by simp[fb]at*;omega)) fun e1 r1 n1 h1=>rfl
   ·rfl
def rd (E m d:Nat)(e:Ex)(r:List Tk)(n:Nat):Res:=goP E (eQ m r) m d e r n
theorem iE (E m d:Nat)(e:Ex)(r:List Tk)(n:Nat)(hm:m<=8): ∀f,eQ m r<=f->goP E f m d e r n=rd E m d e r n
 |f,h=>by
  obtain⟨k,rfl⟩: ∃k,f=eQ m r+k:=⟨f-eQ m r,by omega⟩
  clear h;induction k with
  |zero=>rfl
  |succ k ih=>rw[<-Nat.add_assoc,AT E _ m d e r n hm (by omega)];exact ih
theorem lL {E m d:Nat}{e:Ex}{r:List Tk}{n:Nat}{e':Ex}{r':List Tk}{n':Nat}(hm:m<=8)(h:rd E m d e r n= .ok (e',r',n')):r'.length+gg m<=r.length:=yo E _ m d e r n e' r' n' hm h
theorem O8 (E d:Nat)(e:Ex)(r:List Tk)(n:Nat):rd E 0 d e r n=dl (rd E 2 d ex0 r n) fun e r n=>rd E 1 d e r n:=by
 have h:eQ 0 r=4*r.length+3+1:=by simp[eQ,fb]
 show goP E (eQ 0 r) 0 d e r n=_;rw[h,uo];refine dO (iE E 2 d ex0 r n (by omega) _ (by simp[eQ,fb])) fun e1 r1 n1 h1=> ?_;have a:=lL (by omega) h1;exact iE E 1 d e1 r1 n1 (by omega) _ (by simp[eQ,fb,gg]at*;omega)
theorem O9 (E d:Nat)(e:Ex)(r:List Tk)(n:Nat):rd E 2 d e r n=dl (rd E 4 d ex0 r n) fun e r n=>rd E 3 d e r n:=by
 have h:eQ 2 r=4*r.length+2+1:=by simp[eQ,fb]
 show goP E (eQ 2 r) 2 d e r n=_;rw[h,ut];refine dO (iE E 4 d ex0 r n (by omega) _ (by simp[eQ,fb])) fun e1 r1 n1 h1=> ?_;have a:=lL (by omega) h1;exact iE E 3 d e1 r1 n1 (by omega) _ (by simp[eQ,fb,gg]at*;omega)
theorem Pa (E d:Nat)(e:Ex)(r:List Tk)(n:Nat):rd E 4 d e r n=dl (rd E 6 d ex0 r n) fun e r n=>rd E 5 d e r n:=by
 have h:eQ 4 r=4*r.length+1+1:=by simp[eQ,fb]
 show goP E (eQ 4 r) 4 d e r n=_;rw[h,uw];refine dO (iE E 6 d ex0 r n (by omega) _ (by simp[eQ,fb])) fun e1 r1 n1 h1=> ?_;have a:=lL (by omega) h1;exact iE E 5 d e1 r1 n1 (by omega) _ (by simp[eQ,fb,gg]at*;omega)
theorem I3 (E d:Nat)(e:Ex)(r:List Tk)(n:Nat):rd E 1 d e r n=
  if isT pF r then dl (rd E 2 d ex0 r.tail n) fun t r n=>dl (dE E ⟨6,0,0,[],[e,t]⟩ r n) fun e r n=>rd E 1 d e r n
  else if isT gC r then dl (rd E 2 d ex0 r.tail n) fun t r n=>dl (dE E ⟨7,0,0,[],[e,t]⟩ r n) fun e r n=>rd E 1 d e r n
  else .ok (e,r,n):=by
 have h:eQ 1 r=4*r.length+1:=by simp[eQ,fb]
 show goP E (eQ 1 r) 1 d e r n=_;rw[h,uq];by_cases c1:isT pF r=true
 ·rw[aD c1,aD c1];have:=fp (by decide) c1;refine dO (iE E 2 d ex0 r.tail n (by omega) _ (by simp[eQ,fb];omega)) fun e1 r1 n1 h1=> ?_;have a:=lL (by omega) h1;refine dO rfl fun e2 r2 n2 h2=> ?_;cases dK h2;exact iE E 1 d _ _ _ (by omega) _ (by simp[eQ,fb,gg]at*;omega)
 ·rw[ax c1,ax c1];by_cases c2:isT gC r=true
  ·rw[aD c2,aD c2];have:=fp (by decide) c2;refine dO (iE E 2 d ex0 r.tail n (by omega) _ (by simp[eQ,fb];omega)) fun e1 r1 n1 h1=> ?_;have a:=lL (by omega) h1;refine dO rfl fun e2 r2 n2 h2=> ?_;cases dK h2;exact iE E 1 d _ _ _ (by omega) _ (by simp[eQ,fb,gg]at*;omega)
  ·rw[ax c2,ax c2]
theorem MY (E d:Nat)(e:Ex)(r:List Tk)(n:Nat):rd E 3 d e r n=
  if isT s8 r then dl (rd E 4 d ex0 r.tail n) fun t r n=>dl (dE E ⟨8,0,0,[],[e,t]⟩ r n) fun e r n=>rd E 3 d e r n
  else .ok (e,r,n):=by
 have h:eQ 3 r=4*r.length+1:=by simp[eQ,fb]
 show goP E (eQ 3 r) 3 d e r n=_;rw[h,uu];by_cases c1:isT s8 r=true
 ·rw[aD c1,aD c1];have:=fp (by decide) c1;refine dO (iE E 4 d ex0 r.tail n (by omega) _ (by simp[eQ,fb];omega)) fun e1 r1 n1 h1=> ?_;have a:=lL (by omega) h1;refine dO rfl fun e2 r2 n2 h2=> ?_;cases dK h2;exact iE E 3 d _ _ _ (by omega) _ (by simp[eQ,fb,gg]at*;omega)
 ·rw[ax c1,ax c1]
theorem MZ (E d:Nat)(e:Ex)(r:List Tk)(n:Nat):rd E 5 d e r n=if isT mn r then
   if kindP (fH r)≠6 then dW E 2 (fH r)
   else if 1440<=numP (fH r)\/numP (fH r)<1 then dW E 3 (fH r)
   else dl (dE E ⟨9,if isT gC r.tail then-numP (fH r) else numP (fH r),0,[],[e]⟩ (fH r).tail n) fun e r n=>rd E 5 d e r n
  else .ok (e,r,n):=by
 have h:eQ 5 r=4*r.length+1:=by simp[eQ,fb]
 show goP E (eQ 5 r) 5 d e r n=_;rw[h,ux];have hs:=rg r;by_cases c1:isT mn r=true
 ·rw[aD c1,aD c1];have:=fp (by decide) c1;by_cases c2:kindP (fH r)≠6
  ·rw[aD c2,aD c2]
  rw[ax c2,ax c2];by_cases c3:1440<=numP (fH r)\/numP (fH r)<1
  ·rw[aD c3,aD c3]
  rw[ax c3,ax c3];refine dO rfl fun e2 r2 n2 h2=> ?_;cases dK h2;exact iE E 5 d _ _ _ (by omega) _ (by simp[eQ,fb]at*;omega)
 ·rw[ax c1,ax c1]
theorem M1 (E d:Nat)(e:Ex)(r:List Tk)(n:Nat):rd E 6 d e r n=
  if 40<d then dW E 4 r
  else if isT kO r then dl (rd E 0 (d+1) ex0 r.tail n) fun e r n=>if isT oK r then .ok (e,r.tail,n) else dW E 2 r
  else if isT jW r then dE E ⟨1,0,0,[],[]⟩ r.tail n
  else if isT jA r then dE E ⟨2,0,0,[],[]⟩ r.tail n
  else if isT jS r then rd E 7 d ex0 r.tail n
  else if isT lx r then
   if kindP r.tail≠5 then dW E 2 r.tail
   else if isT wTo r.tail.tail then
    if kindP r.tail.tail.tail≠5 then dW E 2 r.tail.tail.tail
    else if numP r.tail.tail.tail<numP r.tail then dW E 3 r.tail.tail.tail
    else rd E 8 d ⟨5,numP r.tail,numP r.tail.tail.tail,[],[]⟩ r.tail.tail.tail.tail n
   else rd E 8 d ⟨5,numP r.tail,numP r.tail,[],[]⟩ r.tail.tail n
  else if kindP r=1 then dE E ⟨10,0,0,textP r,[]⟩ r.tail n
  else if kindP r≠4 then dW E 2 r
  else if isT gC r.tail then
   if kindP r.tail.tail≠4 then dW E 2 r.tail.tail
   else if numP r.tail.tail<numP r+1 then dW E 3 r.tail.tail
   else dE E ⟨3,numP r,numP r.tail.tail,[],[]⟩ r.tail.tail.tail n
  else dW E 2 r.tail:=by
 have h:eQ 6 r=4*r.length+1:=by simp[eQ,fb]
 show goP E (eQ 6 r) 6 d e r n=_;rw[h,uy];by_cases c0:40<d
 ·rw[aD c0,aD c0]
 rw[ax c0,ax c0];by_cases c1:isT kO r=true
 ·rw[aD c1,aD c1];have:=fp (by decide) c1;exact dO (iE E 0 _ _ _ _ (by omega) _ (by simp[eQ,fb]at*;omega)) fun e1 r1 n1 h1=>rfl
 rw[ax c1,ax c1];by_cases c2:isT jW r=true
 ·rw[aD c2,aD c2]
 rw[ax c2,ax c2];by_cases c3:isT jA r=true
 ·rw[aD c3,aD c3]
 rw[ax c3,ax c3];by_cases c4:isT jS r=true
 ·rw[aD c4,aD c4];have:=fp (by decide) c4;exact iE E 7 _ _ _ _ (by omega) _ (by simp[eQ,fb]at*;omega)
 rw[ax c4,ax c4];by_cases c5:isT lx r=true
 ·rw[aD c5,aD c5];have:=fp (by decide) c5;rw[iE E 8 d ⟨5,numP r.tail,numP r.tail.tail.tail,[],[]⟩ r.tail.tail.tail.tail n (by omega) _ (by simp[eQ,fb]at*;omega),iE E 8 d ⟨5,numP r.tail,numP r.tail,[],[]⟩ r.tail.tail n (by omega) _ (by simp[eQ,fb]at*;omega)]
 rw[ax c5,ax c5]
theorem M2 (E d:Nat)(e:Ex)(r:List Tk)(n:Nat):rd E 7 d e r n=
  if dayBit (textP r)=0 then dW E 2 r
  else if isT oU r.tail then rd E 7 d ⟨0,((e.a.toNat|||dayBit (textP r):Nat):Int),0,[],[]⟩ r.tail.tail n
  else rd E 8 d ⟨4,((e.a.toNat|||dayBit (textP r):Nat):Int),0,[],[]⟩ r.tail n:=by
 have h:eQ 7 r=4*r.length+1:=by simp[eQ,fb]
 show goP E (eQ 7 r) 7 d e r n=_;rw[h,uz];by_cases c1:dayBit (textP r)=0
 ·rw[aD c1,aD c1]
 rw[ax c1,ax c1];have:=oM c1;rw[iE E 7 d _ r.tail.tail n (by omega) _ (by simp[eQ,fb]at*;omega),iE E 8 d _ r.tail n (by omega) _ (by simp[eQ,fb]at*;omega)]
theorem Pb (E d:Nat)(e:Ex)(r:List Tk)(n:Nat):rd E 8 d e r n=
  if isT mQ r then dl (rd E 4 (d+1) ex0 r.tail n) fun k r n=>dE E ⟨e.kind,e.a,e.b,[],[k]⟩ r n else dW E 2 r:=by
 have h:eQ 8 r=4*r.length+1:=by simp[eQ,fb]
 show goP E (eQ 8 r) 8 d e r n=_;rw[h,uA];by_cases c1:isT mQ r=true
 ·rw[aD c1,aD c1];have:=fp (by decide) c1;exact dO (iE E 4 _ _ _ _ (by omega) _ (by simp[eQ,fb]at*;omega)) fun e1 r1 n1 h1=>rfl
 ·rw[ax c1,ax c1]
end Lx
theorem lM (c:UInt8)(w:World):Calls prog 114 #[.int .u8 (c.toNat:Int)] w fun e w'=>e= .returned (.bool (isD c))/\w'=w:=by
 unfold isD;by_cases h1:48<=c.toNat
 ·by_cases h2:c.toNat<=57
  ·have i1:(48:Int)<=(c.toNat:Int):=(by omega);have i2:(c.toNat:Int)<=57:=(by omega);rw[bm h1,bm h2];go_enter func114,ntmps114;go_wp2;go_ret;exact⟨rfl,rfl⟩
  ·have i1:(48:Int)<=(c.toNat:Int):=(by omega);have i2: ¬(c.toNat:Int)<=57:=(by omega);rw[bm h1,bn h2];go_enter func114,ntmps114;go_wp2;go_ret;exact⟨rfl,rfl⟩
 ·have i1: ¬(48:Int)<=(c.toNat:Int):=by omega
  rw[bn h1];go_enter func114,ntmps114;go_wp2;go_ret;exact⟨rfl,rfl⟩
theorem wF (c:UInt8)(w:World):Calls prog 116 #[.int .u8 (c.toNat:Int)] w fun e w'=>e= .returned (.bool (isL c))/\w'=w:=by
 unfold isL;by_cases h1:97<=c.toNat
 ·by_cases h2:c.toNat<=122
  ·have i1:(97:Int)<=(c.toNat:Int):=(by omega);have i2:(c.toNat:Int)<=122:=(by omega);rw[bm h1,bm h2];go_enter func116,ntmps116;go_wp2;go_ret;exact⟨rfl,rfl⟩
  ·have i1:(97:Int)<=(c.toNat:Int):=(by omega);have i2: ¬(c.toNat:Int)<=122:=(by omega);rw[bm h1,bn h2];go_enter func116,ntmps116;go_wp2;go_ret;exact⟨rfl,rfl⟩
 ·have i1: ¬(97:Int)<=(c.toNat:Int):=by omega
  rw[bn h1];go_enter func116,ntmps116;go_wp2;go_ret;exact⟨rfl,rfl⟩
theorem lA {s:ByteArray}{l:List UInt8}(hs:s.data.toList=l)(k:Nat)(hk:k<s.size):s[k]=l.getD k 0:=by
 subst hs;have h:k<s.data.size:=hk;show s.data[k]=_;rw[dQ,bp,fQ h];rfl
theorem F5 {a b:Int}(h:a=b):ag a=ag b:=by rw[h]
theorem mI (s:ByteArray)(l:List UInt8)(hs:s.data.toList=l)(hl:l.length<=6)(hd: ∀i,i<l.length->isD (l.getD i 0)=true)(w:World):
  Calls prog 138 #[.string s] w fun e w'=>e= .returned (ag (valL l))/\w'=w:=by
 have hz:s.size=l.length:=by rw[<-hs,Lib.size_eq]
 go_enter func138,ntmps138;go_wp2;go_loop [3,7] (fun n i=> ∃k:Nat,k<=l.length/\i=ag k/\n=ag (valL (l.take k))) (fun _ i=>l.length-(intOf i).toNat);case atStart=>exact⟨0,by omega,rfl,rfl⟩
 case round=>
  obtain⟨k,hk,rfl,rfl⟩:=hrel;by_cases hlt:k<l.length
  ·have hlt':(k:Int)<(l.length:Int):=(by omega);have hk0:(0:Int)<=(k:Int):=(by omega);have hv:=pE l hd k (by omega) (by omega);have hdk:=hd k hlt;have e1:=lA hs k (by omega);have e2:=yW l k hlt;have HE:PH (valL (l.take (k+1))=10*valL (l.take k)+(((l.getD k 0).toNat:Int)-48)):=e2;simp only[isD,bx,cg]at hdk;have HK:PH (48<=(l.getD k 0).toNat/\(l.getD k 0).toNat<=57):=hdk;have HB:PH (s[k]=l.getD k 0):=e1;clear hdk e1 e2 hd;go_wp2;go_round
   case rel=>
    refine⟨k+1,by omega,by go_num,F5 ?_⟩;have h2:=HK.o;rw[HB.o,HE.o];generalize (l.getD k 0).toNat=c at h2;generalize valL (l.take k)=v at hv;omega
   case measure=>simp[intOf];omega
  ·have hkl:k=l.length:=(by omega);subst hkl;have e:valL (l.take l.length)=valL l:=(by rw[gd]);go_wp2;go_ret;exact⟨rfl,rfl⟩
theorem AU (s t:ByteArray)(l m:List UInt8)(hs:s.data.toList=l)(ht:t.data.toList=m)(hl:l.length<=9223372036854775807)(hm:m.length<=100)(w:World):
  Calls prog 111 #[.string s,.string t] w fun e w'=>e= .returned (.bool (jq l m))/\aq w w':=by
 have hz:s.size=l.length:=by rw[<-hs,Lib.size_eq]
 have hy:t.size=m.length:=by rw[<-ht,Lib.size_eq]
 by_cases hsh:m.length<=l.length
 ·have hsh': ¬(l.length:Int)<(m.length:Int):=by omega
  go_enter func111,ntmps111;go_wp2;go_loopw [13] (fun i wr=> ∃k:Nat,k<=m.length/\i=ag k/\(∀i,i<k->okB (m.getD i 0) (l.getD i 0)=true)/\aq w wr) (fun i _=>m.length-(intOf i).toNat);case atStart=>exact⟨0,by omega,rfl,fun i h=>by omega,aI _ _⟩
  case round=>
   obtain⟨k,hk,rfl,hall,hbel⟩:=hrel;have HA:PH (∀i,i<k->okB (m.getD i 0) (l.getD i 0)=true):=hall;clear hall;by_cases hlt:k<m.length
   ·have hlt':(k:Int)<(m.length:Int):=(by omega);have hlt2:(k:Int)<(l.length:Int):=(by omega);have hk0:(0:Int)<=(k:Int):=(by omega);have e1:=lA hs k (by omega);have e2:=lA ht k (by omega);have g1: ∀h:k<s.size,s[k]=l.getD k 0:=fun _=>e1;have g2: ∀h:k<t.size,t[k]=m.getD k 0:=fun _=>e2;have hok:okB (m.getD k 0) (l.getD k 0)=(if(m.getD k 0).toNat=48 then isD (l.getD k 0) else decide ((m.getD k 0).toNat=(l.getD k 0).toNat)):=rfl;generalize hc:l.getD k 0=c at*;generalize hf:m.getD k 0=f at*;by_cases h48:f.toNat=48
    ·have i48:(f.toNat:Int)=48:=(by omega);rw[aD h48]at hok;cases hd:isD c with
     |true=>
      rw[hd]at hok;have HO:PH (okB f c=true):=hok;have cd:=fun w=>lM c w;rw[hd]at cd;clear hok hd e1 e2;go_wp2;go_quiet ((go_at_call 114;exact fu (cd _)));go_wp2;go_roundw
      case rel=>
       refine⟨k+1,by omega,by go_num,fun i hi=> ?_,dB hbel _⟩;by_cases e:i=k
       ·subst e;rw[hc,hf];exact HO.o
       ·exact HA.o i (by omega)
      case measure=>simp[intOf];omega
     |false=>
      rw[hd]at hok;have HO:PH (okB f c=false):=hok;have cd:=fun w=>lM c w;rw[hd]at cd;clear hok hd e1 e2;go_wp2;go_quiet ((go_at_call 114;exact fu (cd _)));go_wp2;go_ret;exact⟨by rw[AR k hlt (by rw[hc,hf];exact HO.o)];rfl,dB hbel _⟩
    ·have n48:((f.toNat:Int)==48)=false:=(by simp;omega);rw[ax h48]at hok;by_cases hfc:f.toNat=c.toNat
     ·have HO:PH (okB f c=true):=(by rw[hok];exact bm hfc);have m48:((c.toNat:Int)==48)=false:=(by simp;omega);have o48:((c.toNat:Int) !=48)=true:=(by simp;omega);have o49:((c.toNat:Int) !=(c.toNat:Int))=false:=(by simp);clear hok e1 e2 n48 h48;go_wp2;go_quiet (fail);go_wp2;go_roundw
      case rel=>
       refine⟨k+1,by omega,by go_num,fun i hi=> ?_,dB hbel _⟩;by_cases e:i=k
       ·subst e;rw[hc,hf];exact HO.o
       ·exact HA.o i (by omega)
      case measure=>simp[intOf];omega
     ·have HO:PH (okB f c=false):=(by rw[hok];exact bn hfc);have o48:((f.toNat:Int) !=48)=true:=(by simp;omega);have ifc:((f.toNat:Int) !=(c.toNat:Int))=true:=(by simp;omega);clear hok e1 e2;go_wp2;go_quiet (fail);go_wp2;go_ret;exact⟨by rw[AR k hlt (by rw[hc,hf];exact HO.o)];rfl,dB hbel _⟩
   ·have HF:PH (jq l m=true):=F2 hsh fun i hi=>HA.o i (by omega);have hkl:k=m.length:=(by omega);subst hkl;go_wp2;go_ret;exact⟨by rw[HF.o];rfl,hbel⟩
 ·have HF:PH (jq l m=false):=CA hsh;have hsh':(l.length:Int)<(m.length:Int):=(by omega);go_enter func111,ntmps111;go_wp2;go_ret;exact⟨by rw[HF.o];rfl,aI _ _⟩
def r7 (t:T1):Value:= .tuple #[.agg #[ag t.kind,ag t.n,ag 0,.string ⟨t.text.toArray⟩],ag (t.len:Int),ag t.err]
theorem yr:prog.underlying 162=some (.struct (prog.fieldsOf 162)):=by kernel_rfl
theorem fU {fn:Func}(h:fn.results=f115.results){R:Ending->World->Prop}{a:Act}{w:World}(g:Nat)(t:T1)(hd:a.defers=[])(h2:a.tmps.getD 2 undef=ab g 0)
  (h3:a.tmps.getD 3 undef=ag (t.len:Int)) (h4:a.tmps.getD 4 undef=ag t.err) (hg:w.heap[g]? =ah #[ag t.kind,ag t.n,ag 0,.string ⟨t.text.toArray⟩] 162)
  (hR:R (.returned (r7 t)) w):bodyPost prog fn R .ret a w:=by
 refine aW (v:=r7 t) ?_ hd hR;have h2':a.tmps[2]?.getD undef=ab g 0:=by simpa using h2
 have h3':a.tmps[3]?.getD undef=ag (t.len:Int):=by simpa using h3
 have h4':a.tmps[4]?.getD undef=ag t.err:=by simpa using h4
 have hv:=dV (P:=prog) w g 162 162 _ _ _ hg yr rfl (by kernel_rfl);simp[results,h,results115,h2',h3',h4',asAddr,hv,r7]
theorem u9 (s:ByteArray)(l:List UInt8)(hs:s.data.toList=l)(hl:l.length<=9223372036854775806)(w:World):
  Calls prog 139 #[.string s] w fun e w'=>e= .returned (ag (wordLen l:Int))/\w'=w:=by
 have hz:s.size=l.length:=by rw[<-hs,Lib.size_eq]
 go_enter func139,ntmps139;go_wp2;go_loop [3] (fun i=> ∃k:Nat,k<=l.length/\i=ag k/\ ∀i,i<k->nT l i=true) (fun i=>l.length-(intOf i).toNat);case atStart=>exact⟨0,by omega,rfl,fun i h=>by omega⟩
 case round=>
  obtain⟨k,hk,rfl,hall⟩:=hrel;have HA:PH (∀i,i<k->nT l i=true):=hall;clear hall;by_cases hlt:k<l.length
  ·have hlt':(k:Int)<(l.length:Int):=(by omega);have hk0:(0:Int)<=(k:Int):=(by omega);have g1: ∀h:k<s.size,s[k]=l.getD k 0:=fun h=>lA hs k h
   have hp:nT l k=if k=0 then isL (l.getD k 0) else isC (l.getD k 0):=by
    unfold nT;split
    ·rename_i h;rw[h]
    ·rfl
   generalize hc:l.getD k 0=c at*;have cl:=fun w=>wF c w;have cd:=fun w=>lM c w;have stop:nT l k=false->PH (wordLen l=k):=fun h=>wx l k hk HA.o fun _=>h
   have next:nT l k=true->PH (∀i,i<k+1->nT l i=true):=fun h i hi=>by
    by_cases e:i=k
    ·rw[e];exact h
    ·exact HA.o i (by omega)
   cases hL:isL c with
   |true=>
    have hN:=next (by rw[hp];split<;>simp[hL,isC])
    rw[hL]at cl;clear hp hL stop next HA
    go_wp2_with(first
     |(go_at_call 116;refine(cl _).mono ?_;rintro e w' ⟨rfl,rfl⟩)
     |(go_at_call 114;refine(cd _).mono ?_;rintro e w' ⟨rfl,rfl⟩))
    go_round;case rel=>exact⟨k+1,by omega,by go_num,hN.o⟩
    case measure=>simp[intOf];omega
   |false=>
    rw[hL]at cl;by_cases h0:k=0
    ·have hS:=stop (by rw[hp,aD h0,hL]);clear hp hL stop next HA hk0 hlt'
     subst h0;have hlt0:(0:Int)<(l.length:Int):=(by omega)
     go_wp2_with(first
      |(go_at_call 116;refine(cl _).mono ?_;rintro e w' ⟨rfl,rfl⟩)
      |(go_at_call 114;refine(cd _).mono ?_;rintro e w' ⟨rfl,rfl⟩))
     go_ret;exact⟨by rw[hS.o];rfl,rfl⟩
    ·have h0':(0:Int)<(k:Int):=(by omega);cases hD:isD c with
     |true=>
      have hN:=next (by rw[hp,ax h0];simp[hD,isC])
      rw[hD]at cd;clear hp hL hD stop next HA
      go_wp2_with(first
       |(go_at_call 116;refine(cl _).mono ?_;rintro e w' ⟨rfl,rfl⟩)
       |(go_at_call 114;refine(cd _).mono ?_;rintro e w' ⟨rfl,rfl⟩))
      go_round;case rel=>exact⟨k+1,by omega,by go_num,hN.o⟩
      case measure=>simp[intOf];omega
     |false=>
      rw[hD]at cd;by_cases h95:c.toNat=95
      ·have hN:=next (by rw[hp,ax h0];simp[isC,h95])
       have i95:((c.toNat:Int)==95)=true:=(by simp;omega);clear hp hL hD stop next HA h95
       go_wp2_with(first
        |(go_at_call 116;refine(cl _).mono ?_;rintro e w' ⟨rfl,rfl⟩)
        |(go_at_call 114;refine(cd _).mono ?_;rintro e w' ⟨rfl,rfl⟩))
       go_round;case rel=>exact⟨k+1,by omega,by go_num,hN.o⟩
       case measure=>simp[intOf];omega
      ·have hS:=stop (by rw[hp,ax h0];simp[isC,h95,hL,hD]);have i95:((c.toNat:Int)==95)=false:=(by simp;omega);clear hp hL hD stop next HA h95
       go_wp2_with(first
        |(go_at_call 116;refine(cl _).mono ?_;rintro e w' ⟨rfl,rfl⟩)
        |(go_at_call 114;refine(cd _).mono ?_;rintro e w' ⟨rfl,rfl⟩))
       go_ret;exact⟨by rw[hS.o];rfl,rfl⟩
  ·have hS:PH (wordLen l=k):=wx l k hk HA.o fun h=>absurd h hlt;have hlt': ¬(k:Int)<(l.length:Int):=(by omega);go_wp2;go_ret;exact⟨by rw[hS.o];rfl,rfl⟩
theorem Ef (s:ByteArray)(l:List UInt8)(hs:s.data.toList=l)(hl:l.length<=9223372036854775806)(w:World):
  Calls prog 115 #[.string s] w fun e w'=>e= .returned (r7 (mu l))/\aq w w':=by
 have hz:s.size=l.length:=by rw[<-hs,Lib.size_eq]
 have hb0:aq w (w.alloc (.cells #[ag 0,ag 0,ag 0,.string ⟨#[]⟩] 162)):=am _ _;go_enter func115,ntmps115;go_wp2;go_loop [5] (fun i=> ∃k:Nat,k<=l.length/\i=ag k/\ ∀i,i<k->isD (l.getD i 0)=true) (fun i=>l.length-(intOf i).toNat);case atStart=>exact⟨0,by omega,rfl,fun i h=>by omega⟩
 case round=>
  obtain⟨k,hk,rfl,hall⟩:=hrel;have HA:PH (∀i,i<k->isD (l.getD i 0)=true):=hall;clear hall;by_cases hgo:k<l.length/\isD (l.getD k 0)=true
  ·obtain⟨hlt,hD⟩:=hgo;have hlt':(k:Int)<(l.length:Int):=(by omega);have hk0:(0:Int)<=(k:Int):=(by omega);have g1: ∀h:k<s.size,s[k]=l.getD k 0:=fun h=>lA hs k h;have cd:=fun w=>lM (l.getD k 0) w;rw[hD]at cd;have HD:PH (isD (l.getD k 0)=true):=hD;clear hD;generalize hc:l.getD k 0=c at*;go_wp2_with(go_at_call 114;refine(cd _).mono ?_;rintro e w' ⟨rfl,rfl⟩)
   go_round
   case rel=>
    refine⟨k+1,by omega,by go_num,fun i hi=> ?_⟩;by_cases e:i=k
    ·rw[e,hc];exact HD.o
    ·exact HA.o i (by omega)
   case measure=>simp[intOf];omega
  ·have hR:gN isD l=k:=vA isD l k hk HA.o fun h=>by
    cases e:isD (l.getD k 0) with
    |false=>rfl
    |true=>exact absurd ⟨h,e⟩ hgo
   have HR:PH (gN isD l=k):=hR;clear hR;by_cases h6:6<k
   ·have h6':(6:Int)<(k:Int):=(by omega)
    have HT:PH (mu l=bad 3):=by
     have:=HR.o;show mu l=bad 3;unfold mu;rw[this,aD h6]
    by_cases hlt:k<l.length
    ·have hlt':(k:Int)<(l.length:Int):=(by omega);have hk0:(0:Int)<=(k:Int):=(by omega);have g1: ∀h:k<s.size,s[k]=l.getD k 0:=fun h=>lA hs k h
     have hD:isD (l.getD k 0)=false:=by
      cases e:isD (l.getD k 0) with
      |false=>rfl
      |true=>exact absurd ⟨hlt,e⟩ hgo
     have cd:=fun w=>lM (l.getD k 0) w;rw[hD]at cd;clear hD hgo;generalize hc:l.getD k 0=c at*;go_wp2_with(go_at_call 114;refine(cd _).mono ?_;rintro e w' ⟨rfl,rfl⟩)
     exact fU rfl w.heap.size (bad 3) rfl rfl rfl rfl (aE w _) ⟨by rw[HT.o],hb0⟩
    ·have hlt': ¬(k:Int)<(l.length:Int):=(by omega);clear hgo;go_wp2;exact fU rfl w.heap.size (bad 3) rfl rfl rfl rfl (aE w _) ⟨by rw[HT.o],hb0⟩
   ·have h6': ¬(6:Int)<(k:Int):=(by omega);have hle:(k:Int)<=(l.length:Int):=(by omega);have hk0:(0:Int)<=(k:Int):=(by omega)
    have HT:PH (mu l=⟨6,valL (l.take k),[],k,0⟩):=by
     have:=HR.o;show mu l=_;unfold mu;rw[this,ax h6]
    have cv:=fun w=>mI (s.extract 0 k) (l.take k) (by rw[Lib.extract_data,hs];simp) (by simp;omega) (fun i hi=>by
     have hi':i<k:=(by simp at hi;omega);have:=HA.o i hi';rw[dQ]at this⊢;rw[js,aD hi'];exact this) w
    generalize valL (l.take k)=v at*;have hbx:aq w (w.alloc (.cells #[ag 6,ag v,ag 0,.string ⟨#[]⟩] 162)):=am _ _;by_cases hlt:k<l.length
    ·have hlt':(k:Int)<(l.length:Int):=(by omega);have g1: ∀h:k<s.size,s[k]=l.getD k 0:=fun h=>lA hs k h
     have hD:isD (l.getD k 0)=false:=by
      cases e:isD (l.getD k 0) with
      |false=>rfl
      |true=>exact absurd ⟨hlt,e⟩ hgo
     have cd:=fun w=>lM (l.getD k 0) w;rw[hD]at cd;clear hD hgo;generalize hc:l.getD k 0=c at*
     go_wp2_with(first
      |(go_at_call 114;refine(cd _).mono ?_;rintro e w' ⟨rfl,rfl⟩)
      |(go_at_call 138;refine(cv _).mono ?_;rintro e w' ⟨rfl,rfl⟩))
     exact fU rfl w.heap.size ⟨6,v,[],k,0⟩ rfl rfl rfl rfl (aE w _) ⟨by rw[HT.o],hbx⟩
    ·have hlt': ¬(k:Int)<(l.length:Int):=(by omega);clear hgo;go_wp2_with(go_at_call 138;refine(cv _).mono ?_;rintro e w' ⟨rfl,rfl⟩)
     exact fU rfl w.heap.size ⟨6,v,[],k,0⟩ rfl rfl rfl rfl (aE w _) ⟨by rw[HT.o],hbx⟩
namespace Lx
def lN:List UInt8:=[61,59,58,43,45,38,40,41,44]
theorem AV: ∀(l:List UInt8) (c:UInt8),Go.Lib.indexByte l c<(l.length:Int)
 |[],c=>by simp[Go.Lib.indexByte]
 |b::l,c=>by
  have ih:=AV l c;unfold Go.Lib.indexByte;simp only[bJ];split
  ·omega
  ·split<;>omega
theorem AX: ∀(l:List UInt8) (c:UInt8) (i:Nat),Go.Lib.indexByte l c=(i:Int)->l.getD i 0=c
 |[],c,i,h=>by simp[Go.Lib.indexByte]at h
 |b::l,c,i,h=>by
  unfold Go.Lib.indexByte at h;split at h
  ·rename_i hb;have:i=0:=(by omega);subst this;simpa using hb
  ·split at h
   ·omega
   ·have ge:=Go.Lib.indexByte_ge l c;rename_i hn;have hn':Go.Lib.indexByte l c≠ -1:=(by simpa using hn);obtain⟨j,hj⟩: ∃j:Nat,Go.Lib.indexByte l c=j:=⟨(Go.Lib.indexByte l c).toNat,by omega⟩
    have e:i=j+1:=(by omega);subst e;simpa using AX l c j hj
def j7 (l:List UInt8):T1:=if Go.Lib.hasPrefix l [46,46] then⟨3,0,[46,46],2,0⟩ else if Go.Lib.indexByte lN (l.getD 0 0)<0 then bad 2 else⟨3,0,[l.getD 0 0],1,0⟩
theorem KF {s:ByteArray}{l:List UInt8}(h:s.data.toList=l):s=⟨l.toArray⟩:=by
 obtain⟨d⟩:=s;simp only at h;subst h;simp
def jI:List (List UInt8):=[[97,108,119,97,121,115],[100,97,116,101,115],[102,114,105],[109,111,110],[110,101,118,101,114],[114,117,108,101],[115,97,116],[115,104,105,102,116],[115,117,110],[116,104,117],[116,117,101],[119,101,100],[119,101,101,107,108,121]]
def isWordL (t:List UInt8):Bool:=jI.any fun w=>w==t
def kP (l:List UInt8):T1:=if 20<wordLen l then bad 7 else⟨if isWordL (l.take (wordLen l)) then 2 else 1,0,l.take (wordLen l),wordLen l,0⟩
end Lx
end Go.Proofs.YtkfidffapdhbhaaGreatDoor
