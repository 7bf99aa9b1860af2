/- Texts of the proof. -/
import Derived.Lib.Bytealg
import Derived.Test.YtjkilacmkbmmbaaGreatDoorPmZb
set_option maxRecDepth 100000
set_option maxHeartbeats 8000000
namespace Go.Proofs.YtjkilacmkbmmbaaGreatDoor
open Go.Proofs.Tryz Go.RowKit Lx Vx Mx Msk
section
section
variable {w w':World} {base e size n:Nat} {v:Value} {xs:List Value}
theorem bU (h:w.ownsRow base e size v n xs): ∃p c,v= .slice p n c:=by
 rcases h.2 with⟨e,e2⟩|⟨b,cap,cur,e,_⟩
 ·exact⟨none,0,by rw[e,e2]⟩
 ·exact⟨_,cap,e⟩
theorem kj {g:Nat}{cs:Array Value}{T:TypeId}(h:w.ownsRow base e size v n xs)(hg:w.heap[g]? =ah cs T)(hT:T≠e):some g≠v.ownBlock:=by
 rcases h.2 with⟨e,_⟩|⟨b,cap,cur,e,_,hb,_⟩
 ·rw[e];simp[Value.ownBlock]
 ·rw[e];intro q;have q':g=b:=(by simpa[Value.ownBlock] using q);subst q';rw[hg]at hb;injection hb with hb;injection hb with _ h2 _;exact hT h2
theorem bp (h:w.ownsRow base e size v n xs)(hk: ∀b,v.ownBlock=some b->w'.heap[b]? =w.heap[b]?):w'.ownsRow base e size v n xs:=by
 obtain⟨h1,h2⟩:=h;refine⟨h1,?_⟩;rcases h2 with h2|⟨g,cap,cur,hv,hg,hh,r⟩
 ·exact .inl h2
 ·exact .inr ⟨g,cap,cur,hv,hg,(hk g (by rw[hv];rfl)).trans hh,r⟩
end
theorem se {o:Oper}{a:Act}{w:World}{K:Act->World->Prop}{Q:Exit->Act->World->Prop}(s x:Operand)(t:TypeId)
  (ho:o.op= .call {callee:= .builtin .append,args:= #[s,x],argTypes:= #[t,t]})
  (base:Nat) (e:TypeId) (i:TypeInfo) (z:Value) (size bytes:Nat) (ht:prog.underlying t=some (.slice e)) (hi:prog.info? e=some i) (hz:i.zero=some z)
  (hsize:i.size=size) (hby:i.bytes=bytes) (hzs:z.cells.size=size) (hsz:0<size)
  (v:Value) (n:Nat) (xs:List Value) (hs:a.eval s=v) (hown:w.ownsRow base e size v n xs)
  (ad:Addr) (m c:Nat) (news:List Value) (hx:a.eval x= .slice (some ad) m c) (hl:news.length=m*size) (hnews: ∀j u,news[j]? =some u->w.cell? (ad.add j)=some u) (h1: ∀u∈news,u.oneCell'=true)
  (h63:n+m<=maxLen) (hbytes:(n+m)*bytes<=140737488355328) (hbase:base<=w.heap.size)
  (h: ∀v' w',w'.ownsRow base e size v' (n+m) (xs++news)->w.grownBy w' v.ownBlock->(v'.ownBlock=v.ownBlock\/v'.ownBlock=some w.heap.size)->K (a.put o.dst v') w'):o.wp prog a w K Q:=by
 obtain⟨v',w',hr,h2,h3,_,h5⟩:=run_append_own_at (P:=prog) w base t o.type e i z size bytes ht hi hz hsize hby hzs hsz v n xs hown ad m c news hl hnews h1 h63 hbytes hbase;unfold Oper.wp execOp;simp only[ho,resolve,invoke,builtin,jA,j8,gQ,iM,dt,eJ,hs,hx,hr];exact h v' w' h2 h3 h5
end
namespace Lx
def isD (c:UInt8):Bool:=decide (48<=c.toNat)&&decide (c.toNat<=57)
def isL (c:UInt8):Bool:=decide (97<=c.toNat)&&decide (c.toNat<=122)
def isC (c:UInt8):Bool:=isL c||(isD c||decide (c.toNat=95))
def gh (p:UInt8->Bool):List UInt8->Nat
 |[]=>0
 |c::l=>if p c then gh p l+1 else 0
def wordLen:List UInt8->Nat
 |[]=>0
 |c::l=>if isL c then gh isC l+1 else 0
theorem la (p:UInt8->Bool): ∀l,gh p l<=l.length
 |[]=>by simp[gh]
 |c::l=>by have:=la p l;simp only[gh];split<;>simp;omega
theorem yw (p:UInt8->Bool): ∀l i,i<gh p l->p (l.getD i 0)=true
 |[],i,h=>by simp[gh]at h
 |c::l,i,h=>by
  simp only[gh]at h;split at h
  ·cases i with
   |zero=>simpa
   |succ i=>simpa using yw p l i (by omega)
  ·omega
theorem uU (p:UInt8->Bool): ∀(l:List UInt8) (k:Nat),k<=l.length->(∀i,i<k->p (l.getD i 0)=true)->(k<l.length->p (l.getD k 0)=false)->gh p l=k
 |[],k,h,_,_=>by simp at h;subst h;rfl
 |c::l,0,_,_,h2=>by
  have:=h2 (by simp);simp at this;simp[gh,this]
 |c::l,k+1,h,h1,h2=>by
  have hc:=h1 0 (by omega);simp at hc;have:=uU p l k (by simpa using h) (fun i hi=>by simpa using h1 (i+1) (by omega)) (fun hk=>by simpa using h2 (by simpa using hk));simp[gh,hc,this]
theorem vU: ∀l,wordLen l<=l.length
 |[]=>by simp[wordLen]
 |c::l=>by have:=la isC l;simp only[wordLen];split<;>simp;omega
def valL (l:List UInt8):Int:=l.foldl (fun n c=>10*n+((c.toNat:Int)-48)) 0
theorem Fu (l:List UInt8)(c:UInt8):valL (l++[c])=10*valL l+((c.toNat:Int)-48):=by simp[valL]
theorem yx (l:List UInt8)(k:Nat)(hk:k<l.length):valL (l.take (k+1))=10*valL (l.take k)+(((l.getD k 0).toNat:Int)-48):=by
 rw[List.take_succ_eq_append_getElem hk,Fu];simp[List.getD,hk]
theorem vV (l:List UInt8)(h: ∀i,i<l.length->isD (l.getD i 0)=true): ∀k,k<=l.length->0<=valL (l.take k)/\valL (l.take k)<((10^k:Nat):Int)
 |0,_=>by simp[valL]
 |k+1,hk=>by
  have ih:=vV l h k (by omega);have hd:=h k (by omega);simp only[isD,bq,bz]at hd;rw[yx l k (by omega),Nat.pow_succ];omega
theorem oS (l:List UInt8)(h: ∀i,i<l.length->isD (l.getD i 0)=true)(k:Nat)(hk:k<=l.length)(h6:k<=6):0<=valL (l.take k)/\valL (l.take k)<1000000:=by
 have b:=vV l h k hk;have:(10:Nat)^k<=10^6:=Nat.pow_le_pow_right (by omega) h6;have e:(10:Nat)^6=1000000:=by decide
 omega
def okB (f c:UInt8):Bool:=if f.toNat=48 then isD c else decide (f.toNat=c.toNat)
def iS (l m:List UInt8):Bool:=decide (m.length<=l.length)&&(List.range m.length).all fun i=>okB (m.getD i 0) (l.getD i 0)
theorem Fv {l m:List UInt8}(h1:m.length<=l.length)(h2: ∀i,i<m.length->okB (m.getD i 0) (l.getD i 0)=true):iS l m=true:=by
 unfold iS;rw[ba h1,iG,dh];intro i hi;exact h2 i (by simpa using hi)
theorem Ay {l m:List UInt8}(i:Nat)(h1:i<m.length)(h2:okB (m.getD i 0) (l.getD i 0)=false):iS l m=false:=by
 cases e:iS l m with
 |false=>rfl
 |true=>
  unfold iS at e;rw[bq,dh]at e;have:=e.2 i (by simpa using h1);rw[h2]at this;cases this
theorem B8 {l m:List UInt8}(h: ¬m.length<=l.length):iS l m=false:=by simp[iS,h]
theorem pG {l m:List UInt8}(h:iS l m=true):m.length<=l.length/\ ∀i,i<m.length->okB (m.getD i 0) (l.getD i 0)=true:=by
 unfold iS at h;rw[bq,dh]at h;exact⟨by simpa using h.1,fun i hi=>h.2 i (by simpa using hi)⟩
def mR (l:List UInt8)(i:Nat):Bool:=if i=0 then isL (l.getD 0 0) else isC (l.getD i 0)
theorem vW: ∀(l:List UInt8) (k:Nat),k<=l.length->(∀i,i<k->mR l i=true)->(k<l.length->mR l k=false)->wordLen l=k
 |[],k,h,_,_=>by simp at h;subst h;rfl
 |c::l,0,_,_,h2=>by
  have:=h2 (by simp);simp[mR]at this;simp[wordLen,this]
 |c::l,k+1,h,h1,h2=>by
  have hc:=h1 0 (by omega);simp[mR]at hc;have e:=uU isC l k (by simpa using h) (fun i hi=>by simpa[mR] using h1 (i+1) (by omega)) (fun hk=>by simpa[mR] using h2 (by simpa using hk));simp[wordLen,hc,e]
structure T1 where
 kind:Int
 n:Int
 text:List UInt8
 len:Nat
 err:Int
def bad (e:Int):T1:=⟨0,0,[],0,e⟩
def lT (l:List UInt8):T1:=if 6<gh isD l then bad 3 else⟨6,valL (l.take (gh isD l)),[],gh isD l,0⟩
def vX:List UInt8:=[48,48,48,48,45,48,48,45,48,48]
def vY:List UInt8:=[48,48,58,48,48]
def nP (l:List UInt8):T1:=if 59<valL ((l.drop 3).take 2)\/1440<60*valL ((l.drop 0).take 2)+valL ((l.drop 3).take 2) then bad 3 else⟨4,60*valL ((l.drop 0).take 2)+valL ((l.drop 3).take 2),[],5,0⟩
theorem lU {l m:List UInt8}(h:iS l m=true)(a n:Nat)(ha:a+n<=m.length)(hf: ∀i,i<n->(m.getD (a+i) 0).toNat=48):
  ((l.drop a).take n).length=n/\ ∀i,i<((l.drop a).take n).length->isD (((l.drop a).take n).getD i 0)=true:=by
 obtain⟨h1,h2⟩:=pG h;have e:((l.drop a).take n).length=n:=by simp;omega
 refine⟨e,fun i hi=> ?_⟩;rw[e]at hi;have:=h2 (a+i) (by omega);unfold okB at this;rw[az (hf i hi)]at this;rw[dW]at this⊢;rw[iX,az hi,List.getElem?_drop];exact this
def ea:Bool->List UInt8->Nat
 |_,[]=>0
 |true,c::l=>if c.toNat=10 then ea false l+1 else ea true l+1
 |false,c::l=>if c.toNat=32\/c.toNat=9\/c.toNat=10 then ea false l+1 else if c.toNat=35 then ea true l+1 else 0
theorem mT: ∀(b:Bool) (l:List UInt8),ea b l<=l.length
 |true,[]=>by simp[ea]
 |false,[]=>by simp[ea]
 |true,c::l=>by
  have h1:=mT true l;have h2:=mT false l;simp only[ea,bG];split<;>omega
 |false,c::l=>by
  have h1:=mT true l;have h2:=mT false l;simp only[ea,bG];split
  ·omega
  ·split<;>omega
def xL (c:UInt8):Bool:=decide (c.toNat≠10)
def remL (l:List UInt8):Nat:=gh xL l
theorem Az: ∀(l:List UInt8),ea true l=remL l+ea false (l.drop (remL l))
 |[]=>by simp[remL,gh,ea]
 |c::l=>by
  by_cases h:c.toNat=10
  ·simp[remL,gh,xL,ea,h]
  ·have ih:=Az l;have e:remL (c::l)=remL l+1:=(by simp[remL,gh,xL,h]);rw[e];simp only[ea,h,if_false,List.drop_succ_cons];omega
theorem Fw (l:List UInt8)(h0:0<l.length)(hc:(l.getD 0 0).toNat=35):ea false l=remL l+ea false (l.drop (remL l))/\1<=remL l:=by
 match l,h0 with
 |c::r,_=>
  have hc':c.toNat=35:=(by simpa using hc);have e:remL (c::r)=remL r+1:=(by simp[remL,gh,xL,hc']);have:=Az r;rw[e];refine⟨?_,by omega⟩;simp only[ea,hc',List.drop_succ_cons];simp;omega
theorem DH (l:List UInt8)(h0:0<l.length)(hc:(l.getD 0 0).toNat=32\/(l.getD 0 0).toNat=9\/(l.getD 0 0).toNat=10):ea false l=1+ea false (l.drop 1):=by
 match l,h0 with
 |c::r,_=>
  have hc':c.toNat=32\/c.toNat=9\/c.toNat=10:=(by simpa using hc);simp only[ea,az hc',List.drop_succ_cons,List.drop_zero];omega
theorem Fy (l:List UInt8)(hc:0<l.length-> ¬((l.getD 0 0).toNat=32\/(l.getD 0 0).toNat=9\/(l.getD 0 0).toNat=10)/\(l.getD 0 0).toNat≠35):ea false l=0:=by
 match l with
 |[]=>rfl
 |c::r=>
  have:=hc (by simp);simp only[List.getD_cons_zero]at this;simp only[ea,aw this.1,aw this.2]
theorem yz: ∀l:List UInt8,Go.Lib.indexByte l 10=if remL l<l.length then(remL l:Int) else-1
 |[]=>by simp[Go.Lib.indexByte,remL,gh]
 |c::l=>by
  have ih:=yz l;by_cases h:c.toNat=10
  ·have e:c=10:=(by apply UInt8.toNat_inj.1;simpa using h);subst e;simp[Go.Lib.indexByte,remL,gh,xL]
  ·have hne:(c==10)=false:=by
    rw[bc];intro e;subst e;simp at h
   have e:remL (c::l)=remL l+1:=(by simp[remL,gh,xL,h]);have hle:remL l<=l.length:=la _ l;unfold Go.Lib.indexByte;rw[hne,ih,e];by_cases hh:remL l<l.length
   ·have n1:((remL l:Int)== -1)=false:=(by simp);rw[az hh,n1];simp[hh]
   ·rw[aw hh];simp[hh]
structure Ex where
 kind:Int
 a:Int
 b:Int
 name:List UInt8
 kids:List Ex
abbrev Tk:=T1×Nat
def ex0:Ex:=⟨0,0,0,[],[]⟩
abbrev Res:=Except (Int×Nat) (Ex×List Tk×Nat)
def atP (E:Nat):List Tk->Nat
 |[]=>E
 |p::_=>p.2
def textP:List Tk->List UInt8
 |[]=>[]
 |p::_=>p.1.text
def kindP:List Tk->Int
 |[]=>0
 |p::_=>p.1.kind
def numP:List Tk->Int
 |[]=>0
 |p::_=>p.1.n
def isT (x:List UInt8)(r:List Tk):Bool:=textP r==x
def cZ (x:Res)(f:Ex->List Tk->Nat->Res):Res:=
 match x with
 | .error e=> .error e
 | .ok (e,r,n)=>f e r n
def dr (E:Nat)(e:Ex)(r:List Tk)(n:Nat):Res:=if 600<n+1 then .error (4,atP E r) else .ok (e,r,n+1)
def dI (E:Nat)(err:Int)(r:List Tk):Res:= .error (err,atP E r)
def oT:List UInt8:=[43]
def fR:List UInt8:=[45]
def sE:List UInt8:=[38]
def jZ:List UInt8:=[40]
def nQ:List UInt8:=[41]
def oh:List UInt8:=[44]
def mr:List UInt8:=[58]
def rD:List UInt8:=[59]
def wIs:List UInt8:=[61]
def wTo:List UInt8:=[46,46]
def tJ:List UInt8:=[114,117,108,101]
def jB:List UInt8:=[110,101,118,101,114]
def jd:List UInt8:=[97,108,119,97,121,115]
def jy:List UInt8:=[119,101,101,107,108,121]
def kR:List UInt8:=[100,97,116,101,115]
def lP:List UInt8:=[115,104,105,102,116]
def eV:List (List UInt8):=[[109,111,110],[116,117,101],[119,101,100],[116,104,117],[102,114,105],[115,97,116],[115,117,110]]
def dayBit (x:List UInt8):Nat:=
 if x=eV.getD 0 [] then 1 else if x=eV.getD 1 [] then 2 else if x=eV.getD 2 [] then 4 else if x=eV.getD 3 [] then 8
 else if x=eV.getD 4 [] then 16 else if x=eV.getD 5 [] then 32 else if x=eV.getD 6 [] then 64 else 0
def goP (E:Nat):Nat->Nat->Nat->Ex->List Tk->Nat->Res
 |0,_,_,_,r,_=>dI E 0 r
 |f+1,0,d,_,r,n=>cZ (goP E f 2 d ex0 r n) fun e r n=>goP E f 1 d e r n
 |f+1,1,d,e,r,n=>
  if isT oT r then cZ (goP E f 2 d ex0 r.tail n) fun t r n=>cZ (dr E ⟨6,0,0,[],[e,t]⟩ r n) fun e r n=>goP E f 1 d e r n
  else if isT fR r then cZ (goP E f 2 d ex0 r.tail n) fun t r n=>cZ (dr E ⟨7,0,0,[],[e,t]⟩ r n) fun e r n=>goP E f 1 d e r n
  else .ok (e,r,n)
 |f+1,2,d,_,r,n=>cZ (goP E f 4 d ex0 r n) fun e r n=>goP E f 3 d e r n
 |f+1,3,d,e,r,n=>
  if isT sE r then cZ (goP E f 4 d ex0 r.tail n) fun t r n=>cZ (dr E ⟨8,0,0,[],[e,t]⟩ r n) fun e r n=>goP E f 3 d e r n
  else .ok (e,r,n)
 |f+1,4,d,_,r,n=>cZ (goP E f 6 d ex0 r n) fun e r n=>goP E f 5 d e r n
 |f+1,5,d,e,r,n=>
  if isT lP r then
   let m:=isT fR r.tail
   let q:=if m then r.tail.tail else r.tail
   if kindP q≠6 then dI E 2 q
   else if 1440<=numP q\/numP q<1 then dI E 3 q
   else cZ (dr E ⟨9,if m then-numP q else numP q,0,[],[e]⟩ q.tail n) fun e r n=>goP E f 5 d e r n
  else .ok (e,r,n)
 |f+1,6,d,_,r,n=>
  if 40<d then dI E 4 r
  else if isT jZ r then cZ (goP E f 0 (d+1) ex0 r.tail n) fun e r n=>if isT nQ r then .ok (e,r.tail,n) else dI E 2 r
  else if isT jB r then dr E ⟨1,0,0,[],[]⟩ r.tail n
  else if isT jd r then dr E ⟨2,0,0,[],[]⟩ r.tail n
  else if isT jy r then goP E f 7 d ex0 r.tail n
  else if isT kR r then
   let q:=r.tail
   if kindP q≠5 then dI E 2 q
   else if isT wTo q.tail then
    let p:=q.tail.tail
    if kindP p≠5 then dI E 2 p
    else if numP p<numP q then dI E 3 p
    else goP E f 8 d ⟨5,numP q,numP p,[],[]⟩ p.tail n
   else goP E f 8 d ⟨5,numP q,numP q,[],[]⟩ q.tail n
  else if kindP r=1 then dr E ⟨10,0,0,textP r,[]⟩ r.tail n
  else if kindP r≠4 then dI E 2 r
  else if isT fR r.tail then
   let q:=r.tail.tail
   if kindP q≠4 then dI E 2 q
   else if numP q<numP r+1 then dI E 3 q
   else dr E ⟨3,numP r,numP q,[],[]⟩ q.tail n
  else dI E 2 r.tail
 |f+1,7,d,e,r,n=>
  if dayBit (textP r)=0 then dI E 2 r
  else if isT oh r.tail then goP E f 7 d ⟨0,((e.a.toNat|||dayBit (textP r):Nat):Int),0,[],[]⟩ r.tail.tail n
  else goP E f 8 d ⟨4,((e.a.toNat|||dayBit (textP r):Nat):Int),0,[],[]⟩ r.tail n
 |f+1,_,d,e,r,n=>
  if isT mr r then cZ (goP E f 4 (d+1) ex0 r.tail n) fun k r n=>dr E ⟨e.kind,e.a,e.b,[],[k]⟩ r n else dI E 2 r
theorem eN {x:List UInt8}{r:List Tk}(hx:x≠[])(h:isT x r=true):1<=r.length:=by
 cases r with
 |nil=>simp[isT,textP]at h;exact absurd h (fun e=>hx (by first|exact e|exact e.symm))
 |cons p r=>simp
theorem oU {r:List Tk}(h:kindP r≠0):1<=r.length:=by
 cases r with
 |nil=>simp[kindP]at h
 |cons p r=>simp
theorem nT {r:List Tk}(h:dayBit (textP r)≠0):1<=r.length:=by
 cases r with
 |nil=>exact absurd (by decide) h
 |cons p r=>simp
def fL (m:Nat):Nat:=if m=1\/m=3\/m=5 then 0 else 1
theorem dl {x:Res}{f:Ex->List Tk->Nat->Res}{z:Ex×List Tk×Nat}(h:cZ x f= .ok z): ∃e r n,x= .ok (e,r,n)/\f e r n= .ok z:=by
 match x with
 | .error _=>cases h
 | .ok (e,r,n)=>exact⟨e,r,n,rfl,h⟩
theorem dB {E:Nat}{e:Ex}{r:List Tk}{n:Nat}{z:Ex×List Tk×Nat}(h:dr E e r n= .ok z):z=(e,r,n+1):=by
 unfold dr at h;split at h
 ·cases h
 ·cases h;rfl
theorem du {E:Nat}{err:Int}{r:List Tk}{z:Ex×List Tk×Nat}(h:dI E err r= .ok z):False:=by
 unfold dI at h;cases h
theorem tK (E f d:Nat)(e:Ex)(r:List Tk)(n:Nat):goP E (f+1) 0 d e r n=cZ (goP E f 2 d ex0 r n) fun e r n=>goP E f 1 d e r n:=rfl
theorem tL (E f d:Nat)(e:Ex)(r:List Tk)(n:Nat):goP E (f+1) 1 d e r n=if isT oT r then cZ (goP E f 2 d ex0 r.tail n) fun t r n=>cZ (dr E ⟨6,0,0,[],[e,t]⟩ r n) fun e r n=>goP E f 1 d e r n
 else if isT fR r then cZ (goP E f 2 d ex0 r.tail n) fun t r n=>cZ (dr E ⟨7,0,0,[],[e,t]⟩ r n) fun e r n=>goP E f 1 d e r n
 else .ok (e,r,n):=rfl
theorem tM (E f d:Nat)(e:Ex)(r:List Tk)(n:Nat):goP E (f+1) 2 d e r n=cZ (goP E f 4 d ex0 r n) fun e r n=>goP E f 3 d e r n:=rfl
theorem tN (E f d:Nat)(e:Ex)(r:List Tk)(n:Nat):goP E (f+1) 3 d e r n=if isT sE r then cZ (goP E f 4 d ex0 r.tail n) fun t r n=>cZ (dr E ⟨8,0,0,[],[e,t]⟩ r n) fun e r n=>goP E f 3 d e r n
 else .ok (e,r,n):=rfl
theorem tO (E f d:Nat)(e:Ex)(r:List Tk)(n:Nat):goP E (f+1) 4 d e r n=cZ (goP E f 6 d ex0 r n) fun e r n=>goP E f 5 d e r n:=rfl
def ff (r:List Tk):List Tk:=if isT fR r.tail then r.tail.tail else r.tail
theorem tP (E f d:Nat)(e:Ex)(r:List Tk)(n:Nat):goP E (f+1) 5 d e r n=if isT lP r then
  if kindP (ff r)≠6 then dI E 2 (ff r)
  else if 1440<=numP (ff r)\/numP (ff r)<1 then dI E 3 (ff r)
  else cZ (dr E ⟨9,if isT fR r.tail then-numP (ff r) else numP (ff r),0,[],[e]⟩ (ff r).tail n) fun e r n=>goP E f 5 d e r n
 else .ok (e,r,n):=rfl
theorem tQ (E f d:Nat)(e:Ex)(r:List Tk)(n:Nat):goP E (f+1) 6 d e r n=
 if 40<d then dI E 4 r
 else if isT jZ r then cZ (goP E f 0 (d+1) ex0 r.tail n) fun e r n=>if isT nQ r then .ok (e,r.tail,n) else dI E 2 r
 else if isT jB r then dr E ⟨1,0,0,[],[]⟩ r.tail n
 else if isT jd r then dr E ⟨2,0,0,[],[]⟩ r.tail n
 else if isT jy r then goP E f 7 d ex0 r.tail n
 else if isT kR r then
  if kindP r.tail≠5 then dI E 2 r.tail
  else if isT wTo r.tail.tail then
   if kindP r.tail.tail.tail≠5 then dI E 2 r.tail.tail.tail
   else if numP r.tail.tail.tail<numP r.tail then dI E 3 r.tail.tail.tail
   else goP E f 8 d ⟨5,numP r.tail,numP r.tail.tail.tail,[],[]⟩ r.tail.tail.tail.tail n
  else goP E f 8 d ⟨5,numP r.tail,numP r.tail,[],[]⟩ r.tail.tail n
 else if kindP r=1 then dr E ⟨10,0,0,textP r,[]⟩ r.tail n
 else if kindP r≠4 then dI E 2 r
 else if isT fR r.tail then
  if kindP r.tail.tail≠4 then dI E 2 r.tail.tail
  else if numP r.tail.tail<numP r+1 then dI E 3 r.tail.tail
  else dr E ⟨3,numP r,numP r.tail.tail,[],[]⟩ r.tail.tail.tail n
 else dI E 2 r.tail:=rfl
theorem tR (E f d:Nat)(e:Ex)(r:List Tk)(n:Nat):goP E (f+1) 7 d e r n=
 if dayBit (textP r)=0 then dI E 2 r
 else if isT oh r.tail then goP E f 7 d ⟨0,((e.a.toNat|||dayBit (textP r):Nat):Int),0,[],[]⟩ r.tail.tail n
 else goP E f 8 d ⟨4,((e.a.toNat|||dayBit (textP r):Nat):Int),0,[],[]⟩ r.tail n:=rfl
theorem tS (E f d:Nat)(e:Ex)(r:List Tk)(n:Nat):goP E (f+1) 8 d e r n=
 if isT mr r then cZ (goP E f 4 (d+1) ex0 r.tail n) fun k r n=>dr E ⟨e.kind,e.a,e.b,[],[k]⟩ r n else dI E 2 r:=rfl
theorem Iw (r:List Tk):r.tail.length=r.length-1:=by simp
theorem qJ (r:List Tk):(ff r).length<=r.length-1:=by
 unfold ff;split<;>simp only[Iw]<;>omega
theorem xM (E:Nat): ∀(f m d:Nat) (e:Ex) (r:List Tk) (n:Nat) (e':Ex) (r':List Tk) (n':Nat),m<=8->goP E f m d e r n= .ok (e',r',n')->r'.length+fL m<=r.length
 |0,m,d,e,r,n,e',r',n',_,h=>(du h).elim
 |f+1,m,d,e,r,n,e',r',n',hm,h=>by
  have ih:=xM E f;match m,hm with
  |0,_=>
   rw[tK]at h;obtain⟨e1,r1,n1,h1,h2⟩:=dl h;have a:=ih 2 _ _ _ _ _ _ _ (by omega) h1;have b:=ih 1 _ _ _ _ _ _ _ (by omega) h2;simp[fL]at*;omega
  |1,_=>
   rw[tL]at h;split at h
   ·obtain⟨e1,r1,n1,h1,h2⟩:=dl h;obtain⟨e2,r2,n2,h3,h4⟩:=dl h2;have c:=dB h3;cases c;have a:=ih 2 _ _ _ _ _ _ _ (by omega) h1;have b:=ih 1 _ _ _ _ _ _ _ (by omega) h4;simp[fL]at*;omega
   ·split at h
    ·obtain⟨e1,r1,n1,h1,h2⟩:=dl h;obtain⟨e2,r2,n2,h3,h4⟩:=dl h2;have c:=dB h3;cases c;have a:=ih 2 _ _ _ _ _ _ _ (by omega) h1;have b:=ih 1 _ _ _ _ _ _ _ (by omega) h4;simp[fL]at*;omega
    ·cases h;simp[fL]
  |2,_=>
   rw[tM]at h;obtain⟨e1,r1,n1,h1,h2⟩:=dl h;have a:=ih 4 _ _ _ _ _ _ _ (by omega) h1;have b:=ih 3 _ _ _ _ _ _ _ (by omega) h2;simp[fL]at*;omega
  |3,_=>
   rw[tN]at h;split at h
   ·obtain⟨e1,r1,n1,h1,h2⟩:=dl h;obtain⟨e2,r2,n2,h3,h4⟩:=dl h2;have c:=dB h3;cases c;have a:=ih 4 _ _ _ _ _ _ _ (by omega) h1;have b:=ih 3 _ _ _ _ _ _ _ (by omega) h4;simp[fL]at*;omega
   ·cases h;simp[fL]
  |4,_=>
   rw[tO]at h;obtain⟨e1,r1,n1,h1,h2⟩:=dl h;have a:=ih 6 _ _ _ _ _ _ _ (by omega) h1;have b:=ih 5 _ _ _ _ _ _ _ (by omega) h2;simp[fL]at*;omega
  |5,_=>
   rw[tP]at h;have hs:=qJ r;split at h
   ·split at h
    ·exact(du h).elim
    ·split at h
     ·exact(du h).elim
     ·obtain⟨e2,r2,n2,h3,h4⟩:=dl h;have c:=dB h3;cases c;have b:=ih 5 _ _ _ _ _ _ _ (by omega) h4;simp[fL]at*;omega
   ·cases h;simp[fL]
  |6,_=>
   rw[tQ]at h;by_cases c0:40<d
   ·rw[az c0]at h;exact(du h).elim
   rw[aw c0]at h;by_cases c1:isT jZ r=true
   ·rw[az c1]at h;have:=eN (by decide) c1;obtain⟨e1,r1,n1,h1,h2⟩:=dl h;have a:=ih 0 _ _ _ _ _ _ _ (by omega) h1;split at h2
    ·cases h2;simp[fL]at*;omega
    ·exact(du h2).elim
   rw[aw c1]at h;by_cases c2:isT jB r=true
   ·rw[az c2]at h;have:=eN (by decide) c2;cases dB h;simp[fL]at*;omega
   rw[aw c2]at h;by_cases c3:isT jd r=true
   ·rw[az c3]at h;have:=eN (by decide) c3;cases dB h;simp[fL]at*;omega
   rw[aw c3]at h;by_cases c4:isT jy r=true
   ·rw[az c4]at h;have:=eN (by decide) c4;have a:=ih 7 _ _ _ _ _ _ _ (by omega) h;simp[fL]at*;omega
   rw[aw c4]at h;by_cases c5:isT kR r=true
   ·rw[az c5]at h;have:=eN (by decide) c5;split at h
    ·exact(du h).elim
    split at h
    ·split at h
     ·exact(du h).elim
     split at h
     ·exact(du h).elim
     have a:=ih 8 _ _ _ _ _ _ _ (by omega) h;simp[fL]at*;omega
    ·have a:=ih 8 _ _ _ _ _ _ _ (by omega) h;simp[fL]at*;omega
   rw[aw c5]at h;by_cases c6:kindP r=1
   ·rw[az c6]at h;have:=oU (r:=r) (by omega);cases dB h;simp[fL]at*;omega
   rw[aw c6]at h;by_cases c7:kindP r≠4
   ·rw[az c7]at h;exact(du h).elim
   rw[aw c7]at h;have:=oU (r:=r) (by omega);split at h
   ·split at h
    ·exact(du h).elim
    split at h
    ·exact(du h).elim
    cases dB h;simp[fL]at*;omega
   ·exact(du h).elim
  |7,_=>
   rw[tR]at h;split at h
   ·exact(du h).elim
   ·rename_i hd;have:=nT hd;split at h
    ·have a:=ih 7 _ _ _ _ _ _ _ (by omega) h;simp[fL]at*;omega
    ·have a:=ih 8 _ _ _ _ _ _ _ (by omega) h;simp[fL]at*;omega
  |8,_=>
   rw[tS]at h;split at h
   ·rename_i ho;have:=eN (by decide) ho;obtain⟨e1,r1,n1,h1,h2⟩:=dl h;cases dB h2;have a:=ih 4 _ _ _ _ _ _ _ (by omega) h1;simp[fL]at*;omega
   ·exact(du h).elim
theorem dC {x y:Res}{f g:Ex->List Tk->Nat->Res}(h:x=y)(hf: ∀e r n,y= .ok (e,r,n)->f e r n=g e r n):cZ x f=cZ y g:=by
 subst h;match x with
 | .error _=>rfl
 | .ok (e,r,n)=>exact hf e r n rfl
def eC (m:Nat):Nat:=if m=0 then 4 else if m=2 then 3 else if m=4 then 2 else 1
def ef (m:Nat)(r:List Tk):Nat:=4*r.length+eC m
theorem AA (E:Nat): ∀(f m d:Nat) (e:Ex) (r:List Tk) (n:Nat),m<=8->ef m r<=f->goP E (f+1) m d e r n=goP E f m d e r n
 |0,m,d,e,r,n,_,h=>by
  unfold ef eC at h;exfalso;split at h
  ·omega
  split at h
  ·omega
  split at h<;>omega
 |f+1,m,d,e,r,n,hm,h=>by
  have ih:=AA E f;have len:=xM E f;unfold ef at h ih;match m,hm with
  |0,_=>
   rw[tK,tK];refine dC (ih 2 _ _ _ _ (by omega) (by simp[eC]at*;omega)) fun e1 r1 n1 h1=> ?_;have a:=len 2 _ _ _ _ _ _ _ (by omega) h1;exact ih 1 _ _ _ _ (by omega) (by simp[eC,fL]at*;omega)
  |1,_=>
   rw[tL,tL];split
   ·rename_i ho;have:=eN (by decide) ho;refine dC (ih 2 _ _ _ _ (by omega) (by simp[eC]at*;omega)) fun e1 r1 n1 h1=> ?_;have a:=len 2 _ _ _ _ _ _ _ (by omega) h1;refine dC rfl fun e2 r2 n2 h2=> ?_;cases dB h2;exact ih 1 _ _ _ _ (by omega) (by simp[eC,fL]at*;omega)
   ·split
    ·rename_i ho;have:=eN (by decide) ho;refine dC (ih 2 _ _ _ _ (by omega) (by simp[eC]at*;omega)) fun e1 r1 n1 h1=> ?_;have a:=len 2 _ _ _ _ _ _ _ (by omega) h1;refine dC rfl fun e2 r2 n2 h2=> ?_;cases dB h2;exact ih 1 _ _ _ _ (by omega) (by simp[eC,fL]at*;omega)
    ·rfl
  |2,_=>
   rw[tM,tM];refine dC (ih 4 _ _ _ _ (by omega) (by simp[eC]at*;omega)) fun e1 r1 n1 h1=> ?_;have a:=len 4 _ _ _ _ _ _ _ (by omega) h1;exact ih 3 _ _ _ _ (by omega) (by simp[eC,fL]at*;omega)
  |3,_=>
   rw[tN,tN];split
   ·rename_i ho;have:=eN (by decide) ho;refine dC (ih 4 _ _ _ _ (by omega) (by simp[eC]at*;omega)) fun e1 r1 n1 h1=> ?_;have a:=len 4 _ _ _ _ _ _ _ (by omega) h1;refine dC rfl fun e2 r2 n2 h2=> ?_;cases dB h2;exact ih 3 _ _ _ _ (by omega) (by simp[eC,fL]at*;omega)
   ·rfl
  |4,_=>
   rw[tO,tO];refine dC (ih 6 _ _ _ _ (by omega) (by simp[eC]at*;omega)) fun e1 r1 n1 h1=> ?_;have a:=len 6 _ _ _ _ _ _ _ (by omega) h1;exact ih 5 _ _ _ _ (by omega) (by simp[eC,fL]at*;omega)
  |5,_=>
   rw[tP,tP];have hs:=qJ r;split
   ·rename_i ho;have:=eN (by decide) ho;split
    ·rfl
    split
    ·rfl
    refine dC rfl fun e2 r2 n2 h2=> ?_;cases dB h2;exact ih 5 _ _ _ _ (by omega) (by simp[eC]at*;omega)
   ·rfl
  |6,_=>
   rw[tQ E (f+1),tQ E f];by_cases c0:40<d
   ·rw[az c0,az c0]
   rw[aw c0,aw c0];by_cases c1:isT jZ r=true
   ·rw[az c1,az c1];have:=eN (by decide) c1;exact dC (ih 0 _ _ _ _ (by omega) (by simp[eC]at*;omega)) fun e1 r1 n1 h1=>rfl
   rw[aw c1,aw c1];by_cases c2:isT jB r=true
   ·rw[az c2,az c2]
   rw[aw c2,aw c2];by_cases c3:isT jd r=true
   ·rw[az c3,az c3]
   rw[aw c3,aw c3];by_cases c4:isT jy r=true
   ·rw[az c4,az c4];have:=eN (by decide) c4;exact ih 7 _ _ _ _ (by omega) (by simp[eC]at*;omega)
   rw[aw c4,aw c4];by_cases c5:isT kR r=true
   ·rw[az c5,az c5];have:=eN (by decide) c5;rw[ih 8 d ⟨5,numP r.tail,numP r.tail.tail.tail,[],[]⟩ r.tail.tail.tail.tail n (by omega) (by simp[eC]at*;omega),ih 8 d ⟨5,numP r.tail,numP r.tail,[],[]⟩ r.tail.tail n (by omega) (by simp[eC]at*;omega)]
   rw[aw c5,aw c5]
  |7,_=>
   rw[tR E (f+1) d e r n,tR E f d e r n];split
   ·rfl
   ·rename_i hd;have:=nT hd;split
    ·exact ih 7 _ _ _ _ (by omega) (by simp[eC]at*;omega)
    ·exact ih 8 _ _ _ _ (by omega) (by simp[eC]at*;omega)
  |8,_=>
   rw[tS,tS];split
   ·rename_i ho;have:=eN (by decide) ho;exact dC (ih 4 _ _ _ _ (by omega) (by simp[eC]at*;omega)) fun e1 r1 n1 h1=>rfl
   ·rfl
def rd (E m d:Nat)(e:Ex)(r:List Tk)(n:Nat):Res:=goP E (ef m r) m d e r n
theorem ib (E m d:Nat)(e:Ex)(r:List Tk)(n:Nat)(hm:m<=8): ∀f,ef m r<=f->goP E f m d e r n=rd E m d e r n
 |f,h=>by
  obtain⟨k,rfl⟩: ∃k,f=ef m r+k:=⟨f-ef m r,by omega⟩
  clear h;induction k with
  |zero=>rfl
  |succ k ih=>rw[<-Nat.add_assoc,AA E _ m d e r n hm (by omega)];exact ih
theorem lc {E m d:Nat}{e:Ex}{r:List Tk}{n:Nat}{e':Ex}{r':List Tk}{n':Nat}(hm:m<=8)(h:rd E m d e r n= .ok (e',r',n')):r'.length+fL m<=r.length:=xM E _ m d e r n e' r' n' hm h
theorem Oh (E d:Nat)(e:Ex)(r:List Tk)(n:Nat):rd E 0 d e r n=cZ (rd E 2 d ex0 r n) fun e r n=>rd E 1 d e r n:=by
 have h:ef 0 r=4*r.length+3+1:=by simp[ef,eC]
 show goP E (ef 0 r) 0 d e r n=_;rw[h,tK];refine dC (ib E 2 d ex0 r n (by omega) _ (by simp[ef,eC])) fun e1 r1 n1 h1=> ?_;have a:=lc (by omega) h1;exact ib E 1 d e1 r1 n1 (by omega) _ (by simp[ef,eC,fL]at*;omega)
theorem Oi (E d:Nat)(e:Ex)(r:List Tk)(n:Nat):rd E 2 d e r n=cZ (rd E 4 d ex0 r n) fun e r n=>rd E 3 d e r n:=by
 have h:ef 2 r=4*r.length+2+1:=by simp[ef,eC]
 show goP E (ef 2 r) 2 d e r n=_;rw[h,tM];refine dC (ib E 4 d ex0 r n (by omega) _ (by simp[ef,eC])) fun e1 r1 n1 h1=> ?_;have a:=lc (by omega) h1;exact ib E 3 d e1 r1 n1 (by omega) _ (by simp[ef,eC,fL]at*;omega)
theorem Oj (E d:Nat)(e:Ex)(r:List Tk)(n:Nat):rd E 4 d e r n=cZ (rd E 6 d ex0 r n) fun e r n=>rd E 5 d e r n:=by
 have h:ef 4 r=4*r.length+1+1:=by simp[ef,eC]
 show goP E (ef 4 r) 4 d e r n=_;rw[h,tO];refine dC (ib E 6 d ex0 r n (by omega) _ (by simp[ef,eC])) fun e1 r1 n1 h1=> ?_;have a:=lc (by omega) h1;exact ib E 5 d e1 r1 n1 (by omega) _ (by simp[ef,eC,fL]at*;omega)
theorem Ix (E d:Nat)(e:Ex)(r:List Tk)(n:Nat):rd E 1 d e r n=
  if isT oT r then cZ (rd E 2 d ex0 r.tail n) fun t r n=>cZ (dr E ⟨6,0,0,[],[e,t]⟩ r n) fun e r n=>rd E 1 d e r n
  else if isT fR r then cZ (rd E 2 d ex0 r.tail n) fun t r n=>cZ (dr E ⟨7,0,0,[],[e,t]⟩ r n) fun e r n=>rd E 1 d e r n
  else .ok (e,r,n):=by
 have h:ef 1 r=4*r.length+1:=by simp[ef,eC]
 show goP E (ef 1 r) 1 d e r n=_;rw[h,tL];by_cases c1:isT oT r=true
 ·rw[az c1,az c1];have:=eN (by decide) c1;refine dC (ib E 2 d ex0 r.tail n (by omega) _ (by simp[ef,eC];omega)) fun e1 r1 n1 h1=> ?_;have a:=lc (by omega) h1;refine dC rfl fun e2 r2 n2 h2=> ?_;cases dB h2;exact ib E 1 d _ _ _ (by omega) _ (by simp[ef,eC,fL]at*;omega)
 ·rw[aw c1,aw c1];by_cases c2:isT fR r=true
  ·rw[az c2,az c2];have:=eN (by decide) c2;refine dC (ib E 2 d ex0 r.tail n (by omega) _ (by simp[ef,eC];omega)) fun e1 r1 n1 h1=> ?_;have a:=lc (by omega) h1;refine dC rfl fun e2 r2 n2 h2=> ?_;cases dB h2;exact ib E 1 d _ _ _ (by omega) _ (by simp[ef,eC,fL]at*;omega)
  ·rw[aw c2,aw c2]
theorem Mj (E d:Nat)(e:Ex)(r:List Tk)(n:Nat):rd E 3 d e r n=
  if isT sE r then cZ (rd E 4 d ex0 r.tail n) fun t r n=>cZ (dr E ⟨8,0,0,[],[e,t]⟩ r n) fun e r n=>rd E 3 d e r n
  else .ok (e,r,n):=by
 have h:ef 3 r=4*r.length+1:=by simp[ef,eC]
 show goP E (ef 3 r) 3 d e r n=_;rw[h,tN];by_cases c1:isT sE r=true
 ·rw[az c1,az c1];have:=eN (by decide) c1;refine dC (ib E 4 d ex0 r.tail n (by omega) _ (by simp[ef,eC];omega)) fun e1 r1 n1 h1=> ?_;have a:=lc (by omega) h1;refine dC rfl fun e2 r2 n2 h2=> ?_;cases dB h2;exact ib E 3 d _ _ _ (by omega) _ (by simp[ef,eC,fL]at*;omega)
 ·rw[aw c1,aw c1]
theorem Mk (E d:Nat)(e:Ex)(r:List Tk)(n:Nat):rd E 5 d e r n=if isT lP r then
   if kindP (ff r)≠6 then dI E 2 (ff r)
   else if 1440<=numP (ff r)\/numP (ff r)<1 then dI E 3 (ff r)
   else cZ (dr E ⟨9,if isT fR r.tail then-numP (ff r) else numP (ff r),0,[],[e]⟩ (ff r).tail n) fun e r n=>rd E 5 d e r n
  else .ok (e,r,n):=by
 have h:ef 5 r=4*r.length+1:=by simp[ef,eC]
 show goP E (ef 5 r) 5 d e r n=_;rw[h,tP];have hs:=qJ r;by_cases c1:isT lP r=true
 ·rw[az c1,az c1];have:=eN (by decide) c1;by_cases c2:kindP (ff r)≠6
  ·rw[az c2,az c2]
  rw[aw c2,aw c2];by_cases c3:1440<=numP (ff r)\/numP (ff r)<1
  ·rw[az c3,az c3]
  rw[aw c3,aw c3];refine dC rfl fun e2 r2 n2 h2=> ?_;cases dB h2;exact ib E 5 d _ _ _ (by omega) _ (by simp[ef,eC]at*;omega)
 ·rw[aw c1,aw c1]
theorem Ml (E d:Nat)(e:Ex)(r:List Tk)(n:Nat):rd E 6 d e r n=
  if 40<d then dI E 4 r
  else if isT jZ r then cZ (rd E 0 (d+1) ex0 r.tail n) fun e r n=>if isT nQ r then .ok (e,r.tail,n) else dI E 2 r
  else if isT jB r then dr E ⟨1,0,0,[],[]⟩ r.tail n
  else if isT jd r then dr E ⟨2,0,0,[],[]⟩ r.tail n
  else if isT jy r then rd E 7 d ex0 r.tail n
  else if isT kR r then
   if kindP r.tail≠5 then dI E 2 r.tail
   else if isT wTo r.tail.tail then
    if kindP r.tail.tail.tail≠5 then dI E 2 r.tail.tail.tail
    else if numP r.tail.tail.tail<numP r.tail then dI E 3 r.tail.tail.tail
    else rd E 8 d ⟨5,numP r.tail,numP r.tail.tail.tail,[],[]⟩ r.tail.tail.tail.tail n
   else rd E 8 d ⟨5,numP r.tail,numP r.tail,[],[]⟩ r.tail.tail n
  else if kindP r=1 then dr E ⟨10,0,0,textP r,[]⟩ r.tail n
  else if kindP r≠4 then dI E 2 r
  else if isT fR r.tail then
   if kindP r.tail.tail≠4 then dI E 2 r.tail.tail
   else if numP r.tail.tail<numP r+1 then dI E 3 r.tail.tail
   else dr E ⟨3,numP r,numP r.tail.tail,[],[]⟩ r.tail.tail.tail n
  else dI E 2 r.tail:=by
 have h:ef 6 r=4*r.length+1:=by simp[ef,eC]
 show goP E (ef 6 r) 6 d e r n=_;rw[h,tQ];by_cases c0:40<d
 ·rw[az c0,az c0]
 rw[aw c0,aw c0];by_cases c1:isT jZ r=true
 ·rw[az c1,az c1];have:=eN (by decide) c1;exact dC (ib E 0 _ _ _ _ (by omega) _ (by simp[ef,eC]at*;omega)) fun e1 r1 n1 h1=>rfl
 rw[aw c1,aw c1];by_cases c2:isT jB r=true
 ·rw[az c2,az c2]
 rw[aw c2,aw c2];by_cases c3:isT jd r=true
 ·rw[az c3,az c3]
 rw[aw c3,aw c3];by_cases c4:isT jy r=true
 ·rw[az c4,az c4];have:=eN (by decide) c4;exact ib E 7 _ _ _ _ (by omega) _ (by simp[ef,eC]at*;omega)
 rw[aw c4,aw c4];by_cases c5:isT kR r=true
 ·rw[az c5,az c5];have:=eN (by decide) c5;rw[ib E 8 d ⟨5,numP r.tail,numP r.tail.tail.tail,[],[]⟩ r.tail.tail.tail.tail n (by omega) _ (by simp[ef,eC]at*;omega),ib E 8 d ⟨5,numP r.tail,numP r.tail,[],[]⟩ r.tail.tail n (by omega) _ (by simp[ef,eC]at*;omega)]
 rw[aw c5,aw c5]
theorem Mm (E d:Nat)(e:Ex)(r:List Tk)(n:Nat):rd E 7 d e r n=
  if dayBit (textP r)=0 then dI E 2 r
  else if isT oh r.tail then rd E 7 d ⟨0,((e.a.toNat|||dayBit (textP r):Nat):Int),0,[],[]⟩ r.tail.tail n
  else rd E 8 d ⟨4,((e.a.toNat|||dayBit (textP r):Nat):Int),0,[],[]⟩ r.tail n:=by
 have h:ef 7 r=4*r.length+1:=by simp[ef,eC]
 show goP E (ef 7 r) 7 d e r n=_;rw[h,tR];by_cases c1:dayBit (textP r)=0
 ·rw[az c1,az c1]
 rw[aw c1,aw c1];have:=nT c1;rw[ib E 7 d _ r.tail.tail n (by omega) _ (by simp[ef,eC]at*;omega),ib E 8 d _ r.tail n (by omega) _ (by simp[ef,eC]at*;omega)]
theorem Ok (E d:Nat)(e:Ex)(r:List Tk)(n:Nat):rd E 8 d e r n=
  if isT mr r then cZ (rd E 4 (d+1) ex0 r.tail n) fun k r n=>dr E ⟨e.kind,e.a,e.b,[],[k]⟩ r n else dI E 2 r:=by
 have h:ef 8 r=4*r.length+1:=by simp[ef,eC]
 show goP E (ef 8 r) 8 d e r n=_;rw[h,tS];by_cases c1:isT mr r=true
 ·rw[az c1,az c1];have:=eN (by decide) c1;exact dC (ib E 4 _ _ _ _ (by omega) _ (by simp[ef,eC]at*;omega)) fun e1 r1 n1 h1=>rfl
 ·rw[aw c1,aw c1]
end Lx
theorem ld (c:UInt8)(w:World):Calls prog 65 #[.int .u8 (c.toNat:Int)] w fun e w'=>e= .returned (.bool (isD c))/\w'=w:=by
 unfold isD;by_cases h1:48<=c.toNat
 ·by_cases h2:c.toNat<=57
  ·have i1:(48:Int)<=(c.toNat:Int):=(by omega);have i2:(c.toNat:Int)<=57:=(by omega);rw[ba h1,ba h2];go_enter func65,ntmps65;go_wp2;go_ret;exact⟨rfl,rfl⟩
  ·have i1:(48:Int)<=(c.toNat:Int):=(by omega);have i2: ¬(c.toNat:Int)<=57:=(by omega);rw[ba h1,bh h2];go_enter func65,ntmps65;go_wp2;go_ret;exact⟨rfl,rfl⟩
 ·have i1: ¬(48:Int)<=(c.toNat:Int):=by omega
  rw[bh h1];go_enter func65,ntmps65;go_wp2;go_ret;exact⟨rfl,rfl⟩
theorem vZ (c:UInt8)(w:World):Calls prog 67 #[.int .u8 (c.toNat:Int)] w fun e w'=>e= .returned (.bool (isL c))/\w'=w:=by
 unfold isL;by_cases h1:97<=c.toNat
 ·by_cases h2:c.toNat<=122
  ·have i1:(97:Int)<=(c.toNat:Int):=(by omega);have i2:(c.toNat:Int)<=122:=(by omega);rw[ba h1,ba h2];go_enter func67,ntmps67;go_wp2;go_ret;exact⟨rfl,rfl⟩
  ·have i1:(97:Int)<=(c.toNat:Int):=(by omega);have i2: ¬(c.toNat:Int)<=122:=(by omega);rw[ba h1,bh h2];go_enter func67,ntmps67;go_wp2;go_ret;exact⟨rfl,rfl⟩
 ·have i1: ¬(97:Int)<=(c.toNat:Int):=by omega
  rw[bh h1];go_enter func67,ntmps67;go_wp2;go_ret;exact⟨rfl,rfl⟩
theorem kU {s:ByteArray}{l:List UInt8}(hs:s.data.toList=l)(k:Nat)(hk:k<s.size):s[k]=l.getD k 0:=by
 subst hs;have h:k<s.data.size:=hk;show s.data[k]=_;rw[dW,bn,ft h];rfl
theorem Fz {a b:Int}(h:a=b):ag a=ag b:=by rw[h]
theorem mf (s:ByteArray)(l:List UInt8)(hs:s.data.toList=l)(hl:l.length<=6)(hd: ∀i,i<l.length->isD (l.getD i 0)=true)(w:World):
  Calls prog 106 #[.string s] w fun e w'=>e= .returned (ag (valL l))/\w'=w:=by
 have hz:s.size=l.length:=by rw[<-hs,Lib.size_eq]
 go_enter func106,ntmps106;go_wp2;go_loop [3,7] (fun n i=> ∃k:Nat,k<=l.length/\i=ag k/\n=ag (valL (l.take k))) (fun _ i=>l.length-(intOf i).toNat);case atStart=>exact⟨0,by omega,rfl,rfl⟩
 case round=>
  obtain⟨k,hk,rfl,rfl⟩:=hrel;by_cases hlt:k<l.length
  ·have hlt':(k:Int)<(l.length:Int):=(by omega);have hk0:(0:Int)<=(k:Int):=(by omega);have hv:=oS l hd k (by omega) (by omega);have hdk:=hd k hlt;have e1:=kU hs k (by omega);have e2:=yx l k hlt;have HE:OP (valL (l.take (k+1))=10*valL (l.take k)+(((l.getD k 0).toNat:Int)-48)):=e2;simp only[isD,bq,bz]at hdk;have HK:OP (48<=(l.getD k 0).toNat/\(l.getD k 0).toNat<=57):=hdk;have HB:OP (s[k]=l.getD k 0):=e1;clear hdk e1 e2 hd;go_wp2;go_round
   case rel=>
    refine⟨k+1,by omega,by go_num,Fz ?_⟩;have h2:=HK.o;rw[HB.o,HE.o];generalize (l.getD k 0).toNat=c at h2;generalize valL (l.take k)=v at hv;omega
   case measure=>simp[intOf];omega
  ·have hkl:k=l.length:=(by omega);subst hkl;have e:valL (l.take l.length)=valL l:=(by rw[fK]);go_wp2;go_ret;exact⟨rfl,rfl⟩
theorem AB (s t:ByteArray)(l m:List UInt8)(hs:s.data.toList=l)(ht:t.data.toList=m)(hl:l.length<=9223372036854775807)(hm:m.length<=100)(w:World):
  Calls prog 62 #[.string s,.string t] w fun e w'=>e= .returned (.bool (iS l m))/\ao w w':=by
 have hz:s.size=l.length:=by rw[<-hs,Lib.size_eq]
 have hy:t.size=m.length:=by rw[<-ht,Lib.size_eq]
 by_cases hsh:m.length<=l.length
 ·have hsh': ¬(l.length:Int)<(m.length:Int):=by omega
  go_enter func62,ntmps62;go_wp2;go_loopw [13] (fun i wr=> ∃k:Nat,k<=m.length/\i=ag k/\(∀i,i<k->okB (m.getD i 0) (l.getD i 0)=true)/\ao w wr) (fun i _=>m.length-(intOf i).toNat);case atStart=>exact⟨0,by omega,rfl,fun i h=>by omega,aG _ _⟩
  case round=>
   obtain⟨k,hk,rfl,hall,hbel⟩:=hrel;have HA:OP (∀i,i<k->okB (m.getD i 0) (l.getD i 0)=true):=hall;clear hall;by_cases hlt:k<m.length
   ·have hlt':(k:Int)<(m.length:Int):=(by omega);have hlt2:(k:Int)<(l.length:Int):=(by omega);have hk0:(0:Int)<=(k:Int):=(by omega);have e1:=kU hs k (by omega);have e2:=kU ht k (by omega);have g1: ∀h:k<s.size,s[k]=l.getD k 0:=fun _=>e1;have g2: ∀h:k<t.size,t[k]=m.getD k 0:=fun _=>e2;have hok:okB (m.getD k 0) (l.getD k 0)=(if(m.getD k 0).toNat=48 then isD (l.getD k 0) else decide ((m.getD k 0).toNat=(l.getD k 0).toNat)):=rfl;generalize hc:l.getD k 0=c at*;generalize hf:m.getD k 0=f at*;by_cases h48:f.toNat=48
    ·have i48:(f.toNat:Int)=48:=(by omega);rw[az h48]at hok;cases hd:isD c with
     |true=>
      rw[hd]at hok;have HO:OP (okB f c=true):=hok;have cd:=fun w=>ld c w;rw[hd]at cd;clear hok hd e1 e2;go_wp2;go_quiet ((go_at_call 65;exact eR (cd _)));go_wp2;go_roundw
      case rel=>
       refine⟨k+1,by omega,by go_num,fun i hi=> ?_,dn hbel _⟩;by_cases e:i=k
       ·subst e;rw[hc,hf];exact HO.o
       ·exact HA.o i (by omega)
      case measure=>simp[intOf];omega
     |false=>
      rw[hd]at hok;have HO:OP (okB f c=false):=hok;have cd:=fun w=>ld c w;rw[hd]at cd;clear hok hd e1 e2;go_wp2;go_quiet ((go_at_call 65;exact eR (cd _)));go_wp2;go_ret;exact⟨by rw[Ay k hlt (by rw[hc,hf];exact HO.o)];rfl,dn hbel _⟩
    ·have n48:((f.toNat:Int)==48)=false:=(by simp;omega);rw[aw h48]at hok;by_cases hfc:f.toNat=c.toNat
     ·have HO:OP (okB f c=true):=(by rw[hok];exact ba hfc);have m48:((c.toNat:Int)==48)=false:=(by simp;omega);have o48:((c.toNat:Int) !=48)=true:=(by simp;omega);have o49:((c.toNat:Int) !=(c.toNat:Int))=false:=(by simp);clear hok e1 e2 n48 h48;go_wp2;go_quiet (fail);go_wp2;go_roundw
      case rel=>
       refine⟨k+1,by omega,by go_num,fun i hi=> ?_,dn hbel _⟩;by_cases e:i=k
       ·subst e;rw[hc,hf];exact HO.o
       ·exact HA.o i (by omega)
      case measure=>simp[intOf];omega
     ·have HO:OP (okB f c=false):=(by rw[hok];exact bh hfc);have o48:((f.toNat:Int) !=48)=true:=(by simp;omega);have ifc:((f.toNat:Int) !=(c.toNat:Int))=true:=(by simp;omega);clear hok e1 e2;go_wp2;go_quiet (fail);go_wp2;go_ret;exact⟨by rw[Ay k hlt (by rw[hc,hf];exact HO.o)];rfl,dn hbel _⟩
   ·have HF:OP (iS l m=true):=Fv hsh fun i hi=>HA.o i (by omega);have hkl:k=m.length:=(by omega);subst hkl;go_wp2;go_ret;exact⟨by rw[HF.o];rfl,hbel⟩
 ·have HF:OP (iS l m=false):=B8 hsh;have hsh':(l.length:Int)<(m.length:Int):=(by omega);go_enter func62,ntmps62;go_wp2;go_ret;exact⟨by rw[HF.o];rfl,aG _ _⟩
def rE (t:T1):Value:= .tuple #[.agg #[ag t.kind,ag t.n,ag 0,.string ⟨t.text.toArray⟩],ag (t.len:Int),ag t.err]
theorem xN:prog.underlying 99=some (.struct (prog.fieldsOf 99)):=by kernel_rfl
theorem fC {fn:Func}(h:fn.results=f66.results){R:Ending->World->Prop}{a:Act}{w:World}(g:Nat)(t:T1)(hd:a.defers=[])(h2:a.tmps.getD 2 undef=ab g 0)
  (h3:a.tmps.getD 3 undef=ag (t.len:Int)) (h4:a.tmps.getD 4 undef=ag t.err) (hg:w.heap[g]? =ah #[ag t.kind,ag t.n,ag 0,.string ⟨t.text.toArray⟩] 99)
  (hR:R (.returned (rE t)) w):bodyPost prog fn R .ret a w:=by
 refine aU (v:=rE t) ?_ hd hR;have h2':a.tmps[2]?.getD undef=ab g 0:=by simpa using h2
 have h3':a.tmps[3]?.getD undef=ag (t.len:Int):=by simpa using h3
 have h4':a.tmps[4]?.getD undef=ag t.err:=by simpa using h4
 have hv:=dM (P:=prog) w g 99 99 _ _ _ hg xN rfl (by kernel_rfl);simp[results,h,results66,h2',h3',h4',asAddr,hv,rE]
theorem uE (s:ByteArray)(l:List UInt8)(hs:s.data.toList=l)(hl:l.length<=9223372036854775806)(w:World):
  Calls prog 107 #[.string s] w fun e w'=>e= .returned (ag (wordLen l:Int))/\w'=w:=by
 have hz:s.size=l.length:=by rw[<-hs,Lib.size_eq]
 go_enter func107,ntmps107;go_wp2;go_loop [3] (fun i=> ∃k:Nat,k<=l.length/\i=ag k/\ ∀i,i<k->mR l i=true) (fun i=>l.length-(intOf i).toNat);case atStart=>exact⟨0,by omega,rfl,fun i h=>by omega⟩
 case round=>
  obtain⟨k,hk,rfl,hall⟩:=hrel;have HA:OP (∀i,i<k->mR l i=true):=hall;clear hall;by_cases hlt:k<l.length
  ·have hlt':(k:Int)<(l.length:Int):=(by omega);have hk0:(0:Int)<=(k:Int):=(by omega);have g1: ∀h:k<s.size,s[k]=l.getD k 0:=fun h=>kU hs k h
   have hp:mR l k=if k=0 then isL (l.getD k 0) else isC (l.getD k 0):=by
    unfold mR;split
    ·rename_i h;rw[h]
    ·rfl
   generalize hc:l.getD k 0=c at*;have cl:=fun w=>vZ c w;have cd:=fun w=>ld c w;have stop:mR l k=false->OP (wordLen l=k):=fun h=>vW l k hk HA.o fun _=>h
   have next:mR l k=true->OP (∀i,i<k+1->mR l i=true):=fun h i hi=>by
    by_cases e:i=k
    ·rw[e];exact h
    ·exact HA.o i (by omega)
   cases hL:isL c with
   |true=>
    have hN:=next (by rw[hp];split<;>simp[hL,isC])
    rw[hL]at cl;clear hp hL stop next HA
    go_wp2_with(first
     |(go_at_call 67;refine(cl _).mono ?_;rintro e w' ⟨rfl,rfl⟩)
     |(go_at_call 65;refine(cd _).mono ?_;rintro e w' ⟨rfl,rfl⟩))
    go_round;case rel=>exact⟨k+1,by omega,by go_num,hN.o⟩
    case measure=>simp[intOf];omega
   |false=>
    rw[hL]at cl;by_cases h0:k=0
    ·have hS:=stop (by rw[hp,az h0,hL]);clear hp hL stop next HA hk0 hlt'
     subst h0;have hlt0:(0:Int)<(l.length:Int):=(by omega)
     go_wp2_with(first
      |(go_at_call 67;refine(cl _).mono ?_;rintro e w' ⟨rfl,rfl⟩)
      |(go_at_call 65;refine(cd _).mono ?_;rintro e w' ⟨rfl,rfl⟩))
     go_ret;exact⟨by rw[hS.o];rfl,rfl⟩
    ·have h0':(0:Int)<(k:Int):=(by omega);cases hD:isD c with
     |true=>
      have hN:=next (by rw[hp,aw h0];simp[hD,isC])
      rw[hD]at cd;clear hp hL hD stop next HA
      go_wp2_with(first
       |(go_at_call 67;refine(cl _).mono ?_;rintro e w' ⟨rfl,rfl⟩)
       |(go_at_call 65;refine(cd _).mono ?_;rintro e w' ⟨rfl,rfl⟩))
      go_round;case rel=>exact⟨k+1,by omega,by go_num,hN.o⟩
      case measure=>simp[intOf];omega
     |false=>
      rw[hD]at cd;by_cases h95:c.toNat=95
      ·have hN:=next (by rw[hp,aw h0];simp[isC,h95])
       have i95:((c.toNat:Int)==95)=true:=(by simp;omega);clear hp hL hD stop next HA h95
       go_wp2_with(first
        |(go_at_call 67;refine(cl _).mono ?_;rintro e w' ⟨rfl,rfl⟩)
        |(go_at_call 65;refine(cd _).mono ?_;rintro e w' ⟨rfl,rfl⟩))
       go_round;case rel=>exact⟨k+1,by omega,by go_num,hN.o⟩
       case measure=>simp[intOf];omega
      ·have hS:=stop (by rw[hp,aw h0];simp[isC,h95,hL,hD]);have i95:((c.toNat:Int)==95)=false:=(by simp;omega);clear hp hL hD stop next HA h95
       go_wp2_with(first
        |(go_at_call 67;refine(cl _).mono ?_;rintro e w' ⟨rfl,rfl⟩)
        |(go_at_call 65;refine(cd _).mono ?_;rintro e w' ⟨rfl,rfl⟩))
       go_ret;exact⟨by rw[hS.o];rfl,rfl⟩
  ·have hS:OP (wordLen l=k):=vW l k hk HA.o fun h=>absurd h hlt;have hlt': ¬(k:Int)<(l.length:Int):=(by omega);go_wp2;go_ret;exact⟨by rw[hS.o];rfl,rfl⟩
theorem DK (s:ByteArray)(l:List UInt8)(hs:s.data.toList=l)(hl:l.length<=9223372036854775806)(w:World):
  Calls prog 66 #[.string s] w fun e w'=>e= .returned (rE (lT l))/\ao w w':=by
 have hz:s.size=l.length:=by rw[<-hs,Lib.size_eq]
 have hb0:ao w (w.alloc (.cells #[ag 0,ag 0,ag 0,.string ⟨#[]⟩] 99)):=am _ _;go_enter func66,ntmps66;go_wp2;go_loop [5] (fun i=> ∃k:Nat,k<=l.length/\i=ag k/\ ∀i,i<k->isD (l.getD i 0)=true) (fun i=>l.length-(intOf i).toNat);case atStart=>exact⟨0,by omega,rfl,fun i h=>by omega⟩
 case round=>
  obtain⟨k,hk,rfl,hall⟩:=hrel;have HA:OP (∀i,i<k->isD (l.getD i 0)=true):=hall;clear hall;by_cases hgo:k<l.length/\isD (l.getD k 0)=true
  ·obtain⟨hlt,hD⟩:=hgo;have hlt':(k:Int)<(l.length:Int):=(by omega);have hk0:(0:Int)<=(k:Int):=(by omega);have g1: ∀h:k<s.size,s[k]=l.getD k 0:=fun h=>kU hs k h;have cd:=fun w=>ld (l.getD k 0) w;rw[hD]at cd;have HD:OP (isD (l.getD k 0)=true):=hD;clear hD;generalize hc:l.getD k 0=c at*;go_wp2_with(go_at_call 65;refine(cd _).mono ?_;rintro e w' ⟨rfl,rfl⟩)
   go_round
   case rel=>
    refine⟨k+1,by omega,by go_num,fun i hi=> ?_⟩;by_cases e:i=k
    ·rw[e,hc];exact HD.o
    ·exact HA.o i (by omega)
   case measure=>simp[intOf];omega
  ·have hR:gh isD l=k:=uU isD l k hk HA.o fun h=>by
    cases e:isD (l.getD k 0) with
    |false=>rfl
    |true=>exact absurd ⟨h,e⟩ hgo
   have HR:OP (gh isD l=k):=hR;clear hR;by_cases h6:6<k
   ·have h6':(6:Int)<(k:Int):=(by omega)
    have HT:OP (lT l=bad 3):=by
     have:=HR.o;show lT l=bad 3;unfold lT;rw[this,az h6]
    by_cases hlt:k<l.length
    ·have hlt':(k:Int)<(l.length:Int):=(by omega);have hk0:(0:Int)<=(k:Int):=(by omega);have g1: ∀h:k<s.size,s[k]=l.getD k 0:=fun h=>kU hs k h
     have hD:isD (l.getD k 0)=false:=by
      cases e:isD (l.getD k 0) with
      |false=>rfl
      |true=>exact absurd ⟨hlt,e⟩ hgo
     have cd:=fun w=>ld (l.getD k 0) w;rw[hD]at cd;clear hD hgo;generalize hc:l.getD k 0=c at*;go_wp2_with(go_at_call 65;refine(cd _).mono ?_;rintro e w' ⟨rfl,rfl⟩)
     exact fC rfl w.heap.size (bad 3) rfl rfl rfl rfl (aC w _) ⟨by rw[HT.o],hb0⟩
    ·have hlt': ¬(k:Int)<(l.length:Int):=(by omega);clear hgo;go_wp2;exact fC rfl w.heap.size (bad 3) rfl rfl rfl rfl (aC w _) ⟨by rw[HT.o],hb0⟩
   ·have h6': ¬(6:Int)<(k:Int):=(by omega);have hle:(k:Int)<=(l.length:Int):=(by omega);have hk0:(0:Int)<=(k:Int):=(by omega)
    have HT:OP (lT l=⟨6,valL (l.take k),[],k,0⟩):=by
     have:=HR.o;show lT l=_;unfold lT;rw[this,aw h6]
    have cv:=fun w=>mf (s.extract 0 k) (l.take k) (by rw[Lib.extract_data,hs];simp) (by simp;omega) (fun i hi=>by
     have hi':i<k:=(by simp at hi;omega);have:=HA.o i hi';rw[dW]at this⊢;rw[iX,az hi'];exact this) w
    generalize valL (l.take k)=v at*;have hbx:ao w (w.alloc (.cells #[ag 6,ag v,ag 0,.string ⟨#[]⟩] 99)):=am _ _;by_cases hlt:k<l.length
    ·have hlt':(k:Int)<(l.length:Int):=(by omega);have g1: ∀h:k<s.size,s[k]=l.getD k 0:=fun h=>kU hs k h
     have hD:isD (l.getD k 0)=false:=by
      cases e:isD (l.getD k 0) with
      |false=>rfl
      |true=>exact absurd ⟨hlt,e⟩ hgo
     have cd:=fun w=>ld (l.getD k 0) w;rw[hD]at cd;clear hD hgo;generalize hc:l.getD k 0=c at*
     go_wp2_with(first
      |(go_at_call 65;refine(cd _).mono ?_;rintro e w' ⟨rfl,rfl⟩)
      |(go_at_call 106;refine(cv _).mono ?_;rintro e w' ⟨rfl,rfl⟩))
     exact fC rfl w.heap.size ⟨6,v,[],k,0⟩ rfl rfl rfl rfl (aC w _) ⟨by rw[HT.o],hbx⟩
    ·have hlt': ¬(k:Int)<(l.length:Int):=(by omega);clear hgo;go_wp2_with(go_at_call 106;refine(cv _).mono ?_;rintro e w' ⟨rfl,rfl⟩)
     exact fC rfl w.heap.size ⟨6,v,[],k,0⟩ rfl rfl rfl rfl (aC w _) ⟨by rw[HT.o],hbx⟩
namespace Lx
def lg:List UInt8:=[61,59,58,43,45,38,40,41,44]
theorem AC: ∀(l:List UInt8) (c:UInt8),Go.Lib.indexByte l c<(l.length:Int)
 |[],c=>by simp[Go.Lib.indexByte]
 |b::l,c=>by
  have ih:=AC l c;unfold Go.Lib.indexByte;simp only[bG];split
  ·omega
  ·split<;>omega
theorem AD: ∀(l:List UInt8) (c:UInt8) (i:Nat),Go.Lib.indexByte l c=(i:Int)->l.getD i 0=c
 |[],c,i,h=>by simp[Go.Lib.indexByte]at h
 |b::l,c,i,h=>by
  unfold Go.Lib.indexByte at h;split at h
  ·rename_i hb;have:i=0:=(by omega);subst this;simpa using hb
  ·split at h
   ·omega
   ·have ge:=Go.Lib.indexByte_ge l c;rename_i hn;have hn':Go.Lib.indexByte l c≠ -1:=(by simpa using hn);obtain⟨j,hj⟩: ∃j:Nat,Go.Lib.indexByte l c=j:=⟨(Go.Lib.indexByte l c).toNat,by omega⟩
    have e:i=j+1:=(by omega);subst e;simpa using AD l c j hj
def jH (l:List UInt8):T1:=if Go.Lib.hasPrefix l [46,46] then⟨3,0,[46,46],2,0⟩ else if Go.Lib.indexByte lg (l.getD 0 0)<0 then bad 2 else⟨3,0,[l.getD 0 0],1,0⟩
theorem J5 {s:ByteArray}{l:List UInt8}(h:s.data.toList=l):s=⟨l.toArray⟩:=by
 obtain⟨d⟩:=s;simp only at h;subst h;simp
def jn:List (List UInt8):=[[97,108,119,97,121,115],[100,97,116,101,115],[102,114,105],[109,111,110],[110,101,118,101,114],[114,117,108,101],[115,97,116],[115,104,105,102,116],[115,117,110],[116,104,117],[116,117,101],[119,101,100],[119,101,101,107,108,121]]
def isWordL (t:List UInt8):Bool:=jn.any fun w=>w==t
def j6 (l:List UInt8):T1:=if 20<wordLen l then bad 7 else⟨if isWordL (l.take (wordLen l)) then 2 else 1,0,l.take (wordLen l),wordLen l,0⟩
end Lx
end Go.Proofs.YtjkilacmkbmmbaaGreatDoor
