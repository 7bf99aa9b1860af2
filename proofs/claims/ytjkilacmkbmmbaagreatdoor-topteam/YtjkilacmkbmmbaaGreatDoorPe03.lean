/- Texts of the proof. -/
import Derived.Lib.Bytealg
import Derived.Test.YtjkilacmkbmmbaaGreatDoorPeZb
set_option maxRecDepth 100000
set_option maxHeartbeats 8000000
namespace Go.Proofs.YtjkilacmkbmmbaaGreatDoor
open Go.Proofs.Tryz Go.RowKit Lx Vx Mx Msk
section
section
variable {w w':World} {base e size n:Nat} {v:Value} {xs:List Value}
theorem bU (h:w.ownsRow base e size v n xs): ∃p c,v= .slice p n c:=by
 rcases h.2 with⟨e,e2⟩|⟨b,cap,cur,e,_⟩
 ·exact⟨none,0,by rw[e,e2]⟩
 ·exact⟨_,cap,e⟩
theorem jY {g:Nat}{cs:Array Value}{T:TypeId}(h:w.ownsRow base e size v n xs)(hg:w.heap[g]? =ah cs T)(hT:T≠e):some g≠v.ownBlock:=by
 rcases h.2 with⟨e,_⟩|⟨b,cap,cur,e,_,hb,_⟩
 ·rw[e];simp[Value.ownBlock]
 ·rw[e];intro q;have q':g=b:=(by simpa[Value.ownBlock] using q);subst q';rw[hg]at hb;injection hb with hb;injection hb with _ h2 _;exact hT h2
theorem bp (h:w.ownsRow base e size v n xs)(hk: ∀b,v.ownBlock=some b->w'.heap[b]? =w.heap[b]?):w'.ownsRow base e size v n xs:=by
 obtain⟨h1,h2⟩:=h;refine⟨h1,?_⟩;rcases h2 with h2|⟨g,cap,cur,hv,hg,hh,r⟩
 ·exact .inl h2
 ·exact .inr ⟨g,cap,cur,hv,hg,(hk g (by rw[hv];rfl)).trans hh,r⟩
end
theorem sM {o:Oper}{a:Act}{w:World}{K:Act->World->Prop}{Q:Exit->Act->World->Prop}(s x:Operand)(t:TypeId)
  (ho:o.op= .call {callee:= .builtin .append,args:= #[s,x],argTypes:= #[t,t]})
  (base:Nat) (e:TypeId) (i:TypeInfo) (z:Value) (size bytes:Nat) (ht:prog.underlying t=some (.slice e)) (hi:prog.info? e=some i) (hz:i.zero=some z)
  (hsize:i.size=size) (hby:i.bytes=bytes) (hzs:z.cells.size=size) (hsz:0<size)
  (v:Value) (n:Nat) (xs:List Value) (hs:a.eval s=v) (hown:w.ownsRow base e size v n xs)
  (ad:Addr) (m c:Nat) (news:List Value) (hx:a.eval x= .slice (some ad) m c) (hl:news.length=m*size) (hnews: ∀j u,news[j]? =some u->w.cell? (ad.add j)=some u) (h1: ∀u∈news,u.oneCell'=true)
  (h63:n+m<=maxLen) (hbytes:(n+m)*bytes<=140737488355328) (hbase:base<=w.heap.size)
  (h: ∀v' w',w'.ownsRow base e size v' (n+m) (xs++news)->w.grownBy w' v.ownBlock->(v'.ownBlock=v.ownBlock\/v'.ownBlock=some w.heap.size)->K (a.put o.dst v') w'):o.wp prog a w K Q:=by
 obtain⟨v',w',hr,h2,h3,_,h5⟩:=run_append_own_at (P:=prog) w base t o.type e i z size bytes ht hi hz hsize hby hzs hsz v n xs hown ad m c news hl hnews h1 h63 hbytes hbase;unfold Oper.wp execOp;simp only[ho,resolve,invoke,builtin,jF,kE,gW,iR,dl,eO,hs,hx,hr];exact h v' w' h2 h3 h5
end
namespace Lx
def isD (c:UInt8):Bool:=decide (48<=c.toNat)&&decide (c.toNat<=57)
def isL (c:UInt8):Bool:=decide (97<=c.toNat)&&decide (c.toNat<=122)
def isC (c:UInt8):Bool:=isL c||(isD c||decide (c.toNat=95))
def gF (p:UInt8->Bool):List UInt8->Nat
 |[]=>0
 |c::l=>if p c then gF p l+1 else 0
def wordLen:List UInt8->Nat
 |[]=>0
 |c::l=>if isL c then gF isC l+1 else 0
theorem lr (p:UInt8->Bool): ∀l,gF p l<=l.length
 |[]=>by simp[gF]
 |c::l=>by have:=lr p l;simp only[gF];split<;>simp;omega
theorem zb (p:UInt8->Bool): ∀l i,i<gF p l->p (l.getD i 0)=true
 |[],i,h=>by simp[gF]at h
 |c::l,i,h=>by
  simp only[gF]at h;split at h
  ·cases i with
   |zero=>simpa
   |succ i=>simpa using zb p l i (by omega)
  ·omega
theorem vz (p:UInt8->Bool): ∀(l:List UInt8) (k:Nat),k<=l.length->(∀i,i<k->p (l.getD i 0)=true)->(k<l.length->p (l.getD k 0)=false)->gF p l=k
 |[],k,h,_,_=>by simp at h;subst h;rfl
 |c::l,0,_,_,h2=>by
  have:=h2 (by simp);simp at this;simp[gF,this]
 |c::l,k+1,h,h1,h2=>by
  have hc:=h1 0 (by omega);simp at hc;have:=vz p l k (by simpa using h) (fun i hi=>by simpa using h1 (i+1) (by omega)) (fun hk=>by simpa using h2 (by simpa using hk));simp[gF,hc,this]
theorem ww: ∀l,wordLen l<=l.length
 |[]=>by simp[wordLen]
 |c::l=>by have:=lr isC l;simp only[wordLen];split<;>simp;omega
def valL (l:List UInt8):Int:=l.foldl (fun n c=>10*n+((c.toNat:Int)-48)) 0
theorem F7 (l:List UInt8)(c:UInt8):valL (l++[c])=10*valL l+((c.toNat:Int)-48):=by simp[valL]
theorem zd (l:List UInt8)(k:Nat)(hk:k<l.length):valL (l.take (k+1))=10*valL (l.take k)+(((l.getD k 0).toNat:Int)-48):=by
 rw[List.take_succ_eq_append_getElem hk,F7];simp[List.getD,hk]
theorem wx (l:List UInt8)(h: ∀i,i<l.length->isD (l.getD i 0)=true): ∀k,k<=l.length->0<=valL (l.take k)/\valL (l.take k)<((10^k:Nat):Int)
 |0,_=>by simp[valL]
 |k+1,hk=>by
  have ih:=wx l h k (by omega);have hd:=h k (by omega);simp only[isD,bq,bH]at hd;rw[zd l k (by omega),Nat.pow_succ];omega
theorem pj (l:List UInt8)(h: ∀i,i<l.length->isD (l.getD i 0)=true)(k:Nat)(hk:k<=l.length)(h6:k<=6):0<=valL (l.take k)/\valL (l.take k)<1000000:=by
 have b:=wx l h k hk;have:(10:Nat)^k<=10^6:=Nat.pow_le_pow_right (by omega) h6;have e:(10:Nat)^6=1000000:=by decide
 omega
def okB (f c:UInt8):Bool:=if f.toNat=48 then isD c else decide (f.toNat=c.toNat)
def iX (l m:List UInt8):Bool:=decide (m.length<=l.length)&&(List.range m.length).all fun i=>okB (m.getD i 0) (l.getD i 0)
theorem F8 {l m:List UInt8}(h1:m.length<=l.length)(h2: ∀i,i<m.length->okB (m.getD i 0) (l.getD i 0)=true):iX l m=true:=by
 unfold iX;rw[a7 h1,iM,dj];intro i hi;exact h2 i (by simpa using hi)
theorem A3 {l m:List UInt8}(i:Nat)(h1:i<m.length)(h2:okB (m.getD i 0) (l.getD i 0)=false):iX l m=false:=by
 cases e:iX l m with
 |false=>rfl
 |true=>
  unfold iX at e;rw[bq,dj]at e;have:=e.2 i (by simpa using h1);rw[h2]at this;cases this
theorem CL {l m:List UInt8}(h: ¬m.length<=l.length):iX l m=false:=by simp[iX,h]
theorem pU {l m:List UInt8}(h:iX l m=true):m.length<=l.length/\ ∀i,i<m.length->okB (m.getD i 0) (l.getD i 0)=true:=by
 unfold iX at h;rw[bq,dj]at h;exact⟨by simpa using h.1,fun i hi=>h.2 i (by simpa using hi)⟩
def nz (l:List UInt8)(i:Nat):Bool:=if i=0 then isL (l.getD 0 0) else isC (l.getD i 0)
theorem wy: ∀(l:List UInt8) (k:Nat),k<=l.length->(∀i,i<k->nz l i=true)->(k<l.length->nz l k=false)->wordLen l=k
 |[],k,h,_,_=>by simp at h;subst h;rfl
 |c::l,0,_,_,h2=>by
  have:=h2 (by simp);simp[nz]at this;simp[wordLen,this]
 |c::l,k+1,h,h1,h2=>by
  have hc:=h1 0 (by omega);simp[nz]at hc;have e:=vz isC l k (by simpa using h) (fun i hi=>by simpa[nz] using h1 (i+1) (by omega)) (fun hk=>by simpa[nz] using h2 (by simpa using hk));simp[wordLen,hc,e]
structure T1 where
 kind:Int
 n:Int
 text:List UInt8
 len:Nat
 err:Int
def bad (e:Int):T1:=⟨0,0,[],0,e⟩
def mc (l:List UInt8):T1:=if 6<gF isD l then bad 3 else⟨6,valL (l.take (gF isD l)),[],gF isD l,0⟩
def wz:List UInt8:=[48,48,48,48,45,48,48,45,48,48]
def wF:List UInt8:=[48,48,58,48,48]
def oq (l:List UInt8):T1:=if 59<valL ((l.drop 3).take 2)\/1440<60*valL ((l.drop 0).take 2)+valL ((l.drop 3).take 2) then bad 3 else⟨4,60*valL ((l.drop 0).take 2)+valL ((l.drop 3).take 2),[],5,0⟩
theorem md {l m:List UInt8}(h:iX l m=true)(a n:Nat)(ha:a+n<=m.length)(hf: ∀i,i<n->(m.getD (a+i) 0).toNat=48):
  ((l.drop a).take n).length=n/\ ∀i,i<((l.drop a).take n).length->isD (((l.drop a).take n).getD i 0)=true:=by
 obtain⟨h1,h2⟩:=pU h;have e:((l.drop a).take n).length=n:=by simp;omega
 refine⟨e,fun i hi=> ?_⟩;rw[e]at hi;have:=h2 (a+i) (by omega);unfold okB at this;rw[ay (hf i hi)]at this;rw[dJ]at this⊢;rw[ja,ay hi,List.getElem?_drop];exact this
def ea:Bool->List UInt8->Nat
 |_,[]=>0
 |true,c::l=>if c.toNat=10 then ea false l+1 else ea true l+1
 |false,c::l=>if c.toNat=32\/c.toNat=9\/c.toNat=10 then ea false l+1 else if c.toNat=35 then ea true l+1 else 0
theorem nH: ∀(b:Bool) (l:List UInt8),ea b l<=l.length
 |true,[]=>by simp[ea]
 |false,[]=>by simp[ea]
 |true,c::l=>by
  have h1:=nH true l;have h2:=nH false l;simp only[ea,bz];split<;>omega
 |false,c::l=>by
  have h1:=nH true l;have h2:=nH false l;simp only[ea,bz];split
  ·omega
  ·split<;>omega
def yt (c:UInt8):Bool:=decide (c.toNat≠10)
def remL (l:List UInt8):Nat:=gF yt l
theorem A4: ∀(l:List UInt8),ea true l=remL l+ea false (l.drop (remL l))
 |[]=>by simp[remL,gF,ea]
 |c::l=>by
  by_cases h:c.toNat=10
  ·simp[remL,gF,yt,ea,h]
  ·have ih:=A4 l;have e:remL (c::l)=remL l+1:=(by simp[remL,gF,yt,h]);rw[e];simp only[ea,h,if_false,List.drop_succ_cons];omega
theorem F9 (l:List UInt8)(h0:0<l.length)(hc:(l.getD 0 0).toNat=35):ea false l=remL l+ea false (l.drop (remL l))/\1<=remL l:=by
 match l,h0 with
 |c::r,_=>
  have hc':c.toNat=35:=(by simpa using hc);have e:remL (c::r)=remL r+1:=(by simp[remL,gF,yt,hc']);have:=A4 r;rw[e];refine⟨?_,by omega⟩;simp only[ea,hc',List.drop_succ_cons];simp;omega
theorem Em (l:List UInt8)(h0:0<l.length)(hc:(l.getD 0 0).toNat=32\/(l.getD 0 0).toNat=9\/(l.getD 0 0).toNat=10):ea false l=1+ea false (l.drop 1):=by
 match l,h0 with
 |c::r,_=>
  have hc':c.toNat=32\/c.toNat=9\/c.toNat=10:=(by simpa using hc);simp only[ea,ay hc',List.drop_succ_cons,List.drop_zero];omega
theorem Ga (l:List UInt8)(hc:0<l.length-> ¬((l.getD 0 0).toNat=32\/(l.getD 0 0).toNat=9\/(l.getD 0 0).toNat=10)/\(l.getD 0 0).toNat≠35):ea false l=0:=by
 match l with
 |[]=>rfl
 |c::r=>
  have:=hc (by simp);simp only[List.getD_cons_zero]at this;simp only[ea,aw this.1,aw this.2]
theorem ze: ∀l:List UInt8,Go.Lib.indexByte l 10=if remL l<l.length then(remL l:Int) else-1
 |[]=>by simp[Go.Lib.indexByte,remL,gF]
 |c::l=>by
  have ih:=ze l;by_cases h:c.toNat=10
  ·have e:c=10:=(by apply UInt8.toNat_inj.1;simpa using h);subst e;simp[Go.Lib.indexByte,remL,gF,yt]
  ·have hne:(c==10)=false:=by
    rw[bf];intro e;subst e;simp at h
   have e:remL (c::l)=remL l+1:=(by simp[remL,gF,yt,h]);have hle:remL l<=l.length:=lr _ l;unfold Go.Lib.indexByte;rw[hne,ih,e];by_cases hh:remL l<l.length
   ·have n1:((remL l:Int)== -1)=false:=(by simp);rw[ay hh,n1];simp[hh]
   ·rw[aw hh];simp[hh]
structure Ex where
 kind:Int
 a:Int
 b:Int
 name:List UInt8
 kids:List Ex
abbrev Tk:=T1×Nat
def ex0:Ex:=⟨0,0,0,[],[]⟩
abbrev Res:=Except (Int×Nat) (Ex×List Tk×Nat)
def atP (E:Nat):List Tk->Nat
 |[]=>E
 |p::_=>p.2
def textP:List Tk->List UInt8
 |[]=>[]
 |p::_=>p.1.text
def kindP:List Tk->Int
 |[]=>0
 |p::_=>p.1.kind
def numP:List Tk->Int
 |[]=>0
 |p::_=>p.1.n
def isT (x:List UInt8)(r:List Tk):Bool:=textP r==x
def cZ (x:Res)(f:Ex->List Tk->Nat->Res):Res:=
 match x with
 | .error e=> .error e
 | .ok (e,r,n)=>f e r n
def du (E:Nat)(e:Ex)(r:List Tk)(n:Nat):Res:=if 600<n+1 then .error (4,atP E r) else .ok (e,r,n+1)
def dK (E:Nat)(err:Int)(r:List Tk):Res:= .error (err,atP E r)
def pm:List UInt8:=[43]
def fR:List UInt8:=[45]
def sY:List UInt8:=[38]
def kA:List UInt8:=[40]
def oy:List UInt8:=[41]
def oI:List UInt8:=[44]
def mI:List UInt8:=[58]
def rX:List UInt8:=[59]
def wIs:List UInt8:=[61]
def wTo:List UInt8:=[46,46]
def ue:List UInt8:=[114,117,108,101]
def jG:List UInt8:=[110,101,118,101,114]
def jj:List UInt8:=[97,108,119,97,121,115]
def jD:List UInt8:=[119,101,101,107,108,121]
def la:List UInt8:=[100,97,116,101,115]
def l0:List UInt8:=[115,104,105,102,116]
def eJ:List (List UInt8):=[[109,111,110],[116,117,101],[119,101,100],[116,104,117],[102,114,105],[115,97,116],[115,117,110]]
def dayBit (x:List UInt8):Nat:=
 if x=eJ.getD 0 [] then 1 else if x=eJ.getD 1 [] then 2 else if x=eJ.getD 2 [] then 4 else if x=eJ.getD 3 [] then 8
 else if x=eJ.getD 4 [] then 16 else if x=eJ.getD 5 [] then 32 else if x=eJ.getD 6 [] then 64 else 0
def goP (E:Nat):Nat->Nat->Nat->Ex->List Tk->Nat->Res
 |0,_,_,_,r,_=>dK E 0 r
 |f+1,0,d,_,r,n=>cZ (goP E f 2 d ex0 r n) fun e r n=>goP E f 1 d e r n
 |f+1,1,d,e,r,n=>
  if isT pm r then cZ (goP E f 2 d ex0 r.tail n) fun t r n=>cZ (du E ⟨6,0,0,[],[e,t]⟩ r n) fun e r n=>goP E f 1 d e r n
  else if isT fR r then cZ (goP E f 2 d ex0 r.tail n) fun t r n=>cZ (du E ⟨7,0,0,[],[e,t]⟩ r n) fun e r n=>goP E f 1 d e r n
  else .ok (e,r,n)
 |f+1,2,d,_,r,n=>cZ (goP E f 4 d ex0 r n) fun e r n=>goP E f 3 d e r n
 |f+1,3,d,e,r,n=>
  if isT sY r then cZ (goP E f 4 d ex0 r.tail n) fun t r n=>cZ (du E ⟨8,0,0,[],[e,t]⟩ r n) fun e r n=>goP E f 3 d e r n
  else .ok (e,r,n)
 |f+1,4,d,_,r,n=>cZ (goP E f 6 d ex0 r n) fun e r n=>goP E f 5 d e r n
 |f+1,5,d,e,r,n=>
  if isT l0 r then
   let m:=isT fR r.tail
   let q:=if m then r.tail.tail else r.tail
   if kindP q≠6 then dK E 2 q
   else if 1440<=numP q\/numP q<1 then dK E 3 q
   else cZ (du E ⟨9,if m then-numP q else numP q,0,[],[e]⟩ q.tail n) fun e r n=>goP E f 5 d e r n
  else .ok (e,r,n)
 |f+1,6,d,_,r,n=>
  if 40<d then dK E 4 r
  else if isT kA r then cZ (goP E f 0 (d+1) ex0 r.tail n) fun e r n=>if isT oy r then .ok (e,r.tail,n) else dK E 2 r
  else if isT jG r then du E ⟨1,0,0,[],[]⟩ r.tail n
  else if isT jj r then du E ⟨2,0,0,[],[]⟩ r.tail n
  else if isT jD r then goP E f 7 d ex0 r.tail n
  else if isT la r then
   let q:=r.tail
   if kindP q≠5 then dK E 2 q
   else if isT wTo q.tail then
    let p:=q.tail.tail
    if kindP p≠5 then dK E 2 p
    else if numP p<numP q then dK E 3 p
    else goP E f 8 d ⟨5,numP q,numP p,[],[]⟩ p.tail n
   else goP E f 8 d ⟨5,numP q,numP q,[],[]⟩ q.tail n
  else if kindP r=1 then du E ⟨10,0,0,textP r,[]⟩ r.tail n
  else if kindP r≠4 then dK E 2 r
  else if isT fR r.tail then
   let q:=r.tail.tail
   if kindP q≠4 then dK E 2 q
   else if numP q<numP r+1 then dK E 3 q
   else du E ⟨3,numP r,numP q,[],[]⟩ q.tail n
  else dK E 2 r.tail
 |f+1,7,d,e,r,n=>
  if dayBit (textP r)=0 then dK E 2 r
  else if isT oI r.tail then goP E f 7 d ⟨0,((e.a.toNat|||dayBit (textP r):Nat):Int),0,[],[]⟩ r.tail.tail n
  else goP E f 8 d ⟨4,((e.a.toNat|||dayBit (textP r):Nat):Int),0,[],[]⟩ r.tail n
 |f+1,_,d,e,r,n=>
  if isT mI r then cZ (goP E f 4 (d+1) ex0 r.tail n) fun k r n=>du E ⟨e.kind,e.a,e.b,[],[k]⟩ r n else dK E 2 r
theorem eP {x:List UInt8}{r:List Tk}(hx:x≠[])(h:isT x r=true):1<=r.length:=by
 cases r with
 |nil=>simp[isT,textP]at h;exact absurd h (fun e=>hx (by first|exact e|exact e.symm))
 |cons p r=>simp
theorem po {r:List Tk}(h:kindP r≠0):1<=r.length:=by
 cases r with
 |nil=>simp[kindP]at h
 |cons p r=>simp
theorem oz {r:List Tk}(h:dayBit (textP r)≠0):1<=r.length:=by
 cases r with
 |nil=>exact absurd (by decide) h
 |cons p r=>simp
def fJ (m:Nat):Nat:=if m=1\/m=3\/m=5 then 0 else 1
theorem dp {x:Res}{f:Ex->List Tk->Nat->Res}{z:Ex×List Tk×Nat}(h:cZ x f= .ok z): ∃e r n,x= .ok (e,r,n)/\f e r n= .ok z:=by
 match x with
 | .error _=>cases h
 | .ok (e,r,n)=>exact⟨e,r,n,rfl,h⟩
theorem dD {E:Nat}{e:Ex}{r:List Tk}{n:Nat}{z:Ex×List Tk×Nat}(h:du E e r n= .ok z):z=(e,r,n+1):=by
 unfold du at h;split at h
 ·cases h
 ·cases h;rfl
theorem dx {E:Nat}{err:Int}{r:List Tk}{z:Ex×List Tk×Nat}(h:dK E err r= .ok z):False:=by
 unfold dK at h;cases h
theorem uf (E f d:Nat)(e:Ex)(r:List Tk)(n:Nat):goP E (f+1) 0 d e r n=cZ (goP E f 2 d ex0 r n) fun e r n=>goP E f 1 d e r n:=rfl
theorem ug (E f d:Nat)(e:Ex)(r:List Tk)(n:Nat):goP E (f+1) 1 d e r n=if isT pm r then cZ (goP E f 2 d ex0 r.tail n) fun t r n=>cZ (du E ⟨6,0,0,[],[e,t]⟩ r n) fun e r n=>goP E f 1 d e r n
 else if isT fR r then cZ (goP E f 2 d ex0 r.tail n) fun t r n=>cZ (du E ⟨7,0,0,[],[e,t]⟩ r n) fun e r n=>goP E f 1 d e r n
 else .ok (e,r,n):=rfl
theorem ui (E f d:Nat)(e:Ex)(r:List Tk)(n:Nat):goP E (f+1) 2 d e r n=cZ (goP E f 4 d ex0 r n) fun e r n=>goP E f 3 d e r n:=rfl
theorem uj (E f d:Nat)(e:Ex)(r:List Tk)(n:Nat):goP E (f+1) 3 d e r n=if isT sY r then cZ (goP E f 4 d ex0 r.tail n) fun t r n=>cZ (du E ⟨8,0,0,[],[e,t]⟩ r n) fun e r n=>goP E f 3 d e r n
 else .ok (e,r,n):=rfl
theorem uk (E f d:Nat)(e:Ex)(r:List Tk)(n:Nat):goP E (f+1) 4 d e r n=cZ (goP E f 6 d ex0 r n) fun e r n=>goP E f 5 d e r n:=rfl
def fb (r:List Tk):List Tk:=if isT fR r.tail then r.tail.tail else r.tail
theorem um (E f d:Nat)(e:Ex)(r:List Tk)(n:Nat):goP E (f+1) 5 d e r n=if isT l0 r then
  if kindP (fb r)≠6 then dK E 2 (fb r)
  else if 1440<=numP (fb r)\/numP (fb r)<1 then dK E 3 (fb r)
  else cZ (du E ⟨9,if isT fR r.tail then-numP (fb r) else numP (fb r),0,[],[e]⟩ (fb r).tail n) fun e r n=>goP E f 5 d e r n
 else .ok (e,r,n):=rfl
theorem uo (E f d:Nat)(e:Ex)(r:List Tk)(n:Nat):goP E (f+1) 6 d e r n=
 if 40<d then dK E 4 r
 else if isT kA r then cZ (goP E f 0 (d+1) ex0 r.tail n) fun e r n=>if isT oy r then .ok (e,r.tail,n) else dK E 2 r
 else if isT jG r then du E ⟨1,0,0,[],[]⟩ r.tail n
 else if isT jj r then du E ⟨2,0,0,[],[]⟩ r.tail n
 else if isT jD r then goP E f 7 d ex0 r.tail n
 else if isT la r then
  if kindP r.tail≠5 then dK E 2 r.tail
  else if isT wTo r.tail.tail then
   if kindP r.tail.tail.tail≠5 then dK E 2 r.tail.tail.tail
   else if numP r.tail.tail.tail<numP r.tail then dK E 3 r.tail.tail.tail
   else goP E f 8 d ⟨5,numP r.tail,numP r.tail.tail.tail,[],[]⟩ r.tail.tail.tail.tail n
  else goP E f 8 d ⟨5,numP r.tail,numP r.tail,[],[]⟩ r.tail.tail n
 else if kindP r=1 then du E ⟨10,0,0,textP r,[]⟩ r.tail n
 else if kindP r≠4 then dK E 2 r
 else if isT fR r.tail then
  if kindP r.tail.tail≠4 then dK E 2 r.tail.tail
  else if numP r.tail.tail<numP r+1 then dK E 3 r.tail.tail
  else du E ⟨3,numP r,numP r.tail.tail,[],[]⟩ r.tail.tail.tail n
 else dK E 2 r.tail:=rfl
theorem uq (E f d:Nat)(e:Ex)(r:List Tk)(n:Nat):goP E (f+1) 7 d e r n=
 if dayBit (textP r)=0 then dK E 2 r
 else if isT oI r.tail then goP E f 7 d ⟨0,((e.a.toNat|||dayBit (textP r):Nat):Int),0,[],[]⟩ r.tail.tail n
 else goP E f 8 d ⟨4,((e.a.toNat|||dayBit (textP r):Nat):Int),0,[],[]⟩ r.tail n:=rfl
theorem ut (E f d:Nat)(e:Ex)(r:List Tk)(n:Nat):goP E (f+1) 8 d e r n=
 if isT mI r then cZ (goP E f 4 (d+1) ex0 r.tail n) fun k r n=>du E ⟨e.kind,e.a,e.b,[],[k]⟩ r n else dK E 2 r:=rfl
theorem Jf (r:List Tk):r.tail.length=r.length-1:=by simp
theorem qY (r:List Tk):(fb r).length<=r.length-1:=by
 unfold fb;split<;>simp only[Jf]<;>omega
theorem yu (E:Nat): ∀(f m d:Nat) (e:Ex) (r:List Tk) (n:Nat) (e':Ex) (r':List Tk) (n':Nat),m<=8->goP E f m d e r n= .ok (e',r',n')->r'.length+fJ m<=r.length
 |0,m,d,e,r,n,e',r',n',_,h=>(dx h).elim
 |f+1,m,d,e,r,n,e',r',n',hm,h=>by
  have ih:=yu E f;match m,hm with
  |0,_=>
   rw[uf]at h;obtain⟨e1,r1,n1,h1,h2⟩:=dp h;have a:=ih 2 _ _ _ _ _ _ _ (by omega) h1;have b:=ih 1 _ _ _ _ _ _ _ (by omega) h2;simp[fJ]at*;omega
  |1,_=>
   rw[ug]at h;split at h
   ·obtain⟨e1,r1,n1,h1,h2⟩:=dp h;obtain⟨e2,r2,n2,h3,h4⟩:=dp h2;have c:=dD h3;cases c;have a:=ih 2 _ _ _ _ _ _ _ (by omega) h1;have b:=ih 1 _ _ _ _ _ _ _ (by omega) h4;simp[fJ]at*;omega
   ·split at h
    ·obtain⟨e1,r1,n1,h1,h2⟩:=dp h;obtain⟨e2,r2,n2,h3,h4⟩:=dp h2;have c:=dD h3;cases c;have a:=ih 2 _ _ _ _ _ _ _ (by omega) h1;have b:=ih 1 _ _ _ _ _ _ _ (by omega) h4;simp[fJ]at*;omega
    ·cases h;simp[fJ]
  |2,_=>
   rw[ui]at h;obtain⟨e1,r1,n1,h1,h2⟩:=dp h;have a:=ih 4 _ _ _ _ _ _ _ (by omega) h1;have b:=ih 3 _ _ _ _ _ _ _ (by omega) h2;simp[fJ]at*;omega
  |3,_=>
   rw[uj]at h;split at h
   ·obtain⟨e1,r1,n1,h1,h2⟩:=dp h;obtain⟨e2,r2,n2,h3,h4⟩:=dp h2;have c:=dD h3;cases c;have a:=ih 4 _ _ _ _ _ _ _ (by omega) h1;have b:=ih 3 _ _ _ _ _ _ _ (by omega) h4;simp[fJ]at*;omega
   ·cases h;simp[fJ]
  |4,_=>
   rw[uk]at h;obtain⟨e1,r1,n1,h1,h2⟩:=dp h;have a:=ih 6 _ _ _ _ _ _ _ (by omega) h1;have b:=ih 5 _ _ _ _ _ _ _ (by omega) h2;simp[fJ]at*;omega
  |5,_=>
   rw[um]at h;have hs:=qY r;split at h
   ·split at h
    ·exact(dx h).elim
    ·split at h
     ·exact(dx h).elim
     ·obtain⟨e2,r2,n2,h3,h4⟩:=dp h;have c:=dD h3;cases c;have b:=ih 5 _ _ _ _ _ _ _ (by omega) h4;simp[fJ]at*;omega
   ·cases h;simp[fJ]
  |6,_=>
   rw[uo]at h;by_cases c0:40<d
   ·rw[ay c0]at h;exact(dx h).elim
   rw[aw c0]at h;by_cases c1:isT kA r=true
   ·rw[ay c1]at h;have:=eP (by decide) c1;obtain⟨e1,r1,n1,h1,h2⟩:=dp h;have a:=ih 0 _ _ _ _ _ _ _ (by omega) h1;split at h2
    ·cases h2;simp[fJ]at*;omega
    ·exact(dx h2).elim
   rw[aw c1]at h;by_cases c2:isT jG r=true
   ·rw[ay c2]at h;have:=eP (by decide) c2;cases dD h;simp[fJ]at*;omega
   rw[aw c2]at h;by_cases c3:isT jj r=true
   ·rw[ay c3]at h;have:=eP (by decide) c3;cases dD h;simp[fJ]at*;omega
   rw[aw c3]at h;by_cases c4:isT jD r=true
   ·rw[ay c4]at h;have:=eP (by decide) c4;have a:=ih 7 _ _ _ _ _ _ _ (by omega) h;simp[fJ]at*;omega
   rw[aw c4]at h;by_cases c5:isT la r=true
   ·rw[ay c5]at h;have:=eP (by decide) c5;split at h
    ·exact(dx h).elim
    split at h
    ·split at h
     ·exact(dx h).elim
     split at h
     ·exact(dx h).elim
     have a:=ih 8 _ _ _ _ _ _ _ (by omega) h;simp[fJ]at*;omega
    ·have a:=ih 8 _ _ _ _ _ _ _ (by omega) h;simp[fJ]at*;omega
   rw[aw c5]at h;by_cases c6:kindP r=1
   ·rw[ay c6]at h;have:=po (r:=r) (by omega);cases dD h;simp[fJ]at*;omega
   rw[aw c6]at h;by_cases c7:kindP r≠4
   ·rw[ay c7]at h;exact(dx h).elim
   rw[aw c7]at h;have:=po (r:=r) (by omega);split at h
   ·split at h
    ·exact(dx h).elim
    split at h
    ·exact(dx h).elim
    cases dD h;simp[fJ]at*;omega
   ·exact(dx h).elim
  |7,_=>
   rw[uq]at h;split at h
   ·exact(dx h).elim
   ·rename_i hd;have:=oz hd;split at h
    ·have a:=ih 7 _ _ _ _ _ _ _ (by omega) h;simp[fJ]at*;omega
    ·have a:=ih 8 _ _ _ _ _ _ _ (by omega) h;simp[fJ]at*;omega
  |8,_=>
   rw[ut]at h;split at h
   ·rename_i ho;have:=eP (by decide) ho;obtain⟨e1,r1,n1,h1,h2⟩:=dp h;cases dD h2;have a:=ih 4 _ _ _ _ _ _ _ (by omega) h1;simp[fJ]at*;omega
   ·exact(dx h).elim
theorem dF {x y:Res}{f g:Ex->List Tk->Nat->Res}(h:x=y)(hf: ∀e r n,y= .ok (e,r,n)->f e r n=g e r n):cZ x f=cZ y g:=by
 subst h;match x with
 | .error _=>rfl
 | .ok (e,r,n)=>exact hf e r n rfl
def eC (m:Nat):Nat:=if m=0 then 4 else if m=2 then 3 else if m=4 then 2 else 1
def ef (m:Nat)(r:List Tk):Nat:=4*r.length+eC m
theorem A5 (E:Nat): ∀(f m d:Nat) (e:Ex) (r:List Tk) (n:Nat),m<=8->ef m r<=f->goP E (f+1) m d e r n=goP E f m d e r n
 |0,m,d,e,r,n,_,h=>by
  unfold ef eC at h;exfalso;split at h
  ·omega
  split at h
  ·omega
  split at h<;>omega
 |f+1,m,d,e,r,n,hm,h=>by
  have ih:=A5 E f;have len:=yu E f;unfold ef at h ih;match m,hm with
  |0,_=>
   rw[uf,uf];refine dF (ih 2 _ _ _ _ (by omega) (by simp[eC]at*;omega)) fun e1 r1 n1 h1=> ?_;have a:=len 2 _ _ _ _ _ _ _ (by omega) h1;exact ih 1 _ _ _ _ (by omega) (by simp[eC,fJ]at*;omega)
  |1,_=>
   rw[ug,ug];split
   ·rename_i ho;have:=eP (by decide) ho;refine dF (ih 2 _ _ _ _ (by omega) (by simp[eC]at*;omega)) fun e1 r1 n1 h1=> ?_;have a:=len 2 _ _ _ _ _ _ _ (by omega) h1;refine dF rfl fun e2 r2 n2 h2=> ?_;cases dD h2;exact ih 1 _ _ _ _ (by omega) (by simp[eC,fJ]at*;omega)
   ·split
    ·rename_i ho;have:=eP (by decide) ho;refine dF (ih 2 _ _ _ _ (by omega) (by simp[eC]at*;omega)) fun e1 r1 n1 h1=> ?_;have a:=len 2 _ _ _ _ _ _ _ (by omega) h1;refine dF rfl fun e2 r2 n2 h2=> ?_;cases dD h2;exact ih 1 _ _ _ _ (by omega) (by simp[eC,fJ]at*;omega)
    ·rfl
  |2,_=>
   rw[ui,ui];refine dF (ih 4 _ _ _ _ (by omega) (by simp[eC]at*;omega)) fun e1 r1 n1 h1=> ?_;have a:=len 4 _ _ _ _ _ _ _ (by omega) h1;exact ih 3 _ _ _ _ (by omega) (by simp[eC,fJ]at*;omega)
  |3,_=>
   rw[uj,uj];split
   ·rename_i ho;have:=eP (by decide) ho;refine dF (ih 4 _ _ _ _ (by omega) (by simp[eC]at*;omega)) fun e1 r1 n1 h1=> ?_;have a:=len 4 _ _ _ _ _ _ _ (by omega) h1;refine dF rfl fun e2 r2 n2 h2=> ?_;cases dD h2;exact ih 3 _ _ _ _ (by omega) (by simp[eC,fJ]at*;omega)
   ·rfl
  |4,_=>
   rw[uk,uk];refine dF (ih 6 _ _ _ _ (by omega) (by simp[eC]at*;omega)) fun e1 r1 n1 h1=> ?_;have a:=len 6 _ _ _ _ _ _ _ (by omega) h1;exact ih 5 _ _ _ _ (by omega) (by simp[eC,fJ]at*;omega)
  |5,_=>
   rw[um,um];have hs:=qY r;split
   ·rename_i ho;have:=eP (by decide) ho;split
    ·rfl
    split
    ·rfl
    refine dF rfl fun e2 r2 n2 h2=> ?_;cases dD h2;exact ih 5 _ _ _ _ (by omega) (by simp[eC]at*;omega)
   ·rfl
  |6,_=>
   rw[uo E (f+1),uo E f];by_cases c0:40<d
   ·rw[ay c0,ay c0]
   rw[aw c0,aw c0];by_cases c1:isT kA r=true
   ·rw[ay c1,ay c1];have:=eP (by decide) c1;exact dF (ih 0 _ _ _ _ (by omega) (by simp[eC]at*;omega)) fun e1 r1 n1 h1=>rfl
   rw[aw c1,aw c1];by_cases c2:isT jG r=true
   ·rw[ay c2,ay c2]
   rw[aw c2,aw c2];by_cases c3:isT jj r=true
   ·rw[ay c3,ay c3]
   rw[aw c3,aw c3];by_cases c4:isT jD r=true
   ·rw[ay c4,ay c4];have:=eP (by decide) c4;exact ih 7 _ _ _ _ (by omega) (by simp[eC]at*;omega)
   rw[aw c4,aw c4];by_cases c5:isT la r=true
   ·rw[ay c5,ay c5];have:=eP (by decide) c5;rw[ih 8 d ⟨5,numP r.tail,numP r.tail.tail.tail,[],[]⟩ r.tail.tail.tail.tail n (by omega) (by simp[eC]at*;omega),ih 8 d ⟨5,numP r.tail,numP r.tail,[],[]⟩ r.tail.tail n (by omega) (by simp[eC]at*;omega)]
   rw[aw c5,aw c5]
  |7,_=>
   rw[uq E (f+1) d e r n,uq E f d e r n];split
   ·rfl
   ·rename_i hd;have:=oz hd;split
    ·exact ih 7 _ _ _ _ (by omega) (by simp[eC]at*;omega)
    ·exact ih 8 _ _ _ _ (by omega) (by simp[eC]at*;omega)
  |8,_=>
   rw[ut,ut];split
   ·rename_i ho;have:=eP (by decide) ho;exact dF (ih 4 _ _ _ _ (by omega) (by simp[eC]at*;omega)) fun e1 r1 n1 h1=>rfl
   ·rfl
def rd (E m d:Nat)(e:Ex)(r:List Tk)(n:Nat):Res:=goP E (ef m r) m d e r n
theorem iq (E m d:Nat)(e:Ex)(r:List Tk)(n:Nat)(hm:m<=8): ∀f,ef m r<=f->goP E f m d e r n=rd E m d e r n
 |f,h=>by
  obtain⟨k,rfl⟩: ∃k,f=ef m r+k:=⟨f-ef m r,by omega⟩
  clear h;induction k with
  |zero=>rfl
  |succ k ih=>rw[<-Nat.add_assoc,A5 E _ m d e r n hm (by omega)];exact ih
theorem lu {E m d:Nat}{e:Ex}{r:List Tk}{n:Nat}{e':Ex}{r':List Tk}{n':Nat}(hm:m<=8)(h:rd E m d e r n= .ok (e',r',n')):r'.length+fJ m<=r.length:=yu E _ m d e r n e' r' n' hm h
theorem Px (E d:Nat)(e:Ex)(r:List Tk)(n:Nat):rd E 0 d e r n=cZ (rd E 2 d ex0 r n) fun e r n=>rd E 1 d e r n:=by
 have h:ef 0 r=4*r.length+3+1:=by simp[ef,eC]
 show goP E (ef 0 r) 0 d e r n=_;rw[h,uf];refine dF (iq E 2 d ex0 r n (by omega) _ (by simp[ef,eC])) fun e1 r1 n1 h1=> ?_;have a:=lu (by omega) h1;exact iq E 1 d e1 r1 n1 (by omega) _ (by simp[ef,eC,fJ]at*;omega)
theorem Py (E d:Nat)(e:Ex)(r:List Tk)(n:Nat):rd E 2 d e r n=cZ (rd E 4 d ex0 r n) fun e r n=>rd E 3 d e r n:=by
 have h:ef 2 r=4*r.length+2+1:=by simp[ef,eC]
 show goP E (ef 2 r) 2 d e r n=_;rw[h,ui];refine dF (iq E 4 d ex0 r n (by omega) _ (by simp[ef,eC])) fun e1 r1 n1 h1=> ?_;have a:=lu (by omega) h1;exact iq E 3 d e1 r1 n1 (by omega) _ (by simp[ef,eC,fJ]at*;omega)
theorem Pz (E d:Nat)(e:Ex)(r:List Tk)(n:Nat):rd E 4 d e r n=cZ (rd E 6 d ex0 r n) fun e r n=>rd E 5 d e r n:=by
 have h:ef 4 r=4*r.length+1+1:=by simp[ef,eC]
 show goP E (ef 4 r) 4 d e r n=_;rw[h,uk];refine dF (iq E 6 d ex0 r n (by omega) _ (by simp[ef,eC])) fun e1 r1 n1 h1=> ?_;have a:=lu (by omega) h1;exact iq E 5 d e1 r1 n1 (by omega) _ (by simp[ef,eC,fJ]at*;omega)
theorem Jg (E d:Nat)(e:Ex)(r:List Tk)(n:Nat):rd E 1 d e r n=
  if isT pm r then cZ (rd E 2 d ex0 r.tail n) fun t r n=>cZ (du E ⟨6,0,0,[],[e,t]⟩ r n) fun e r n=>rd E 1 d e r n
  else if isT fR r then cZ (rd E 2 d ex0 r.tail n) fun t r n=>cZ (du E ⟨7,0,0,[],[e,t]⟩ r n) fun e r n=>rd E 1 d e r n
  else .ok (e,r,n):=by
 have h:ef 1 r=4*r.length+1:=by simp[ef,eC]
 show goP E (ef 1 r) 1 d e r n=_;rw[h,ug];by_cases c1:isT pm r=true
 ·rw[ay c1,ay c1];have:=eP (by decide) c1;refine dF (iq E 2 d ex0 r.tail n (by omega) _ (by simp[ef,eC];omega)) fun e1 r1 n1 h1=> ?_;have a:=lu (by omega) h1;refine dF rfl fun e2 r2 n2 h2=> ?_;cases dD h2;exact iq E 1 d _ _ _ (by omega) _ (by simp[ef,eC,fJ]at*;omega)
 ·rw[aw c1,aw c1];by_cases c2:isT fR r=true
  ·rw[ay c2,ay c2];have:=eP (by decide) c2;refine dF (iq E 2 d ex0 r.tail n (by omega) _ (by simp[ef,eC];omega)) fun e1 r1 n1 h1=> ?_;have a:=lu (by omega) h1;refine dF rfl fun e2 r2 n2 h2=> ?_;cases dD h2;exact iq E 1 d _ _ _ (by omega) _ (by simp[ef,eC,fJ]at*;omega)
  ·rw[aw c2,aw c2]
theorem Nq (E d:Nat)(e:Ex)(r:List Tk)(n:Nat):rd E 3 d e r n=
  if isT sY r then cZ (rd E 4 d ex0 r.tail n) fun t r n=>cZ (du E ⟨8,0,0,[],[e,t]⟩ r n) fun e r n=>rd E 3 d e r n
  else .ok (e,r,n):=by
 have h:ef 3 r=4*r.length+1:=by simp[ef,eC]
 show goP E (ef 3 r) 3 d e r n=_;rw[h,uj];by_cases c1:isT sY r=true
 ·rw[ay c1,ay c1];have:=eP (by decide) c1;refine dF (iq E 4 d ex0 r.tail n (by omega) _ (by simp[ef,eC];omega)) fun e1 r1 n1 h1=> ?_;have a:=lu (by omega) h1;refine dF rfl fun e2 r2 n2 h2=> ?_;cases dD h2;exact iq E 3 d _ _ _ (by omega) _ (by simp[ef,eC,fJ]at*;omega)
 ·rw[aw c1,aw c1]
theorem Nr (E d:Nat)(e:Ex)(r:List Tk)(n:Nat):rd E 5 d e r n=if isT l0 r then
   if kindP (fb r)≠6 then dK E 2 (fb r)
   else if 1440<=numP (fb r)\/numP (fb r)<1 then dK E 3 (fb r)
   else cZ (du E ⟨9,if isT fR r.tail then-numP (fb r) else numP (fb r),0,[],[e]⟩ (fb r).tail n) fun e r n=>rd E 5 d e r n
  else .ok (e,r,n):=by
 have h:ef 5 r=4*r.length+1:=by simp[ef,eC]
 show goP E (ef 5 r) 5 d e r n=_;rw[h,um];have hs:=qY r;by_cases c1:isT l0 r=true
 ·rw[ay c1,ay c1];have:=eP (by decide) c1;by_cases c2:kindP (fb r)≠6
  ·rw[ay c2,ay c2]
  rw[aw c2,aw c2];by_cases c3:1440<=numP (fb r)\/numP (fb r)<1
  ·rw[ay c3,ay c3]
  rw[aw c3,aw c3];refine dF rfl fun e2 r2 n2 h2=> ?_;cases dD h2;exact iq E 5 d _ _ _ (by omega) _ (by simp[ef,eC]at*;omega)
 ·rw[aw c1,aw c1]
theorem Ns (E d:Nat)(e:Ex)(r:List Tk)(n:Nat):rd E 6 d e r n=
  if 40<d then dK E 4 r
  else if isT kA r then cZ (rd E 0 (d+1) ex0 r.tail n) fun e r n=>if isT oy r then .ok (e,r.tail,n) else dK E 2 r
  else if isT jG r then du E ⟨1,0,0,[],[]⟩ r.tail n
  else if isT jj r then du E ⟨2,0,0,[],[]⟩ r.tail n
  else if isT jD r then rd E 7 d ex0 r.tail n
  else if isT la r then
   if kindP r.tail≠5 then dK E 2 r.tail
   else if isT wTo r.tail.tail then
    if kindP r.tail.tail.tail≠5 then dK E 2 r.tail.tail.tail
    else if numP r.tail.tail.tail<numP r.tail then dK E 3 r.tail.tail.tail
    else rd E 8 d ⟨5,numP r.tail,numP r.tail.tail.tail,[],[]⟩ r.tail.tail.tail.tail n
   else rd E 8 d ⟨5,numP r.tail,numP r.tail,[],[]⟩ r.tail.tail n
  else if kindP r=1 then du E ⟨10,0,0,textP r,[]⟩ r.tail n
  else if kindP r≠4 then dK E 2 r
  else if isT fR r.tail then
   if kindP r.tail.tail≠4 then dK E 2 r.tail.tail
   else if numP r.tail.tail<numP r+1 then dK E 3 r.tail.tail
   else du E ⟨3,numP r,numP r.tail.tail,[],[]⟩ r.tail.tail.tail n
  else dK E 2 r.tail:=by
 have h:ef 6 r=4*r.length+1:=by simp[ef,eC]
 show goP E (ef 6 r) 6 d e r n=_;rw[h,uo];by_cases c0:40<d
 ·rw[ay c0,ay c0]
 rw[aw c0,aw c0];by_cases c1:isT kA r=true
 ·rw[ay c1,ay c1];have:=eP (by decide) c1;exact dF (iq E 0 _ _ _ _ (by omega) _ (by simp[ef,eC]at*;omega)) fun e1 r1 n1 h1=>rfl
 rw[aw c1,aw c1];by_cases c2:isT jG r=true
 ·rw[ay c2,ay c2]
 rw[aw c2,aw c2];by_cases c3:isT jj r=true
 ·rw[ay c3,ay c3]
 rw[aw c3,aw c3];by_cases c4:isT jD r=true
 ·rw[ay c4,ay c4];have:=eP (by decide) c4;exact iq E 7 _ _ _ _ (by omega) _ (by simp[ef,eC]at*;omega)
 rw[aw c4,aw c4];by_cases c5:isT la r=true
 ·rw[ay c5,ay c5];have:=eP (by decide) c5;rw[iq E 8 d ⟨5,numP r.tail,numP r.tail.tail.tail,[],[]⟩ r.tail.tail.tail.tail n (by omega) _ (by simp[ef,eC]at*;omega),iq E 8 d ⟨5,numP r.tail,numP r.tail,[],[]⟩ r.tail.tail n (by omega) _ (by simp[ef,eC]at*;omega)]
 rw[aw c5,aw c5]
theorem Nt (E d:Nat)(e:Ex)(r:List Tk)(n:Nat):rd E 7 d e r n=
  if dayBit (textP r)=0 then dK E 2 r
  else if isT oI r.tail then rd E 7 d ⟨0,((e.a.toNat|||dayBit (textP r):Nat):Int),0,[],[]⟩ r.tail.tail n
  else rd E 8 d ⟨4,((e.a.toNat|||dayBit (textP r):Nat):Int),0,[],[]⟩ r.tail n:=by
 have h:ef 7 r=4*r.length+1:=by simp[ef,eC]
 show goP E (ef 7 r) 7 d e r n=_;rw[h,uq];by_cases c1:dayBit (textP r)=0
 ·rw[ay c1,ay c1]
 rw[aw c1,aw c1];have:=oz c1;rw[iq E 7 d _ r.tail.tail n (by omega) _ (by simp[ef,eC]at*;omega),iq E 8 d _ r.tail n (by omega) _ (by simp[ef,eC]at*;omega)]
theorem PA (E d:Nat)(e:Ex)(r:List Tk)(n:Nat):rd E 8 d e r n=
  if isT mI r then cZ (rd E 4 (d+1) ex0 r.tail n) fun k r n=>du E ⟨e.kind,e.a,e.b,[],[k]⟩ r n else dK E 2 r:=by
 have h:ef 8 r=4*r.length+1:=by simp[ef,eC]
 show goP E (ef 8 r) 8 d e r n=_;rw[h,ut];by_cases c1:isT mI r=true
 ·rw[ay c1,ay c1];have:=eP (by decide) c1;exact dF (iq E 4 _ _ _ _ (by omega) _ (by simp[ef,eC]at*;omega)) fun e1 r1 n1 h1=>rfl
 ·rw[aw c1,aw c1]
end Lx
theorem lw (c:UInt8)(w:World):Calls prog 65 #[.int .u8 (c.toNat:Int)] w fun e w'=>e= .returned (.bool (isD c))/\w'=w:=by
 unfold isD;by_cases h1:48<=c.toNat
 ·by_cases h2:c.toNat<=57
  ·have i1:(48:Int)<=(c.toNat:Int):=(by omega);have i2:(c.toNat:Int)<=57:=(by omega);rw[a7 h1,a7 h2];go_enter func65,ntmps65;go_wp2;go_ret;exact⟨rfl,rfl⟩
  ·have i1:(48:Int)<=(c.toNat:Int):=(by omega);have i2: ¬(c.toNat:Int)<=57:=(by omega);rw[a7 h1,bj h2];go_enter func65,ntmps65;go_wp2;go_ret;exact⟨rfl,rfl⟩
 ·have i1: ¬(48:Int)<=(c.toNat:Int):=by omega
  rw[bj h1];go_enter func65,ntmps65;go_wp2;go_ret;exact⟨rfl,rfl⟩
theorem wG (c:UInt8)(w:World):Calls prog 67 #[.int .u8 (c.toNat:Int)] w fun e w'=>e= .returned (.bool (isL c))/\w'=w:=by
 unfold isL;by_cases h1:97<=c.toNat
 ·by_cases h2:c.toNat<=122
  ·have i1:(97:Int)<=(c.toNat:Int):=(by omega);have i2:(c.toNat:Int)<=122:=(by omega);rw[a7 h1,a7 h2];go_enter func67,ntmps67;go_wp2;go_ret;exact⟨rfl,rfl⟩
  ·have i1:(97:Int)<=(c.toNat:Int):=(by omega);have i2: ¬(c.toNat:Int)<=122:=(by omega);rw[a7 h1,bj h2];go_enter func67,ntmps67;go_wp2;go_ret;exact⟨rfl,rfl⟩
 ·have i1: ¬(97:Int)<=(c.toNat:Int):=by omega
  rw[bj h1];go_enter func67,ntmps67;go_wp2;go_ret;exact⟨rfl,rfl⟩
theorem lh {s:ByteArray}{l:List UInt8}(hs:s.data.toList=l)(k:Nat)(hk:k<s.size):s[k]=l.getD k 0:=by
 subst hs;have h:k<s.data.size:=hk;show s.data[k]=_;rw[dJ,bo,fk h];rfl
theorem Gb {a b:Int}(h:a=b):ag a=ag b:=by rw[h]
theorem mx (s:ByteArray)(l:List UInt8)(hs:s.data.toList=l)(hl:l.length<=6)(hd: ∀i,i<l.length->isD (l.getD i 0)=true)(w:World):
  Calls prog 106 #[.string s] w fun e w'=>e= .returned (ag (valL l))/\w'=w:=by
 have hz:s.size=l.length:=by rw[<-hs,Lib.size_eq]
 go_enter func106,ntmps106;go_wp2;go_loop [3,7] (fun n i=> ∃k:Nat,k<=l.length/\i=ag k/\n=ag (valL (l.take k))) (fun _ i=>l.length-(intOf i).toNat);case atStart=>exact⟨0,by omega,rfl,rfl⟩
 case round=>
  obtain⟨k,hk,rfl,rfl⟩:=hrel;by_cases hlt:k<l.length
  ·have hlt':(k:Int)<(l.length:Int):=(by omega);have hk0:(0:Int)<=(k:Int):=(by omega);have hv:=pj l hd k (by omega) (by omega);have hdk:=hd k hlt;have e1:=lh hs k (by omega);have e2:=zd l k hlt;have HE:P3 (valL (l.take (k+1))=10*valL (l.take k)+(((l.getD k 0).toNat:Int)-48)):=e2;simp only[isD,bq,bH]at hdk;have HK:P3 (48<=(l.getD k 0).toNat/\(l.getD k 0).toNat<=57):=hdk;have HB:P3 (s[k]=l.getD k 0):=e1;clear hdk e1 e2 hd;go_wp2;go_round
   case rel=>
    refine⟨k+1,by omega,by go_num,Gb ?_⟩;have h2:=HK.o;rw[HB.o,HE.o];generalize (l.getD k 0).toNat=c at h2;generalize valL (l.take k)=v at hv;omega
   case measure=>simp[intOf];omega
  ·have hkl:k=l.length:=(by omega);subst hkl;have e:valL (l.take l.length)=valL l:=(by rw[fI]);go_wp2;go_ret;exact⟨rfl,rfl⟩
theorem A6 (s t:ByteArray)(l m:List UInt8)(hs:s.data.toList=l)(ht:t.data.toList=m)(hl:l.length<=9223372036854775807)(hm:m.length<=100)(w:World):
  Calls prog 62 #[.string s,.string t] w fun e w'=>e= .returned (.bool (iX l m))/\ao w w':=by
 have hz:s.size=l.length:=by rw[<-hs,Lib.size_eq]
 have hy:t.size=m.length:=by rw[<-ht,Lib.size_eq]
 by_cases hsh:m.length<=l.length
 ·have hsh': ¬(l.length:Int)<(m.length:Int):=by omega
  go_enter func62,ntmps62;go_wp2;go_loopw [13] (fun i wr=> ∃k:Nat,k<=m.length/\i=ag k/\(∀i,i<k->okB (m.getD i 0) (l.getD i 0)=true)/\ao w wr) (fun i _=>m.length-(intOf i).toNat);case atStart=>exact⟨0,by omega,rfl,fun i h=>by omega,aG _ _⟩
  case round=>
   obtain⟨k,hk,rfl,hall,hbel⟩:=hrel;have HA:P3 (∀i,i<k->okB (m.getD i 0) (l.getD i 0)=true):=hall;clear hall;by_cases hlt:k<m.length
   ·have hlt':(k:Int)<(m.length:Int):=(by omega);have hlt2:(k:Int)<(l.length:Int):=(by omega);have hk0:(0:Int)<=(k:Int):=(by omega);have e1:=lh hs k (by omega);have e2:=lh ht k (by omega);have g1: ∀h:k<s.size,s[k]=l.getD k 0:=fun _=>e1;have g2: ∀h:k<t.size,t[k]=m.getD k 0:=fun _=>e2;have hok:okB (m.getD k 0) (l.getD k 0)=(if(m.getD k 0).toNat=48 then isD (l.getD k 0) else decide ((m.getD k 0).toNat=(l.getD k 0).toNat)):=rfl;generalize hc:l.getD k 0=c at*;generalize hf:m.getD k 0=f at*;by_cases h48:f.toNat=48
    ·have i48:(f.toNat:Int)=48:=(by omega);rw[ay h48]at hok;cases hd:isD c with
     |true=>
      rw[hd]at hok;have HO:P3 (okB f c=true):=hok;have cd:=fun w=>lw c w;rw[hd]at cd;clear hok hd e1 e2;go_wp2;go_quiet ((go_at_call 65;exact eU (cd _)));go_wp2;go_roundw
      case rel=>
       refine⟨k+1,by omega,by go_num,fun i hi=> ?_,dr hbel _⟩;by_cases e:i=k
       ·subst e;rw[hc,hf];exact HO.o
       ·exact HA.o i (by omega)
      case measure=>simp[intOf];omega
     |false=>
      rw[hd]at hok;have HO:P3 (okB f c=false):=hok;have cd:=fun w=>lw c w;rw[hd]at cd;clear hok hd e1 e2;go_wp2;go_quiet ((go_at_call 65;exact eU (cd _)));go_wp2;go_ret;exact⟨by rw[A3 k hlt (by rw[hc,hf];exact HO.o)];rfl,dr hbel _⟩
    ·have n48:((f.toNat:Int)==48)=false:=(by simp;omega);rw[aw h48]at hok;by_cases hfc:f.toNat=c.toNat
     ·have HO:P3 (okB f c=true):=(by rw[hok];exact a7 hfc);have m48:((c.toNat:Int)==48)=false:=(by simp;omega);have o48:((c.toNat:Int) !=48)=true:=(by simp;omega);have o49:((c.toNat:Int) !=(c.toNat:Int))=false:=(by simp);clear hok e1 e2 n48 h48;go_wp2;go_quiet (fail);go_wp2;go_roundw
      case rel=>
       refine⟨k+1,by omega,by go_num,fun i hi=> ?_,dr hbel _⟩;by_cases e:i=k
       ·subst e;rw[hc,hf];exact HO.o
       ·exact HA.o i (by omega)
      case measure=>simp[intOf];omega
     ·have HO:P3 (okB f c=false):=(by rw[hok];exact bj hfc);have o48:((f.toNat:Int) !=48)=true:=(by simp;omega);have ifc:((f.toNat:Int) !=(c.toNat:Int))=true:=(by simp;omega);clear hok e1 e2;go_wp2;go_quiet (fail);go_wp2;go_ret;exact⟨by rw[A3 k hlt (by rw[hc,hf];exact HO.o)];rfl,dr hbel _⟩
   ·have HF:P3 (iX l m=true):=F8 hsh fun i hi=>HA.o i (by omega);have hkl:k=m.length:=(by omega);subst hkl;go_wp2;go_ret;exact⟨by rw[HF.o];rfl,hbel⟩
 ·have HF:P3 (iX l m=false):=CL hsh;have hsh':(l.length:Int)<(m.length:Int):=(by omega);go_enter func62,ntmps62;go_wp2;go_ret;exact⟨by rw[HF.o];rfl,aG _ _⟩
def rY (t:T1):Value:= .tuple #[.agg #[ag t.kind,ag t.n,ag 0,.string ⟨t.text.toArray⟩],ag (t.len:Int),ag t.err]
theorem yv:prog.underlying 99=some (.struct (prog.fieldsOf 99)):=by kernel_rfl
theorem fu {fn:Func}(h:fn.results=f66.results){R:Ending->World->Prop}{a:Act}{w:World}(g:Nat)(t:T1)(hd:a.defers=[])(h2:a.tmps.getD 2 undef=ab g 0)
  (h3:a.tmps.getD 3 undef=ag (t.len:Int)) (h4:a.tmps.getD 4 undef=ag t.err) (hg:w.heap[g]? =ah #[ag t.kind,ag t.n,ag 0,.string ⟨t.text.toArray⟩] 99)
  (hR:R (.returned (rY t)) w):bodyPost prog fn R .ret a w:=by
 refine aU (v:=rY t) ?_ hd hR;have h2':a.tmps[2]?.getD undef=ab g 0:=by simpa using h2
 have h3':a.tmps[3]?.getD undef=ag (t.len:Int):=by simpa using h3
 have h4':a.tmps[4]?.getD undef=ag t.err:=by simpa using h4
 have hv:=dR (P:=prog) w g 99 99 _ _ _ hg yv rfl (by kernel_rfl);simp[results,h,results66,h2',h3',h4',asAddr,hv,rY]
theorem u9 (s:ByteArray)(l:List UInt8)(hs:s.data.toList=l)(hl:l.length<=9223372036854775806)(w:World):
  Calls prog 107 #[.string s] w fun e w'=>e= .returned (ag (wordLen l:Int))/\w'=w:=by
 have hz:s.size=l.length:=by rw[<-hs,Lib.size_eq]
 go_enter func107,ntmps107;go_wp2;go_loop [3] (fun i=> ∃k:Nat,k<=l.length/\i=ag k/\ ∀i,i<k->nz l i=true) (fun i=>l.length-(intOf i).toNat);case atStart=>exact⟨0,by omega,rfl,fun i h=>by omega⟩
 case round=>
  obtain⟨k,hk,rfl,hall⟩:=hrel;have HA:P3 (∀i,i<k->nz l i=true):=hall;clear hall;by_cases hlt:k<l.length
  ·have hlt':(k:Int)<(l.length:Int):=(by omega);have hk0:(0:Int)<=(k:Int):=(by omega);have g1: ∀h:k<s.size,s[k]=l.getD k 0:=fun h=>lh hs k h
   have hp:nz l k=if k=0 then isL (l.getD k 0) else isC (l.getD k 0):=by
    unfold nz;split
    ·rename_i h;rw[h]
    ·rfl
   generalize hc:l.getD k 0=c at*;have cl:=fun w=>wG c w;have cd:=fun w=>lw c w;have stop:nz l k=false->P3 (wordLen l=k):=fun h=>wy l k hk HA.o fun _=>h
   have next:nz l k=true->P3 (∀i,i<k+1->nz l i=true):=fun h i hi=>by
    by_cases e:i=k
    ·rw[e];exact h
    ·exact HA.o i (by omega)
   cases hL:isL c with
   |true=>
    have hN:=next (by rw[hp];split<;>simp[hL,isC])
    rw[hL]at cl;clear hp hL stop next HA
    go_wp2_with(first
     |(go_at_call 67;refine(cl _).mono ?_;rintro e w' ⟨rfl,rfl⟩)
     |(go_at_call 65;refine(cd _).mono ?_;rintro e w' ⟨rfl,rfl⟩))
    go_round;case rel=>exact⟨k+1,by omega,by go_num,hN.o⟩
    case measure=>simp[intOf];omega
   |false=>
    rw[hL]at cl;by_cases h0:k=0
    ·have hS:=stop (by rw[hp,ay h0,hL]);clear hp hL stop next HA hk0 hlt'
     subst h0;have hlt0:(0:Int)<(l.length:Int):=(by omega)
     go_wp2_with(first
      |(go_at_call 67;refine(cl _).mono ?_;rintro e w' ⟨rfl,rfl⟩)
      |(go_at_call 65;refine(cd _).mono ?_;rintro e w' ⟨rfl,rfl⟩))
     go_ret;exact⟨by rw[hS.o];rfl,rfl⟩
    ·have h0':(0:Int)<(k:Int):=(by omega);cases hD:isD c with
     |true=>
      have hN:=next (by rw[hp,aw h0];simp[hD,isC])
      rw[hD]at cd;clear hp hL hD stop next HA
      go_wp2_with(first
       |(go_at_call 67;refine(cl _).mono ?_;rintro e w' ⟨rfl,rfl⟩)
       |(go_at_call 65;refine(cd _).mono ?_;rintro e w' ⟨rfl,rfl⟩))
      go_round;case rel=>exact⟨k+1,by omega,by go_num,hN.o⟩
      case measure=>simp[intOf];omega
     |false=>
      rw[hD]at cd;by_cases h95:c.toNat=95
      ·have hN:=next (by rw[hp,aw h0];simp[isC,h95])
       have i95:((c.toNat:Int)==95)=true:=(by simp;omega);clear hp hL hD stop next HA h95
       go_wp2_with(first
        |(go_at_call 67;refine(cl _).mono ?_;rintro e w' ⟨rfl,rfl⟩)
        |(go_at_call 65;refine(cd _).mono ?_;rintro e w' ⟨rfl,rfl⟩))
       go_round;case rel=>exact⟨k+1,by omega,by go_num,hN.o⟩
       case measure=>simp[intOf];omega
      ·have hS:=stop (by rw[hp,aw h0];simp[isC,h95,hL,hD]);have i95:((c.toNat:Int)==95)=false:=(by simp;omega);clear hp hL hD stop next HA h95
       go_wp2_with(first
        |(go_at_call 67;refine(cl _).mono ?_;rintro e w' ⟨rfl,rfl⟩)
        |(go_at_call 65;refine(cd _).mono ?_;rintro e w' ⟨rfl,rfl⟩))
       go_ret;exact⟨by rw[hS.o];rfl,rfl⟩
  ·have hS:P3 (wordLen l=k):=wy l k hk HA.o fun h=>absurd h hlt;have hlt': ¬(k:Int)<(l.length:Int):=(by omega);go_wp2;go_ret;exact⟨by rw[hS.o];rfl,rfl⟩
theorem En (s:ByteArray)(l:List UInt8)(hs:s.data.toList=l)(hl:l.length<=9223372036854775806)(w:World):
  Calls prog 66 #[.string s] w fun e w'=>e= .returned (rY (mc l))/\ao w w':=by
 have hz:s.size=l.length:=by rw[<-hs,Lib.size_eq]
 have hb0:ao w (w.alloc (.cells #[ag 0,ag 0,ag 0,.string ⟨#[]⟩] 99)):=am _ _;go_enter func66,ntmps66;go_wp2;go_loop [5] (fun i=> ∃k:Nat,k<=l.length/\i=ag k/\ ∀i,i<k->isD (l.getD i 0)=true) (fun i=>l.length-(intOf i).toNat);case atStart=>exact⟨0,by omega,rfl,fun i h=>by omega⟩
 case round=>
  obtain⟨k,hk,rfl,hall⟩:=hrel;have HA:P3 (∀i,i<k->isD (l.getD i 0)=true):=hall;clear hall;by_cases hgo:k<l.length/\isD (l.getD k 0)=true
  ·obtain⟨hlt,hD⟩:=hgo;have hlt':(k:Int)<(l.length:Int):=(by omega);have hk0:(0:Int)<=(k:Int):=(by omega);have g1: ∀h:k<s.size,s[k]=l.getD k 0:=fun h=>lh hs k h;have cd:=fun w=>lw (l.getD k 0) w;rw[hD]at cd;have HD:P3 (isD (l.getD k 0)=true):=hD;clear hD;generalize hc:l.getD k 0=c at*;go_wp2_with(go_at_call 65;refine(cd _).mono ?_;rintro e w' ⟨rfl,rfl⟩)
   go_round
   case rel=>
    refine⟨k+1,by omega,by go_num,fun i hi=> ?_⟩;by_cases e:i=k
    ·rw[e,hc];exact HD.o
    ·exact HA.o i (by omega)
   case measure=>simp[intOf];omega
  ·have hR:gF isD l=k:=vz isD l k hk HA.o fun h=>by
    cases e:isD (l.getD k 0) with
    |false=>rfl
    |true=>exact absurd ⟨h,e⟩ hgo
   have HR:P3 (gF isD l=k):=hR;clear hR;by_cases h6:6<k
   ·have h6':(6:Int)<(k:Int):=(by omega)
    have HT:P3 (mc l=bad 3):=by
     have:=HR.o;show mc l=bad 3;unfold mc;rw[this,ay h6]
    by_cases hlt:k<l.length
    ·have hlt':(k:Int)<(l.length:Int):=(by omega);have hk0:(0:Int)<=(k:Int):=(by omega);have g1: ∀h:k<s.size,s[k]=l.getD k 0:=fun h=>lh hs k h
     have hD:isD (l.getD k 0)=false:=by
      cases e:isD (l.getD k 0) with
      |false=>rfl
      |true=>exact absurd ⟨hlt,e⟩ hgo
     have cd:=fun w=>lw (l.getD k 0) w;rw[hD]at cd;clear hD hgo;generalize hc:l.getD k 0=c at*;go_wp2_with(go_at_call 65;refine(cd _).mono ?_;rintro e w' ⟨rfl,rfl⟩)
     exact fu rfl w.heap.size (bad 3) rfl rfl rfl rfl (aC w _) ⟨by rw[HT.o],hb0⟩
    ·have hlt': ¬(k:Int)<(l.length:Int):=(by omega);clear hgo;go_wp2;exact fu rfl w.heap.size (bad 3) rfl rfl rfl rfl (aC w _) ⟨by rw[HT.o],hb0⟩
   ·have h6': ¬(6:Int)<(k:Int):=(by omega);have hle:(k:Int)<=(l.length:Int):=(by omega);have hk0:(0:Int)<=(k:Int):=(by omega)
    have HT:P3 (mc l=⟨6,valL (l.take k),[],k,0⟩):=by
     have:=HR.o;show mc l=_;unfold mc;rw[this,aw h6]
    have cv:=fun w=>mx (s.extract 0 k) (l.take k) (by rw[Lib.extract_data,hs];simp) (by simp;omega) (fun i hi=>by
     have hi':i<k:=(by simp at hi;omega);have:=HA.o i hi';rw[dJ]at this⊢;rw[ja,ay hi'];exact this) w
    generalize valL (l.take k)=v at*;have hbx:ao w (w.alloc (.cells #[ag 6,ag v,ag 0,.string ⟨#[]⟩] 99)):=am _ _;by_cases hlt:k<l.length
    ·have hlt':(k:Int)<(l.length:Int):=(by omega);have g1: ∀h:k<s.size,s[k]=l.getD k 0:=fun h=>lh hs k h
     have hD:isD (l.getD k 0)=false:=by
      cases e:isD (l.getD k 0) with
      |false=>rfl
      |true=>exact absurd ⟨hlt,e⟩ hgo
     have cd:=fun w=>lw (l.getD k 0) w;rw[hD]at cd;clear hD hgo;generalize hc:l.getD k 0=c at*
     go_wp2_with(first
      |(go_at_call 65;refine(cd _).mono ?_;rintro e w' ⟨rfl,rfl⟩)
      |(go_at_call 106;refine(cv _).mono ?_;rintro e w' ⟨rfl,rfl⟩))
     exact fu rfl w.heap.size ⟨6,v,[],k,0⟩ rfl rfl rfl rfl (aC w _) ⟨by rw[HT.o],hbx⟩
    ·have hlt': ¬(k:Int)<(l.length:Int):=(by omega);clear hgo;go_wp2_with(go_at_call 106;refine(cv _).mono ?_;rintro e w' ⟨rfl,rfl⟩)
     exact fu rfl w.heap.size ⟨6,v,[],k,0⟩ rfl rfl rfl rfl (aC w _) ⟨by rw[HT.o],hbx⟩
namespace Lx
def lx:List UInt8:=[61,59,58,43,45,38,40,41,44]
theorem A7: ∀(l:List UInt8) (c:UInt8),Go.Lib.indexByte l c<(l.length:Int)
 |[],c=>by simp[Go.Lib.indexByte]
 |b::l,c=>by
  have ih:=A7 l c;unfold Go.Lib.indexByte;simp only[bz];split
  ·omega
  ·split<;>omega
theorem A8: ∀(l:List UInt8) (c:UInt8) (i:Nat),Go.Lib.indexByte l c=(i:Int)->l.getD i 0=c
 |[],c,i,h=>by simp[Go.Lib.indexByte]at h
 |b::l,c,i,h=>by
  unfold Go.Lib.indexByte at h;split at h
  ·rename_i hb;have:i=0:=(by omega);subst this;simpa using hb
  ·split at h
   ·omega
   ·have ge:=Go.Lib.indexByte_ge l c;rename_i hn;have hn':Go.Lib.indexByte l c≠ -1:=(by simpa using hn);obtain⟨j,hj⟩: ∃j:Nat,Go.Lib.indexByte l c=j:=⟨(Go.Lib.indexByte l c).toNat,by omega⟩
    have e:i=j+1:=(by omega);subst e;simpa using A8 l c j hj
def jP (l:List UInt8):T1:=if Go.Lib.hasPrefix l [46,46] then⟨3,0,[46,46],2,0⟩ else if Go.Lib.indexByte lx (l.getD 0 0)<0 then bad 2 else⟨3,0,[l.getD 0 0],1,0⟩
theorem K7 {s:ByteArray}{l:List UInt8}(h:s.data.toList=l):s=⟨l.toArray⟩:=by
 obtain⟨d⟩:=s;simp only at h;subst h;simp
def js:List (List UInt8):=[[97,108,119,97,121,115],[100,97,116,101,115],[102,114,105],[109,111,110],[110,101,118,101,114],[114,117,108,101],[115,97,116],[115,104,105,102,116],[115,117,110],[116,104,117],[116,117,101],[119,101,100],[119,101,101,107,108,121]]
def isWordL (t:List UInt8):Bool:=js.any fun w=>w==t
def kB (l:List UInt8):T1:=if 20<wordLen l then bad 7 else⟨if isWordL (l.take (wordLen l)) then 2 else 1,0,l.take (wordLen l),wordLen l,0⟩
end Lx
end Go.Proofs.YtjkilacmkbmmbaaGreatDoor
