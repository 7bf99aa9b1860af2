/- Texts of the proof. -/
import Derived.Test.YtaoljfdfhggbbaaGreatDoorPc15
import Derived.Test.YtaoljfdfhggbbaaGreatDoorPc29
set_option maxRecDepth 100000
set_option maxHeartbeats 8000000
namespace Go.Proofs.YtaoljfdfhggbbaaGreatDoor
open Go.Proofs.Tryz Go.RowKit Lx Vx Mx Msk
def stdE (e:Ex):Bool:= !(decide (e.kind=4)||decide (e.kind=5)||decide (e.kind=10))&&e.kids.attach.all fun k=>stdE k.1
 termination_by SizeOf.sizeOf e
 decreasing_by exact iS k.2
theorem rY (e:Ex):stdE e=(!(decide (e.kind=4)||decide (e.kind=5)||decide (e.kind=10))&&e.kids.all stdE):=by
 rw[stdE];congr 1;rw[Bool.eq_iff_iff,dr,dr];exact⟨fun h k a=>h ⟨k,a⟩ (List.mem_attach _ _),fun h k _=>h k.1 k.2⟩
theorem ld {e:Ex}(h:stdE e=true):e.kind≠4/\e.kind≠5/\e.kind≠10:=by
 rw[rY,bG]at h;have a:=h.1;refine⟨fun e=> ?_,fun e=> ?_,fun e=> ?_⟩<;>simp[e]at a
theorem B4 {e k:Ex}(h:stdE e=true)(a:k∈e.kids):stdE k=true:=by
 rw[rY,bG,dr]at h;exact h.2 k a
theorem H9 {e:Ex}(h:e.kids=[])(b:e.kind≠4)(c:e.kind≠5)(a:e.kind≠10):stdE e=true:=by
 rw[rY,h];simp[b,c,a]
def mnE (e:Ex):Nat->Bool:=ft (fun _=>false) 0 (fun _=>nev) e
theorem DX (d:Int->Bool)(day:Int)(a:List UInt8->Nat->Bool): ∀(N:Nat) (e:Ex),SizeOf.sizeOf e<=N->stdE e=true->ft d day a e=mnE e
 |0,e,f,_=>by cases e;simp at f
 |N+1,e,f,h=>by
  unfold mnE;rw[jA,jA];have b:e.kids.map (ft d day a)=e.kids.map (ft (fun _=>false) 0 (fun _=>nev)):=List.map_congr_left fun k b=>DX d day a N k (by have:=iS b;omega) (B4 h b);rw[b];obtain⟨g,i,c⟩:=ld h;unfold mG;simp only[ax g,ax i,ax c]
theorem B5 {e:Ex}(h:stdE e=true)(b:Int->Bool)(day:Int)(a:List UInt8->Nat->Bool):ft b day a e=mnE e:=DX b day a _ e (aB _) h
def kh:List (Nat->List In)->Nat->List In
 |[],_=>[]
 |f::a,b=>f b++kh a (b+(f b).length)
def noC:Nat->List In:=fun _=>[]
def opK (k:Int):Int:=if k=9 then 5 else if k=6 then 2 else if k=7 then 3 else 4
def sK (num:List UInt8->Int)(e:Ex)(c:List (Nat->List In))(b:Nat):List In:=
 if stdE e=true then [⟨1,0,0,0,rs (mnE e) 1440⟩]
 else if e.kind=10 then [⟨8,num e.name,0,0,[]⟩]
 else if e.kind=4 then⟨6,e.a,0,((b+1+((c.getD 0 noC) (b+1)).length:Nat):Int),[]⟩::(c.getD 0 noC) (b+1)
 else if e.kind=5 then⟨7,e.a,e.b,((b+1+((c.getD 0 noC) (b+1)).length:Nat):Int),[]⟩::(c.getD 0 noC) (b+1)
 else kh c b++[⟨opK e.kind,if e.kind=9 then e.a else 0,0,0,[]⟩]
def bL (num:List UInt8->Int)(e:Ex)(b:Nat):List In:=sK num e (e.kids.attach.map fun k=>fun a=>bL num k.1 a) b
 termination_by SizeOf.sizeOf e
 decreasing_by exact iS k.2
theorem qF (num:List UInt8->Int)(e:Ex)(b:Nat):bL num e b=sK num e (e.kids.map (bL num)) b:=by
 rw[bL];congr 1;have h:=congrArg (List.map (bL num)) (ik e.kids);rw[jU]at h;exact h
theorem oD {num:List UInt8->Int}{e:Ex}(h:stdE e=true)(b:Nat):bL num e b=[⟨1,0,0,0,rs (mnE e) 1440⟩]:=by
 rw[qF];unfold sK;rw[aD h]
theorem pg {num:List UInt8->Int}{e:Ex}(a:e.kind=10)(b:Nat):bL num e b=[⟨8,num e.name,0,0,[]⟩]:=by
 rw[qF];unfold sK;rw[ax (fun h=>(ld h).2.2 a),aD a]
theorem ph {num:List UInt8->Int}{e k:Ex}(c:e.kind=4)(d:e.kids[0]? =some k)(b:Nat):bL num e b=⟨6,e.a,0,((b+1+(bL num k (b+1)).length:Nat):Int),[]⟩::bL num k (b+1):=by
 rw[qF];have e0:(e.kids.map (bL num)).getD 0 noC=bL num k:=by simp[List.getD,d]
 unfold sK;rw[ax (fun h=>(ld h).1 c),ax (by omega),aD c,e0]
theorem nz {num:List UInt8->Int}{e k:Ex}(c:e.kind=5)(d:e.kids[0]? =some k)(b:Nat):bL num e b=⟨7,e.a,e.b,((b+1+(bL num k (b+1)).length:Nat):Int),[]⟩::bL num k (b+1):=by
 rw[qF];have e0:(e.kids.map (bL num)).getD 0 noC=bL num k:=by simp[List.getD,d]
 unfold sK;rw[ax (fun h=>(ld h).2.1 c),ax (by omega),ax (by omega),aD c,e0]
theorem oF {num:List UInt8->Int}{e:Ex}(h:stdE e=false)(d:e.kind≠4)(f:e.kind≠5)(c:e.kind≠10)(b:Nat):bL num e b=kh (e.kids.map (bL num)) b++[⟨opK e.kind,if e.kind=9 then e.a else 0,0,0,[]⟩]:=by
 rw[qF];unfold sK;rw[ax (by rw[h];simp),ax c,ax d,ax f]
theorem Kb {e:Ex}(h:e.kids.length=2): ∃k m,e.kids=[k,m]:=by
 match hk:e.kids with
 |[]=>rw[hk]at h;cases h
 |[_]=>rw[hk]at h;cases h
 |[k,m]=>exact⟨k,m,rfl⟩
 |_::_::_::_=>rw[hk]at h;simp at h
theorem Mm {e:Ex}(h:e.kids.length=1): ∃k,e.kids=[k]:=by
 match hk:e.kids with
 |[]=>rw[hk]at h;cases h
 |[k]=>exact⟨k,rfl⟩
 |_::_::_=>rw[hk]at h;simp at h
theorem pO {num:List UInt8->Int}{e k:Ex}(h:stdE e=false)(c:e.kind=9)(d:e.kids=[k])(b:Nat):bL num e b=bL num k b++[⟨5,e.a,0,0,[]⟩]:=by
 rw[oF h (by omega) (by omega) (by omega),d];simp only[dI,fg,kh,il];unfold opK;rw[aD c,aD c]
theorem qW {num:List UInt8->Int}{e k m:Ex}(h:stdE e=false)(c:e.kind=6\/e.kind=7\/e.kind=8)(a:e.kids=[k,m])(b:Nat):bL num e b=(bL num k b++bL num m (b+(bL num k b).length))++[⟨opK e.kind,0,0,0,[]⟩]:=by
 rw[oF h (by omega) (by omega) (by omega),a];simp only[dI,fg,kh,il];rw[ax (by omega)]
theorem nJ {e:Ex}(h:OKE e)(f:stdE e=false):(e.kind=4/\ ∃k,e.kids=[k])\/(e.kind=5/\ ∃k,e.kids=[k])\/(e.kind=9/\ ∃k,e.kids=[k])\/e.kind=10\/((e.kind=6\/e.kind=7\/e.kind=8)/\ ∃k m,e.kids=[k,m]):=by
 obtain⟨g,i,a,_,_⟩:=h.kinds;unfold kidsP at a;by_cases q:e.kind=4\/e.kind=5\/e.kind=9
 ·rw[aD q]at a;obtain⟨k,b⟩:=Mm a;rcases q with q|q|q
  ·exact .inl ⟨q,k,b⟩
  ·exact .inr (.inl ⟨q,k,b⟩)
  ·exact .inr (.inr (.inl ⟨q,k,b⟩))
 ·rw[ax q]at a;by_cases c:e.kind=6\/e.kind=7\/e.kind=8
  ·rw[aD c]at a;obtain⟨k,m,b⟩:=Kb a;exact .inr (.inr (.inr (.inr ⟨c,k,m,b⟩)))
  ·rw[ax c]at a;by_cases d:e.kind=10
   ·exact .inr (.inr (.inr (.inl d)))
   ·have:=H9 (ig.1 a) (by omega) (by omega) d;rw[f]at this;cases this
theorem Af: ∀(l:List (Int×Int)) (last:Int),good last 1440 l->risL l last=true
 |[],_,_=>rfl
 |s::l,last,⟨b,c,d,a⟩=>by
  unfold risL;rw[ax (by omega)];exact Af l s.2 a
theorem Mn (f:Nat->Bool):risL (rs f 1440) (-1)=true:=Af _ _ (DT f 1440).good
def jb (e:Ex):Nat:=1+(e.kids.attach.map fun k=>jb k.1).sum
 termination_by SizeOf.sizeOf e
 decreasing_by exact iS k.2
theorem mg (e:Ex):jb e=1+(e.kids.map jb).sum:=by
 rw[jb];congr 2;have h:=congrArg (List.map jb) (ik e.kids);rw[jU]at h;exact h
theorem B6 (e:Ex):1<=jb e:=by rw[mg];omega
theorem lV (num:List UInt8->Int): ∀(N:Nat) (e:Ex),SizeOf.sizeOf e<=N->OKE e-> ∀b,1<=(bL num e b).length/\(bL num e b).length<=jb e
 |0,e,f,_,_=>by cases e;simp at f
 |N+1,e,f,h,b=>by
  have c:=mg e;cases hs:stdE e with
  |true=>
   rw[oD hs];exact⟨by simp,by simpa using B6 e⟩
  |false=>
   have d: ∀k∈e.kids,∀b,1<=(bL num k b).length/\(bL num k b).length<=jb k:=fun k a b=>lV num N k (by have:=iS a;omega) (h.kid a) b;rcases nJ h hs with⟨q,k,a⟩|⟨q,k,a⟩|⟨q,k,a⟩|q|⟨q,k,m,a⟩
   ·rw[ph q (by rw[a];rfl)];have:=d k (by rw[a];simp) (b+1);rw[a]at c;simp only[dI,fg,i7,List.sum_nil]at c;rw[bJ];omega
   ·rw[nz q (by rw[a];rfl)];have:=d k (by rw[a];simp) (b+1);rw[a]at c;simp only[dI,fg,i7,List.sum_nil]at c;rw[bJ];omega
   ·rw[pO hs q a];have:=d k (by rw[a];simp) b;rw[a]at c;simp only[dI,fg,i7,List.sum_nil]at c;rw[aP,dP];omega
   ·rw[pg q];exact⟨by simp,by simpa using B6 e⟩
   ·rw[qW hs q a];have g:=d k (by rw[a];simp) b;have i:=d m (by rw[a];simp) (b+(bL num k b).length);rw[a]at c;simp only[dI,fg,i7,List.sum_nil]at c;rw[aP,aP,dP];omega
theorem pj: ∀(N:Nat) (e:Ex) (c n:Nat),SizeOf.sizeOf e<=N->(shapeP e c n).1=0->(shapeP e c n).2=n+jb e/\n+jb e<=600
 |0,e,_,_,r,_=>by cases e;simp at r
 |N+1,e,c,n,r,h=>by
  rw[kF]at h⊢;by_cases q:600<n+1\/40<c
  ·rw[aD q]at h;cases h
  ·rw[ax q]at h⊢;by_cases j:aloneP e≠0
   ·rw[aD j]at h;exact absurd h j
   ·rw[ax j]at h⊢
    have p: ∀(d:List Ex) (m:Nat),(∀k∈d,SizeOf.sizeOf k<=N)->m<=600->(gU d (c+1) (0,m)).1=0->(gU d (c+1) (0,m)).2=m+(d.map jb).sum/\m+(d.map jb).sum<=600:=by
     intro d;induction d with
     |nil=>intro m _ s _;exact⟨by simp[gU],by simpa using s⟩
     |cons k d x=>
      intro m g s f;rw[jP]at f⊢;rw[ax (by simp)]at f⊢
      have i:(shapeP k (c+1) m).1=0:=by
       by_cases o:(shapeP k (c+1) m).1=0
       ·exact o
       ·rw[kG o]at f;exact absurd f o
      obtain⟨t,u⟩:=pj N k (c+1) m (g k bq) i;have v:shapeP k (c+1) m=(0,m+jb k):=Prod.ext i t;rw[v]at f⊢;obtain⟨b1,b2⟩:=x (m+jb k) (fun y l=>g y (bH _ l)) u f;rw[dI,i7];exact⟨by rw[b1];omega,by omega⟩
    obtain⟨a,b⟩:=p e.kids (n+1) (fun k w=>by have:=iS w;omega) (by omega) h;rw[mg];exact⟨by rw[a];omega,by omega⟩
def j9 (l:List In)(b:Nat)(c:List In):Prop:= ∀j,j<c.length->l[b+j]? =c[j]?
theorem j9.left {l:List In}{b:Nat}{c d:List In}(h:j9 l b (c++d)):j9 l b c:=fun j a=>by
 rw[h j (by rw[aP];omega),du a]
theorem j9.right {l:List In}{b:Nat}{c d:List In}(h:j9 l b (c++d)):j9 l (b+c.length) d:=fun j a=>by
 have:=h (c.length+j) (by rw[aP];omega);rw[dj (by omega),Nat.add_sub_cancel_left,<-Nat.add_assoc]at this;exact this
theorem j9.one {l:List In}{b:Nat}{x:In}{d:List In}(h:j9 l b (x::d)):l[b]? =some x:=by
 have:=h 0 (by simp);simpa using this
theorem j9.tail {l:List In}{b:Nat}{x:In}{d:List In}(h:j9 l b (x::d)):j9 l (b+1) d:=j9.right (c:=[x]) h
structure jB (l:List In)(b n R N:Nat):Prop where
 fin:hAt l (b+n)=hAt l b+1
 tk: ∀j x,b<=j->j<b+n->l[j]? =some x->Vx.tk x+hAt l b<=hAt l j
 to: ∀j x,b<=j->j<b+n->l[j]? =some x->isG x->hAt l x.to.toNat=hAt l j+1
 ins: ∀j x,b<=j->j<b+n->l[j]? =some x->fO x j N R=0
theorem OR {x:In}(a:x.op=1)(h:risL x.sp (-1)=true)(j N R:Nat):fO x j N R=0:=by
 unfold fO;rw[ax (by omega),aD a,aD h]
theorem Mo {x:In}(a:x.op=2\/x.op=3\/x.op=4)(j N R:Nat):fO x j N R=0:=by
 unfold fO;rw[aD a]
theorem OS {x:In}(b:x.op=5)(h:x.a≠0/\ -1439<=x.a/\x.a<=1439)(j N R:Nat):fO x j N R=0:=by
 unfold fO;rw[ax (by omega),ax (by omega),aD b,aD h]
theorem OT {x:In}{j N:Nat}(b:x.op=6)(c:(j:Int)+2<=x.to/\x.to<=N)(h:1<=x.a/\x.a<=127)(R:Nat):fO x j N R=0:=by
 unfold fO;rw[ax (by omega),ax (by omega),ax (by omega),aD b,aD c,aD h]
theorem OU {x:In}{j N:Nat}(c:x.op=7)(d:(j:Int)+2<=x.to/\x.to<=N)(h:0<=x.a/\x.a<=x.b/\x.b<146097)(R:Nat):fO x j N R=0:=by
 unfold fO;rw[ax (by omega),ax (by omega),ax (by omega),ax (by omega),aD c,aD d,aD h]
theorem OV {x:In}{R:Nat}(b:x.op=8)(h:0<=x.a/\x.a<R)(j N:Nat):fO x j N R=0:=by
 unfold fO;rw[ax (by omega),ax (by omega),ax (by omega),ax (by omega),ax (by omega),aD b,aD h]
theorem OW {x:In}(a:x.op=1\/x.op=8):eff x=1:=by unfold eff;rw[aD a]
theorem OX {x:In}(a:x.op=2\/x.op=3\/x.op=4):eff x= -1:=by unfold eff;rw[ax (by omega),aD a]
theorem KU {x:In}(a:x.op=5\/x.op=6\/x.op=7):eff x=0:=by unfold eff;rw[ax (by omega),ax (by omega)]
theorem NU {x:In}(a:x.op=1\/x.op=6\/x.op=7\/x.op=8):Vx.tk x=0:=by unfold Vx.tk;rw[ax (by omega),ax (by omega)]
theorem Pu {x:In}(a:x.op=5):Vx.tk x=1:=by unfold Vx.tk;rw[aD a]
theorem Pv {x:In}(a:x.op=2\/x.op=3\/x.op=4):Vx.tk x=2:=by unfold Vx.tk;rw[ax (by omega),aD a]
theorem jB.one {l:List In}{b R N:Nat}{x:In}(f:l[b]? =some x)(g:x.op=1\/x.op=8)(hi:fO x b N R=0):jB l b 1 R N:=by
 refine⟨by rw[jG f,OW g],fun j y d e a=> ?_,fun j y d e a c=> ?_,fun j y d e a=> ?_⟩<;>
  (obtain rfl:j=b:=by omega)<;>(rw[f]at a;cases aN a)
 ·rw[NU (by omega)];omega
 ·rcases c with c|c<;>omega
 ·exact hi
theorem jB.guard {l:List In}{b n R N:Nat}{x:In}(c:l[b]? =some x)(m:x.op=6\/x.op=7)(f:x.to=((b+1+n:Nat):Int))(hi:fO x b N R=0)(h:jB l (b+1) n R N):jB l b (n+1) R N:=by
 have d:hAt l (b+1)=hAt l b:=by rw[jG c,KU (by omega)];omega
 have e2:b+(n+1)=b+1+n:=by omega
 refine⟨by rw[e2,h.fin,d],fun j y g i a=> ?_,fun j y g i a k=> ?_,fun j y g i a=> ?_⟩<;>by_cases e:j=b
 ·subst e;rw[c]at a;cases aN a;rw[NU (by omega)];omega
 ·have:=h.tk j y (by omega) (by omega) a;rw[d]at this;exact this
 ·subst e;rw[c]at a;cases aN a;rw[f,cj,h.fin,d]
 ·exact h.to j y (by omega) (by omega) a k
 ·subst e;rw[c]at a;cases aN a;exact hi
 ·exact h.ins j y (by omega) (by omega) a
theorem jB.shift {l:List In}{b n R N:Nat}{x:In}(h:jB l b n R N)(e:l[b+n]? =some x)(i:x.op=5)(hi:fO x (b+n) N R=0):jB l b (n+1) R N:=by
 refine⟨by rw[<-Nat.add_assoc,jG e,KU (by omega),h.fin];omega,fun j y c g a=> ?_,fun j y c g a d=> ?_,fun j y c g a=> ?_⟩<;>by_cases f:j=b+n
 ·subst f;rw[e]at a;cases aN a;rw[Pu i,h.fin];omega
 ·exact h.tk j y c (by omega) a
 ·subst f;rw[e]at a;cases aN a;rcases d with d|d<;>omega
 ·exact h.to j y c (by omega) a d
 ·subst f;rw[e]at a;cases aN a;exact hi
 ·exact h.ins j y c (by omega) a
theorem jB.pair {l:List In}{b n m R N:Nat}{x:In}(h:jB l b n R N)(f:jB l (b+n) m R N)(g:l[b+n+m]? =some x)(k:x.op=2\/x.op=3\/x.op=4):jB l b (n+m+1) R N:=by
 have p:=h.fin;have e2:=f.fin;refine⟨by rw[show b+(n+m+1)=b+n+m+1 by omega,jG g,OX k];omega,fun j y d o a=> ?_,fun j y d o a e=> ?_,fun j y d o a=> ?_⟩<;>by_cases i:j=b+n+m
 ·subst i;rw[g]at a;cases aN a;rw[Pv k];omega
 ·by_cases c:j<b+n
  ·exact h.tk j y d c a
  ·have:=f.tk j y (by omega) (by omega) a;omega
 ·subst i;rw[g]at a;cases aN a;rcases e with e|e<;>omega
 ·by_cases c:j<b+n
  ·exact h.to j y d c a e
  ·exact f.to j y (by omega) (by omega) a e
 ·subst i;rw[g]at a;cases aN a;exact Mo k _ _ _
 ·by_cases c:j<b+n
  ·exact h.ins j y d c a
  ·exact f.ins j y (by omega) (by omega) a
theorem DY {k:Int}(h:k=6\/k=7\/k=8):opK k=2\/opK k=3\/opK k=4:=by
 unfold opK;rcases h with rfl|rfl|rfl<;>simp
theorem uQ {e k:Ex}(a:k∈e.kids){x:List UInt8}(b:x∈nms k):x∈nms e:=by
 rw[lP,bU];right;unfold jE;exact List.mem_flatten.2 ⟨nms k,dV.2 ⟨k,a,rfl⟩,b⟩
theorem uR {e:Ex}(h:e.kind=10):e.name∈nms e:=by rw[lP,aD h];simp
theorem Ia {num:List UInt8->Int}{R N:Nat}{l:List In}: ∀(M:Nat) (e:Ex),SizeOf.sizeOf e<=M->OKE e->(∀x∈nms e,0<=num x/\num x<R)-> ∀b,j9 l b (bL num e b)->b+(bL num e b).length<=N->jB l b (bL num e b).length R N
 |0,e,s,_,_,_,_,_=>by cases e;simp at s
 |M+1,e,s,h,t,b,c,n=>by
  have p: ∀k∈e.kids,∀j,j9 l j (bL num k j)->j+(bL num k j).length<=N->jB l j (bL num k j).length R N:=fun k d j=>Ia M k (by have:=iS d;omega) (h.kid d) (fun x v=>t x (uQ d v)) j;have i:=h.kinds.2.2.2.1;cases hstd:stdE e with
  |true=>
   rw[oD hstd]at c⊢;exact jB.one c.one (.inl rfl) (OR rfl (Mn _) _ _ _)
  |false=>
   rcases nJ h hstd with⟨q,k,d⟩|⟨q,k,d⟩|⟨q,k,d⟩|q|⟨q,k,m,d⟩
   ·have g:k∈e.kids:=(by rw[d];simp);have u:=(lV num _ k (aB _) (h.kid g) (b+1)).1;unfold rangeP at i;rw[ax (by omega),aD q]at i;have f:=fE i;rw[ph q (by rw[d];rfl)]at c n⊢;rw[bJ]at n⊢;refine jB.guard c.one (.inl rfl) rfl (OT rfl ⟨?_,?_⟩ ⟨f.1,?_⟩ _) (p k g (b+1) c.tail (by omega))
    ·show(b:Int)+2<=((b+1+_:Nat):Int);omega
    ·show((b+1+_:Nat):Int)<=_;omega
    ·show e.a<=127;omega
   ·have g:k∈e.kids:=(by rw[d];simp);have u:=(lV num _ k (aB _) (h.kid g) (b+1)).1;unfold rangeP at i;rw[ax (by omega),ax (by omega),aD q]at i;have f:=fE i;rw[nz q (by rw[d];rfl)]at c n⊢;rw[bJ]at n⊢;refine jB.guard c.one (.inr rfl) rfl (OU rfl ⟨?_,?_⟩ f _) (p k g (b+1) c.tail (by omega))
    ·show(b:Int)+2<=((b+1+_:Nat):Int);omega
    ·show((b+1+_:Nat):Int)<=_;omega
   ·have g:k∈e.kids:=(by rw[d];simp);unfold rangeP at i;rw[ax (by omega),ax (by omega),ax (by omega),aD q]at i;have f:=fE i;rw[pO hstd q d]at c n⊢;rw[aP,dP]at n⊢;exact jB.shift (p k g b c.left (by omega)) c.right.one rfl (OS rfl ⟨f.1,by show-1439<=e.a;omega,by show e.a<=1439;omega⟩ _ _ _)
   ·rw[pg q]at c⊢;exact jB.one c.one (.inr rfl) (OV rfl (t _ (uR q)) _ _)
   ·have g:k∈e.kids:=(by rw[d];simp);have r:m∈e.kids:=(by rw[d];simp);rw[qW hstd q d]at c n⊢;rw[aP,aP,dP]at n⊢;have o:=c.right.one;rw[aP,<-Nat.add_assoc]at o;exact jB.pair (p k g b c.left.left (by omega)) (p m r _ c.left.right (by omega)) o (DY q)
theorem Ib {num:List UInt8->Int}{R:Nat}{e:Ex}(h:OKE e)(d: ∀x∈nms e,0<=num x/\num x<R):ma (bL num e 0)/\ ∀j x,(bL num e 0)[j]? =some x->fO x j (bL num e 0).length R=0:=by
 have f:j9 (bL num e 0) 0 (bL num e 0):=fun j _=>by rw[bN]
 have q:=Ia (N:=(bL num e 0).length) (R:=R) _ e (aB _) h d 0 f (by omega)
 have lt: ∀{j:Nat} {x:In},(bL num e 0)[j]? =some x->j<0+(bL num e 0).length:=fun c=>by
  have:=(aG.1 c).1;omega
 refine⟨⟨fun j x a=> ?_,fun j x a b=>q.to j x (dw _) (lt a) a b,?_⟩,fun j x a=>q.ins j x (dw _) (lt a) a⟩
 ·have:=q.tk j x (dw _) (lt a) a;simpa[hAt] using this
 ·have:=q.fin;simpa[hAt] using this
theorem Ag {cs cs':List Cd}{l:List In}: ∀(j:Nat),(∀c x,c<j->l[c]? =some x->x.op=8->(cs.getD x.a.toNat cd0).high=(cs'.getD x.a.toNat cd0).high)->j<=l.length->mxH cs l j=mxH cs' l j
 |0,_,_=>rfl
 |j+1,h,g=>by
  have e:=Ag (cs:=cs) (cs':=cs') (l:=l) j (fun c x f=>h c x (by omega)) (by omega);have d:l[j]? =some l[j]:=az (by omega);rw[kN d,kN d,e];by_cases b:(l[j]).op=8
  ·rw[aD b,aD b,h j _ (by omega) d b]
  ·rw[ax b,ax b]
theorem Ah {cs cs':List Cd}{l:List In}: ∀(j:Nat),(∀c x,c<j->l[c]? =some x->x.op=8->(cs.getD x.a.toNat cd0).steps=(cs'.getD x.a.toNat cd0).steps)->j<=l.length->stS cs l j=stS cs' l j
 |0,_,_=>rfl
 |j+1,h,g=>by
  have e:=Ah (cs:=cs) (cs':=cs') (l:=l) j (fun c x f=>h c x (by omega)) (by omega);have d:l[j]? =some l[j]:=az (by omega);rw[jY d,jY d,e];by_cases b:(l[j]).op=8
  ·rw[aD b,aD b,h j _ (by omega) d b]
  ·rw[ax b,ax b]
def eU (C:List (List In))(m:Nat->Int×Int):List Cd:=(List.range C.length).map fun k=>⟨C.getD k [],(m k).1,(m k).2⟩
theorem tQ (C:List (List In))(m:Nat->Int×Int):(eU C m).length=C.length:=by simp[eU]
theorem mH {C:List (List In)}{m:Nat->Int×Int}{k:Nat}(h:k<C.length):(eU C m).getD k cd0=⟨C.getD k [],(m k).1,(m k).2⟩:=by
 have:(eU C m)[k]? =some ⟨C.getD k [],(m k).1,(m k).2⟩:=by
  unfold eU;rw[bg,List.getElem?_range h];rfl
 simp[List.getD,this]
def mj (C:List (List In))(m:Nat->Int×Int)(i:Nat):Int×Int:=(min (mxH (eU C m) (C.getD i []) (C.getD i []).length) 101,min (stS (eU C m) (C.getD i []) (C.getD i []).length) 20001)
def nK (C:List (List In)):Nat->Nat->Int×Int
 |0,_=>(0,0)
 |f+1,i=>mj C (nK C f) i
structure rZ (C:List (List In))(ρ:Nat->Nat):Prop where
 lt: ∀(i j:Nat) (x:In),i<C.length->(C.getD i [])[j]? =some x->x.op=8->0<=x.a/\x.a.toNat<C.length/\ρ x.a.toNat<ρ i
theorem xT {C:List (List In)}{ρ:Nat->Nat}(h:rZ C ρ){m f:Nat->Int×Int}{i:Nat}(hi:i<C.length)(l: ∀k,k<C.length->ρ k<ρ i->m k=f k):mj C m i=mj C f i:=by
 have e: ∀b x,b<(C.getD i []).length->(C.getD i [])[b]? =some x->x.op=8->(eU C m).getD x.a.toNat cd0=(eU C f).getD x.a.toNat cd0:=fun b x _ o n=>by
  obtain⟨_,c,d⟩:=h.lt i b x hi o n;rw[mH c,mH c,l _ c d]
 have j:mxH (eU C m) (C.getD i []) (C.getD i []).length=mxH (eU C f) (C.getD i []) (C.getD i []).length:=Ag _ (fun b x g c d=>by rw[e b x g c d]) (aB _);have e2:stS (eU C m) (C.getD i []) (C.getD i []).length=stS (eU C f) (C.getD i []) (C.getD i []).length:=Ah _ (fun b x g c d=>by rw[e b x g c d]) (aB _);unfold mj;rw[j,e2]
theorem Ai {C:List (List In)}{ρ:Nat->Nat}(h:rZ C ρ): ∀(f a i:Nat),i<C.length->ρ i<f->ρ i<a->nK C f i=nK C a i
 |0,_,_,_,b,_=>by omega
 |_+1,0,_,_,_,c=>by omega
 |f+1,a+1,i,hi,b,c=>by
  unfold nK;exact xT h hi fun k d e=>Ai h f a k d (by omega) (by omega)
theorem Mp {C:List (List In)}{ρ:Nat->Nat}(h:rZ C ρ){N:Nat}(a: ∀i,i<C.length->ρ i<=N){i:Nat}(hi:i<C.length):nK C (N+1) i=mj C (nK C (N+1)) i:=by
 conv=>lhs;unfold nK
 have c:=a i hi;exact xT h hi fun k b d=>Ai h N (N+1) k b (by omega) (by have:=a k b;omega)
theorem xw (x:In): -1<=eff x/\eff x<=1:=by
 unfold eff;split
 ·omega
 ·split<;>omega
theorem mY (l:List In): ∀j:Nat,-(j:Int)<=hAt l j/\hAt l j<=(j:Int)
 |0=>by simp[hAt]
 |j+1=>by
  have a:=mY l j;have e:=xw (l.getD j in0);simp only[hAt];omega
structure qX (cs:List Cd):Prop where
 hi: ∀k,0<=(cs.getD k cd0).high/\(cs.getD k cd0).high<=101
 st: ∀k,0<=(cs.getD k cd0).steps/\(cs.getD k cd0).steps<=20001
theorem rQ {b:List Cd}(h:qX b)(l:List In): ∀j:Nat,0<=mxH b l j/\mxH b l j<=(j:Int)+101
 |0=>by simp[mxH]
 |j+1=>by
  have d:=rQ h l j;have e:=mY l j;have c:=mY l (j+1);have q:=h.hi (l.getD j in0).a.toNat;simp only[mxH];split<;>omega
theorem rR {b:List Cd}(h:qX b)(l:List In): ∀j:Nat,(j:Int)<=stS b l j/\stS b l j<=(j:Int)*20002
 |0=>by simp[stS]
 |j+1=>by
  have c:=rR h l j;have q:=h.st (l.getD j in0).a.toNat;simp only[stS];split<;>omega
theorem vw {C:List (List In)}{m:Nat->Int×Int}(h: ∀k,k<C.length->(0<=(m k).1/\(m k).1<=101)/\(0<=(m k).2/\(m k).2<=20001)):qX (eU C m):=by
 constructor<;>intro k<;>by_cases a:k<C.length
 ·rw[mH a];exact(h k a).1
 ·have:(eU C m).getD k cd0=cd0:=by
   have:(eU C m)[k]? =none:=eX (by rw[tQ];omega);simp[List.getD,this]
  rw[this];simp[cd0]
 ·rw[mH a];exact(h k a).2
 ·have:(eU C m).getD k cd0=cd0:=by
   have:(eU C m)[k]? =none:=eX (by rw[tQ];omega);simp[List.getD,this]
  rw[this];simp[cd0]
theorem DZ {C:List (List In)}{m:Nat->Int×Int}(h:qX (eU C m))(i:Nat):(0<=(mj C m i).1/\(mj C m i).1<=101)/\(0<=(mj C m i).2/\(mj C m i).2<=20001)/\(1<=(C.getD i []).length->1<=(mj C m i).2):=by
 have a:=rQ h (C.getD i []) (C.getD i []).length;have b:=rR h (C.getD i []) (C.getD i []).length;refine⟨⟨?_,?_⟩,⟨?_,?_⟩,fun c=> ?_⟩<;>simp only[mj]<;>omega
theorem D0 (C:List (List In)): ∀(f i:Nat),(0<=(nK C f i).1/\(nK C f i).1<=101)/\(0<=(nK C f i).2/\(nK C f i).2<=20001)
 |0,i=>by simp[nK]
 |f+1,i=>by
  have h:=DZ (C:=C) (vw (C:=C) fun k _=>D0 C f k) i;exact⟨h.1,h.2.1⟩
theorem Fm (C:List (List In))(f:Nat):qX (eU C (nK C f)):=vw fun k _=>D0 C f k
section
variable {B:Nat->Prop}
def uS (e:Ex)(w:World)(r:Ending)(w':World):Prop:=r= .returned (.bool (stdE e))/\aq w w'
def OY (w:World)(sl:Value)(d:List Ex):Prop:=
 ∃g o c:Nat,sl= .slice (some (ae g o)) d.length c/\d.length<9223372036854775808/\ ∀(j:Nat) (k:Ex),d[j]? =some k-> ∃(p:Option Addr) (q:Nat),
  w.cell? (ae g (o+j*5))=some (ag k.kind)/\w.cell? (ae g (o+j*5+1))=some (ag k.a)/\w.cell? (ae g (o+j*5+2))=some (ag k.b)/\
  w.cell? (ae g (o+j*5+3))=some (.string ⟨k.name.toArray⟩)/\w.cell? (ae g (o+j*5+4))=some (.slice p k.kids.length q)/\
  ∀W:World,aq w W->Calls prog 90 #[.agg #[ag k.kind,ag k.a,ag k.b,.string ⟨k.name.toArray⟩,.slice p k.kids.length q]] W (uS k W)
theorem Kg {a:List Ex}{j:Nat}{k:Ex}(h:a[j]? =some k):(a.drop j).all stdE=(stdE k&&(a.drop (j+1)).all stdE):=by
 obtain⟨b,c⟩:=aG.1 h;rw[bx b,c];rfl
theorem rB (e:Ex)(p:Option Addr)(c:Nat)(w:World)(J:e.kids=[]\/OY w (.slice p e.kids.length c) e.kids)(aa:e.kids.length<9223372036854775808):
  Calls prog 90 #[.agg #[ag e.kind,ag e.a,ag e.b,.string ⟨e.name.toArray⟩,.slice p e.kids.length c]] w (uS e w):=by
 have i:=am w (.cells #[ag e.kind,ag e.a,ag e.b,.string ⟨e.name.toArray⟩,.slice p e.kids.length c] 102);have A:=aE w (.cells #[ag e.kind,ag e.a,ag e.b,.string ⟨e.name.toArray⟩,.slice p e.kids.length c] 102);generalize O:w.alloc (.cells #[ag e.kind,ag e.a,ag e.b,.string ⟨e.name.toArray⟩,.slice p e.kids.length c] 102)=wA at*;have z0:=ak 0 A;have z4:=ak 4 A;generalize M:stdE e=X;have m:PN (stdE e=X):=M;unfold uS;rw[M];clear M;by_cases q:e.kind=4
 ·have l:PN (X=false):=by
   show _=_;rw[<-m.o];cases hs:stdE e with
   |false=>rfl
   |true=>exact absurd q (ld hs).1
  have Y:(e.kind==4)=true:=(by simp[q]);clear J m q;go_enter func90,ntmps90;go_wp2_with fail;go_ret;rw[l.o];exact⟨rfl,i⟩
 have Y:(e.kind==4)=false:=by simpa using q
 by_cases B:e.kind=5
 ·have l:PN (X=false):=by
   show _=_;rw[<-m.o];cases hs:stdE e with
   |false=>rfl
   |true=>exact absurd B (ld hs).2.1
  have Z:(e.kind==5)=true:=(by simp[B]);clear J m q B;go_enter func90,ntmps90;go_wp2_with fail;go_ret;rw[l.o];exact⟨rfl,i⟩
 have Z:(e.kind==5)=false:=by simpa using B
 by_cases d:e.kind=10
 ·have l:PN (X=false):=by
   show _=_;rw[<-m.o];cases hs:stdE e with
   |false=>rfl
   |true=>exact absurd d (ld hs).2.2
  have C:(e.kind==10)=true:=(by simp[d]);clear J m q B d;go_enter func90,ntmps90;go_wp2_with fail;go_ret;rw[l.o];exact⟨rfl,i⟩
 have C:(e.kind==10)=false:=by simpa using d
 have R:PN ((e.kids.drop 0).all stdE=X):=by
  show _=_;rw[<-m.o,rY,List.drop_zero];simp[q,B,d]
 clear m q B d;go_enter func90,ntmps90;go_wp2_with fail;go_loopw [4,14] (fun _ t wr=> ∃j:Nat,t=ag (j:Int)/\j<=e.kids.length/\(e.kids.drop j).all stdE=X/\aq w wr) (fun _ t _=>e.kids.length-(intOf t).toNat);case atStart=>exact⟨0,rfl,by omega,R.o,i⟩
 case round=>
  obtain⟨j,rfl,hj,f,u⟩:=hrel;clear R z0 z4 A i O Y Z C;have ab:(0:Int)<=(j:Int):=(by omega);by_cases z:j<e.kids.length
  ·have G:(j:Int)<(e.kids.length:Int):=(by omega);obtain⟨k,x⟩: ∃k,e.kids[j]? =some k:=⟨e.kids[j],az z⟩
   rw[Kg x]at f;have F:e.kids≠[]:=fun h=>(by rw[h]at z;simp at z);obtain⟨g,o,c',N,_,n⟩:=J.resolve_left F;obtain⟨Q,L,S,T,U,V,W,I⟩:=n j k x;have f0:=aj u S;have f1:=aj u T;have f2:=aj u U;have f3:=aj u V;have f4:=aj u W;have E:=am wr (.cells #[ag k.kind,ag k.a,ag k.b,.string ⟨k.name.toArray⟩,.slice Q k.kids.length L] 102);have H:=aE wr (.cells #[ag k.kind,ag k.a,ag k.b,.string ⟨k.name.toArray⟩,.slice Q k.kids.length L] 102);have v:=aw u E;have K:=I _ v;injection N with e1 e2 e3;subst e1;subst e3;clear S T U V W I n F x E;have s:PN ((stdE k&&(e.kids.drop (j+1)).all stdE)=X):=f;unfold uS at K;clear f;generalize stdE k=y at*;generalize P:wr.alloc (.cells #[ag k.kind,ag k.a,ag k.b,.string ⟨k.name.toArray⟩,.slice Q k.kids.length L] 102)=wB at*;go_wp2_with(refine aR rfl 102 _ rfl _ rfl _ _ _ _ H fd rfl (by kernel_rfl) ?_)
   refine K.mono ?_;rintro r w3 ⟨rfl,b3⟩;have D:=aw v b3;clear K H P f0 f1 f2 f3 f4 b3 v;cases y with
   |false=>
    have l:PN (X=false):=(by show _=_;rw[<-s.o];rfl);clear s;go_wp2_with fail;go_ret;rw[l.o];exact⟨rfl,D⟩
   |true=>
    go_wp2_with fail;go_roundw;case rel=>exact⟨j+1,by go_num,by omega,by rw[<-s.o];rfl,D⟩
    case measure=>simp[intOf];omega
  ·have G: ¬(j:Int)<(e.kids.length:Int):=(by omega);have l:PN (X=true):=(by show _=_;rw[<-f,List.drop_eq_nil_of_le (by omega)];rfl);clear f;go_wp2_with fail;go_ret;rw[l.o];exact⟨rfl,u⟩
theorem Fp: ∀(d:Nat) (e:Ex) (sl:Value) (w:World),fZ B d w sl e.kids->Calls prog 90 #[exV e sl] w (uS e w):=by
 intro d;induction d with
 |zero=>
  intro e sl w a;obtain⟨p,c,rfl⟩:=a.form;exact rB e p c w (.inl a.1) (by rw[a.1];decide)
 |succ d z=>
  intro e sl w a;obtain⟨p,c,i⟩:=a.form;subst i;rcases a with⟨h,_⟩|⟨g,o,m,D,y,l,b⟩
  ·exact rB e p c w (.inl h) (by rw[h];decide)
  ·refine rB e p c w (.inr ⟨g,o,m,y,l,fun j k v=> ?_⟩) l;obtain⟨x,E,c0,c1,n,q,s,r⟩:=b j k v;obtain⟨A,C,rfl⟩:=r.form;exact⟨A,C,c0,c1,n,q,s,fun W u=>z k _ W (r.kept fun t _ f=>u.block t f)⟩
end
theorem D2: ∀(N:Nat) (e:Ex),SizeOf.sizeOf e<=N->stdE e=true->nms e=[]
 |0,e,a,_=>by cases e;simp at a
 |N+1,e,a,h=>by
  rw[lP,ax (ld h).2.2,List.nil_append];unfold jE;rw[List.flatten_eq_nil_iff];intro x c;obtain⟨k,b,rfl⟩:=dV.1 c;exact D2 N k (by have:=iS b;omega) (B4 h b)
theorem xU: ∀(N:Nat) (e:Ex) (a n b l:Nat),SizeOf.sizeOf e<=N->b<=a->l<=n->(shapeP e a n).1=0->(shapeP e b l).1=0
 |0,e,_,_,_,_,t,_,_,_=>by cases e;simp at t
 |N+1,e,a,n,b,l,t,B,C,h=>by
  have A:=h;rw[kF]at h⊢;by_cases s:600<n+1\/40<a
  ·rw[aD s]at h;cases h
  ·rw[ax s]at h;rw[ax (by omega)];by_cases o:aloneP e≠0
   ·rw[aD o]at h;exact absurd h o
   ·rw[ax o]at h⊢
    have r: ∀(g:List Ex) (m c:Nat),(∀k∈g,SizeOf.sizeOf k<=N)->c<=m->(gU g (a+1) (0,m)).1=0->(gU g (b+1) (0,c)).1=0:=by
     intro g;induction g with
     |nil=>intro m c _ _ _;rfl
     |cons k g y=>
      intro m c i x f;rw[jP]at f⊢;rw[ax (by simp)]at f⊢
      have d:(shapeP k (a+1) m).1=0:=by
       by_cases q:(shapeP k (a+1) m).1=0
       ·exact q
       ·rw[kG q]at f;exact absurd f q
      have j:=xU N k (a+1) m (b+1) c (i k bq) (by omega) x d;obtain⟨u,_⟩:=pj _ k (a+1) m (aB _) d;obtain⟨v,_⟩:=pj _ k (b+1) c (aB _) j;rw[show shapeP k (a+1) m=(0,m+jb k) from Prod.ext d u]at f;rw[show shapeP k (b+1) c=(0,c+jb k) from Prod.ext j v];exact y _ _ (fun z p=>i z (bH _ p)) (by omega) f
    exact r e.kids (n+1) (l+1) (fun k w=>by have:=iS w;omega) (by omega) h
def Rt (e:Ex):Prop:=(shapeP e 1 0).1=0
theorem Rt.ok {e:Ex}(h:Rt e):OKE e:=⟨1,0,h⟩
theorem Rt.kid {e k:Ex}(h:Rt e)(a:k∈e.kids):Rt k:=by
 unfold Rt at h;rw[kF,ax (by omega)]at h;by_cases g:aloneP e≠0
 ·rw[aD g]at h;exact absurd h g
 ·rw[ax g]at h
  have j: ∀(f:List Ex) (m:Nat),(gU f 2 (0,m)).1=0-> ∀k∈f,Rt k:=by
   intro f;induction f with
   |nil=>intro m _ k a;cases a
   |cons d f n=>
    intro m c k a;rw[jP,ax (by simp)]at c
    have b:(shapeP d 2 m).1=0:=by
     by_cases i:(shapeP d 2 m).1=0
     ·exact i
     ·rw[kG i]at c;exact absurd c i
    rcases bv.1 a with rfl|a
    ·exact xU _ k 2 m 1 0 (aB _) (by omega) (dw _) b
    ·obtain⟨l,_⟩:=pj _ d 2 m (aB _) b;rw[show shapeP d 2 m=(0,m+jb d) from Prod.ext b l]at c;exact n _ c k a
  exact j e.kids 1 h k a
theorem Rt.nod {e:Ex}(h:Rt e):jb e<=600:=by
 have:=(pj _ e 1 0 (aB _) h).2;omega
theorem Mq {e:Ex}(h:Rt e)(j:stdE e=true):dq [([97],e)]=(0,0):=by
 have f:nms e=[]:=D2 _ e (aB _) j
 have b:fW [([97],e)] ([97],e)=[]:=by
  unfold fW;rw[show nms (([97],e):Ru).2=[] from f];rfl
 have hi: ∀{i:Nat},i<[(([97],e):Ru)].length->i=0:=fun hi=>by simp at hi;exact hi
 refine ET ?_ (fun c a=> ?_) (fun c a=> ?_) (fun c a=> ?_)
 ·unfold fV;rw[ax (by simp)]
  have g:ruleP ([97],e)=0:=by
   unfold ruleP;rw[ax (show¬Go.Proofs.YtaoljfdfhggbbaaGreatDoor.namedL [97]=false by decide)];exact h
  unfold jJ;rw[ax (by simpa using g)];rfl
 ·rw[hi a];simp[lk1,atP5,atF]
 ·rw[hi a];show decide (-1∈fW _ _)=false;rw[b];rfl
 ·rw[hi a]
  have d:iK [([97],e)] 0=[]:=by
   unfold iK;show o5 (fW _ _)=[]
   rw[b];rfl
  unfold lk3;rw[show [(([97],e):Ru)].length+1=1+1 from rfl,fol,d];rfl
theorem Kh {e:Ex}(h:Rt e)(c:stdE e=true):pB [([97],e)] 0=(0,0)/\pN [([97],e)] 0=[mnE e]:=by
 have a:=Mq h c
 have b:pB [([97],e)] 0=(0,0):=by
  unfold pB;rw[a,ax (by simp),ax (by omega)]
 refine⟨b,?_⟩;unfold pN;rw[b,aD rfl];show [ip _ _ _ 0]=_;rw[oB (by rw[a]) (show [(([97],e):Ru)][0]? =some ([97],e) from rfl)];rw[B5 (show stdE (([97],e):Ru).2=true from c)]
theorem Mr {w:World}{g:Nat}{e:Ex}{sl:Value}{d:Nat}(h:w.heap[g]? =ah #[.string ⟨#[97]⟩,ag e.kind,ag e.a,ag e.b,.string ⟨e.name.toArray⟩,sl] 104)(l:e.name.length<=9223372036854775807)(i:fZ (fun k=>k<w.heap.size) d w sl e.kids):InR w (.slice (some (ae g 0)) 1 1) [(([97],e),sl)]:=by
 refine⟨.inr ⟨g,0,1,rfl,by simp,fun j p c=> ?_⟩,by simp,fun p f=> ?_⟩
 ·match j,c with
  |0,c=>
   cases aN c;exact⟨ak 0 h,ak 1 h,ak 2 h,ak 3 h,ak 4 h,ak 5 h⟩
  |j+1,c=>simp at c
 ·rw[bT]at f;subst f;exact⟨by simp,l,d,i⟩
theorem C8 (d:Nat)(e:Ex)(sl:Value)(w:World)(hr:Rt e)(hs:stdE e=true)(hn:e.name.length<=9223372036854775807)(P:fZ (fun k=>k<w.heap.size) d w sl e.kids):
  Calls prog 93 #[exV e sl] w fun r w'=>r= .returned (.agg (mv (mnE e)))/\aq w w':=by
 obtain⟨p,c,T⟩:=P.form;subst T;unfold exV;have hz:=eI;have G:=am w (.cells #[ag e.kind,ag e.a,ag e.b,.string ⟨e.name.toArray⟩,.slice p e.kids.length c] 102);have nA:=aE w (.cells #[ag e.kind,ag e.a,ag e.b,.string ⟨e.name.toArray⟩,.slice p e.kids.length c] 102);generalize ab:w.alloc (.cells #[ag e.kind,ag e.a,ag e.b,.string ⟨e.name.toArray⟩,.slice p e.kids.length c] 102)=I at*;have J:=am I (.cells (mv fun _=>false) 84);have nB:=aE I (.cells (mv fun _=>false) 84);have X:=ai J nA;obtain⟨gB,x⟩:=au I.heap.size;generalize ac:I.alloc (.cells (mv fun _=>false) 84)=wB at*;rw[x]at nB;have K:=am wB (.cells #[.string ⟨#[97]⟩,ag e.kind,ag e.a,ag e.b,.string ⟨e.name.toArray⟩,.slice p e.kids.length c] 104);have nC:=aE wB (.cells #[.string ⟨#[97]⟩,ag e.kind,ag e.a,ag e.b,.string ⟨e.name.toArray⟩,.slice p e.kids.length c] 104);generalize ad:wB.alloc (.cells #[.string ⟨#[97]⟩,ag e.kind,ag e.a,ag e.b,.string ⟨e.name.toArray⟩,.slice p e.kids.length c] 104)=wC at*;have f:aq w wC:=G.trans ((aw J K).mono G.size);have E:=ai K nB;have z:w.heap.size<=gB:=by rw[<-x];exact G.size
 have y:=Mr (d:=d) nC hn ((P.kept fun g _ hl=>f.block g hl).mono fun g hg=>aT hg f.size);have q:=Ka _ _ 0 wC y;obtain⟨e1,e2⟩:=Kh hr hs;unfold xR at q;simp only[dI,fg]at q;rw[e1,e2]at q;clear y P e1 e2 G J K nA nC;go_enter func93,ntmps93
 go_wp2_with(first
  |(refine aR rfl 102 _ rfl _ rfl _ _ _ _ X fd rfl (by kernel_rfl) ?_))
 refine q.mono ?_;rintro r o ⟨v3,rfl,C,b3⟩;obtain⟨p3,c3,U,aa,B⟩:=C;subst U;obtain⟨M,Z,R,i⟩:=B 0 (mnE e) rfl;subst R;have m:=aw f b3;have n:=ai b3 E;simp only[Nat.zero_mul,Nat.add_zero]at i;have Q:[mnE e].length=1:=rfl;rw[Q];generalize D:((0:Nat):Int)=iz;have W:iz=0:=D.symm.trans rfl;subst W;clear D;have L:=am o (.cells #[ag 0,ag 0] 93);have nD:=aE o (.cells #[ag 0,ag 0] 93);have F:=ai L n;have A:(o.alloc (.cells #[ag 0,ag 0] 93)).rangeAt M Z (mv (mnE e)).toList:=World.rangeAt_alloc i _;have t:=aw m L;generalize ae:o.alloc (.cells #[ag 0,ag 0] 93)=wD at*;have H:=below_setRow (aI o.heap.size wD) (aB _) #[ag 0,ag 0];have O:=aH n;have l:=(H.block _ O).trans F;have S:(wD.setRow o.heap.size #[ag 0,ag 0]).rangeAt M Z (mv (mnE e)).toList:=fun j u hj=>(H.cell (bP (i j u hj))).trans (A j u hj);have s:=t.trans (H.mono (bf m.size (aB _)));generalize V:wD.setRow o.heap.size #[ag 0,ag 0]=wE at*;have Y:=aL _ _ _ (mv (mnE e)) _ _ l;have N:=below_setRow s z (mv (mnE e));clear q m t f b3 L E n i B H A F s
 go_wp2_with(first
  |(refine ay rfl 93 _ _ rfl _ _ rfl rfl _ _ nD (by kernel_rfl) (by simp) (by simp[Value.oneCell']) ?_;rw[V])
  |(refine tG rfl _ rfl M Z rfl (mnE e) S ?_)
  |(refine ay rfl 84 _ _ rfl _ _ rfl rfl _ _ l (bh _) (by simp[bO]) (dQ _) ?_))
 refine aW (v:= .agg (mv (mnE e))) ?_ rfl ⟨rfl,N⟩;exact bc rfl _ _ gB _ _ _ _ rfl Y bV rfl (bh _)
def ib (w:World)(v:Value)(l:List (Int×Int)):Prop:=(l=[]/\ ∃p c,v= .slice p 0 c)\/ ∃(g c:Nat) (a:Array Value),v= .slice (some (ae g 0)) l.length c/\l.length<9223372036854775808/\w.heap[g]? =ah a 87/\a.toList.take (l.length*2)=iU l
theorem ib.nil (w:World)(p:Option Addr)(c:Nat):ib w (.slice p 0 c) []:= .inl ⟨rfl,p,c,rfl⟩
theorem ib.form {w:World}{v:Value}{l:List (Int×Int)}(h:ib w v l): ∃p n c,v= .slice p n c:=by
 rcases h with⟨_,p,c,e⟩|⟨g,c,a,e,_⟩
 ·exact⟨p,0,c,e⟩
 ·exact⟨_,_,c,e⟩
theorem ib.of_own {w:World}{a:Nat}{v:Value}{l:List (Int×Int)}(h:w.ownsRow a 87 2 v l.length (iU l)):ib w v l:=by
 rcases h.2 with⟨e,e2⟩|⟨g,cap,b,e,i,d,j,c,k,f⟩
 ·exact .inl ⟨gN e2,none,0,by rw[e]⟩
 ·exact .inr ⟨g,cap,b,e,by unfold maxLen at c;omega,d,f⟩
def Fr (gm:Nat)(w w':World):Prop:= ∀(q:Nat) (c:Array Value) (T:TypeId),w.heap[q]? =ah c T->T≠177->q≠gm->w'.heap[q]? =ah c T
theorem Fr.trans {gm:Nat}{w w' b:World}(h:Fr gm w w')(e:Fr gm w' b):Fr gm w b:=fun q c T f d a=>e q c T (h q c T f d a) d a
theorem Fr.below {gm:Nat}{w w':World}(a:aq w w'):Fr gm w w':=fun _ _ _ b _ _=>ai a b
theorem ib.fr {gm:Nat}{w w':World}{v:Value}{l:List (Int×Int)}(h:ib w v l){d:Array Value}(j:w.heap[gm]? =ah d 137)(i:Fr gm w w'):ib w' v l:=by
 rcases h with h|⟨g,c,b,e,k,a,m⟩
 ·exact .inl h
 ·refine .inr ⟨g,c,b,e,k,i g _ _ a (by decide) (fun q=> ?_),m⟩;subst q;rw[j]at a;injection a with a;injection a with _ f _;exact absurd f (by decide)
theorem ib.below {w w':World}{v:Value}{l:List (Int×Int)}(h:ib w v l)(b:aq w w'):ib w' v l:=by
 rcases h with h|⟨g,c,a,e,f,d,i⟩
 ·exact .inl h
 ·exact .inr ⟨g,c,a,e,f,ai b d,i⟩
structure WOk (w0:World)(gm:Nat)(mp:Value)(S:List (In×Value))(W:World):Prop where
 st:WsC w0 gm mp S W
 sp: ∀u∈S,ib W u.2 u.1.sp
theorem WOk.below {d W a:World}{gm:Nat}{c:Value}{S:List (In×Value)}(h:WOk d gm c S W)(b:aq W a):WOk d gm c S a:=
 ⟨h.st.below b,fun u e=>(h.sp u e).below b⟩
def nL (e:World)(gm:Nat)(d:Value)(S:List (In×Value))(c:List In)(W:World)(r:Ending)(b:World):Prop:=r= .returned (.tuple #[])/\ ∃a,a.map (fun u=>u.1)=c/\WOk e gm d (S++a) b/\Fr2 gm W b
theorem Fr2.fr {k W d:World}{gm:Nat}{j:Value}{S:List (In×Value)}(h:WsC k gm j S W)(g:Fr2 gm W d):Fr gm W d:=fun q c T b f a=>by
 obtain⟨_,_,sv,i,own⟩:=h;refine(g.blk q (aH b) a ?_).trans b;rw[oG i];exact fun e=>ko own b f e.symm
theorem uT {g W:World}{gm:Nat}{f:Value}{S:List (In×Value)}(h:WOk g gm f S W)(x:In)(v:Value)(k:ib W v x.sp)(n:S.length<=1000):
  Calls prog 91 #[ab gm 0,.agg #[ag x.op,ag x.a,ag x.b,ag x.to,v]] W fun e d=>e= .returned (.tuple #[])/\WOk g gm f (S++[(x,v)]) d/\Fr2 gm W d:=by
 obtain⟨_,_,sv,j,_⟩:=id h.st;refine(Kf g gm f S (x,v) W h.st n k.form).mono fun e d ⟨o,l,i,m⟩=>⟨o,⟨l,fun u c=> ?_⟩,m⟩
 rcases bU.1 c with c|c
 ·exact(h.sp u c).fr j i
 ·rw[bT]at c;subst c;exact k.fr j i
def Fq (b:World)(gm:Nat)(a:Value)(l:List Ru)(k:Ex)(c:Value):Prop:= ∀(S:List (In×Value)) (W:World),WOk b gm a S W->S.length+jb k<=700->Calls prog 66 #[ab gm 0,exV k c] W (nL b gm a S (bL (atP5 l) k S.length) W)
theorem qG (S a:List (In×Value)):jr (S++a)=jr S++jr a:=by unfold jr;rw[fw]
theorem Aj (S a:List (In×Value))(x:In)(v:Value)(t:Int):(jr (S++((x,v)::a))).set (S.length*5+3) (ag t)=jr (S++(({x with to:=t},v)::a)):=by
 rw[qG,qG,List.set_append_right _ _ (by rw[pm];omega),pm,Nat.add_sub_cancel_left];rfl
theorem NX {W:World}{a g n c:Nat}{S f:List (In×Value)}{x:In}{v:Value}(t:Int)(h:W.ownsRow a 177 5 (.slice (some (ae g 0)) n c) n (jr (S++((x,v)::f)))):(W.setCell ⟨g,S.length*5+3,none⟩ (ag t)).ownsRow a 177 5 (.slice (some (ae g 0)) n c) n (jr (S++(({x with to:=t},v)::f))):=by
 obtain⟨j,k⟩:=h;rcases k with⟨e,_⟩|⟨s,cap,d,e,l,o,p,m,q,r⟩
 ·cases e
 ·injection e with b _ i;injection b with b;injection b with b _ _;subst b i;refine⟨by rw[<-Aj,jy];exact j,.inr ⟨g,c,d.setIfInBounds (S.length*5+3) (ag t),rfl,l,aY W g _ _ _ _ o,p,m,by rw[gT];exact q,?_⟩⟩;rw[Array.toList_setIfInBounds,List.take_set,r,Aj]
theorem WOk.lt {c W:World}{gm:Nat}{b:Value}{S:List (In×Value)}(h:WOk c gm b S W):gm<W.heap.size:=by
 obtain⟨_,_,sv,a,_⟩:=h.st;exact aH a
end Go.Proofs.YtaoljfdfhggbbaaGreatDoor
