/- Texts of the proof. -/
import Derived.Test.YtkfidffapdhbhaaGreatDoorPh12
import Derived.Test.YtkfidffapdhbhaaGreatDoorPh23
set_option maxRecDepth 100000
set_option maxHeartbeats 8000000
namespace Go.Proofs.YtkfidffapdhbhaaGreatDoor
open Go.Proofs.Tryz Go.RowKit Lx Vx Mx Msk
def stdE (e:Ex):Bool:= !(decide (e.kind=4)||decide (e.kind=5)||decide (e.kind=10))&&e.kids.attach.all fun k=>stdE k.1
 termination_by SizeOf.sizeOf e
 decreasing_by exact iR k.2
theorem rU (e:Ex):stdE e=(!(decide (e.kind=4)||decide (e.kind=5)||decide (e.kind=10))&&e.kids.all stdE):=by
 rw[stdE];congr 1;rw[Bool.eq_iff_iff,dr,dr];exact⟨fun h k hk=>h ⟨k,hk⟩ (List.mem_attach _ _),fun h k _=>h k.1 k.2⟩
theorem la {e:Ex}(h:stdE e=true):e.kind≠4/\e.kind≠5/\e.kind≠10:=by
 rw[rU,bx]at h;have h1:=h.1;refine⟨fun e=> ?_,fun e=> ?_,fun e=> ?_⟩<;>simp[e]at h1
theorem BV {e k:Ex}(h:stdE e=true)(hk:k∈e.kids):stdE k=true:=by
 rw[rU,bx,dr]at h;exact h.2 k hk
theorem Hz {e:Ex}(h:e.kids=[])(h4:e.kind≠4)(h5:e.kind≠5)(h10:e.kind≠10):stdE e=true:=by
 rw[rU,h];simp[h4,h5,h10]
def mnE (e:Ex):Nat->Bool:=ft (fun _=>false) 0 (fun _=>nev) e
theorem DM (wk:Int->Bool)(day:Int)(env:List UInt8->Nat->Bool): ∀(N:Nat) (e:Ex),SizeOf.sizeOf e<=N->stdE e=true->ft wk day env e=mnE e
 |0,e,hN,_=>by cases e;simp at hN
 |N+1,e,hN,h=>by
  unfold mnE;rw[jB,jB];have hk:e.kids.map (ft wk day env)=e.kids.map (ft (fun _=>false) 0 (fun _=>nev)):=List.map_congr_left fun k hk=>DM wk day env N k (by have:=iR hk;omega) (BV h hk);rw[hk];obtain⟨h4,h5,h10⟩:=la h;unfold mE;simp only[ax h4,ax h5,ax h10]
theorem BW {e:Ex}(h:stdE e=true)(wk:Int->Bool)(day:Int)(env:List UInt8->Nat->Bool):ft wk day env e=mnE e:=DM wk day env _ e (aB _) h
def kb:List (Nat->List In)->Nat->List In
 |[],_=>[]
 |f::fs,b=>f b++kb fs (b+(f b).length)
def noC:Nat->List In:=fun _=>[]
def opK (k:Int):Int:=if k=9 then 5 else if k=6 then 2 else if k=7 then 3 else 4
def sF (num:List UInt8->Int)(e:Ex)(kc:List (Nat->List In))(b:Nat):List In:=
 if stdE e=true then [⟨1,0,0,0,rs (mnE e) 1440⟩]
 else if e.kind=10 then [⟨8,num e.name,0,0,[]⟩]
 else if e.kind=4 then⟨6,e.a,0,((b+1+((kc.getD 0 noC) (b+1)).length:Nat):Int),[]⟩::(kc.getD 0 noC) (b+1)
 else if e.kind=5 then⟨7,e.a,e.b,((b+1+((kc.getD 0 noC) (b+1)).length:Nat):Int),[]⟩::(kc.getD 0 noC) (b+1)
 else kb kc b++[⟨opK e.kind,if e.kind=9 then e.a else 0,0,0,[]⟩]
def bL (num:List UInt8->Int)(e:Ex)(b:Nat):List In:=sF num e (e.kids.attach.map fun k=>fun b'=>bL num k.1 b') b
 termination_by SizeOf.sizeOf e
 decreasing_by exact iR k.2
theorem qC (num:List UInt8->Int)(e:Ex)(b:Nat):bL num e b=sF num e (e.kids.map (bL num)) b:=by
 rw[bL];congr 1;have h:=congrArg (List.map (bL num)) (ij e.kids);rw[jT]at h;exact h
theorem oz {num:List UInt8->Int}{e:Ex}(h:stdE e=true)(b:Nat):bL num e b=[⟨1,0,0,0,rs (mnE e) 1440⟩]:=by
 rw[qC];unfold sF;rw[aD h]
theorem o6 {num:List UInt8->Int}{e:Ex}(hk:e.kind=10)(b:Nat):bL num e b=[⟨8,num e.name,0,0,[]⟩]:=by
 rw[qC];unfold sF;rw[ax (fun h=>(la h).2.2 hk),aD hk]
theorem o7 {num:List UInt8->Int}{e k:Ex}(hk:e.kind=4)(h0:e.kids[0]? =some k)(b:Nat):bL num e b=⟨6,e.a,0,((b+1+(bL num k (b+1)).length:Nat):Int),[]⟩::bL num k (b+1):=by
 rw[qC];have e0:(e.kids.map (bL num)).getD 0 noC=bL num k:=by simp[List.getD,h0]
 unfold sF;rw[ax (fun h=>(la h).1 hk),ax (by omega),aD hk,e0]
theorem nt {num:List UInt8->Int}{e k:Ex}(hk:e.kind=5)(h0:e.kids[0]? =some k)(b:Nat):bL num e b=⟨7,e.a,e.b,((b+1+(bL num k (b+1)).length:Nat):Int),[]⟩::bL num k (b+1):=by
 rw[qC];have e0:(e.kids.map (bL num)).getD 0 noC=bL num k:=by simp[List.getD,h0]
 unfold sF;rw[ax (fun h=>(la h).2.1 hk),ax (by omega),ax (by omega),aD hk,e0]
theorem oA {num:List UInt8->Int}{e:Ex}(h:stdE e=false)(h4:e.kind≠4)(h5:e.kind≠5)(h10:e.kind≠10)(b:Nat):bL num e b=kb (e.kids.map (bL num)) b++[⟨opK e.kind,if e.kind=9 then e.a else 0,0,0,[]⟩]:=by
 rw[qC];unfold sF;rw[ax (by rw[h];simp),ax h10,ax h4,ax h5]
theorem J6 {e:Ex}(h:e.kids.length=2): ∃k m,e.kids=[k,m]:=by
 match hk:e.kids with
 |[]=>rw[hk]at h;cases h
 |[_]=>rw[hk]at h;cases h
 |[k,m]=>exact⟨k,m,rfl⟩
 |_::_::_::_=>rw[hk]at h;simp at h
theorem Mf {e:Ex}(h:e.kids.length=1): ∃k,e.kids=[k]:=by
 match hk:e.kids with
 |[]=>rw[hk]at h;cases h
 |[k]=>exact⟨k,rfl⟩
 |_::_::_=>rw[hk]at h;simp at h
theorem pL {num:List UInt8->Int}{e k:Ex}(h:stdE e=false)(hk:e.kind=9)(h0:e.kids=[k])(b:Nat):bL num e b=bL num k b++[⟨5,e.a,0,0,[]⟩]:=by
 rw[oA h (by omega) (by omega) (by omega),h0];simp only[dH,ff,kb,ik];unfold opK;rw[aD hk,aD hk]
theorem qS {num:List UInt8->Int}{e k m:Ex}(h:stdE e=false)(hk:e.kind=6\/e.kind=7\/e.kind=8)(h0:e.kids=[k,m])(b:Nat):bL num e b=(bL num k b++bL num m (b+(bL num k b).length))++[⟨opK e.kind,0,0,0,[]⟩]:=by
 rw[oA h (by omega) (by omega) (by omega),h0];simp only[dH,ff,kb,ik];rw[ax (by omega)]
theorem ny {e:Ex}(h:OKE e)(hs:stdE e=false):(e.kind=4/\ ∃k,e.kids=[k])\/(e.kind=5/\ ∃k,e.kids=[k])\/(e.kind=9/\ ∃k,e.kids=[k])\/e.kind=10\/((e.kind=6\/e.kind=7\/e.kind=8)/\ ∃k m,e.kids=[k,m]):=by
 obtain⟨h1,h2,h3,_,_⟩:=h.kinds;unfold kidsP at h3;by_cases q:e.kind=4\/e.kind=5\/e.kind=9
 ·rw[aD q]at h3;obtain⟨k,hk⟩:=Mf h3;rcases q with q|q|q
  ·exact .inl ⟨q,k,hk⟩
  ·exact .inr (.inl ⟨q,k,hk⟩)
  ·exact .inr (.inr (.inl ⟨q,k,hk⟩))
 ·rw[ax q]at h3;by_cases q2:e.kind=6\/e.kind=7\/e.kind=8
  ·rw[aD q2]at h3;obtain⟨k,m,hk⟩:=J6 h3;exact .inr (.inr (.inr (.inr ⟨q2,k,m,hk⟩)))
  ·rw[ax q2]at h3;by_cases q3:e.kind=10
   ·exact .inr (.inr (.inr (.inl q3)))
   ·have:=Hz (ie.1 h3) (by omega) (by omega) q3;rw[hs]at this;cases this
theorem zV: ∀(l:List (Int×Int)) (last:Int),good last 1440 l->risL l last=true
 |[],_,_=>rfl
 |s::l,last,⟨h1,h2,h3,h4⟩=>by
  unfold risL;rw[ax (by omega)];exact zV l s.2 h4
theorem Mg (f:Nat->Bool):risL (rs f 1440) (-1)=true:=zV _ _ (DG f 1440).good
def jc (e:Ex):Nat:=1+(e.kids.attach.map fun k=>jc k.1).sum
 termination_by SizeOf.sizeOf e
 decreasing_by exact iR k.2
theorem me (e:Ex):jc e=1+(e.kids.map jc).sum:=by
 rw[jc];congr 2;have h:=congrArg (List.map jc) (ij e.kids);rw[jT]at h;exact h
theorem BX (e:Ex):1<=jc e:=by rw[me];omega
theorem lU (num:List UInt8->Int): ∀(N:Nat) (e:Ex),SizeOf.sizeOf e<=N->OKE e-> ∀b,1<=(bL num e b).length/\(bL num e b).length<=jc e
 |0,e,hN,_,_=>by cases e;simp at hN
 |N+1,e,hN,h,b=>by
  have hn:=me e;cases hs:stdE e with
  |true=>
   rw[oz hs];exact⟨by simp,by simpa using BX e⟩
  |false=>
   have ih: ∀k∈e.kids,∀b,1<=(bL num k b).length/\(bL num k b).length<=jc k:=fun k hk b=>lU num N k (by have:=iR hk;omega) (h.kid hk) b;rcases ny h hs with⟨q,k,hk⟩|⟨q,k,hk⟩|⟨q,k,hk⟩|q|⟨q,k,m,hk⟩
   ·rw[o7 q (by rw[hk];rfl)];have:=ih k (by rw[hk];simp) (b+1);rw[hk]at hn;simp only[dH,ff,i8,List.sum_nil]at hn;rw[bJ];omega
   ·rw[nt q (by rw[hk];rfl)];have:=ih k (by rw[hk];simp) (b+1);rw[hk]at hn;simp only[dH,ff,i8,List.sum_nil]at hn;rw[bJ];omega
   ·rw[pL hs q hk];have:=ih k (by rw[hk];simp) b;rw[hk]at hn;simp only[dH,ff,i8,List.sum_nil]at hn;rw[aP,dP];omega
   ·rw[o6 q];exact⟨by simp,by simpa using BX e⟩
   ·rw[qS hs q hk];have h1:=ih k (by rw[hk];simp) b;have h2:=ih m (by rw[hk];simp) (b+(bL num k b).length);rw[hk]at hn;simp only[dH,ff,i8,List.sum_nil]at hn;rw[aP,aP,dP];omega
theorem pg: ∀(N:Nat) (e:Ex) (deep n:Nat),SizeOf.sizeOf e<=N->(shapeP e deep n).1=0->(shapeP e deep n).2=n+jc e/\n+jc e<=600
 |0,e,_,_,hN,_=>by cases e;simp at hN
 |N+1,e,deep,n,hN,h=>by
  rw[kE]at h⊢;by_cases h1:600<n+1\/40<deep
  ·rw[aD h1]at h;cases h
  ·rw[ax h1]at h⊢;by_cases h2:aloneP e≠0
   ·rw[aD h2]at h;exact absurd h h2
   ·rw[ax h2]at h⊢
    have key: ∀(ks:List Ex) (m:Nat),(∀k∈ks,SizeOf.sizeOf k<=N)->m<=600->(gT ks (deep+1) (0,m)).1=0->(gT ks (deep+1) (0,m)).2=m+(ks.map jc).sum/\m+(ks.map jc).sum<=600:=by
     intro ks;induction ks with
     |nil=>intro m _ hm _;exact⟨by simp[gT],by simpa using hm⟩
     |cons k ks ih=>
      intro m hks hm hz;rw[jQ]at hz⊢;rw[ax (by simp)]at hz⊢
      have hz1:(shapeP k (deep+1) m).1=0:=by
       by_cases hq:(shapeP k (deep+1) m).1=0
       ·exact hq
       ·rw[kF hq]at hz;exact absurd hz hq
      obtain⟨a1,a2⟩:=pg N k (deep+1) m (hks k bq) hz1;have e1:shapeP k (deep+1) m=(0,m+jc k):=Prod.ext hz1 a1;rw[e1]at hz⊢;obtain⟨b1,b2⟩:=ih (m+jc k) (fun k' hk'=>hks k' (bH _ hk')) a2 hz;rw[dH,i8];exact⟨by rw[b1];omega,by omega⟩
    obtain⟨a,b⟩:=key e.kids (n+1) (fun k hk=>by have:=iR hk;omega) (by omega) h;rw[me];exact⟨by rw[a];omega,by omega⟩
def j8 (l:List In)(b:Nat)(c:List In):Prop:= ∀j,j<c.length->l[b+j]? =c[j]?
theorem j8.left {l:List In}{b:Nat}{c d:List In}(h:j8 l b (c++d)):j8 l b c:=fun j hj=>by
 rw[h j (by rw[aP];omega),du hj]
theorem j8.right {l:List In}{b:Nat}{c d:List In}(h:j8 l b (c++d)):j8 l (b+c.length) d:=fun j hj=>by
 have:=h (c.length+j) (by rw[aP];omega);rw[dh (by omega),Nat.add_sub_cancel_left,<-Nat.add_assoc]at this;exact this
theorem j8.one {l:List In}{b:Nat}{x:In}{d:List In}(h:j8 l b (x::d)):l[b]? =some x:=by
 have:=h 0 (by simp);simpa using this
theorem j8.tail {l:List In}{b:Nat}{x:In}{d:List In}(h:j8 l b (x::d)):j8 l (b+1) d:=j8.right (c:=[x]) h
structure jC (l:List In)(b n R N:Nat):Prop where
 fin:hAt l (b+n)=hAt l b+1
 tk: ∀j x,b<=j->j<b+n->l[j]? =some x->Vx.tk x+hAt l b<=hAt l j
 to: ∀j x,b<=j->j<b+n->l[j]? =some x->isG x->hAt l x.to.toNat=hAt l j+1
 ins: ∀j x,b<=j->j<b+n->l[j]? =some x->fP x j N R=0
theorem OM {x:In}(ho:x.op=1)(h:risL x.sp (-1)=true)(j N R:Nat):fP x j N R=0:=by
 unfold fP;rw[ax (by omega),aD ho,aD h]
theorem Mh {x:In}(ho:x.op=2\/x.op=3\/x.op=4)(j N R:Nat):fP x j N R=0:=by
 unfold fP;rw[aD ho]
theorem ON {x:In}(ho:x.op=5)(h:x.a≠0/\ -1439<=x.a/\x.a<=1439)(j N R:Nat):fP x j N R=0:=by
 unfold fP;rw[ax (by omega),ax (by omega),aD ho,aD h]
theorem OO {x:In}{j N:Nat}(ho:x.op=6)(ht:(j:Int)+2<=x.to/\x.to<=N)(h:1<=x.a/\x.a<=127)(R:Nat):fP x j N R=0:=by
 unfold fP;rw[ax (by omega),ax (by omega),ax (by omega),aD ho,aD ht,aD h]
theorem OP {x:In}{j N:Nat}(ho:x.op=7)(ht:(j:Int)+2<=x.to/\x.to<=N)(h:0<=x.a/\x.a<=x.b/\x.b<146097)(R:Nat):fP x j N R=0:=by
 unfold fP;rw[ax (by omega),ax (by omega),ax (by omega),ax (by omega),aD ho,aD ht,aD h]
theorem OQ {x:In}{R:Nat}(ho:x.op=8)(h:0<=x.a/\x.a<R)(j N:Nat):fP x j N R=0:=by
 unfold fP;rw[ax (by omega),ax (by omega),ax (by omega),ax (by omega),ax (by omega),aD ho,aD h]
theorem OR {x:In}(ho:x.op=1\/x.op=8):eff x=1:=by unfold eff;rw[aD ho]
theorem OS {x:In}(ho:x.op=2\/x.op=3\/x.op=4):eff x= -1:=by unfold eff;rw[ax (by omega),aD ho]
theorem KO {x:In}(ho:x.op=5\/x.op=6\/x.op=7):eff x=0:=by unfold eff;rw[ax (by omega),ax (by omega)]
theorem NO {x:In}(ho:x.op=1\/x.op=6\/x.op=7\/x.op=8):Vx.tk x=0:=by unfold Vx.tk;rw[ax (by omega),ax (by omega)]
theorem Po {x:In}(ho:x.op=5):Vx.tk x=1:=by unfold Vx.tk;rw[aD ho]
theorem Pp {x:In}(ho:x.op=2\/x.op=3\/x.op=4):Vx.tk x=2:=by unfold Vx.tk;rw[ax (by omega),aD ho]
theorem jC.one {l:List In}{b R N:Nat}{x:In}(hx:l[b]? =some x)(ho:x.op=1\/x.op=8)(hi:fP x b N R=0):jC l b 1 R N:=by
 refine⟨by rw[jH hx,OR ho],fun j y h1 h2 hy=> ?_,fun j y h1 h2 hy hg=> ?_,fun j y h1 h2 hy=> ?_⟩<;>
  (obtain rfl:j=b:=by omega)<;>(rw[hx]at hy;cases aN hy)
 ·rw[NO (by omega)];omega
 ·rcases hg with hg|hg<;>omega
 ·exact hi
theorem jC.guard {l:List In}{b n R N:Nat}{x:In}(hx:l[b]? =some x)(ho:x.op=6\/x.op=7)(hto:x.to=((b+1+n:Nat):Int))(hi:fP x b N R=0)(h:jC l (b+1) n R N):jC l b (n+1) R N:=by
 have e1:hAt l (b+1)=hAt l b:=by rw[jH hx,KO (by omega)];omega
 have e2:b+(n+1)=b+1+n:=by omega
 refine⟨by rw[e2,h.fin,e1],fun j y h1 h2 hy=> ?_,fun j y h1 h2 hy hg=> ?_,fun j y h1 h2 hy=> ?_⟩<;>by_cases hj:j=b
 ·subst hj;rw[hx]at hy;cases aN hy;rw[NO (by omega)];omega
 ·have:=h.tk j y (by omega) (by omega) hy;rw[e1]at this;exact this
 ·subst hj;rw[hx]at hy;cases aN hy;rw[hto,cZ,h.fin,e1]
 ·exact h.to j y (by omega) (by omega) hy hg
 ·subst hj;rw[hx]at hy;cases aN hy;exact hi
 ·exact h.ins j y (by omega) (by omega) hy
theorem jC.shift {l:List In}{b n R N:Nat}{x:In}(h:jC l b n R N)(hx:l[b+n]? =some x)(ho:x.op=5)(hi:fP x (b+n) N R=0):jC l b (n+1) R N:=by
 refine⟨by rw[<-Nat.add_assoc,jH hx,KO (by omega),h.fin];omega,fun j y h1 h2 hy=> ?_,fun j y h1 h2 hy hg=> ?_,fun j y h1 h2 hy=> ?_⟩<;>by_cases hj:j=b+n
 ·subst hj;rw[hx]at hy;cases aN hy;rw[Po ho,h.fin];omega
 ·exact h.tk j y h1 (by omega) hy
 ·subst hj;rw[hx]at hy;cases aN hy;rcases hg with hg|hg<;>omega
 ·exact h.to j y h1 (by omega) hy hg
 ·subst hj;rw[hx]at hy;cases aN hy;exact hi
 ·exact h.ins j y h1 (by omega) hy
theorem jC.pair {l:List In}{b n m R N:Nat}{x:In}(h:jC l b n R N)(h':jC l (b+n) m R N)(hx:l[b+n+m]? =some x)(ho:x.op=2\/x.op=3\/x.op=4):jC l b (n+m+1) R N:=by
 have e1:=h.fin;have e2:=h'.fin;refine⟨by rw[show b+(n+m+1)=b+n+m+1 by omega,jH hx,OS ho];omega,fun j y h1 h2 hy=> ?_,fun j y h1 h2 hy hg=> ?_,fun j y h1 h2 hy=> ?_⟩<;>by_cases hj:j=b+n+m
 ·subst hj;rw[hx]at hy;cases aN hy;rw[Pp ho];omega
 ·by_cases hj2:j<b+n
  ·exact h.tk j y h1 hj2 hy
  ·have:=h'.tk j y (by omega) (by omega) hy;omega
 ·subst hj;rw[hx]at hy;cases aN hy;rcases hg with hg|hg<;>omega
 ·by_cases hj2:j<b+n
  ·exact h.to j y h1 hj2 hy hg
  ·exact h'.to j y (by omega) (by omega) hy hg
 ·subst hj;rw[hx]at hy;cases aN hy;exact Mh ho _ _ _
 ·by_cases hj2:j<b+n
  ·exact h.ins j y h1 hj2 hy
  ·exact h'.ins j y (by omega) (by omega) hy
theorem DN {k:Int}(h:k=6\/k=7\/k=8):opK k=2\/opK k=3\/opK k=4:=by
 unfold opK;rcases h with rfl|rfl|rfl<;>simp
theorem uL {e k:Ex}(hk:k∈e.kids){x:List UInt8}(hx:x∈nms k):x∈nms e:=by
 rw[lO,bU];right;unfold jF;exact List.mem_flatten.2 ⟨nms k,dU.2 ⟨k,hk,rfl⟩,hx⟩
theorem uM {e:Ex}(h:e.kind=10):e.name∈nms e:=by rw[lO,aD h];simp
theorem H2 {num:List UInt8->Int}{R N:Nat}{l:List In}: ∀(M:Nat) (e:Ex),SizeOf.sizeOf e<=M->OKE e->(∀x∈nms e,0<=num x/\num x<R)-> ∀b,j8 l b (bL num e b)->b+(bL num e b).length<=N->jC l b (bL num e b).length R N
 |0,e,hM,_,_,_,_,_=>by cases e;simp at hM
 |M+1,e,hM,h,hn,b,hs,hN=>by
  have ih: ∀k∈e.kids,∀b',j8 l b' (bL num k b')->b'+(bL num k b').length<=N->jC l b' (bL num k b').length R N:=fun k hk b'=>H2 M k (by have:=iR hk;omega) (h.kid hk) (fun x hx=>hn x (uL hk hx)) b';have hr:=h.kinds.2.2.2.1;cases hstd:stdE e with
  |true=>
   rw[oz hstd]at hs⊢;exact jC.one hs.one (.inl rfl) (OM rfl (Mg _) _ _ _)
  |false=>
   rcases ny h hstd with⟨q,k,hk⟩|⟨q,k,hk⟩|⟨q,k,hk⟩|q|⟨q,k,m,hk⟩
   ·have hm:k∈e.kids:=(by rw[hk];simp);have h1:=(lU num _ k (aB _) (h.kid hm) (b+1)).1;unfold rangeP at hr;rw[ax (by omega),aD q]at hr;have hr':=fE hr;rw[o7 q (by rw[hk];rfl)]at hs hN⊢;rw[bJ]at hN⊢;refine jC.guard hs.one (.inl rfl) rfl (OO rfl ⟨?_,?_⟩ ⟨hr'.1,?_⟩ _) (ih k hm (b+1) hs.tail (by omega))
    ·show(b:Int)+2<=((b+1+_:Nat):Int);omega
    ·show((b+1+_:Nat):Int)<=_;omega
    ·show e.a<=127;omega
   ·have hm:k∈e.kids:=(by rw[hk];simp);have h1:=(lU num _ k (aB _) (h.kid hm) (b+1)).1;unfold rangeP at hr;rw[ax (by omega),ax (by omega),aD q]at hr;have hr':=fE hr;rw[nt q (by rw[hk];rfl)]at hs hN⊢;rw[bJ]at hN⊢;refine jC.guard hs.one (.inr rfl) rfl (OP rfl ⟨?_,?_⟩ hr' _) (ih k hm (b+1) hs.tail (by omega))
    ·show(b:Int)+2<=((b+1+_:Nat):Int);omega
    ·show((b+1+_:Nat):Int)<=_;omega
   ·have hm:k∈e.kids:=(by rw[hk];simp);unfold rangeP at hr;rw[ax (by omega),ax (by omega),ax (by omega),aD q]at hr;have hr':=fE hr;rw[pL hstd q hk]at hs hN⊢;rw[aP,dP]at hN⊢;exact jC.shift (ih k hm b hs.left (by omega)) hs.right.one rfl (ON rfl ⟨hr'.1,by show-1439<=e.a;omega,by show e.a<=1439;omega⟩ _ _ _)
   ·rw[o6 q]at hs⊢;exact jC.one hs.one (.inr rfl) (OQ rfl (hn _ (uM q)) _ _)
   ·have hm:k∈e.kids:=(by rw[hk];simp);have hm':m∈e.kids:=(by rw[hk];simp);rw[qS hstd q hk]at hs hN⊢;rw[aP,aP,dP]at hN⊢;have hs1:=hs.right.one;rw[aP,<-Nat.add_assoc]at hs1;exact jC.pair (ih k hm b hs.left.left (by omega)) (ih m hm' _ hs.left.right (by omega)) hs1 (DN q)
theorem H3 {num:List UInt8->Int}{R:Nat}{e:Ex}(h:OKE e)(hn: ∀x∈nms e,0<=num x/\num x<R):lZ (bL num e 0)/\ ∀j x,(bL num e 0)[j]? =some x->fP x j (bL num e 0).length R=0:=by
 have hs:j8 (bL num e 0) 0 (bL num e 0):=fun j _=>by rw[bN]
 have q:=H2 (N:=(bL num e 0).length) (R:=R) _ e (aB _) h hn 0 hs (by omega)
 have lt: ∀{j:Nat} {x:In},(bL num e 0)[j]? =some x->j<0+(bL num e 0).length:=fun hj=>by
  have:=(aF.1 hj).1;omega
 refine⟨⟨fun j x hx=> ?_,fun j x hx hg=>q.to j x (dM _) (lt hx) hx hg,?_⟩,fun j x hx=>q.ins j x (dM _) (lt hx) hx⟩
 ·have:=q.tk j x (dM _) (lt hx) hx;simpa[hAt] using this
 ·have:=q.fin;simpa[hAt] using this
theorem zW {cs cs':List Cd}{l:List In}: ∀(j:Nat),(∀j' x,j'<j->l[j']? =some x->x.op=8->(cs.getD x.a.toNat cd0).high=(cs'.getD x.a.toNat cd0).high)->j<=l.length->mxH cs l j=mxH cs' l j
 |0,_,_=>rfl
 |j+1,h,hj=>by
  have ih:=zW (cs:=cs) (cs':=cs') (l:=l) j (fun j' x h1=>h j' x (by omega)) (by omega);have hx:l[j]? =some l[j]:=az (by omega);rw[kM hx,kM hx,ih];by_cases ho:(l[j]).op=8
  ·rw[aD ho,aD ho,h j _ (by omega) hx ho]
  ·rw[ax ho,ax ho]
theorem zX {cs cs':List Cd}{l:List In}: ∀(j:Nat),(∀j' x,j'<j->l[j']? =some x->x.op=8->(cs.getD x.a.toNat cd0).steps=(cs'.getD x.a.toNat cd0).steps)->j<=l.length->stS cs l j=stS cs' l j
 |0,_,_=>rfl
 |j+1,h,hj=>by
  have ih:=zX (cs:=cs) (cs':=cs') (l:=l) j (fun j' x h1=>h j' x (by omega)) (by omega);have hx:l[j]? =some l[j]:=az (by omega);rw[jX hx,jX hx,ih];by_cases ho:(l[j]).op=8
  ·rw[aD ho,aD ho,h j _ (by omega) hx ho]
  ·rw[ax ho,ax ho]
def eR (C:List (List In))(m:Nat->Int×Int):List Cd:=(List.range C.length).map fun k=>⟨C.getD k [],(m k).1,(m k).2⟩
theorem tM (C:List (List In))(m:Nat->Int×Int):(eR C m).length=C.length:=by simp[eR]
theorem mF {C:List (List In)}{m:Nat->Int×Int}{k:Nat}(h:k<C.length):(eR C m).getD k cd0=⟨C.getD k [],(m k).1,(m k).2⟩:=by
 have:(eR C m)[k]? =some ⟨C.getD k [],(m k).1,(m k).2⟩:=by
  unfold eR;rw[bg,List.getElem?_range h];rfl
 simp[List.getD,this]
def mg (C:List (List In))(m:Nat->Int×Int)(i:Nat):Int×Int:=(min (mxH (eR C m) (C.getD i []) (C.getD i []).length) 101,min (stS (eR C m) (C.getD i []) (C.getD i []).length) 20001)
def nz (C:List (List In)):Nat->Nat->Int×Int
 |0,_=>(0,0)
 |f+1,i=>mg C (nz C f) i
structure rV (C:List (List In))(ρ:Nat->Nat):Prop where
 lt: ∀(i j:Nat) (x:In),i<C.length->(C.getD i [])[j]? =some x->x.op=8->0<=x.a/\x.a.toNat<C.length/\ρ x.a.toNat<ρ i
theorem xL {C:List (List In)}{ρ:Nat->Nat}(h:rV C ρ){m m':Nat->Int×Int}{i:Nat}(hi:i<C.length)(hm: ∀k,k<C.length->ρ k<ρ i->m k=m' k):mg C m i=mg C m' i:=by
 have key: ∀j' x,j'<(C.getD i []).length->(C.getD i [])[j']? =some x->x.op=8->(eR C m).getD x.a.toNat cd0=(eR C m').getD x.a.toNat cd0:=fun j' x _ hx ho=>by
  obtain⟨_,h2,h3⟩:=h.lt i j' x hi hx ho;rw[mF h2,mF h2,hm _ h2 h3]
 have e1:mxH (eR C m) (C.getD i []) (C.getD i []).length=mxH (eR C m') (C.getD i []) (C.getD i []).length:=zW _ (fun j' x h1 h2 h3=>by rw[key j' x h1 h2 h3]) (aB _);have e2:stS (eR C m) (C.getD i []) (C.getD i []).length=stS (eR C m') (C.getD i []) (C.getD i []).length:=zX _ (fun j' x h1 h2 h3=>by rw[key j' x h1 h2 h3]) (aB _);unfold mg;rw[e1,e2]
theorem zY {C:List (List In)}{ρ:Nat->Nat}(h:rV C ρ): ∀(f f' i:Nat),i<C.length->ρ i<f->ρ i<f'->nz C f i=nz C f' i
 |0,_,_,_,h1,_=>by omega
 |_+1,0,_,_,_,h2=>by omega
 |f+1,f'+1,i,hi,h1,h2=>by
  unfold nz;exact xL h hi fun k hk hr=>zY h f f' k hk (by omega) (by omega)
theorem Mi {C:List (List In)}{ρ:Nat->Nat}(h:rV C ρ){N:Nat}(hN: ∀i,i<C.length->ρ i<=N){i:Nat}(hi:i<C.length):nz C (N+1) i=mg C (nz C (N+1)) i:=by
 conv=>lhs;unfold nz
 have h1:=hN i hi;exact xL h hi fun k hk hr=>zY h N (N+1) k hk (by omega) (by have:=hN k hk;omega)
theorem xm (x:In): -1<=eff x/\eff x<=1:=by
 unfold eff;split
 ·omega
 ·split<;>omega
theorem mW (l:List In): ∀j:Nat,-(j:Int)<=hAt l j/\hAt l j<=(j:Int)
 |0=>by simp[hAt]
 |j+1=>by
  have ih:=mW l j;have e:=xm (l.getD j in0);simp only[hAt];omega
structure qT (cs:List Cd):Prop where
 hi: ∀k,0<=(cs.getD k cd0).high/\(cs.getD k cd0).high<=101
 st: ∀k,0<=(cs.getD k cd0).steps/\(cs.getD k cd0).steps<=20001
theorem rL {cs:List Cd}(h:qT cs)(l:List In): ∀j:Nat,0<=mxH cs l j/\mxH cs l j<=(j:Int)+101
 |0=>by simp[mxH]
 |j+1=>by
  have ih:=rL h l j;have e:=mW l j;have e':=mW l (j+1);have q:=h.hi (l.getD j in0).a.toNat;simp only[mxH];split<;>omega
theorem rN {cs:List Cd}(h:qT cs)(l:List In): ∀j:Nat,(j:Int)<=stS cs l j/\stS cs l j<=(j:Int)*20002
 |0=>by simp[stS]
 |j+1=>by
  have ih:=rN h l j;have q:=h.st (l.getD j in0).a.toNat;simp only[stS];split<;>omega
theorem vm {C:List (List In)}{m:Nat->Int×Int}(h: ∀k,k<C.length->(0<=(m k).1/\(m k).1<=101)/\(0<=(m k).2/\(m k).2<=20001)):qT (eR C m):=by
 constructor<;>intro k<;>by_cases hk:k<C.length
 ·rw[mF hk];exact(h k hk).1
 ·have:(eR C m).getD k cd0=cd0:=by
   have:(eR C m)[k]? =none:=eV (by rw[tM];omega);simp[List.getD,this]
  rw[this];simp[cd0]
 ·rw[mF hk];exact(h k hk).2
 ·have:(eR C m).getD k cd0=cd0:=by
   have:(eR C m)[k]? =none:=eV (by rw[tM];omega);simp[List.getD,this]
  rw[this];simp[cd0]
theorem DO {C:List (List In)}{m:Nat->Int×Int}(h:qT (eR C m))(i:Nat):(0<=(mg C m i).1/\(mg C m i).1<=101)/\(0<=(mg C m i).2/\(mg C m i).2<=20001)/\(1<=(C.getD i []).length->1<=(mg C m i).2):=by
 have a:=rL h (C.getD i []) (C.getD i []).length;have b:=rN h (C.getD i []) (C.getD i []).length;refine⟨⟨?_,?_⟩,⟨?_,?_⟩,fun hl=> ?_⟩<;>simp only[mg]<;>omega
theorem DP (C:List (List In)): ∀(f i:Nat),(0<=(nz C f i).1/\(nz C f i).1<=101)/\(0<=(nz C f i).2/\(nz C f i).2<=20001)
 |0,i=>by simp[nz]
 |f+1,i=>by
  have h:=DO (C:=C) (vm (C:=C) fun k _=>DP C f k) i;exact⟨h.1,h.2.1⟩
theorem Fc (C:List (List In))(f:Nat):qT (eR C (nz C f)):=vm fun k _=>DP C f k
section
variable {B:Nat->Prop}
def uN (e:Ex)(w:World)(r:Ending)(w':World):Prop:=r= .returned (.bool (stdE e))/\aq w w'
def OT (w:World)(sl:Value)(ks:List Ex):Prop:=
 ∃g o c:Nat,sl= .slice (some (ae g o)) ks.length c/\ks.length<9223372036854775808/\ ∀(j:Nat) (k:Ex),ks[j]? =some k-> ∃(p:Option Addr) (q:Nat),
  w.cell? (ae g (o+j*5))=some (ag k.kind)/\w.cell? (ae g (o+j*5+1))=some (ag k.a)/\w.cell? (ae g (o+j*5+2))=some (ag k.b)/\
  w.cell? (ae g (o+j*5+3))=some (.string ⟨k.name.toArray⟩)/\w.cell? (ae g (o+j*5+4))=some (.slice p k.kids.length q)/\
  ∀W:World,aq w W->Calls prog 93 #[.agg #[ag k.kind,ag k.a,ag k.b,.string ⟨k.name.toArray⟩,.slice p k.kids.length q]] W (uN k W)
theorem J9 {ks:List Ex}{j:Nat}{k:Ex}(h:ks[j]? =some k):(ks.drop j).all stdE=(stdE k&&(ks.drop (j+1)).all stdE):=by
 obtain⟨h1,h2⟩:=aF.1 h;rw[bv h1,h2];rfl
theorem ru (e:Ex)(p:Option Addr)(c:Nat)(w:World)(hk:e.kids=[]\/OT w (.slice p e.kids.length c) e.kids)(hlen:e.kids.length<9223372036854775808):
  Calls prog 93 #[.agg #[ag e.kind,ag e.a,ag e.b,.string ⟨e.name.toArray⟩,.slice p e.kids.length c]] w (uN e w):=by
 have hbA:=am w (.cells #[ag e.kind,ag e.a,ag e.b,.string ⟨e.name.toArray⟩,.slice p e.kids.length c] 104);have hxA:=aE w (.cells #[ag e.kind,ag e.a,ag e.b,.string ⟨e.name.toArray⟩,.slice p e.kids.length c] 104);generalize hwA:w.alloc (.cells #[ag e.kind,ag e.a,ag e.b,.string ⟨e.name.toArray⟩,.slice p e.kids.length c] 104)=wA at*;have z0:=ak 0 hxA;have z4:=ak 4 hxA;generalize hX:stdE e=X;have HX:PH (stdE e=X):=hX;unfold uN;rw[hX];clear hX;by_cases k4:e.kind=4
 ·have HE:PH (X=false):=by
   show _=_;rw[<-HX.o];cases hs:stdE e with
   |false=>rfl
   |true=>exact absurd k4 (la hs).1
  have e4:(e.kind==4)=true:=(by simp[k4]);clear hk HX k4;go_enter func93,ntmps93;go_wp2_with fail;go_ret;rw[HE.o];exact⟨rfl,hbA⟩
 have e4:(e.kind==4)=false:=by simpa using k4
 by_cases k5:e.kind=5
 ·have HE:PH (X=false):=by
   show _=_;rw[<-HX.o];cases hs:stdE e with
   |false=>rfl
   |true=>exact absurd k5 (la hs).2.1
  have e5:(e.kind==5)=true:=(by simp[k5]);clear hk HX k4 k5;go_enter func93,ntmps93;go_wp2_with fail;go_ret;rw[HE.o];exact⟨rfl,hbA⟩
 have e5:(e.kind==5)=false:=by simpa using k5
 by_cases k10:e.kind=10
 ·have HE:PH (X=false):=by
   show _=_;rw[<-HX.o];cases hs:stdE e with
   |false=>rfl
   |true=>exact absurd k10 (la hs).2.2
  have e10:(e.kind==10)=true:=(by simp[k10]);clear hk HX k4 k5 k10;go_enter func93,ntmps93;go_wp2_with fail;go_ret;rw[HE.o];exact⟨rfl,hbA⟩
 have e10:(e.kind==10)=false:=by simpa using k10
 have HS:PH ((e.kids.drop 0).all stdE=X):=by
  show _=_;rw[<-HX.o,rU,List.drop_zero];simp[k4,k5,k10]
 clear HX k4 k5 k10;go_enter func93,ntmps93;go_wp2_with fail;go_loopw [4,14] (fun _ t wr=> ∃j:Nat,t=ag (j:Int)/\j<=e.kids.length/\(e.kids.drop j).all stdE=X/\aq w wr) (fun _ t _=>e.kids.length-(intOf t).toNat);case atStart=>exact⟨0,rfl,by omega,HS.o,hbA⟩
 case round=>
  obtain⟨j,rfl,hj,hXr,hb⟩:=hrel;clear HS z0 z4 hxA hbA hwA e4 e5 e10;have hj0:(0:Int)<=(j:Int):=(by omega);by_cases hlt:j<e.kids.length
  ·have hlt':(j:Int)<(e.kids.length:Int):=(by omega);obtain⟨k,hjk⟩: ∃k,e.kids[j]? =some k:=⟨e.kids[j],az hlt⟩
   rw[J9 hjk]at hXr;have hks:e.kids≠[]:=fun h=>(by rw[h]at hlt;simp at hlt);obtain⟨g,o,c',hsl,_,hkid⟩:=hk.resolve_left hks;obtain⟨pk,ck,d0,d1,d2,d3,d4,ihk⟩:=hkid j k hjk;have f0:=aj hb d0;have f1:=aj hb d1;have f2:=aj hb d2;have f3:=aj hb d3;have f4:=aj hb d4;have hbB:=am wr (.cells #[ag k.kind,ag k.a,ag k.b,.string ⟨k.name.toArray⟩,.slice pk k.kids.length ck] 104);have hxB:=aE wr (.cells #[ag k.kind,ag k.a,ag k.b,.string ⟨k.name.toArray⟩,.slice pk k.kids.length ck] 104);have hb2:=aw hb hbB;have cR:=ihk _ hb2;injection hsl with e1 e2 e3;subst e1;subst e3;clear d0 d1 d2 d3 d4 ihk hkid hks hjk hbB;have HXr:PH ((stdE k&&(e.kids.drop (j+1)).all stdE)=X):=hXr;unfold uN at cR;clear hXr;generalize stdE k=y at*;generalize hwB:wr.alloc (.cells #[ag k.kind,ag k.a,ag k.b,.string ⟨k.name.toArray⟩,.slice pk k.kids.length ck] 104)=wB at*;go_wp2_with(refine aQ rfl 104 _ rfl _ rfl _ _ _ _ hxB fc rfl (by kernel_rfl) ?_)
   refine cR.mono ?_;rintro r w3 ⟨rfl,b3⟩;have hb3:=aw hb2 b3;clear cR hxB hwB f0 f1 f2 f3 f4 b3 hb2;cases y with
   |false=>
    have HE:PH (X=false):=(by show _=_;rw[<-HXr.o];rfl);clear HXr;go_wp2_with fail;go_ret;rw[HE.o];exact⟨rfl,hb3⟩
   |true=>
    go_wp2_with fail;go_roundw;case rel=>exact⟨j+1,by go_num,by omega,by rw[<-HXr.o];rfl,hb3⟩
    case measure=>simp[intOf];omega
  ·have hlt': ¬(j:Int)<(e.kids.length:Int):=(by omega);have HE:PH (X=true):=(by show _=_;rw[<-hXr,List.drop_eq_nil_of_le (by omega)];rfl);clear hXr;go_wp2_with fail;go_ret;rw[HE.o];exact⟨rfl,hb⟩
theorem Fe: ∀(d:Nat) (e:Ex) (sl:Value) (w:World),gc B d w sl e.kids->Calls prog 93 #[exV e sl] w (uN e w):=by
 intro d;induction d with
 |zero=>
  intro e sl w hk;obtain⟨p,c,rfl⟩:=hk.form;exact ru e p c w (.inl hk.1) (by rw[hk.1];decide)
 |succ d ih=>
  intro e sl w hk;obtain⟨p,c,hsl⟩:=hk.form;subst hsl;rcases hk with⟨h,_⟩|⟨g,o,c',hg,hs,hl,hkid⟩
  ·exact ru e p c w (.inl h) (by rw[h];decide)
  ·refine ru e p c w (.inr ⟨g,o,c',hs,hl,fun j k hj=> ?_⟩) hl;obtain⟨hn',sk,c0,c1,c2,c3,c4,r⟩:=hkid j k hj;obtain⟨p',q',rfl⟩:=r.form;exact⟨p',q',c0,c1,c2,c3,c4,fun W hb=>ih k _ W (r.kept fun g' _ hl'=>hb.block g' hl')⟩
end
theorem DR: ∀(N:Nat) (e:Ex),SizeOf.sizeOf e<=N->stdE e=true->nms e=[]
 |0,e,hN,_=>by cases e;simp at hN
 |N+1,e,hN,h=>by
  rw[lO,ax (la h).2.2,List.nil_append];unfold jF;rw[List.flatten_eq_nil_iff];intro x hx;obtain⟨k,hk,rfl⟩:=dU.1 hx;exact DR N k (by have:=iR hk;omega) (BV h hk)
theorem xM: ∀(N:Nat) (e:Ex) (deep n deep' n':Nat),SizeOf.sizeOf e<=N->deep'<=deep->n'<=n->(shapeP e deep n).1=0->(shapeP e deep' n').1=0
 |0,e,_,_,_,_,hN,_,_,_=>by cases e;simp at hN
 |N+1,e,deep,n,deep',n',hN,hd,hn,h=>by
  have h0:=h;rw[kE]at h⊢;by_cases h1:600<n+1\/40<deep
  ·rw[aD h1]at h;cases h
  ·rw[ax h1]at h;rw[ax (by omega)];by_cases h2:aloneP e≠0
   ·rw[aD h2]at h;exact absurd h h2
   ·rw[ax h2]at h⊢
    have key: ∀(ks:List Ex) (m m':Nat),(∀k∈ks,SizeOf.sizeOf k<=N)->m'<=m->(gT ks (deep+1) (0,m)).1=0->(gT ks (deep'+1) (0,m')).1=0:=by
     intro ks;induction ks with
     |nil=>intro m m' _ _ _;rfl
     |cons k ks ih=>
      intro m m' hks hm hz;rw[jQ]at hz⊢;rw[ax (by simp)]at hz⊢
      have hz1:(shapeP k (deep+1) m).1=0:=by
       by_cases hq:(shapeP k (deep+1) m).1=0
       ·exact hq
       ·rw[kF hq]at hz;exact absurd hz hq
      have hz2:=xM N k (deep+1) m (deep'+1) m' (hks k bq) (by omega) hm hz1;obtain⟨a1,_⟩:=pg _ k (deep+1) m (aB _) hz1;obtain⟨a2,_⟩:=pg _ k (deep'+1) m' (aB _) hz2;rw[show shapeP k (deep+1) m=(0,m+jc k) from Prod.ext hz1 a1]at hz;rw[show shapeP k (deep'+1) m'=(0,m'+jc k) from Prod.ext hz2 a2];exact ih _ _ (fun k' hk'=>hks k' (bH _ hk')) (by omega) hz
    exact key e.kids (n+1) (n'+1) (fun k hk=>by have:=iR hk;omega) (by omega) h
def Rt (e:Ex):Prop:=(shapeP e 1 0).1=0
theorem Rt.ok {e:Ex}(h:Rt e):OKE e:=⟨1,0,h⟩
theorem Rt.kid {e k:Ex}(h:Rt e)(hk:k∈e.kids):Rt k:=by
 unfold Rt at h;rw[kE,ax (by omega)]at h;by_cases h2:aloneP e≠0
 ·rw[aD h2]at h;exact absurd h h2
 ·rw[ax h2]at h
  have key: ∀(ks:List Ex) (m:Nat),(gT ks 2 (0,m)).1=0-> ∀k∈ks,Rt k:=by
   intro ks;induction ks with
   |nil=>intro m _ k hk;cases hk
   |cons k' ks ih=>
    intro m hz k hk;rw[jQ,ax (by simp)]at hz
    have hz1:(shapeP k' 2 m).1=0:=by
     by_cases hq:(shapeP k' 2 m).1=0
     ·exact hq
     ·rw[kF hq]at hz;exact absurd hz hq
    rcases bz.1 hk with rfl|hk
    ·exact xM _ k 2 m 1 0 (aB _) (by omega) (dM _) hz1
    ·obtain⟨a1,_⟩:=pg _ k' 2 m (aB _) hz1;rw[show shapeP k' 2 m=(0,m+jc k') from Prod.ext hz1 a1]at hz;exact ih _ hz k hk
  exact key e.kids 1 h k hk
theorem Rt.nod {e:Ex}(h:Rt e):jc e<=600:=by
 have:=(pg _ e 1 0 (aB _) h).2;omega
theorem Mj {e:Ex}(h:Rt e)(hs:stdE e=true):dq [([97],e)]=(0,0):=by
 have hn:nms e=[]:=DR _ e (aB _) hs
 have hsp:fX [([97],e)] ([97],e)=[]:=by
  unfold fX;rw[show nms (([97],e):Ru).2=[] from hn];rfl
 have hi: ∀{i:Nat},i<[(([97],e):Ru)].length->i=0:=fun hi=>by simp at hi;exact hi
 refine EJ ?_ (fun i' h'=> ?_) (fun i' h'=> ?_) (fun i' h'=> ?_)
 ·unfold fW;rw[ax (by simp)]
  have hr:ruleP ([97],e)=0:=by
   unfold ruleP;rw[ax (show¬Go.Proofs.YtkfidffapdhbhaaGreatDoor.namedL [97]=false by decide)];exact h
  unfold jK;rw[ax (by simpa using hr)];rfl
 ·rw[hi h'];simp[lk1,atP5,atF]
 ·rw[hi h'];show decide (-1∈fX _ _)=false;rw[hsp];rfl
 ·rw[hi h']
  have hl:iJ [([97],e)] 0=[]:=by
   unfold iJ;show oY (fX _ _)=[]
   rw[hsp];rfl
  unfold lk3;rw[show [(([97],e):Ru)].length+1=1+1 from rfl,fol,hl];rfl
theorem Ka {e:Ex}(h:Rt e)(hs:stdE e=true):py [([97],e)] 0=(0,0)/\pK [([97],e)] 0=[mnE e]:=by
 have hc:=Mj h hs
 have hm:py [([97],e)] 0=(0,0):=by
  unfold py;rw[hc,ax (by simp),ax (by omega)]
 refine⟨hm,?_⟩;unfold pK;rw[hm,aD rfl];show [io _ _ _ 0]=_;rw[oy (by rw[hc]) (show [(([97],e):Ru)][0]? =some ([97],e) from rfl)];rw[BW (show stdE (([97],e):Ru).2=true from hs)]
theorem Mk {w:World}{g:Nat}{e:Ex}{sl:Value}{d:Nat}(h:w.heap[g]? =ah #[.string ⟨#[97]⟩,ag e.kind,ag e.a,ag e.b,.string ⟨e.name.toArray⟩,sl] 106)(hn:e.name.length<=9223372036854775807)(hk:gc (fun k=>k<w.heap.size) d w sl e.kids):InR w (.slice (some (ae g 0)) 1 1) [(([97],e),sl)]:=by
 refine⟨.inr ⟨g,0,1,rfl,by simp,fun j p hj=> ?_⟩,by simp,fun p hp=> ?_⟩
 ·match j,hj with
  |0,hj=>
   cases aN hj;exact⟨ak 0 h,ak 1 h,ak 2 h,ak 3 h,ak 4 h,ak 5 h⟩
  |j+1,hj=>simp at hj
 ·rw[bT]at hp;subst hp;exact⟨by simp,hn,d,hk⟩
theorem CZ (d:Nat)(e:Ex)(sl:Value)(w:World)(hr:Rt e)(hs:stdE e=true)(hn:e.name.length<=9223372036854775807)(hk:gc (fun k=>k<w.heap.size) d w sl e.kids):
  Calls prog 96 #[exV e sl] w fun r w'=>r= .returned (.agg (mv (mnE e)))/\aq w w':=by
 obtain⟨p,c,hsl⟩:=hk.form;subst hsl;unfold exV;have hz:=eG;have bA:=am w (.cells #[ag e.kind,ag e.a,ag e.b,.string ⟨e.name.toArray⟩,.slice p e.kids.length c] 104);have nA:=aE w (.cells #[ag e.kind,ag e.a,ag e.b,.string ⟨e.name.toArray⟩,.slice p e.kids.length c] 104);generalize hwA:w.alloc (.cells #[ag e.kind,ag e.a,ag e.b,.string ⟨e.name.toArray⟩,.slice p e.kids.length c] 104)=wA at*;have bB:=am wA (.cells (mv fun _=>false) 86);have nB:=aE wA (.cells (mv fun _=>false) 86);have nA1:=ai bB nA;obtain⟨gB,hgB⟩:=au wA.heap.size;generalize hwB:wA.alloc (.cells (mv fun _=>false) 86)=wB at*;rw[hgB]at nB;have bC:=am wB (.cells #[.string ⟨#[97]⟩,ag e.kind,ag e.a,ag e.b,.string ⟨e.name.toArray⟩,.slice p e.kids.length c] 106);have nC:=aE wB (.cells #[.string ⟨#[97]⟩,ag e.kind,ag e.a,ag e.b,.string ⟨e.name.toArray⟩,.slice p e.kids.length c] 106);generalize hwC:wB.alloc (.cells #[.string ⟨#[97]⟩,ag e.kind,ag e.a,ag e.b,.string ⟨e.name.toArray⟩,.slice p e.kids.length c] 106)=wC at*;have bAC:aq w wC:=bA.trans ((aw bB bC).mono bA.size);have nB2:=ai bC nB;have hlow:w.heap.size<=gB:=by rw[<-hgB];exact bA.size
 have hin:=Mk (d:=d) nC hn ((hk.kept fun g _ hl=>bAC.block g hl).mono fun g hg=>aT hg bAC.size);have cM:=J5 _ _ 0 wC hin;obtain⟨e1,e2⟩:=Ka hr hs;unfold xJ at cM;simp only[dH,ff]at cM;rw[e1,e2]at cM;clear hin hk e1 e2 bA bB bC nA nC;go_enter func96,ntmps96
 go_wp2_with(first
  |(refine aQ rfl 104 _ rfl _ rfl _ _ _ _ nA1 fc rfl (by kernel_rfl) ?_))
 refine cM.mono ?_;rintro r w3 ⟨v3,rfl,hrow,b3⟩;obtain⟨p3,c3,hv3,hb3,hrg⟩:=hrow;subst hv3;obtain⟨g3,o3,hp3,hr3⟩:=hrg 0 (mnE e) rfl;subst hp3;have hbw:=aw bAC b3;have nB3:=ai b3 nB2;simp only[Nat.zero_mul,Nat.add_zero]at hr3;have hl1:[mnE e].length=1:=rfl;rw[hl1];generalize hz0:((0:Nat):Int)=iz;have hz1:iz=0:=hz0.symm.trans rfl;subst hz1;clear hz0;have bD:=am w3 (.cells #[ag 0,ag 0] 95);have nD:=aE w3 (.cells #[ag 0,ag 0] 95);have nB4:=ai bD nB3;have hr4:(w3.alloc (.cells #[ag 0,ag 0] 95)).rangeAt g3 o3 (mv (mnE e)).toList:=World.rangeAt_alloc hr3 _;have hbx:=aw hbw bD;generalize hwD:w3.alloc (.cells #[ag 0,ag 0] 95)=wD at*;have bE:=below_setRow (aI w3.heap.size wD) (aB _) #[ag 0,ag 0];have hgl:=aH nB3;have nB4e:=(bE.block _ hgl).trans nB4;have hr5:(wD.setRow w3.heap.size #[ag 0,ag 0]).rangeAt g3 o3 (mv (mnE e)).toList:=fun j u hj=>(bE.cell (bP (hr3 j u hj))).trans (hr4 j u hj);have hbe:=hbx.trans (bE.mono (bf hbw.size (aB _)));generalize hwE:wD.setRow w3.heap.size #[ag 0,ag 0]=wE at*;have nB5:=aL _ _ _ (mv (mnE e)) _ _ nB4e;have hbz:=below_setRow hbe hlow (mv (mnE e));clear cM hbw hbx bAC b3 bD nB2 nB3 hr3 hrg bE hr4 nB4 hbe
 go_wp2_with(first
  |(refine ay rfl 95 _ _ rfl _ _ rfl rfl _ _ nD (by kernel_rfl) (by simp) (by simp[Value.oneCell']) ?_;rw[hwE])
  |(refine tC rfl _ rfl g3 o3 rfl (mnE e) hr5 ?_)
  |(refine ay rfl 86 _ _ rfl _ _ rfl rfl _ _ nB4e (bh _) (by simp[bO]) (dR _) ?_))
 refine aW (v:= .agg (mv (mnE e))) ?_ rfl ⟨rfl,hbz⟩;exact bc rfl _ _ gB _ _ _ _ rfl nB5 bV rfl (bh _)
def ia (w:World)(v:Value)(l:List (Int×Int)):Prop:=(l=[]/\ ∃p c,v= .slice p 0 c)\/ ∃(g c:Nat) (cur:Array Value),v= .slice (some (ae g 0)) l.length c/\l.length<9223372036854775808/\w.heap[g]? =ah cur 89/\cur.toList.take (l.length*2)=iT l
theorem ia.nil (w:World)(p:Option Addr)(c:Nat):ia w (.slice p 0 c) []:= .inl ⟨rfl,p,c,rfl⟩
theorem ia.form {w:World}{v:Value}{l:List (Int×Int)}(h:ia w v l): ∃p n c,v= .slice p n c:=by
 rcases h with⟨_,p,c,e⟩|⟨g,c,cur,e,_⟩
 ·exact⟨p,0,c,e⟩
 ·exact⟨_,_,c,e⟩
theorem ia.of_own {w:World}{base:Nat}{v:Value}{l:List (Int×Int)}(h:w.ownsRow base 89 2 v l.length (iT l)):ia w v l:=by
 rcases h.2 with⟨e,e2⟩|⟨g,cap,cur,e,hb,hg,hn,hc,hs,hx⟩
 ·exact .inl ⟨gM e2,none,0,by rw[e]⟩
 ·exact .inr ⟨g,cap,cur,e,by unfold maxLen at hc;omega,hg,hx⟩
def Fr (gm:Nat)(w w':World):Prop:= ∀(q:Nat) (c:Array Value) (T:TypeId),w.heap[q]? =ah c T->T≠179->q≠gm->w'.heap[q]? =ah c T
theorem Fr.trans {gm:Nat}{w w' w'':World}(h:Fr gm w w')(h':Fr gm w' w''):Fr gm w w'':=fun q c T hq hT hne=>h' q c T (h q c T hq hT hne) hT hne
theorem Fr.below {gm:Nat}{w w':World}(hb:aq w w'):Fr gm w w':=fun _ _ _ hq _ _=>ai hb hq
theorem ia.fr {gm:Nat}{w w':World}{v:Value}{l:List (Int×Int)}(h:ia w v l){cw:Array Value}(hg:w.heap[gm]? =ah cw 139)(hf:Fr gm w w'):ia w' v l:=by
 rcases h with h|⟨g,c,cur,e,hl,hb,hx⟩
 ·exact .inl h
 ·refine .inr ⟨g,c,cur,e,hl,hf g _ _ hb (by decide) (fun q=> ?_),hx⟩;subst q;rw[hg]at hb;injection hb with hb;injection hb with _ h2 _;exact absurd h2 (by decide)
theorem ia.below {w w':World}{v:Value}{l:List (Int×Int)}(h:ia w v l)(hb:aq w w'):ia w' v l:=by
 rcases h with h|⟨g,c,cur,e,hl,hg,hx⟩
 ·exact .inl h
 ·exact .inr ⟨g,c,cur,e,hl,ai hb hg,hx⟩
structure WOk (w0:World)(gm:Nat)(mp:Value)(S:List (In×Value))(W:World):Prop where
 st:WsC w0 gm mp S W
 sp: ∀u∈S,ia W u.2 u.1.sp
theorem WOk.below {w0 W W':World}{gm:Nat}{mp:Value}{S:List (In×Value)}(h:WOk w0 gm mp S W)(hb:aq W W'):WOk w0 gm mp S W':=
 ⟨h.st.below hb,fun u hu=>(h.sp u hu).below hb⟩
def nJ (w0:World)(gm:Nat)(mp:Value)(S:List (In×Value))(c:List In)(W:World)(r:Ending)(W':World):Prop:=r= .returned (.tuple #[])/\ ∃S',S'.map (fun u=>u.1)=c/\WOk w0 gm mp (S++S') W'/\Fr2 gm W W'
theorem Fr2.fr {w0 W W':World}{gm:Nat}{mp:Value}{S:List (In×Value)}(h:WsC w0 gm mp S W)(hf:Fr2 gm W W'):Fr gm W W':=fun q c T hq hT hne=>by
 obtain⟨_,_,sv,hg,own⟩:=h;refine(hf.blk q (aH hq) hne ?_).trans hq;rw[oB hg];exact fun e=>kj own hq hT e.symm
theorem uO {w0 W:World}{gm:Nat}{mp:Value}{S:List (In×Value)}(h:WOk w0 gm mp S W)(x:In)(v:Value)(hv:ia W v x.sp)(hS:S.length<=1000):
  Calls prog 94 #[ab gm 0,.agg #[ag x.op,ag x.a,ag x.b,ag x.to,v]] W fun e W'=>e= .returned (.tuple #[])/\WOk w0 gm mp (S++[(x,v)]) W'/\Fr2 gm W W':=by
 obtain⟨_,_,sv,hg,_⟩:=id h.st;refine(J8 w0 gm mp S (x,v) W h.st hS hv.form).mono fun e W' ⟨he,h1,h2,h3⟩=>⟨he,⟨h1,fun u hu=> ?_⟩,h3⟩
 rcases bU.1 hu with hu|hu
 ·exact(h.sp u hu).fr hg h2
 ·rw[bT]at hu;subst hu;exact hv.fr hg h2
def Ff (w0:World)(gm:Nat)(mp:Value)(l:List Ru)(k:Ex)(sk:Value):Prop:= ∀(S:List (In×Value)) (W:World),WOk w0 gm mp S W->S.length+jc k<=700->Calls prog 69 #[ab gm 0,exV k sk] W (nJ w0 gm mp S (bL (atP5 l) k S.length) W)
theorem qD (S S':List (In×Value)):jr (S++S')=jr S++jr S':=by unfold jr;rw[fw]
theorem zZ (S S':List (In×Value))(x:In)(v:Value)(t:Int):(jr (S++((x,v)::S'))).set (S.length*5+3) (ag t)=jr (S++(({x with to:=t},v)::S')):=by
 rw[qD,qD,List.set_append_right _ _ (by rw[ph];omega),ph,Nat.add_sub_cancel_left];rfl
theorem NR {W:World}{base g n c:Nat}{S S':List (In×Value)}{x:In}{v:Value}(t:Int)(h:W.ownsRow base 179 5 (.slice (some (ae g 0)) n c) n (jr (S++((x,v)::S')))):(W.setCell ⟨g,S.length*5+3,none⟩ (ag t)).ownsRow base 179 5 (.slice (some (ae g 0)) n c) n (jr (S++(({x with to:=t},v)::S'))):=by
 obtain⟨h1,h2⟩:=h;rcases h2 with⟨e,_⟩|⟨g',cap,cur,e,hb,hg,hn,hc,hs,hx⟩
 ·cases e
 ·injection e with e1 _ e3;injection e1 with e1;injection e1 with e1 _ _;subst e1 e3;refine⟨by rw[<-zZ,jz];exact h1,.inr ⟨g,c,cur.setIfInBounds (S.length*5+3) (ag t),rfl,hb,aY W g _ _ _ _ hg,hn,hc,by rw[gS];exact hs,?_⟩⟩;rw[Array.toList_setIfInBounds,List.take_set,hx,zZ]
theorem WOk.lt {w0 W:World}{gm:Nat}{mp:Value}{S:List (In×Value)}(h:WOk w0 gm mp S W):gm<W.heap.size:=by
 obtain⟨_,_,sv,hg,_⟩:=h.st;exact aH hg
section
def upI (f:Nat->Int)(i:Nat)(v:Int):Nat->Int:=fun k=>if k=i then v else f k
theorem iU (f:Nat->Int)(i:Nat)(v:Int):upI f i v i=v:=by unfold upI;rw[aD rfl]
theorem xN (f:Nat->Int){i k:Nat}(v:Int)(h:k≠i):upI f i v k=f k:=by unfold upI;rw[ax h]
def fC (go n:Nat)(sv:Nat->Value)(H T:Nat->Int)(w:World):Prop:= ∃cur:Array Value,w.heap[go]? =ah cur 142/\cur.size=n*3/\ ∀i,i<n->cur[i*3]? =some (sv i)/\cur[i*3+1]? =some (ag (H i))/\cur[i*3+2]? =some (ag (T i))
section
variable {go n:Nat} {sv:Nat->Value} {H T:Nat->Int} {w w':World}
theorem fC.cells (h:fC go n sv H T w){i:Nat}(hi:i<n):w.cell? (ae go (i*3))=some (sv i)/\w.cell? (ae go (i*3+1))=some (ag (H i))/\w.cell? (ae go (i*3+2))=some (ag (T i))/\w.frozen? (ae go (i*3+1))=false/\w.frozen? (ae go (i*3+2))=false:=by
 obtain⟨cur,hg,_,hc⟩:=h;obtain⟨c0,c1,c2⟩:=hc i hi;exact⟨(aZ _ _ _ _ _ _ hg).trans c0,(aZ _ _ _ _ _ _ hg).trans c1,(aZ _ _ _ _ _ _ hg).trans c2,bl _ _ _ _ _ hg,bl _ _ _ _ _ hg⟩
theorem fC.lt (h:fC go n sv H T w):go<w.heap.size:=by
 obtain⟨cur,hg,_⟩:=h;exact aH hg
theorem fC.same (h:fC go n sv H T w)(e:w'.heap[go]? =w.heap[go]?):fC go n sv H T w':=by
 obtain⟨cur,hg,r⟩:=h;exact⟨cur,e.trans hg,r⟩
theorem fC.below (h:fC go n sv H T w)(hb:aq w w'):fC go n sv H T w':=h.same (hb.block _ h.lt)
theorem fC.setH (h:fC go n sv H T w){i:Nat}(v:Int)(hi:i<n):fC go n sv (upI H i v) T (w.setCell ⟨go,i*3+1,none⟩ (ag v)):=by
 obtain⟨cur,hg,hs,hc⟩:=h;refine⟨_,aY w go (i*3+1) _ _ _ hg,by rw[gS];exact hs,fun k hk=> ?_⟩;obtain⟨c0,c1,c2⟩:=hc k hk;refine⟨?_,?_,?_⟩
 ·rw[dm (by omega)];exact c0
 ·by_cases e:k=i
  ·subst e;rw[iU,gy (by omega)]
  ·rw[xN _ _ e,dm (by omega)];exact c1
 ·rw[dm (by omega)];exact c2
theorem fC.setT (h:fC go n sv H T w){i:Nat}(v:Int)(hi:i<n):fC go n sv H (upI T i v) (w.setCell ⟨go,i*3+2,none⟩ (ag v)):=by
 obtain⟨cur,hg,hs,hc⟩:=h;refine⟨_,aY w go (i*3+2) _ _ _ hg,by rw[gS];exact hs,fun k hk=> ?_⟩;obtain⟨c0,c1,c2⟩:=hc k hk;refine⟨?_,?_,?_⟩
 ·rw[dm (by omega)];exact c0
 ·rw[dm (by omega)];exact c1
 ·by_cases e:k=i
  ·subst e;rw[iU,gy (by omega)]
  ·rw[xN _ _ e,dm (by omega)];exact c2
end
theorem iD (w:World)(g i:Nat)(v:Value):bo g w (w.setCell ⟨g,i,none⟩ v):=bo.set w g i v
def jY (w:World)(v:Value)(S:List (In×Value)):Prop:=w.ownsRow 0 179 5 v S.length (jr S)
theorem jY.below {w w':World}{v:Value}{S:List (In×Value)}(h:jY w v S)(hb:aq w w'):jY w' v S:=il h hb
theorem jY.kept {w w':World}{v:Value}{S:List (In×Value)}{go n:Nat}{sv:Nat->Value}{H T:Nat->Int}(h:jY w v S)(hm:fC go n sv H T w)(hk:bo go w w'):jY w' v S:=by
 obtain⟨cur,hg,_⟩:=hm;exact World.ownsRow.kept h hk (.inr fun e=>kj h hg (by decide) e.symm)
theorem jY.form {w:World}{v:Value}{S:List (In×Value)}(h:jY w v S)(h1:1<=S.length): ∃g c,v= .slice (some (ae g 0)) S.length c/\ ∀(j:Nat) (u:In×Value),S[j]? =some u->
  w.cell? (ae g (j*5))=some (ag u.1.op)/\w.cell? (ae g (j*5+1))=some (ag u.1.a)/\w.cell? (ae g (j*5+2))=some (ag u.1.b)/\w.cell? (ae g (j*5+3))=some (ag u.1.to)/\w.cell? (ae g (j*5+4))=some u.2:=by
 rcases h.2 with⟨_,e⟩|⟨g,cap,cur,e,_,hg,_,_,_,hx⟩
 ·omega
 ·refine⟨g,cap,e,fun j u hj=> ?_⟩;have hjl:=(aF.1 hj).1
  have key: ∀(i:Nat) (v:Value),i<5->(iv u).toList[i]? =some v->w.cell? (ae g (j*5+i))=some v:=fun i v hi hv=>by
   refine(aZ _ _ _ _ _ _ hg).trans ?_;have e1:(cur.toList.take (S.length*5))[j*5+i]? =(jr S)[j*5+i]? :=(by rw[hx]);rw[dI (by omega)]at e1;rw[<-bp,e1]
   have e2:S=S.take j++(u::S.drop (j+1)):=by
    conv=>lhs;rw[<-gL j S]
    congr 1;rw[bv hjl,(aF.1 hj).2]
   rw[e2,qD,dh (by rw[ph,eD];omega),ph,eD,fj (by omega),Nat.add_sub_cancel_left];show((iv u).toList++jr (S.drop (j+1)))[i]? =_;rw[du (by rw[DQ];exact hi)];exact hv
  exact⟨key 0 _ (by omega) rfl,key 1 _ (by omega) rfl,key 2 _ (by omega) rfl,key 3 _ (by omega) rfl,key 4 _ (by omega) rfl⟩
def Me (mea:Nat->Int×Int)(H T:Nat->Int)(k:Nat):Prop:=H k=(mea k).1/\T k=(mea k).2
def Okm (mea:Nat->Int×Int)(H T:Nat->Int)(k:Nat):Prop:=(H k=0/\T k=0)\/Me mea H T k
def lq (mea:Nat->Int×Int)(ρ:Nat->Nat)(n i:Nat)(H0 T0 H T:Nat->Int):Prop:= ∀k,k<n->k≠i->(ρ k<=ρ i->Okm mea H T k/\(Me mea H0 T0 k->Me mea H T k))/\(ρ i<ρ k->H k=H0 k/\T k=T0 k)
section
variable {mea:Nat->Int×Int} {ρ:Nat->Nat} {n i k0:Nat} {H0 T0 H T H' T':Nat->Int}
theorem lq.refl (h: ∀k,k<n->ρ k<=ρ i->Okm mea H0 T0 k):lq mea ρ n i H0 T0 H0 T0:=fun k hk _=>⟨fun hr=>⟨h k hk hr,id⟩,fun _=>⟨rfl,rfl⟩⟩
theorem lq.setH (h:lq mea ρ n i H0 T0 H T)(v:Int):lq mea ρ n i H0 T0 (upI H i v) T:=fun k hk hne=>by
 have:=h k hk hne;unfold Okm Me at this⊢;rw[xN _ _ hne];exact this
theorem lq.setT (h:lq mea ρ n i H0 T0 H T)(v:Int):lq mea ρ n i H0 T0 H (upI T i v):=fun k hk hne=>by
 have:=h k hk hne;unfold Okm Me at this⊢;rw[xN _ _ hne];exact this
theorem lq.pre (h:lq mea ρ n i H0 T0 H T)(hr:ρ k0<ρ i): ∀k,k<n->ρ k<=ρ k0->Okm mea H T k:=fun k hk hk0=>((h k hk (fun e=>by subst e;omega)).1 (by omega)).1
theorem lq.call (h:lq mea ρ n i H0 T0 H T)(hr:ρ k0<ρ i)(hi:i<n)(hm:Me mea H' T' k0)(h':lq mea ρ n k0 H T H' T'):lq mea ρ n i H0 T0 H' T'/\H' i=H i/\T' i=T i:=by
 refine⟨fun k hk hne=>⟨fun hri=> ?_,fun hri=> ?_⟩,(h' i hi (fun e=>by subst e;omega)).2 hr⟩
 ·by_cases e:k=k0
  ·subst e;exact⟨.inr hm,fun _=>hm⟩
  ·have a:=(h k hk hne).1 hri;by_cases hle:ρ k<=ρ k0
   ·have b:=(h' k hk e).1 hle;exact⟨b.1,fun q=>b.2 (a.2 q)⟩
   ·have b:=(h' k hk e).2 (by omega);unfold Okm Me at a⊢;rw[b.1,b.2];exact a
 ·have e:k≠k0:=fun e=>by subst e;omega
  have a:=(h k hk hne).2 hri;have b:=(h' k hk e).2 (by omega);exact⟨b.1.trans a.1,b.2.trans a.2⟩
end
def vV (mea:Nat->Int×Int)(ρ:Nat->Nat)(go n:Nat)(sv:Nat->Value)(i:Nat)(H0 T0:Nat->Int)(w:World)(r:Ending)(w':World):Prop:=r= .returned (.agg #[sv i,ag (mea i).1,ag (mea i).2])/\ ∃H' T',fC go n sv H' T' w'/\Me mea H' T' i/\lq mea ρ n i H0 T0 H' T'/\bo go w w'
theorem Aa:prog.underlying 142=some (.struct (prog.fieldsOf 142)):=by kernel_rfl
end
end Go.Proofs.YtkfidffapdhbhaaGreatDoor
