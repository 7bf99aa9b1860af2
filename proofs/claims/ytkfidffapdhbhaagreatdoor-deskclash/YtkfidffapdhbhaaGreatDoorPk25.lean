/- Texts of the proof. -/
import Derived.Test.YtkfidffapdhbhaaGreatDoorPk12
import Derived.Test.YtkfidffapdhbhaaGreatDoorPk24
open Go.Proofs.Tryz
set_option maxRecDepth 100000
set_option maxHeartbeats 8000000
namespace Go.Proofs.YtkfidffapdhbhaaGreatDoor
section
open Go.RowKit Lx Vx Msk
def stdE (e:Ex):Bool:= !(decide (e.kind=4)||decide (e.kind=5)||decide (e.kind=10))&&e.kids.attach.all fun k=>stdE k.1
 termination_by SizeOf.sizeOf e
 decreasing_by exact iC k.2
theorem ry (e:Ex):stdE e=(!(decide (e.kind=4)||decide (e.kind=5)||decide (e.kind=10))&&e.kids.all stdE):=by
 rw[stdE];congr 1;rw[Bool.eq_iff_iff,dr,dr];exact⟨fun h k hk=>h ⟨k,hk⟩ (List.mem_attach _ _),fun h k _=>h k.1 k.2⟩
theorem kK {e:Ex}(h:stdE e=true):e.kind≠4/\e.kind≠5/\e.kind≠10:=by
 rw[ry,bv]at h;have h1:=h.1;refine⟨fun e=> ?_,fun e=> ?_,fun e=> ?_⟩<;>simp[e]at h1
theorem Bn {e k:Ex}(h:stdE e=true)(hk:k∈e.kids):stdE k=true:=by
 rw[ry,bv,dr]at h;exact h.2 k hk
theorem GM {e:Ex}(h:e.kids=[])(h4:e.kind≠4)(h5:e.kind≠5)(h10:e.kind≠10):stdE e=true:=by
 rw[ry,h];simp[h4,h5,h10]
def mnE (e:Ex):Nat->Bool:=fc (fun _=>false) 0 (fun _=>nev) e
theorem C9 (wk:Int->Bool)(day:Int)(env:List UInt8->Nat->Bool): ∀(N:Nat) (e:Ex),SizeOf.sizeOf e<=N->stdE e=true->fc wk day env e=mnE e
 |0,e,hN,_=>by cases e;simp at hN
 |N+1,e,hN,h=>by
  unfold mnE;rw[jh,jh];have hk:e.kids.map (fc wk day env)=e.kids.map (fc (fun _=>false) 0 (fun _=>nev)):=List.map_congr_left fun k hk=>C9 wk day env N k (by have:=iC hk;omega) (Bn h hk);rw[hk];obtain⟨h4,h5,h10⟩:=kK h;unfold mf;simp only[au h4,au h5,au h10]
theorem Bo {e:Ex}(h:stdE e=true)(wk:Int->Bool)(day:Int)(env:List UInt8->Nat->Bool):fc wk day env e=mnE e:=C9 wk day env _ e (az _) h
def jM:List (Nat->List In)->Nat->List In
 |[],_=>[]
 |f::fs,b=>f b++jM fs (b+(f b).length)
def noC:Nat->List In:=fun _=>[]
def opK (k:Int):Int:=if k=9 then 5 else if k=6 then 2 else if k=7 then 3 else 4
def rY (num:List UInt8->Int)(e:Ex)(kc:List (Nat->List In))(b:Nat):List In:=
 if stdE e=true then [⟨1,0,0,0,rs (mnE e) 1440⟩]
 else if e.kind=10 then [⟨8,num e.name,0,0,[]⟩]
 else if e.kind=4 then⟨6,e.a,0,((b+1+((kc.getD 0 noC) (b+1)).length:Nat):Int),[]⟩::(kc.getD 0 noC) (b+1)
 else if e.kind=5 then⟨7,e.a,e.b,((b+1+((kc.getD 0 noC) (b+1)).length:Nat):Int),[]⟩::(kc.getD 0 noC) (b+1)
 else jM kc b++[⟨opK e.kind,if e.kind=9 then e.a else 0,0,0,[]⟩]
def bK (num:List UInt8->Int)(e:Ex)(b:Nat):List In:=rY num e (e.kids.attach.map fun k=>fun b'=>bK num k.1 b') b
 termination_by SizeOf.sizeOf e
 decreasing_by exact iC k.2
theorem qd (num:List UInt8->Int)(e:Ex)(b:Nat):bK num e b=rY num e (e.kids.map (bK num)) b:=by
 rw[bK];congr 1;have h:=congrArg (List.map (bK num)) (gW e.kids);rw[jA]at h;exact h
theorem nL {num:List UInt8->Int}{e:Ex}(h:stdE e=true)(b:Nat):bK num e b=[⟨1,0,0,0,rs (mnE e) 1440⟩]:=by
 rw[qd];unfold rY;rw[ay h]
theorem oF {num:List UInt8->Int}{e:Ex}(hk:e.kind=10)(b:Nat):bK num e b=[⟨8,num e.name,0,0,[]⟩]:=by
 rw[qd];unfold rY;rw[au (fun h=>(kK h).2.2 hk),ay hk]
theorem oG {num:List UInt8->Int}{e k:Ex}(hk:e.kind=4)(h0:e.kids[0]? =some k)(b:Nat):bK num e b=⟨6,e.a,0,((b+1+(bK num k (b+1)).length:Nat):Int),[]⟩::bK num k (b+1):=by
 rw[qd];have e0:(e.kids.map (bK num)).getD 0 noC=bK num k:=by simp[List.getD,h0]
 unfold rY;rw[au (fun h=>(kK h).1 hk),au (by omega),ay hk,e0]
theorem mL {num:List UInt8->Int}{e k:Ex}(hk:e.kind=5)(h0:e.kids[0]? =some k)(b:Nat):bK num e b=⟨7,e.a,e.b,((b+1+(bK num k (b+1)).length:Nat):Int),[]⟩::bK num k (b+1):=by
 rw[qd];have e0:(e.kids.map (bK num)).getD 0 noC=bK num k:=by simp[List.getD,h0]
 unfold rY;rw[au (fun h=>(kK h).2.1 hk),au (by omega),au (by omega),ay hk,e0]
theorem nN {num:List UInt8->Int}{e:Ex}(h:stdE e=false)(h4:e.kind≠4)(h5:e.kind≠5)(h10:e.kind≠10)(b:Nat):bK num e b=jM (e.kids.map (bK num)) b++[⟨opK e.kind,if e.kind=9 then e.a else 0,0,0,[]⟩]:=by
 rw[qd];unfold rY;rw[au (by rw[h];simp),au h10,au h4,au h5]
theorem Jh {e:Ex}(h:e.kids.length=2): ∃k m,e.kids=[k,m]:=by
 match hk:e.kids with
 |[]=>rw[hk]at h;cases h
 |[_]=>rw[hk]at h;cases h
 |[k,m]=>exact⟨k,m,rfl⟩
 |_::_::_::_=>rw[hk]at h;simp at h
theorem Lq {e:Ex}(h:e.kids.length=1): ∃k,e.kids=[k]:=by
 match hk:e.kids with
 |[]=>rw[hk]at h;cases h
 |[k]=>exact⟨k,rfl⟩
 |_::_::_=>rw[hk]at h;simp at h
theorem o6 {num:List UInt8->Int}{e k:Ex}(h:stdE e=false)(hk:e.kind=9)(h0:e.kids=[k])(b:Nat):bK num e b=bK num k b++[⟨5,e.a,0,0,[]⟩]:=by
 rw[nN h (by omega) (by omega) (by omega),h0];simp only[dD,eY,jM,iA];unfold opK;rw[ay hk,ay hk]
theorem qz {num:List UInt8->Int}{e k m:Ex}(h:stdE e=false)(hk:e.kind=6\/e.kind=7\/e.kind=8)(h0:e.kids=[k,m])(b:Nat):bK num e b=(bK num k b++bK num m (b+(bK num k b).length))++[⟨opK e.kind,0,0,0,[]⟩]:=by
 rw[nN h (by omega) (by omega) (by omega),h0];simp only[dD,eY,jM,iA];rw[au (by omega)]
theorem mM {e:Ex}(h:OKE e)(hs:stdE e=false):(e.kind=4/\ ∃k,e.kids=[k])\/(e.kind=5/\ ∃k,e.kids=[k])\/(e.kind=9/\ ∃k,e.kids=[k])\/e.kind=10\/((e.kind=6\/e.kind=7\/e.kind=8)/\ ∃k m,e.kids=[k,m]):=by
 obtain⟨h1,h2,h3,_,_⟩:=h.kinds;unfold kidsP at h3;by_cases q:e.kind=4\/e.kind=5\/e.kind=9
 ·rw[ay q]at h3;obtain⟨k,hk⟩:=Lq h3;rcases q with q|q|q
  ·exact .inl ⟨q,k,hk⟩
  ·exact .inr (.inl ⟨q,k,hk⟩)
  ·exact .inr (.inr (.inl ⟨q,k,hk⟩))
 ·rw[au q]at h3;by_cases q2:e.kind=6\/e.kind=7\/e.kind=8
  ·rw[ay q2]at h3;obtain⟨k,m,hk⟩:=Jh h3;exact .inr (.inr (.inr (.inr ⟨q2,k,m,hk⟩)))
  ·rw[au q2]at h3;by_cases q3:e.kind=10
   ·exact .inr (.inr (.inr (.inl q3)))
   ·have:=GM (gS.1 h3) (by omega) (by omega) q3;rw[hs]at this;cases this
theorem yV: ∀(l:List (Int×Int)) (last:Int),good last 1440 l->risL l last=true
 |[],_,_=>rfl
 |s::l,last,⟨h1,h2,h3,h4⟩=>by
  unfold risL;rw[au (by omega)];exact yV l s.2 h4
theorem Lr (f:Nat->Bool):risL (rs f 1440) (-1)=true:=yV _ _ (C5 f 1440).good
def iM (e:Ex):Nat:=1+(e.kids.attach.map fun k=>iM k.1).sum
 termination_by SizeOf.sizeOf e
 decreasing_by exact iC k.2
theorem lM (e:Ex):iM e=1+(e.kids.map iM).sum:=by
 rw[iM];congr 2;have h:=congrArg (List.map iM) (gW e.kids);rw[jA]at h;exact h
theorem Bp (e:Ex):1<=iM e:=by rw[lM];omega
theorem lB (num:List UInt8->Int): ∀(N:Nat) (e:Ex),SizeOf.sizeOf e<=N->OKE e-> ∀b,1<=(bK num e b).length/\(bK num e b).length<=iM e
 |0,e,hN,_,_=>by cases e;simp at hN
 |N+1,e,hN,h,b=>by
  have hn:=lM e;cases hs:stdE e with
  |true=>
   rw[nL hs];exact⟨by simp,by simpa using Bp e⟩
  |false=>
   have ih: ∀k∈e.kids,∀b,1<=(bK num k b).length/\(bK num k b).length<=iM k:=fun k hk b=>lB num N k (by have:=iC hk;omega) (h.kid hk) b;rcases mM h hs with⟨q,k,hk⟩|⟨q,k,hk⟩|⟨q,k,hk⟩|q|⟨q,k,m,hk⟩
   ·rw[oG q (by rw[hk];rfl)];have:=ih k (by rw[hk];simp) (b+1);rw[hk]at hn;simp only[dD,eY,iJ,List.sum_nil]at hn;rw[bz];omega
   ·rw[mL q (by rw[hk];rfl)];have:=ih k (by rw[hk];simp) (b+1);rw[hk]at hn;simp only[dD,eY,iJ,List.sum_nil]at hn;rw[bz];omega
   ·rw[o6 hs q hk];have:=ih k (by rw[hk];simp) b;rw[hk]at hn;simp only[dD,eY,iJ,List.sum_nil]at hn;rw[aN,dL];omega
   ·rw[oF q];exact⟨by simp,by simpa using Bp e⟩
   ·rw[qz hs q hk];have h1:=ih k (by rw[hk];simp) b;have h2:=ih m (by rw[hk];simp) (b+(bK num k b).length);rw[hk]at hn;simp only[dD,eY,iJ,List.sum_nil]at hn;rw[aN,aN,dL];omega
theorem oH: ∀(N:Nat) (e:Ex) (deep n:Nat),SizeOf.sizeOf e<=N->(shapeP e deep n).1=0->(shapeP e deep n).2=n+iM e/\n+iM e<=600
 |0,e,_,_,hN,_=>by cases e;simp at hN
 |N+1,e,deep,n,hN,h=>by
  rw[jR]at h⊢;by_cases h1:600<n+1\/40<deep
  ·rw[ay h1]at h;cases h
  ·rw[au h1]at h⊢;by_cases h2:aloneP e≠0
   ·rw[ay h2]at h;exact absurd h h2
   ·rw[au h2]at h⊢
    have key: ∀(ks:List Ex) (m:Nat),(∀k∈ks,SizeOf.sizeOf k<=N)->m<=600->(gF ks (deep+1) (0,m)).1=0->(gF ks (deep+1) (0,m)).2=m+(ks.map iM).sum/\m+(ks.map iM).sum<=600:=by
     intro ks;induction ks with
     |nil=>intro m _ hm _;exact⟨by simp[gF],by simpa using hm⟩
     |cons k ks ih=>
      intro m hks hm hz;rw[jw]at hz⊢;rw[au (by simp)]at hz⊢
      have hz1:(shapeP k (deep+1) m).1=0:=by
       by_cases hq:(shapeP k (deep+1) m).1=0
       ·exact hq
       ·rw[jS hq]at hz;exact absurd hz hq
      obtain⟨a1,a2⟩:=oH N k (deep+1) m (hks k bo) hz1;have e1:shapeP k (deep+1) m=(0,m+iM k):=Prod.ext hz1 a1;rw[e1]at hz⊢;obtain⟨b1,b2⟩:=ih (m+iM k) (fun k' hk'=>hks k' (bx _ hk')) a2 hz;rw[dD,iJ];exact⟨by rw[b1];omega,by omega⟩
    obtain⟨a,b⟩:=key e.kids (n+1) (fun k hk=>by have:=iC hk;omega) (by omega) h;rw[lM];exact⟨by rw[a];omega,by omega⟩
end
section
open Go.RowKit Lx Vx Msk
def jK (l:List In)(b:Nat)(c:List In):Prop:= ∀j,j<c.length->l[b+j]? =c[j]?
theorem jK.left {l:List In}{b:Nat}{c d:List In}(h:jK l b (c++d)):jK l b c:=fun j hj=>by
 rw[h j (by rw[aN];omega),dI hj]
theorem jK.right {l:List In}{b:Nat}{c d:List In}(h:jK l b (c++d)):jK l (b+c.length) d:=fun j hj=>by
 have:=h (c.length+j) (by rw[aN];omega);rw[dt (by omega),Nat.add_sub_cancel_left,<-Nat.add_assoc]at this;exact this
theorem jK.one {l:List In}{b:Nat}{x:In}{d:List In}(h:jK l b (x::d)):l[b]? =some x:=by
 have:=h 0 (by simp);simpa using this
theorem jK.tail {l:List In}{b:Nat}{x:In}{d:List In}(h:jK l b (x::d)):jK l (b+1) d:=jK.right (c:=[x]) h
structure jj (l:List In)(b n R N:Nat):Prop where
 fin:hAt l (b+n)=hAt l b+1
 tk: ∀j x,b<=j->j<b+n->l[j]? =some x->Vx.tk x+hAt l b<=hAt l j
 to: ∀j x,b<=j->j<b+n->l[j]? =some x->isG x->hAt l x.to.toNat=hAt l j+1
 ins: ∀j x,b<=j->j<b+n->l[j]? =some x->fB x j N R=0
theorem NN {x:In}(ho:x.op=1)(h:risL x.sp (-1)=true)(j N R:Nat):fB x j N R=0:=by
 unfold fB;rw[au (by omega),ay ho,ay h]
theorem Ls {x:In}(ho:x.op=2\/x.op=3\/x.op=4)(j N R:Nat):fB x j N R=0:=by
 unfold fB;rw[ay ho]
theorem NO {x:In}(ho:x.op=5)(h:x.a≠0/\ -1439<=x.a/\x.a<=1439)(j N R:Nat):fB x j N R=0:=by
 unfold fB;rw[au (by omega),au (by omega),ay ho,ay h]
theorem NP {x:In}{j N:Nat}(ho:x.op=6)(ht:(j:Int)+2<=x.to/\x.to<=N)(h:1<=x.a/\x.a<=127)(R:Nat):fB x j N R=0:=by
 unfold fB;rw[au (by omega),au (by omega),au (by omega),ay ho,ay ht,ay h]
theorem NQ {x:In}{j N:Nat}(ho:x.op=7)(ht:(j:Int)+2<=x.to/\x.to<=N)(h:0<=x.a/\x.a<=x.b/\x.b<146097)(R:Nat):fB x j N R=0:=by
 unfold fB;rw[au (by omega),au (by omega),au (by omega),au (by omega),ay ho,ay ht,ay h]
theorem NR {x:In}{R:Nat}(ho:x.op=8)(h:0<=x.a/\x.a<R)(j N:Nat):fB x j N R=0:=by
 unfold fB;rw[au (by omega),au (by omega),au (by omega),au (by omega),au (by omega),ay ho,ay h]
theorem NS {x:In}(ho:x.op=1\/x.op=8):eff x=1:=by unfold eff;rw[ay ho]
theorem NT {x:In}(ho:x.op=2\/x.op=3\/x.op=4):eff x= -1:=by unfold eff;rw[au (by omega),ay ho]
theorem JT {x:In}(ho:x.op=5\/x.op=6\/x.op=7):eff x=0:=by unfold eff;rw[au (by omega),au (by omega)]
theorem MP {x:In}(ho:x.op=1\/x.op=6\/x.op=7\/x.op=8):Vx.tk x=0:=by unfold Vx.tk;rw[au (by omega),au (by omega)]
theorem Oq {x:In}(ho:x.op=5):Vx.tk x=1:=by unfold Vx.tk;rw[ay ho]
theorem Ot {x:In}(ho:x.op=2\/x.op=3\/x.op=4):Vx.tk x=2:=by unfold Vx.tk;rw[au (by omega),ay ho]
theorem jj.one {l:List In}{b R N:Nat}{x:In}(hx:l[b]? =some x)(ho:x.op=1\/x.op=8)(hi:fB x b N R=0):jj l b 1 R N:=by
 refine⟨by rw[jo hx,NS ho],fun j y h1 h2 hy=> ?_,fun j y h1 h2 hy hg=> ?_,fun j y h1 h2 hy=> ?_⟩<;>
  (obtain rfl:j=b:=by omega)<;>(rw[hx]at hy;cases aL hy)
 ·rw[MP (by omega)];omega
 ·rcases hg with hg|hg<;>omega
 ·exact hi
theorem jj.guard {l:List In}{b n R N:Nat}{x:In}(hx:l[b]? =some x)(ho:x.op=6\/x.op=7)(hto:x.to=((b+1+n:Nat):Int))(hi:fB x b N R=0)(h:jj l (b+1) n R N):jj l b (n+1) R N:=by
 have e1:hAt l (b+1)=hAt l b:=by rw[jo hx,JT (by omega)];omega
 have e2:b+(n+1)=b+1+n:=by omega
 refine⟨by rw[e2,h.fin,e1],fun j y h1 h2 hy=> ?_,fun j y h1 h2 hy hg=> ?_,fun j y h1 h2 hy=> ?_⟩<;>by_cases hj:j=b
 ·subst hj;rw[hx]at hy;cases aL hy;rw[MP (by omega)];omega
 ·have:=h.tk j y (by omega) (by omega) hy;rw[e1]at this;exact this
 ·subst hj;rw[hx]at hy;cases aL hy;rw[hto,bV,h.fin,e1]
 ·exact h.to j y (by omega) (by omega) hy hg
 ·subst hj;rw[hx]at hy;cases aL hy;exact hi
 ·exact h.ins j y (by omega) (by omega) hy
theorem jj.shift {l:List In}{b n R N:Nat}{x:In}(h:jj l b n R N)(hx:l[b+n]? =some x)(ho:x.op=5)(hi:fB x (b+n) N R=0):jj l b (n+1) R N:=by
 refine⟨by rw[<-Nat.add_assoc,jo hx,JT (by omega),h.fin];omega,fun j y h1 h2 hy=> ?_,fun j y h1 h2 hy hg=> ?_,fun j y h1 h2 hy=> ?_⟩<;>by_cases hj:j=b+n
 ·subst hj;rw[hx]at hy;cases aL hy;rw[Oq ho,h.fin];omega
 ·exact h.tk j y h1 (by omega) hy
 ·subst hj;rw[hx]at hy;cases aL hy;rcases hg with hg|hg<;>omega
 ·exact h.to j y h1 (by omega) hy hg
 ·subst hj;rw[hx]at hy;cases aL hy;exact hi
 ·exact h.ins j y h1 (by omega) hy
theorem jj.pair {l:List In}{b n m R N:Nat}{x:In}(h:jj l b n R N)(h':jj l (b+n) m R N)(hx:l[b+n+m]? =some x)(ho:x.op=2\/x.op=3\/x.op=4):jj l b (n+m+1) R N:=by
 have e1:=h.fin;have e2:=h'.fin;refine⟨by rw[show b+(n+m+1)=b+n+m+1 by omega,jo hx,NT ho];omega,fun j y h1 h2 hy=> ?_,fun j y h1 h2 hy hg=> ?_,fun j y h1 h2 hy=> ?_⟩<;>by_cases hj:j=b+n+m
 ·subst hj;rw[hx]at hy;cases aL hy;rw[Ot ho];omega
 ·by_cases hj2:j<b+n
  ·exact h.tk j y h1 hj2 hy
  ·have:=h'.tk j y (by omega) (by omega) hy;omega
 ·subst hj;rw[hx]at hy;cases aL hy;rcases hg with hg|hg<;>omega
 ·by_cases hj2:j<b+n
  ·exact h.to j y h1 hj2 hy hg
  ·exact h'.to j y (by omega) (by omega) hy hg
 ·subst hj;rw[hx]at hy;cases aL hy;exact Ls ho _ _ _
 ·by_cases hj2:j<b+n
  ·exact h.ins j y h1 hj2 hy
  ·exact h'.ins j y (by omega) (by omega) hy
theorem Da {k:Int}(h:k=6\/k=7\/k=8):opK k=2\/opK k=3\/opK k=4:=by
 unfold opK;rcases h with rfl|rfl|rfl<;>simp
theorem ud {e k:Ex}(hk:k∈e.kids){x:List UInt8}(hx:x∈nms k):x∈nms e:=by
 rw[lu,bT];right;unfold jm;exact List.mem_flatten.2 ⟨nms k,dN.2 ⟨k,hk,rfl⟩,hx⟩
theorem ue {e:Ex}(h:e.kind=10):e.name∈nms e:=by rw[lu,ay h];simp
theorem GN {num:List UInt8->Int}{R N:Nat}{l:List In}: ∀(M:Nat) (e:Ex),SizeOf.sizeOf e<=M->OKE e->(∀x∈nms e,0<=num x/\num x<R)-> ∀b,jK l b (bK num e b)->b+(bK num e b).length<=N->jj l b (bK num e b).length R N
 |0,e,hM,_,_,_,_,_=>by cases e;simp at hM
 |M+1,e,hM,h,hn,b,hs,hN=>by
  have ih: ∀k∈e.kids,∀b',jK l b' (bK num k b')->b'+(bK num k b').length<=N->jj l b' (bK num k b').length R N:=fun k hk b'=>GN M k (by have:=iC hk;omega) (h.kid hk) (fun x hx=>hn x (ud hk hx)) b';have hr:=h.kinds.2.2.2.1;cases hstd:stdE e with
  |true=>
   rw[nL hstd]at hs⊢;exact jj.one hs.one (.inl rfl) (NN rfl (Lr _) _ _ _)
  |false=>
   rcases mM h hstd with⟨q,k,hk⟩|⟨q,k,hk⟩|⟨q,k,hk⟩|q|⟨q,k,m,hk⟩
   ·have hm:k∈e.kids:=(by rw[hk];simp);have h1:=(lB num _ k (az _) (h.kid hm) (b+1)).1;unfold rangeP at hr;rw[au (by omega),ay q]at hr;have hr':=fD hr;rw[oG q (by rw[hk];rfl)]at hs hN⊢;rw[bz]at hN⊢;refine jj.guard hs.one (.inl rfl) rfl (NP rfl ⟨?_,?_⟩ ⟨hr'.1,?_⟩ _) (ih k hm (b+1) hs.tail (by omega))
    ·show(b:Int)+2<=((b+1+_:Nat):Int);omega
    ·show((b+1+_:Nat):Int)<=_;omega
    ·show e.a<=127;omega
   ·have hm:k∈e.kids:=(by rw[hk];simp);have h1:=(lB num _ k (az _) (h.kid hm) (b+1)).1;unfold rangeP at hr;rw[au (by omega),au (by omega),ay q]at hr;have hr':=fD hr;rw[mL q (by rw[hk];rfl)]at hs hN⊢;rw[bz]at hN⊢;refine jj.guard hs.one (.inr rfl) rfl (NQ rfl ⟨?_,?_⟩ hr' _) (ih k hm (b+1) hs.tail (by omega))
    ·show(b:Int)+2<=((b+1+_:Nat):Int);omega
    ·show((b+1+_:Nat):Int)<=_;omega
   ·have hm:k∈e.kids:=(by rw[hk];simp);unfold rangeP at hr;rw[au (by omega),au (by omega),au (by omega),ay q]at hr;have hr':=fD hr;rw[o6 hstd q hk]at hs hN⊢;rw[aN,dL]at hN⊢;exact jj.shift (ih k hm b hs.left (by omega)) hs.right.one rfl (NO rfl ⟨hr'.1,by show-1439<=e.a;omega,by show e.a<=1439;omega⟩ _ _ _)
   ·rw[oF q]at hs⊢;exact jj.one hs.one (.inr rfl) (NR rfl (hn _ (ue q)) _ _)
   ·have hm:k∈e.kids:=(by rw[hk];simp);have hm':m∈e.kids:=(by rw[hk];simp);rw[qz hstd q hk]at hs hN⊢;rw[aN,aN,dL]at hN⊢;have hs1:=hs.right.one;rw[aN,<-Nat.add_assoc]at hs1;exact jj.pair (ih k hm b hs.left.left (by omega)) (ih m hm' _ hs.left.right (by omega)) hs1 (Da q)
theorem GO {num:List UInt8->Int}{R:Nat}{e:Ex}(h:OKE e)(hn: ∀x∈nms e,0<=num x/\num x<R):lH (bK num e 0)/\ ∀j x,(bK num e 0)[j]? =some x->fB x j (bK num e 0).length R=0:=by
 have hs:jK (bK num e 0) 0 (bK num e 0):=fun j _=>by rw[bN]
 have q:=GN (N:=(bK num e 0).length) (R:=R) _ e (az _) h hn 0 hs (by omega)
 have lt: ∀{j:Nat} {x:In},(bK num e 0)[j]? =some x->j<0+(bK num e 0).length:=fun hj=>by
  have:=(aE.1 hj).1;omega
 refine⟨⟨fun j x hx=> ?_,fun j x hx hg=>q.to j x (dW _) (lt hx) hx hg,?_⟩,fun j x hx=>q.ins j x (dW _) (lt hx) hx⟩
 ·have:=q.tk j x (dW _) (lt hx) hx;simpa[hAt] using this
 ·have:=q.fin;simpa[hAt] using this
end
section
open Go.RowKit Lx Vx Msk
theorem yW {cs cs':List Cd}{l:List In}: ∀(j:Nat),(∀j' x,j'<j->l[j']? =some x->x.op=8->(cs.getD x.a.toNat cd0).high=(cs'.getD x.a.toNat cd0).high)->j<=l.length->mxH cs l j=mxH cs' l j
 |0,_,_=>rfl
 |j+1,h,hj=>by
  have ih:=yW (cs:=cs) (cs':=cs') (l:=l) j (fun j' x h1=>h j' x (by omega)) (by omega);have hx:l[j]? =some l[j]:=ax (by omega);rw[jZ hx,jZ hx,ih];by_cases ho:(l[j]).op=8
  ·rw[ay ho,ay ho,h j _ (by omega) hx ho]
  ·rw[au ho,au ho]
theorem yX {cs cs':List Cd}{l:List In}: ∀(j:Nat),(∀j' x,j'<j->l[j']? =some x->x.op=8->(cs.getD x.a.toNat cd0).steps=(cs'.getD x.a.toNat cd0).steps)->j<=l.length->stS cs l j=stS cs' l j
 |0,_,_=>rfl
 |j+1,h,hj=>by
  have ih:=yX (cs:=cs) (cs':=cs') (l:=l) j (fun j' x h1=>h j' x (by omega)) (by omega);have hx:l[j]? =some l[j]:=ax (by omega);rw[jE hx,jE hx,ih];by_cases ho:(l[j]).op=8
  ·rw[ay ho,ay ho,h j _ (by omega) hx ho]
  ·rw[au ho,au ho]
def eD (C:List (List In))(m:Nat->Int×Int):List Cd:=(List.range C.length).map fun k=>⟨C.getD k [],(m k).1,(m k).2⟩
theorem tb (C:List (List In))(m:Nat->Int×Int):(eD C m).length=C.length:=by simp[eD]
theorem mg {C:List (List In)}{m:Nat->Int×Int}{k:Nat}(h:k<C.length):(eD C m).getD k cd0=⟨C.getD k [],(m k).1,(m k).2⟩:=by
 have:(eD C m)[k]? =some ⟨C.getD k [],(m k).1,(m k).2⟩:=by
  unfold eD;rw[a8,List.getElem?_range h];rfl
 simp[List.getD,this]
def lO (C:List (List In))(m:Nat->Int×Int)(i:Nat):Int×Int:=(min (mxH (eD C m) (C.getD i []) (C.getD i []).length) 101,min (stS (eD C m) (C.getD i []) (C.getD i []).length) 20001)
def mN (C:List (List In)):Nat->Nat->Int×Int
 |0,_=>(0,0)
 |f+1,i=>lO C (mN C f) i
structure rz (C:List (List In))(ρ:Nat->Nat):Prop where
 lt: ∀(i j:Nat) (x:In),i<C.length->(C.getD i [])[j]? =some x->x.op=8->0<=x.a/\x.a.toNat<C.length/\ρ x.a.toNat<ρ i
theorem wT {C:List (List In)}{ρ:Nat->Nat}(h:rz C ρ){m m':Nat->Int×Int}{i:Nat}(hi:i<C.length)(hm: ∀k,k<C.length->ρ k<ρ i->m k=m' k):lO C m i=lO C m' i:=by
 have key: ∀j' x,j'<(C.getD i []).length->(C.getD i [])[j']? =some x->x.op=8->(eD C m).getD x.a.toNat cd0=(eD C m').getD x.a.toNat cd0:=fun j' x _ hx ho=>by
  obtain⟨_,h2,h3⟩:=h.lt i j' x hi hx ho;rw[mg h2,mg h2,hm _ h2 h3]
 have e1:mxH (eD C m) (C.getD i []) (C.getD i []).length=mxH (eD C m') (C.getD i []) (C.getD i []).length:=yW _ (fun j' x h1 h2 h3=>by rw[key j' x h1 h2 h3]) (az _);have e2:stS (eD C m) (C.getD i []) (C.getD i []).length=stS (eD C m') (C.getD i []) (C.getD i []).length:=yX _ (fun j' x h1 h2 h3=>by rw[key j' x h1 h2 h3]) (az _);unfold lO;rw[e1,e2]
theorem yY {C:List (List In)}{ρ:Nat->Nat}(h:rz C ρ): ∀(f f' i:Nat),i<C.length->ρ i<f->ρ i<f'->mN C f i=mN C f' i
 |0,_,_,_,h1,_=>by omega
 |_+1,0,_,_,_,h2=>by omega
 |f+1,f'+1,i,hi,h1,h2=>by
  unfold mN;exact wT h hi fun k hk hr=>yY h f f' k hk (by omega) (by omega)
theorem Lt {C:List (List In)}{ρ:Nat->Nat}(h:rz C ρ){N:Nat}(hN: ∀i,i<C.length->ρ i<=N){i:Nat}(hi:i<C.length):mN C (N+1) i=lO C (mN C (N+1)) i:=by
 conv=>lhs;unfold mN
 have h1:=hN i hi;exact wT h hi fun k hk hr=>yY h N (N+1) k hk (by omega) (by have:=hN k hk;omega)
theorem wi (x:In): -1<=eff x/\eff x<=1:=by
 unfold eff;split
 ·omega
 ·split<;>omega
theorem mD (l:List In): ∀j:Nat,-(j:Int)<=hAt l j/\hAt l j<=(j:Int)
 |0=>by simp[hAt]
 |j+1=>by
  have ih:=mD l j;have e:=wi (l.getD j in0);simp only[hAt];omega
structure qA (cs:List Cd):Prop where
 hi: ∀k,0<=(cs.getD k cd0).high/\(cs.getD k cd0).high<=101
 st: ∀k,0<=(cs.getD k cd0).steps/\(cs.getD k cd0).steps<=20001
theorem rg {cs:List Cd}(h:qA cs)(l:List In): ∀j:Nat,0<=mxH cs l j/\mxH cs l j<=(j:Int)+101
 |0=>by simp[mxH]
 |j+1=>by
  have ih:=rg h l j;have e:=mD l j;have e':=mD l (j+1);have q:=h.hi (l.getD j in0).a.toNat;simp only[mxH];split<;>omega
theorem rh {cs:List Cd}(h:qA cs)(l:List In): ∀j:Nat,(j:Int)<=stS cs l j/\stS cs l j<=(j:Int)*20002
 |0=>by simp[stS]
 |j+1=>by
  have ih:=rh h l j;have q:=h.st (l.getD j in0).a.toNat;simp only[stS];split<;>omega
theorem uF {C:List (List In)}{m:Nat->Int×Int}(h: ∀k,k<C.length->(0<=(m k).1/\(m k).1<=101)/\(0<=(m k).2/\(m k).2<=20001)):qA (eD C m):=by
 constructor<;>intro k<;>by_cases hk:k<C.length
 ·rw[mg hk];exact(h k hk).1
 ·have:(eD C m).getD k cd0=cd0:=by
   have:(eD C m)[k]? =none:=eI (by rw[tb];omega);simp[List.getD,this]
  rw[this];simp[cd0]
 ·rw[mg hk];exact(h k hk).2
 ·have:(eD C m).getD k cd0=cd0:=by
   have:(eD C m)[k]? =none:=eI (by rw[tb];omega);simp[List.getD,this]
  rw[this];simp[cd0]
theorem Db {C:List (List In)}{m:Nat->Int×Int}(h:qA (eD C m))(i:Nat):(0<=(lO C m i).1/\(lO C m i).1<=101)/\(0<=(lO C m i).2/\(lO C m i).2<=20001)/\(1<=(C.getD i []).length->1<=(lO C m i).2):=by
 have a:=rg h (C.getD i []) (C.getD i []).length;have b:=rh h (C.getD i []) (C.getD i []).length;refine⟨⟨?_,?_⟩,⟨?_,?_⟩,fun hl=> ?_⟩<;>simp only[lO]<;>omega
theorem Dc (C:List (List In)): ∀(f i:Nat),(0<=(mN C f i).1/\(mN C f i).1<=101)/\(0<=(mN C f i).2/\(mN C f i).2<=20001)
 |0,i=>by simp[mN]
 |f+1,i=>by
  have h:=Db (C:=C) (uF (C:=C) fun k _=>Dc C f k) i;exact⟨h.1,h.2.1⟩
theorem Ez (C:List (List In))(f:Nat):qA (eD C (mN C f)):=uF fun k _=>Dc C f k
end
section
open Go.RowKit Lx Vx Msk
variable {B:Nat->Prop}
def uf (e:Ex)(w:World)(r:Ending)(w':World):Prop:=r= .returned (.bool (stdE e))/\Below w.heap.size w w'
def NU (w:World)(sl:Value)(ks:List Ex):Prop:=
 ∃g o c:Nat,sl= .slice (some (ae g o)) ks.length c/\ks.length<9223372036854775808/\ ∀(j:Nat) (k:Ex),ks[j]? =some k-> ∃(p:Option Addr) (q:Nat),
  w.cell? (ae g (o+j*5))=some (ag k.kind)/\w.cell? (ae g (o+j*5+1))=some (ag k.a)/\w.cell? (ae g (o+j*5+2))=some (ag k.b)/\
  w.cell? (ae g (o+j*5+3))=some (.string ⟨k.name.toArray⟩)/\w.cell? (ae g (o+j*5+4))=some (.slice p k.kids.length q)/\
  ∀W:World,Below w.heap.size w W->Calls prog 93 #[.agg #[ag k.kind,ag k.a,ag k.b,.string ⟨k.name.toArray⟩,.slice p k.kids.length q]] W (uf k W)
theorem Jk {ks:List Ex}{j:Nat}{k:Ex}(h:ks[j]? =some k):(ks.drop j).all stdE=(stdE k&&(ks.drop (j+1)).all stdE):=by
 obtain⟨h1,h2⟩:=aE.1 h;rw[bq h1,h2];rfl
theorem qO (e:Ex)(p:Option Addr)(c:Nat)(w:World)(hk:e.kids=[]\/NU w (.slice p e.kids.length c) e.kids)(hlen:e.kids.length<9223372036854775808):
  Calls prog 93 #[.agg #[ag e.kind,ag e.a,ag e.b,.string ⟨e.name.toArray⟩,.slice p e.kids.length c]] w (uf e w):=by
 have hbA:=am w (.cells #[ag e.kind,ag e.a,ag e.b,.string ⟨e.name.toArray⟩,.slice p e.kids.length c] 104);have hxA:=aD w (.cells #[ag e.kind,ag e.a,ag e.b,.string ⟨e.name.toArray⟩,.slice p e.kids.length c] 104);generalize hwA:w.alloc (.cells #[ag e.kind,ag e.a,ag e.b,.string ⟨e.name.toArray⟩,.slice p e.kids.length c] 104)=wA at*;have z0:=ak 0 hxA;have z4:=ak 4 hxA;generalize hX:stdE e=X;have HX:OK (stdE e=X):=hX;unfold uf;rw[hX];clear hX;by_cases k4:e.kind=4
 ·have HE:OK (X=false):=by
   show _=_;rw[<-HX.o];cases hs:stdE e with
   |false=>rfl
   |true=>exact absurd k4 (kK hs).1
  have e4:(e.kind==4)=true:=(by simp[k4]);clear hk HX k4;go_enter func93,ntmps93;go_wp2_with fail;go_ret;rw[HE.o];exact⟨rfl,hbA⟩
 have e4:(e.kind==4)=false:=by simpa using k4
 by_cases k5:e.kind=5
 ·have HE:OK (X=false):=by
   show _=_;rw[<-HX.o];cases hs:stdE e with
   |false=>rfl
   |true=>exact absurd k5 (kK hs).2.1
  have e5:(e.kind==5)=true:=(by simp[k5]);clear hk HX k4 k5;go_enter func93,ntmps93;go_wp2_with fail;go_ret;rw[HE.o];exact⟨rfl,hbA⟩
 have e5:(e.kind==5)=false:=by simpa using k5
 by_cases k10:e.kind=10
 ·have HE:OK (X=false):=by
   show _=_;rw[<-HX.o];cases hs:stdE e with
   |false=>rfl
   |true=>exact absurd k10 (kK hs).2.2
  have e10:(e.kind==10)=true:=(by simp[k10]);clear hk HX k4 k5 k10;go_enter func93,ntmps93;go_wp2_with fail;go_ret;rw[HE.o];exact⟨rfl,hbA⟩
 have e10:(e.kind==10)=false:=by simpa using k10
 have HS:OK ((e.kids.drop 0).all stdE=X):=by
  show _=_;rw[<-HX.o,ry,List.drop_zero];simp[k4,k5,k10]
 clear HX k4 k5 k10;go_enter func93,ntmps93;go_wp2_with fail;go_loopw [4,14] (fun _ t wr=> ∃j:Nat,t=ag (j:Int)/\j<=e.kids.length/\(e.kids.drop j).all stdE=X/\Below w.heap.size w wr) (fun _ t _=>e.kids.length-(intOf t).toNat);case atStart=>exact⟨0,rfl,by omega,HS.o,hbA⟩
 case round=>
  obtain⟨j,rfl,hj,hXr,hb⟩:=hrel;clear HS z0 z4 hxA hbA hwA e4 e5 e10;have hj0:(0:Int)<=(j:Int):=(by omega);by_cases hlt:j<e.kids.length
  ·have hlt':(j:Int)<(e.kids.length:Int):=(by omega);obtain⟨k,hjk⟩: ∃k,e.kids[j]? =some k:=⟨e.kids[j],ax hlt⟩
   rw[Jk hjk]at hXr;have hks:e.kids≠[]:=fun h=>(by rw[h]at hlt;simp at hlt);obtain⟨g,o,c',hsl,_,hkid⟩:=hk.resolve_left hks;obtain⟨pk,ck,d0,d1,d2,d3,d4,ihk⟩:=hkid j k hjk;have f0:=aj hb d0;have f1:=aj hb d1;have f2:=aj hb d2;have f3:=aj hb d3;have f4:=aj hb d4;have hbB:=am wr (.cells #[ag k.kind,ag k.a,ag k.b,.string ⟨k.name.toArray⟩,.slice pk k.kids.length ck] 104);have hxB:=aD wr (.cells #[ag k.kind,ag k.a,ag k.b,.string ⟨k.name.toArray⟩,.slice pk k.kids.length ck] 104);have hb2:=aq hb hbB;have cR:=ihk _ hb2;injection hsl with e1 e2 e3;subst e1;subst e3;clear d0 d1 d2 d3 d4 ihk hkid hks hjk hbB;have HXr:OK ((stdE k&&(e.kids.drop (j+1)).all stdE)=X):=hXr;unfold uf at cR;clear hXr;generalize stdE k=y at*;generalize hwB:wr.alloc (.cells #[ag k.kind,ag k.a,ag k.b,.string ⟨k.name.toArray⟩,.slice pk k.kids.length ck] 104)=wB at*;go_wp2_with(refine aO rfl 104 _ rfl _ rfl _ _ _ _ hxB eQ rfl (by kernel_rfl) ?_)
   refine cR.mono ?_;rintro r w3 ⟨rfl,b3⟩;have hb3:=aq hb2 b3;clear cR hxB hwB f0 f1 f2 f3 f4 b3 hb2;cases y with
   |false=>
    have HE:OK (X=false):=(by show _=_;rw[<-HXr.o];rfl);clear HXr;go_wp2_with fail;go_ret;rw[HE.o];exact⟨rfl,hb3⟩
   |true=>
    go_wp2_with fail;go_roundw;case rel=>exact⟨j+1,by go_num,by omega,by rw[<-HXr.o];rfl,hb3⟩
    case measure=>simp[intOf];omega
  ·have hlt': ¬(j:Int)<(e.kids.length:Int):=(by omega);have HE:OK (X=true):=(by show _=_;rw[<-hXr,List.drop_eq_nil_of_le (by omega)];rfl);clear hXr;go_wp2_with fail;go_ret;rw[HE.o];exact⟨rfl,hb⟩
theorem EF: ∀(d:Nat) (e:Ex) (sl:Value) (w:World),fK B d w sl e.kids->Calls prog 93 #[exV e sl] w (uf e w):=by
 intro d;induction d with
 |zero=>
  intro e sl w hk;obtain⟨p,c,rfl⟩:=hk.form;exact qO e p c w (.inl hk.1) (by rw[hk.1];decide)
 |succ d ih=>
  intro e sl w hk;obtain⟨p,c,hsl⟩:=hk.form;subst hsl;rcases hk with⟨h,_⟩|⟨g,o,c',hg,hs,hl,hkid⟩
  ·exact qO e p c w (.inl h) (by rw[h];decide)
  ·refine qO e p c w (.inr ⟨g,o,c',hs,hl,fun j k hj=> ?_⟩) hl;obtain⟨hn',sk,c0,c1,c2,c3,c4,r⟩:=hkid j k hj;obtain⟨p',q',rfl⟩:=r.form;exact⟨p',q',c0,c1,c2,c3,c4,fun W hb=>ih k _ W (r.kept fun g' _ hl'=>hb.block g' hl')⟩
end
section
open Go.RowKit Lx Vx Msk
theorem De: ∀(N:Nat) (e:Ex),SizeOf.sizeOf e<=N->stdE e=true->nms e=[]
 |0,e,hN,_=>by cases e;simp at hN
 |N+1,e,hN,h=>by
  rw[lu,au (kK h).2.2,List.nil_append];unfold jm;rw[List.flatten_eq_nil_iff];intro x hx;obtain⟨k,hk,rfl⟩:=dN.1 hx;exact De N k (by have:=iC hk;omega) (Bn h hk)
theorem wU: ∀(N:Nat) (e:Ex) (deep n deep' n':Nat),SizeOf.sizeOf e<=N->deep'<=deep->n'<=n->(shapeP e deep n).1=0->(shapeP e deep' n').1=0
 |0,e,_,_,_,_,hN,_,_,_=>by cases e;simp at hN
 |N+1,e,deep,n,deep',n',hN,hd,hn,h=>by
  have h0:=h;rw[jR]at h⊢;by_cases h1:600<n+1\/40<deep
  ·rw[ay h1]at h;cases h
  ·rw[au h1]at h;rw[au (by omega)];by_cases h2:aloneP e≠0
   ·rw[ay h2]at h;exact absurd h h2
   ·rw[au h2]at h⊢
    have key: ∀(ks:List Ex) (m m':Nat),(∀k∈ks,SizeOf.sizeOf k<=N)->m'<=m->(gF ks (deep+1) (0,m)).1=0->(gF ks (deep'+1) (0,m')).1=0:=by
     intro ks;induction ks with
     |nil=>intro m m' _ _ _;rfl
     |cons k ks ih=>
      intro m m' hks hm hz;rw[jw]at hz⊢;rw[au (by simp)]at hz⊢
      have hz1:(shapeP k (deep+1) m).1=0:=by
       by_cases hq:(shapeP k (deep+1) m).1=0
       ·exact hq
       ·rw[jS hq]at hz;exact absurd hz hq
      have hz2:=wU N k (deep+1) m (deep'+1) m' (hks k bo) (by omega) hm hz1;obtain⟨a1,_⟩:=oH _ k (deep+1) m (az _) hz1;obtain⟨a2,_⟩:=oH _ k (deep'+1) m' (az _) hz2;rw[show shapeP k (deep+1) m=(0,m+iM k) from Prod.ext hz1 a1]at hz;rw[show shapeP k (deep'+1) m'=(0,m'+iM k) from Prod.ext hz2 a2];exact ih _ _ (fun k' hk'=>hks k' (bx _ hk')) (by omega) hz
    exact key e.kids (n+1) (n'+1) (fun k hk=>by have:=iC hk;omega) (by omega) h
def Rt (e:Ex):Prop:=(shapeP e 1 0).1=0
theorem Rt.ok {e:Ex}(h:Rt e):OKE e:=⟨1,0,h⟩
theorem Rt.kid {e k:Ex}(h:Rt e)(hk:k∈e.kids):Rt k:=by
 unfold Rt at h;rw[jR,au (by omega)]at h;by_cases h2:aloneP e≠0
 ·rw[ay h2]at h;exact absurd h h2
 ·rw[au h2]at h
  have key: ∀(ks:List Ex) (m:Nat),(gF ks 2 (0,m)).1=0-> ∀k∈ks,Rt k:=by
   intro ks;induction ks with
   |nil=>intro m _ k hk;cases hk
   |cons k' ks ih=>
    intro m hz k hk;rw[jw,au (by simp)]at hz
    have hz1:(shapeP k' 2 m).1=0:=by
     by_cases hq:(shapeP k' 2 m).1=0
     ·exact hq
     ·rw[jS hq]at hz;exact absurd hz hq
    rcases bG.1 hk with rfl|hk
    ·exact wU _ k 2 m 1 0 (az _) (by omega) (dW _) hz1
    ·obtain⟨a1,_⟩:=oH _ k' 2 m (az _) hz1;rw[show shapeP k' 2 m=(0,m+iM k') from Prod.ext hz1 a1]at hz;exact ih _ hz k hk
  exact key e.kids 1 h k hk
theorem Rt.nod {e:Ex}(h:Rt e):iM e<=600:=by
 have:=(oH _ e 1 0 (az _) h).2;omega
theorem Lu {e:Ex}(h:Rt e)(hs:stdE e=true):dj [([97],e)]=(0,0):=by
 have hn:nms e=[]:=De _ e (az _) hs
 have hsp:fH [([97],e)] ([97],e)=[]:=by
  unfold fH;rw[show nms (([97],e):Ru).2=[] from hn];rfl
 have hi: ∀{i:Nat},i<[(([97],e):Ru)].length->i=0:=fun hi=>by simp at hi;exact hi
 refine D5 ?_ (fun i' h'=> ?_) (fun i' h'=> ?_) (fun i' h'=> ?_)
 ·unfold fG;rw[au (by simp)]
  have hr:ruleP ([97],e)=0:=by
   unfold ruleP;rw[au (show¬Go.Proofs.YtkfidffapdhbhaaGreatDoor.namedL [97]=false by decide)];exact h
  unfold jr;rw[au (by simpa using hr)];rfl
 ·rw[hi h'];simp[lk1,atP5,atF]
 ·rw[hi h'];show decide (-1∈fH _ _)=false;rw[hsp];rfl
 ·rw[hi h']
  have hl:ip [([97],e)] 0=[]:=by
   unfold ip;show oA (fH _ _)=[]
   rw[hsp];rfl
  unfold lk3;rw[show [(([97],e):Ru)].length+1=1+1 from rfl,fol,hl];rfl
theorem Jl {e:Ex}(h:Rt e)(hs:stdE e=true):oO [([97],e)] 0=(0,0)/\o5 [([97],e)] 0=[mnE e]:=by
 have hc:=Lu h hs
 have hm:oO [([97],e)] 0=(0,0):=by
  unfold oO;rw[hc,au (by simp),au (by omega)]
 refine⟨hm,?_⟩;unfold o5;rw[hm,ay rfl];show [gY _ _ _ 0]=_;rw[nK (by rw[hc]) (show [(([97],e):Ru)][0]? =some ([97],e) from rfl)];rw[Bo (show stdE (([97],e):Ru).2=true from hs)]
theorem Lv {w:World}{g:Nat}{e:Ex}{sl:Value}{d:Nat}(h:w.heap[g]? =ah #[.string ⟨#[97]⟩,ag e.kind,ag e.a,ag e.b,.string ⟨e.name.toArray⟩,sl] 106)(hn:e.name.length<=9223372036854775807)(hk:fK (fun k=>k<w.heap.size) d w sl e.kids):InR w (.slice (some (ae g 0)) 1 1) [(([97],e),sl)]:=by
 refine⟨.inr ⟨g,0,1,rfl,by simp,fun j p hj=> ?_⟩,by simp,fun p hp=> ?_⟩
 ·match j,hj with
  |0,hj=>
   cases aL hj;exact⟨ak 0 h,ak 1 h,ak 2 h,ak 3 h,ak 4 h,ak 5 h⟩
  |j+1,hj=>simp at hj
 ·rw[dh]at hp;subst hp;exact⟨by simp,hn,d,hk⟩
theorem Cn (d:Nat)(e:Ex)(sl:Value)(w:World)(hr:Rt e)(hs:stdE e=true)(hn:e.name.length<=9223372036854775807)(hk:fK (fun k=>k<w.heap.size) d w sl e.kids):
  Calls prog 96 #[exV e sl] w fun r w'=>r= .returned (.agg (mv (mnE e)))/\Below w.heap.size w w':=by
 obtain⟨p,c,hsl⟩:=hk.form;subst hsl;unfold exV;have hz:=eg;have bA:=am w (.cells #[ag e.kind,ag e.a,ag e.b,.string ⟨e.name.toArray⟩,.slice p e.kids.length c] 104);have nA:=aD w (.cells #[ag e.kind,ag e.a,ag e.b,.string ⟨e.name.toArray⟩,.slice p e.kids.length c] 104);generalize hwA:w.alloc (.cells #[ag e.kind,ag e.a,ag e.b,.string ⟨e.name.toArray⟩,.slice p e.kids.length c] 104)=wA at*;have bB:=am wA (.cells (mv fun _=>false) 86);have nB:=aD wA (.cells (mv fun _=>false) 86);have nA1:=ai bB nA;obtain⟨gB,hgB⟩: ∃q,wA.heap.size=q:=⟨_,rfl⟩
 generalize hwB:wA.alloc (.cells (mv fun _=>false) 86)=wB at*;rw[hgB]at nB;have bC:=am wB (.cells #[.string ⟨#[97]⟩,ag e.kind,ag e.a,ag e.b,.string ⟨e.name.toArray⟩,.slice p e.kids.length c] 106);have nC:=aD wB (.cells #[.string ⟨#[97]⟩,ag e.kind,ag e.a,ag e.b,.string ⟨e.name.toArray⟩,.slice p e.kids.length c] 106);generalize hwC:wB.alloc (.cells #[.string ⟨#[97]⟩,ag e.kind,ag e.a,ag e.b,.string ⟨e.name.toArray⟩,.slice p e.kids.length c] 106)=wC at*;have bAC:Below w.heap.size w wC:=bA.trans ((aq bB bC).mono bA.size);have nB2:=ai bC nB;have hlow:w.heap.size<=gB:=by rw[<-hgB];exact bA.size
 have hin:=Lv (d:=d) nC hn ((hk.kept fun g _ hl=>bAC.block g hl).mono fun g hg=>aR hg bAC.size);have cM:=Jg _ _ 0 wC hin;obtain⟨e1,e2⟩:=Jl hr hs;unfold wP at cM;simp only[dD,eY]at cM;rw[e1,e2]at cM;clear hin hk e1 e2 bA bB bC nA nC;go_enter func96,ntmps96
 go_wp2_with(first
  |(refine aO rfl 104 _ rfl _ rfl _ _ _ _ nA1 eQ rfl (by kernel_rfl) ?_))
 refine cM.mono ?_;rintro r w3 ⟨v3,rfl,hrow,b3⟩;obtain⟨p3,c3,hv3,hb3,hrg⟩:=hrow;subst hv3;obtain⟨g3,o3,hp3,hr3⟩:=hrg 0 (mnE e) rfl;subst hp3;have hbw:=aq bAC b3;have nB3:=ai b3 nB2;simp only[Nat.zero_mul,Nat.add_zero]at hr3;have hl1:[mnE e].length=1:=rfl;rw[hl1];generalize hz0:((0:Nat):Int)=iz;have hz1:iz=0:=hz0.symm.trans rfl;subst hz1;clear hz0;have bD:=am w3 (.cells #[ag 0,ag 0] 95);have nD:=aD w3 (.cells #[ag 0,ag 0] 95);have nB4:=ai bD nB3;have hr4:(w3.alloc (.cells #[ag 0,ag 0] 95)).rangeAt g3 o3 (mv (mnE e)).toList:=World.rangeAt_alloc hr3 _;have hbx:=aq hbw bD;generalize hwD:w3.alloc (.cells #[ag 0,ag 0] 95)=wD at*;have bE:=below_setRow (aG w3.heap.size wD) (az _) #[ag 0,ag 0];have hgl:=aF nB3;have nB4e:=(bE.block _ hgl).trans nB4;have hr5:(wD.setRow w3.heap.size #[ag 0,ag 0]).rangeAt g3 o3 (mv (mnE e)).toList:=fun j u hj=>(bE.cell (bJ (hr3 j u hj))).trans (hr4 j u hj);have hbe:=hbx.trans (bE.mono (ba hbw.size (az _)));generalize hwE:wD.setRow w3.heap.size #[ag 0,ag 0]=wE at*;have nB5:=aJ _ _ _ (mv (mnE e)) _ _ nB4e;have hbz:=below_setRow hbe hlow (mv (mnE e));clear cM hbw hbx bAC b3 bD nB2 nB3 hr3 hrg bE hr4 nB4 hbe
 go_wp2_with(first
  |(refine aw rfl 95 _ _ rfl _ _ rfl rfl _ _ nD (by kernel_rfl) (by simp) (by simp[Value.oneCell']) ?_;rw[hwE])
  |(refine sT rfl _ rfl g3 o3 rfl (mnE e) hr5 ?_)
  |(refine aw rfl 86 _ _ rfl _ _ rfl rfl _ _ nB4e (bc _) (by simp[bL]) (dK _) ?_))
 refine aU (v:= .agg (mv (mnE e))) ?_ rfl ⟨rfl,hbz⟩;exact aZ rfl _ _ gB _ _ _ _ rfl nB5 bP rfl (bc _)
end
section
open Go.RowKit Lx Vx Msk
def gQ (w:World)(v:Value)(l:List (Int×Int)):Prop:=(l=[]/\ ∃p c,v= .slice p 0 c)\/ ∃(g c:Nat) (cur:Array Value),v= .slice (some (ae g 0)) l.length c/\l.length<9223372036854775808/\w.heap[g]? =ah cur 89/\cur.toList.take (l.length*2)=iE l
theorem gQ.nil (w:World)(p:Option Addr)(c:Nat):gQ w (.slice p 0 c) []:= .inl ⟨rfl,p,c,rfl⟩
theorem gQ.form {w:World}{v:Value}{l:List (Int×Int)}(h:gQ w v l): ∃p n c,v= .slice p n c:=by
 rcases h with⟨_,p,c,e⟩|⟨g,c,cur,e,_⟩
 ·exact⟨p,0,c,e⟩
 ·exact⟨_,_,c,e⟩
theorem gQ.of_own {w:World}{base:Nat}{v:Value}{l:List (Int×Int)}(h:w.ownsRow base 89 2 v l.length (iE l)):gQ w v l:=by
 rcases h.2 with⟨e,e2⟩|⟨g,cap,cur,e,hb,hg,hn,hc,hs,hx⟩
 ·exact .inl ⟨gj e2,none,0,by rw[e]⟩
 ·exact .inr ⟨g,cap,cur,e,by unfold maxLen at hc;omega,hg,hx⟩
def Fr (gm:Nat)(w w':World):Prop:= ∀(q:Nat) (c:Array Value) (T:TypeId),w.heap[q]? =ah c T->T≠179->q≠gm->w'.heap[q]? =ah c T
theorem Fr.trans {gm:Nat}{w w' w'':World}(h:Fr gm w w')(h':Fr gm w' w''):Fr gm w w'':=fun q c T hq hT hne=>h' q c T (h q c T hq hT hne) hT hne
theorem Fr.below {gm:Nat}{w w':World}(hb:Below w.heap.size w w'):Fr gm w w':=fun _ _ _ hq _ _=>ai hb hq
theorem gQ.fr {gm:Nat}{w w':World}{v:Value}{l:List (Int×Int)}(h:gQ w v l){cw:Array Value}(hg:w.heap[gm]? =ah cw 139)(hf:Fr gm w w'):gQ w' v l:=by
 rcases h with h|⟨g,c,cur,e,hl,hb,hx⟩
 ·exact .inl h
 ·refine .inr ⟨g,c,cur,e,hl,hf g _ _ hb (by decide) (fun q=> ?_),hx⟩;subst q;rw[hg]at hb;injection hb with hb;injection hb with _ h2 _;exact absurd h2 (by decide)
theorem gQ.below {w w':World}{v:Value}{l:List (Int×Int)}(h:gQ w v l)(hb:Below w.heap.size w w'):gQ w' v l:=by
 rcases h with h|⟨g,c,cur,e,hl,hg,hx⟩
 ·exact .inl h
 ·exact .inr ⟨g,c,cur,e,hl,ai hb hg,hx⟩
structure WOk (w0:World)(gm:Nat)(mp:Value)(S:List (In×Value))(W:World):Prop where
 st:WsC w0 gm mp S W
 sp: ∀u∈S,gQ W u.2 u.1.sp
theorem WOk.below {w0 W W':World}{gm:Nat}{mp:Value}{S:List (In×Value)}(h:WOk w0 gm mp S W)(hb:Below W.heap.size W W'):WOk w0 gm mp S W':=
 ⟨h.st.below hb,fun u hu=>(h.sp u hu).below hb⟩
def mO (w0:World)(gm:Nat)(mp:Value)(S:List (In×Value))(c:List In)(W:World)(r:Ending)(W':World):Prop:=r= .returned (.tuple #[])/\ ∃S',S'.map (fun u=>u.1)=c/\WOk w0 gm mp (S++S') W'/\Fr2 gm W W'
theorem Fr2.fr {w0 W W':World}{gm:Nat}{mp:Value}{S:List (In×Value)}(h:WsC w0 gm mp S W)(hf:Fr2 gm W W'):Fr gm W W':=fun q c T hq hT hne=>by
 obtain⟨_,_,sv,hg,own⟩:=h;refine(hf.blk q (aF hq) hne ?_).trans hq;rw[nO hg];exact fun e=>kE own hq hT e.symm
theorem ug {w0 W:World}{gm:Nat}{mp:Value}{S:List (In×Value)}(h:WOk w0 gm mp S W)(x:In)(v:Value)(hv:gQ W v x.sp)(hS:S.length<=1000):
  Calls prog 94 #[ab gm 0,.agg #[ag x.op,ag x.a,ag x.b,ag x.to,v]] W fun e W'=>e= .returned (.tuple #[])/\WOk w0 gm mp (S++[(x,v)]) W'/\Fr2 gm W W':=by
 obtain⟨_,_,sv,hg,_⟩:=id h.st;refine(Jj w0 gm mp S (x,v) W h.st hS hv.form).mono fun e W' ⟨he,h1,h2,h3⟩=>⟨he,⟨h1,fun u hu=> ?_⟩,h3⟩
 rcases bT.1 hu with hu|hu
 ·exact(h.sp u hu).fr hg h2
 ·rw[dh]at hu;subst hu;exact hv.fr hg h2
def EG (w0:World)(gm:Nat)(mp:Value)(l:List Ru)(k:Ex)(sk:Value):Prop:= ∀(S:List (In×Value)) (W:World),WOk w0 gm mp S W->S.length+iM k<=700->Calls prog 69 #[ab gm 0,exV k sk] W (mO w0 gm mp S (bK (atP5 l) k S.length) W)
theorem qe (S S':List (In×Value)):i8 (S++S')=i8 S++i8 S':=by unfold i8;rw[ff]
theorem yZ (S S':List (In×Value))(x:In)(v:Value)(t:Int):(i8 (S++((x,v)::S'))).set (S.length*5+3) (ag t)=i8 (S++(({x with to:=t},v)::S')):=by
 rw[qe,qe,List.set_append_right _ _ (by rw[oI];omega),oI,Nat.add_sub_cancel_left];rfl
theorem MT {W:World}{base g n c:Nat}{S S':List (In×Value)}{x:In}{v:Value}(t:Int)(h:W.ownsRow base 179 5 (.slice (some (ae g 0)) n c) n (i8 (S++((x,v)::S')))):(W.setCell ⟨g,S.length*5+3,none⟩ (ag t)).ownsRow base 179 5 (.slice (some (ae g 0)) n c) n (i8 (S++(({x with to:=t},v)::S'))):=by
 obtain⟨h1,h2⟩:=h;rcases h2 with⟨e,_⟩|⟨g',cap,cur,e,hb,hg,hn,hc,hs,hx⟩
 ·cases e
 ·injection e with e1 _ e3;injection e1 with e1;injection e1 with e1 _ _;subst e1 e3;refine⟨by rw[<-yZ,jf];exact h1,.inr ⟨g,c,cur.setIfInBounds (S.length*5+3) (ag t),rfl,hb,aV W g _ _ _ _ hg,hn,hc,by rw[gC];exact hs,?_⟩⟩;rw[Array.toList_setIfInBounds,List.take_set,hx,yZ]
theorem WOk.lt {w0 W:World}{gm:Nat}{mp:Value}{S:List (In×Value)}(h:WOk w0 gm mp S W):gm<W.heap.size:=by
 obtain⟨_,_,sv,hg,_⟩:=h.st;exact aF hg
end
section
open Go.RowKit Lx Vx Msk
def upI (f:Nat->Int)(i:Nat)(v:Int):Nat->Int:=fun k=>if k=i then v else f k
theorem iG (f:Nat->Int)(i:Nat)(v:Int):upI f i v i=v:=by unfold upI;rw[ay rfl]
theorem wV (f:Nat->Int){i k:Nat}(v:Int)(h:k≠i):upI f i v k=f k:=by unfold upI;rw[au h]
def fk (go n:Nat)(sv:Nat->Value)(H T:Nat->Int)(w:World):Prop:= ∃cur:Array Value,w.heap[go]? =ah cur 142/\cur.size=n*3/\ ∀i,i<n->cur[i*3]? =some (sv i)/\cur[i*3+1]? =some (ag (H i))/\cur[i*3+2]? =some (ag (T i))
section
variable {go n:Nat} {sv:Nat->Value} {H T:Nat->Int} {w w':World}
theorem fk.cells (h:fk go n sv H T w){i:Nat}(hi:i<n):w.cell? (ae go (i*3))=some (sv i)/\w.cell? (ae go (i*3+1))=some (ag (H i))/\w.cell? (ae go (i*3+2))=some (ag (T i))/\w.frozen? (ae go (i*3+1))=false/\w.frozen? (ae go (i*3+2))=false:=by
 obtain⟨cur,hg,_,hc⟩:=h;obtain⟨c0,c1,c2⟩:=hc i hi;exact⟨(aX _ _ _ _ _ _ hg).trans c0,(aX _ _ _ _ _ _ hg).trans c1,(aX _ _ _ _ _ _ hg).trans c2,bh _ _ _ _ _ hg,bh _ _ _ _ _ hg⟩
theorem fk.lt (h:fk go n sv H T w):go<w.heap.size:=by
 obtain⟨cur,hg,_⟩:=h;exact aF hg
theorem fk.same (h:fk go n sv H T w)(e:w'.heap[go]? =w.heap[go]?):fk go n sv H T w':=by
 obtain⟨cur,hg,r⟩:=h;exact⟨cur,e.trans hg,r⟩
theorem fk.below (h:fk go n sv H T w)(hb:Below w.heap.size w w'):fk go n sv H T w':=h.same (hb.block _ h.lt)
theorem fk.setH (h:fk go n sv H T w){i:Nat}(v:Int)(hi:i<n):fk go n sv (upI H i v) T (w.setCell ⟨go,i*3+1,none⟩ (ag v)):=by
 obtain⟨cur,hg,hs,hc⟩:=h;refine⟨_,aV w go (i*3+1) _ _ _ hg,by rw[gC];exact hs,fun k hk=> ?_⟩;obtain⟨c0,c1,c2⟩:=hc k hk;refine⟨?_,?_,?_⟩
 ·rw[dg (by omega)];exact c0
 ·by_cases e:k=i
  ·subst e;rw[iG,fT (by omega)]
  ·rw[wV _ _ e,dg (by omega)];exact c1
 ·rw[dg (by omega)];exact c2
theorem fk.setT (h:fk go n sv H T w){i:Nat}(v:Int)(hi:i<n):fk go n sv H (upI T i v) (w.setCell ⟨go,i*3+2,none⟩ (ag v)):=by
 obtain⟨cur,hg,hs,hc⟩:=h;refine⟨_,aV w go (i*3+2) _ _ _ hg,by rw[gC];exact hs,fun k hk=> ?_⟩;obtain⟨c0,c1,c2⟩:=hc k hk;refine⟨?_,?_,?_⟩
 ·rw[dg (by omega)];exact c0
 ·rw[dg (by omega)];exact c1
 ·by_cases e:k=i
  ·subst e;rw[iG,fT (by omega)]
  ·rw[wV _ _ e,dg (by omega)];exact c2
end
theorem ij (w:World)(g i:Nat)(v:Value):bm g w (w.setCell ⟨g,i,none⟩ v):=bm.set w g i v
def jF (w:World)(v:Value)(S:List (In×Value)):Prop:=w.ownsRow 0 179 5 v S.length (i8 S)
theorem jF.below {w w':World}{v:Value}{S:List (In×Value)}(h:jF w v S)(hb:Below w.heap.size w w'):jF w' v S:=gX h hb
theorem jF.kept {w w':World}{v:Value}{S:List (In×Value)}{go n:Nat}{sv:Nat->Value}{H T:Nat->Int}(h:jF w v S)(hm:fk go n sv H T w)(hk:bm go w w'):jF w' v S:=by
 obtain⟨cur,hg,_⟩:=hm;exact World.ownsRow.kept h hk (.inr fun e=>kE h hg (by decide) e.symm)
theorem jF.form {w:World}{v:Value}{S:List (In×Value)}(h:jF w v S)(h1:1<=S.length): ∃g c,v= .slice (some (ae g 0)) S.length c/\ ∀(j:Nat) (u:In×Value),S[j]? =some u->
  w.cell? (ae g (j*5))=some (ag u.1.op)/\w.cell? (ae g (j*5+1))=some (ag u.1.a)/\w.cell? (ae g (j*5+2))=some (ag u.1.b)/\w.cell? (ae g (j*5+3))=some (ag u.1.to)/\w.cell? (ae g (j*5+4))=some u.2:=by
 rcases h.2 with⟨_,e⟩|⟨g,cap,cur,e,_,hg,_,_,_,hx⟩
 ·omega
 ·refine⟨g,cap,e,fun j u hj=> ?_⟩;have hjl:=(aE.1 hj).1
  have key: ∀(i:Nat) (v:Value),i<5->(iv u).toList[i]? =some v->w.cell? (ae g (j*5+i))=some v:=fun i v hi hv=>by
   refine(aX _ _ _ _ _ _ hg).trans ?_;have e1:(cur.toList.take (S.length*5))[j*5+i]? =(i8 S)[j*5+i]? :=(by rw[hx]);rw[dF (by omega)]at e1;rw[<-bn,e1]
   have e2:S=S.take j++(u::S.drop (j+1)):=by
    conv=>lhs;rw[<-gh j S]
    congr 1;rw[bq hjl,(aE.1 hj).2]
   rw[e2,qe,dt (by rw[oI,d9];omega),oI,d9,eW (by omega),Nat.add_sub_cancel_left];show((iv u).toList++i8 (S.drop (j+1)))[i]? =_;rw[dI (by rw[Dd];exact hi)];exact hv
  exact⟨key 0 _ (by omega) rfl,key 1 _ (by omega) rfl,key 2 _ (by omega) rfl,key 3 _ (by omega) rfl,key 4 _ (by omega) rfl⟩
def Me (mea:Nat->Int×Int)(H T:Nat->Int)(k:Nat):Prop:=H k=(mea k).1/\T k=(mea k).2
def Okm (mea:Nat->Int×Int)(H T:Nat->Int)(k:Nat):Prop:=(H k=0/\T k=0)\/Me mea H T k
def kS (mea:Nat->Int×Int)(ρ:Nat->Nat)(n i:Nat)(H0 T0 H T:Nat->Int):Prop:= ∀k,k<n->k≠i->(ρ k<=ρ i->Okm mea H T k/\(Me mea H0 T0 k->Me mea H T k))/\(ρ i<ρ k->H k=H0 k/\T k=T0 k)
section
variable {mea:Nat->Int×Int} {ρ:Nat->Nat} {n i k0:Nat} {H0 T0 H T H' T':Nat->Int}
theorem kS.refl (h: ∀k,k<n->ρ k<=ρ i->Okm mea H0 T0 k):kS mea ρ n i H0 T0 H0 T0:=fun k hk _=>⟨fun hr=>⟨h k hk hr,id⟩,fun _=>⟨rfl,rfl⟩⟩
theorem kS.setH (h:kS mea ρ n i H0 T0 H T)(v:Int):kS mea ρ n i H0 T0 (upI H i v) T:=fun k hk hne=>by
 have:=h k hk hne;unfold Okm Me at this⊢;rw[wV _ _ hne];exact this
theorem kS.setT (h:kS mea ρ n i H0 T0 H T)(v:Int):kS mea ρ n i H0 T0 H (upI T i v):=fun k hk hne=>by
 have:=h k hk hne;unfold Okm Me at this⊢;rw[wV _ _ hne];exact this
theorem kS.pre (h:kS mea ρ n i H0 T0 H T)(hr:ρ k0<ρ i): ∀k,k<n->ρ k<=ρ k0->Okm mea H T k:=fun k hk hk0=>((h k hk (fun e=>by subst e;omega)).1 (by omega)).1
theorem kS.call (h:kS mea ρ n i H0 T0 H T)(hr:ρ k0<ρ i)(hi:i<n)(hm:Me mea H' T' k0)(h':kS mea ρ n k0 H T H' T'):kS mea ρ n i H0 T0 H' T'/\H' i=H i/\T' i=T i:=by
 refine⟨fun k hk hne=>⟨fun hri=> ?_,fun hri=> ?_⟩,(h' i hi (fun e=>by subst e;omega)).2 hr⟩
 ·by_cases e:k=k0
  ·subst e;exact⟨.inr hm,fun _=>hm⟩
  ·have a:=(h k hk hne).1 hri;by_cases hle:ρ k<=ρ k0
   ·have b:=(h' k hk e).1 hle;exact⟨b.1,fun q=>b.2 (a.2 q)⟩
   ·have b:=(h' k hk e).2 (by omega);unfold Okm Me at a⊢;rw[b.1,b.2];exact a
 ·have e:k≠k0:=fun e=>by subst e;omega
  have a:=(h k hk hne).2 hri;have b:=(h' k hk e).2 (by omega);exact⟨b.1.trans a.1,b.2.trans a.2⟩
end
def vn (mea:Nat->Int×Int)(ρ:Nat->Nat)(go n:Nat)(sv:Nat->Value)(i:Nat)(H0 T0:Nat->Int)(w:World)(r:Ending)(w':World):Prop:=r= .returned (.agg #[sv i,ag (mea i).1,ag (mea i).2])/\ ∃H' T',fk go n sv H' T' w'/\Me mea H' T' i/\kS mea ρ n i H0 T0 H' T'/\bm go w w'
theorem za:prog.underlying 142=some (.struct (prog.fieldsOf 142)):=by kernel_rfl
end
end Go.Proofs.YtkfidffapdhbhaaGreatDoor
