/- Texts of the proof. -/
import Derived.Test.YtjkilacmkbmmbaaGreatDoorPt14
import Derived.Test.YtjkilacmkbmmbaaGreatDoorPt25
set_option maxRecDepth 100000
set_option maxHeartbeats 8000000
namespace Go.Proofs.YtjkilacmkbmmbaaGreatDoor
open Go.Proofs.Tryz Go.RowKit Lx Vx Mx Msk
def stdE (e:Ex):Bool:= !(decide (e.kind=4)||decide (e.kind=5)||decide (e.kind=10))&&e.kids.attach.all fun k=>stdE k.1
 termination_by SizeOf.sizeOf e
 decreasing_by exact gT k.2
theorem mg (e:Ex):stdE e=(!(decide (e.kind=4)||decide (e.kind=5)||decide (e.kind=10))&&e.kids.all stdE):=by
 rw[stdE];congr 1;rw[Bool.eq_iff_iff,cZ,cZ];exact⟨fun h k hk=>h ⟨k,hk⟩ (List.mem_attach _ _),fun h k _=>h k.1 k.2⟩
theorem kV {e:Ex}(h:stdE e=true):e.kind≠4/\e.kind≠5/\e.kind≠10:=by
 rw[mg,bj]at h;have h1:=h.1;refine⟨fun e=> ?_,fun e=> ?_,fun e=> ?_⟩<;>simp[e]at h1
theorem C6 {e k:Ex}(h:stdE e=true)(hk:k∈e.kids):stdE k=true:=by
 rw[mg,bj,cZ]at h;exact h.2 k hk
theorem Js {e:Ex}(h:e.kids=[])(h4:e.kind≠4)(h5:e.kind≠5)(h10:e.kind≠10):stdE e=true:=by
 rw[mg,h];simp[h4,h5,h10]
def mnE (e:Ex):Nat->Bool:=fi (fun _=>false) 0 (fun _=>nev) e
theorem E4 (wk:Int->Bool)(day:Int)(env:List UInt8->Nat->Bool): ∀(N:Nat) (e:Ex),SizeOf.sizeOf e<=N->stdE e=true->fi wk day env e=mnE e
 |0,e,hN,_=>by cases e;simp at hN
 |N+1,e,hN,h=>by
  unfold mnE;rw[fL,fL];have hk:e.kids.map (fi wk day env)=e.kids.map (fi (fun _=>false) 0 (fun _=>nev)):=List.map_congr_left fun k hk=>E4 wk day env N k (by have:=gT hk;omega) (C6 h hk);rw[hk];obtain⟨h4,h5,h10⟩:=kV h;unfold lG;simp only[aw h4,aw h5,aw h10]
theorem C7 {e:Ex}(h:stdE e=true)(wk:Int->Bool)(day:Int)(env:List UInt8->Nat->Bool):fi wk day env e=mnE e:=E4 wk day env _ e (aA _) h
def j3:List (Nat->List In)->Nat->List In
 |[],_=>[]
 |f::fs,b=>f b++j3 fs (b+(f b).length)
def noC:Nat->List In:=fun _=>[]
def opK (k:Int):Int:=if k=9 then 5 else if k=6 then 2 else if k=7 then 3 else 4
def sV (num:List UInt8->Int)(e:Ex)(kc:List (Nat->List In))(b:Nat):List In:=
 if stdE e=true then [⟨1,0,0,0,rs (mnE e) 1440⟩]
 else if e.kind=10 then [⟨8,num e.name,0,0,[]⟩]
 else if e.kind=4 then⟨6,e.a,0,((b+1+((kc.getD 0 noC) (b+1)).length:Nat):Int),[]⟩::(kc.getD 0 noC) (b+1)
 else if e.kind=5 then⟨7,e.a,e.b,((b+1+((kc.getD 0 noC) (b+1)).length:Nat):Int),[]⟩::(kc.getD 0 noC) (b+1)
 else j3 kc b++[⟨opK e.kind,if e.kind=9 then e.a else 0,0,0,[]⟩]
def bO (num:List UInt8->Int)(e:Ex)(b:Nat):List In:=sV num e (e.kids.attach.map fun k=>fun b'=>bO num k.1 b') b
 termination_by SizeOf.sizeOf e
 decreasing_by exact gT k.2
theorem qP (num:List UInt8->Int)(e:Ex)(b:Nat):bO num e b=sV num e (e.kids.map (bO num)) b:=by
 rw[bO];congr 1;have h:=congrArg (List.map (bO num)) (fY e.kids);rw[jP]at h;exact h
theorem lh {num:List UInt8->Int}{e:Ex}(h:stdE e=true)(b:Nat):bO num e b=[⟨1,0,0,0,rs (mnE e) 1440⟩]:=by
 rw[qP];unfold sV;rw[ax h]
theorem mT {num:List UInt8->Int}{e:Ex}(hk:e.kind=10)(b:Nat):bO num e b=[⟨8,num e.name,0,0,[]⟩]:=by
 rw[qP];unfold sV;rw[aw (fun h=>(kV h).2.2 hk),ax hk]
theorem mU {num:List UInt8->Int}{e k:Ex}(hk:e.kind=4)(h0:e.kids[0]? =some k)(b:Nat):bO num e b=⟨6,e.a,0,((b+1+(bO num k (b+1)).length:Nat):Int),[]⟩::bO num k (b+1):=by
 rw[qP];have e0:(e.kids.map (bO num)).getD 0 noC=bO num k:=by simp[List.getD,h0]
 unfold sV;rw[aw (fun h=>(kV h).1 hk),aw (by omega),ax hk,e0]
theorem nQ {num:List UInt8->Int}{e k:Ex}(hk:e.kind=5)(h0:e.kids[0]? =some k)(b:Nat):bO num e b=⟨7,e.a,e.b,((b+1+(bO num k (b+1)).length:Nat):Int),[]⟩::bO num k (b+1):=by
 rw[qP];have e0:(e.kids.map (bO num)).getD 0 noC=bO num k:=by simp[List.getD,h0]
 unfold sV;rw[aw (fun h=>(kV h).2.1 hk),aw (by omega),aw (by omega),ax hk,e0]
theorem oM {num:List UInt8->Int}{e:Ex}(h:stdE e=false)(h4:e.kind≠4)(h5:e.kind≠5)(h10:e.kind≠10)(b:Nat):bO num e b=j3 (e.kids.map (bO num)) b++[⟨opK e.kind,if e.kind=9 then e.a else 0,0,0,[]⟩]:=by
 rw[qP];unfold sV;rw[aw (by rw[h];simp),aw h10,aw h4,aw h5]
theorem LD {e:Ex}(h:e.kids.length=2): ∃k m,e.kids=[k,m]:=by
 match hk:e.kids with
 |[]=>rw[hk]at h;cases h
 |[_]=>rw[hk]at h;cases h
 |[k,m]=>exact⟨k,m,rfl⟩
 |_::_::_::_=>rw[hk]at h;simp at h
theorem NY {e:Ex}(h:e.kids.length=1): ∃k,e.kids=[k]:=by
 match hk:e.kids with
 |[]=>rw[hk]at h;cases h
 |[k]=>exact⟨k,rfl⟩
 |_::_::_=>rw[hk]at h;simp at h
theorem pZ {num:List UInt8->Int}{e k:Ex}(h:stdE e=false)(hk:e.kind=9)(h0:e.kids=[k])(b:Nat):bO num e b=bO num k b++[⟨5,e.a,0,0,[]⟩]:=by
 rw[oM h (by omega) (by omega) (by omega),h0];simp only[bV,dU,j3,eV];unfold opK;rw[ax hk,ax hk]
theorem pF {num:List UInt8->Int}{e k m:Ex}(h:stdE e=false)(hk:e.kind=6\/e.kind=7\/e.kind=8)(h0:e.kids=[k,m])(b:Nat):bO num e b=(bO num k b++bO num m (b+(bO num k b).length))++[⟨opK e.kind,0,0,0,[]⟩]:=by
 rw[oM h (by omega) (by omega) (by omega),h0];simp only[bV,dU,j3,eV];rw[aw (by omega)]
theorem nT {e:Ex}(h:OKE e)(hs:stdE e=false):(e.kind=4/\ ∃k,e.kids=[k])\/(e.kind=5/\ ∃k,e.kids=[k])\/(e.kind=9/\ ∃k,e.kids=[k])\/e.kind=10\/((e.kind=6\/e.kind=7\/e.kind=8)/\ ∃k m,e.kids=[k,m]):=by
 obtain⟨h1,h2,h3,_,_⟩:=h.kinds;unfold kidsP at h3;by_cases q:e.kind=4\/e.kind=5\/e.kind=9
 ·rw[ax q]at h3;obtain⟨k,hk⟩:=NY h3;rcases q with q|q|q
  ·exact .inl ⟨q,k,hk⟩
  ·exact .inr (.inl ⟨q,k,hk⟩)
  ·exact .inr (.inr (.inl ⟨q,k,hk⟩))
 ·rw[aw q]at h3;by_cases q2:e.kind=6\/e.kind=7\/e.kind=8
  ·rw[ax q2]at h3;obtain⟨k,m,hk⟩:=LD h3;exact .inr (.inr (.inr (.inr ⟨q2,k,m,hk⟩)))
  ·rw[aw q2]at h3;by_cases q3:e.kind=10
   ·exact .inr (.inr (.inr (.inl q3)))
   ·have:=Js (ie.1 h3) (by omega) (by omega) q3;rw[hs]at this;cases this
theorem AT: ∀(l:List (Int×Int)) (last:Int),good last 1440 l->risL l last=true
 |[],_,_=>rfl
 |s::l,last,⟨h1,h2,h3,h4⟩=>by
  unfold risL;rw[aw (by omega)];exact AT l s.2 h4
theorem NZ (f:Nat->Bool):risL (rs f 1440) (-1)=true:=AT _ _ (zy f 1440).good
def i7 (e:Ex):Nat:=1+(e.kids.attach.map fun k=>i7 k.1).sum
 termination_by SizeOf.sizeOf e
 decreasing_by exact gT k.2
theorem mi (e:Ex):i7 e=1+(e.kids.map i7).sum:=by
 rw[i7];congr 2;have h:=congrArg (List.map i7) (fY e.kids);rw[jP]at h;exact h
theorem C8 (e:Ex):1<=i7 e:=by rw[mi];omega
theorem lU (num:List UInt8->Int): ∀(N:Nat) (e:Ex),SizeOf.sizeOf e<=N->OKE e-> ∀b,1<=(bO num e b).length/\(bO num e b).length<=i7 e
 |0,e,hN,_,_=>by cases e;simp at hN
 |N+1,e,hN,h,b=>by
  have hn:=mi e;cases hs:stdE e with
  |true=>
   rw[lh hs];exact⟨by simp,by simpa using C8 e⟩
  |false=>
   have ih: ∀k∈e.kids,∀b,1<=(bO num k b).length/\(bO num k b).length<=i7 k:=fun k hk b=>lU num N k (by have:=gT hk;omega) (h.kid hk) b;rcases nT h hs with⟨q,k,hk⟩|⟨q,k,hk⟩|⟨q,k,hk⟩|q|⟨q,k,m,hk⟩
   ·rw[mU q (by rw[hk];rfl)];have:=ih k (by rw[hk];simp) (b+1);rw[hk]at hn;simp only[bV,dU,iY,List.sum_nil]at hn;rw[bH];omega
   ·rw[nQ q (by rw[hk];rfl)];have:=ih k (by rw[hk];simp) (b+1);rw[hk]at hn;simp only[bV,dU,iY,List.sum_nil]at hn;rw[bH];omega
   ·rw[pZ hs q hk];have:=ih k (by rw[hk];simp) b;rw[hk]at hn;simp only[bV,dU,iY,List.sum_nil]at hn;rw[aO,eI];omega
   ·rw[mT q];exact⟨by simp,by simpa using C8 e⟩
   ·rw[pF hs q hk];have h1:=ih k (by rw[hk];simp) b;have h2:=ih m (by rw[hk];simp) (b+(bO num k b).length);rw[hk]at hn;simp only[bV,dU,iY,List.sum_nil]at hn;rw[aO,aO,eI];omega
theorem pG: ∀(N:Nat) (e:Ex) (deep n:Nat),SizeOf.sizeOf e<=N->(shapeP e deep n).1=0->(shapeP e deep n).2=n+i7 e/\n+i7 e<=600
 |0,e,_,_,hN,_=>by cases e;simp at hN
 |N+1,e,deep,n,hN,h=>by
  rw[gU]at h⊢;by_cases h1:600<n+1\/40<deep
  ·rw[ax h1]at h;cases h
  ·rw[aw h1]at h⊢;by_cases h2:aloneP e≠0
   ·rw[ax h2]at h;exact absurd h h2
   ·rw[aw h2]at h⊢
    have key: ∀(ks:List Ex) (m:Nat),(∀k∈ks,SizeOf.sizeOf k<=N)->m<=600->(gy ks (deep+1) (0,m)).1=0->(gy ks (deep+1) (0,m)).2=m+(ks.map i7).sum/\m+(ks.map i7).sum<=600:=by
     intro ks;induction ks with
     |nil=>intro m _ hm _;exact⟨by simp[gy],by simpa using hm⟩
     |cons k ks ih=>
      intro m hks hm hz;rw[ir]at hz⊢;rw[aw (by simp)]at hz⊢
      have hz1:(shapeP k (deep+1) m).1=0:=by
       by_cases hq:(shapeP k (deep+1) m).1=0
       ·exact hq
       ·rw[kb hq]at hz;exact absurd hz hq
      obtain⟨a1,a2⟩:=pG N k (deep+1) m (hks k bo) hz1;have e1:shapeP k (deep+1) m=(0,m+i7 k):=Prod.ext hz1 a1;rw[e1]at hz⊢;obtain⟨b1,b2⟩:=ih (m+i7 k) (fun k' hk'=>hks k' (bx _ hk')) a2 hz;rw[bV,iY];exact⟨by rw[b1];omega,by omega⟩
    obtain⟨a,b⟩:=key e.kids (n+1) (fun k hk=>by have:=gT hk;omega) (by omega) h;rw[mi];exact⟨by rw[a];omega,by omega⟩
def jW (l:List In)(b:Nat)(c:List In):Prop:= ∀j,j<c.length->l[b+j]? =c[j]?
theorem jW.left {l:List In}{b:Nat}{c d:List In}(h:jW l b (c++d)):jW l b c:=fun j hj=>by
 rw[h j (by rw[aO];omega),d9 hj]
theorem jW.right {l:List In}{b:Nat}{c d:List In}(h:jW l b (c++d)):jW l (b+c.length) d:=fun j hj=>by
 have:=h (c.length+j) (by rw[aO];omega);rw[dL (by omega),Nat.add_sub_cancel_left,<-Nat.add_assoc]at this;exact this
theorem jW.one {l:List In}{b:Nat}{x:In}{d:List In}(h:jW l b (x::d)):l[b]? =some x:=by
 have:=h 0 (by simp);simpa using this
theorem jW.tail {l:List In}{b:Nat}{x:In}{d:List In}(h:jW l b (x::d)):jW l (b+1) d:=jW.right (c:=[x]) h
structure jx (l:List In)(b n R N:Nat):Prop where
 fin:hAt l (b+n)=hAt l b+1
 tk: ∀j x,b<=j->j<b+n->l[j]? =some x->Vx.tk x+hAt l b<=hAt l j
 to: ∀j x,b<=j->j<b+n->l[j]? =some x->isG x->hAt l x.to.toNat=hAt l j+1
 ins: ∀j x,b<=j->j<b+n->l[j]? =some x->fK x j N R=0
theorem QG {x:In}(ho:x.op=1)(h:risL x.sp (-1)=true)(j N R:Nat):fK x j N R=0:=by
 unfold fK;rw[aw (by omega),ax ho,ax h]
theorem N0 {x:In}(ho:x.op=2\/x.op=3\/x.op=4)(j N R:Nat):fK x j N R=0:=by
 unfold fK;rw[ax ho]
theorem QH {x:In}(ho:x.op=5)(h:x.a≠0/\ -1439<=x.a/\x.a<=1439)(j N R:Nat):fK x j N R=0:=by
 unfold fK;rw[aw (by omega),aw (by omega),ax ho,ax h]
theorem QI {x:In}{j N:Nat}(ho:x.op=6)(ht:(j:Int)+2<=x.to/\x.to<=N)(h:1<=x.a/\x.a<=127)(R:Nat):fK x j N R=0:=by
 unfold fK;rw[aw (by omega),aw (by omega),aw (by omega),ax ho,ax ht,ax h]
theorem QJ {x:In}{j N:Nat}(ho:x.op=7)(ht:(j:Int)+2<=x.to/\x.to<=N)(h:0<=x.a/\x.a<=x.b/\x.b<146097)(R:Nat):fK x j N R=0:=by
 unfold fK;rw[aw (by omega),aw (by omega),aw (by omega),aw (by omega),ax ho,ax ht,ax h]
theorem QK {x:In}{R:Nat}(ho:x.op=8)(h:0<=x.a/\x.a<R)(j N:Nat):fK x j N R=0:=by
 unfold fK;rw[aw (by omega),aw (by omega),aw (by omega),aw (by omega),aw (by omega),ax ho,ax h]
theorem QL {x:In}(ho:x.op=1\/x.op=8):eff x=1:=by unfold eff;rw[ax ho]
theorem QM {x:In}(ho:x.op=2\/x.op=3\/x.op=4):eff x= -1:=by unfold eff;rw[aw (by omega),ax ho]
theorem Ms {x:In}(ho:x.op=5\/x.op=6\/x.op=7):eff x=0:=by unfold eff;rw[aw (by omega),aw (by omega)]
theorem Ps {x:In}(ho:x.op=1\/x.op=6\/x.op=7\/x.op=8):Vx.tk x=0:=by unfold Vx.tk;rw[aw (by omega),aw (by omega)]
theorem Rq {x:In}(ho:x.op=5):Vx.tk x=1:=by unfold Vx.tk;rw[ax ho]
theorem Rr {x:In}(ho:x.op=2\/x.op=3\/x.op=4):Vx.tk x=2:=by unfold Vx.tk;rw[aw (by omega),ax ho]
theorem jx.one {l:List In}{b R N:Nat}{x:In}(hx:l[b]? =some x)(ho:x.op=1\/x.op=8)(hi:fK x b N R=0):jx l b 1 R N:=by
 refine⟨by rw[jB hx,QL ho],fun j y h1 h2 hy=> ?_,fun j y h1 h2 hy hg=> ?_,fun j y h1 h2 hy=> ?_⟩<;>
  (obtain rfl:j=b:=by omega)<;>(rw[hx]at hy;cases aI hy)
 ·rw[Ps (by omega)];omega
 ·rcases hg with hg|hg<;>omega
 ·exact hi
theorem jx.guard {l:List In}{b n R N:Nat}{x:In}(hx:l[b]? =some x)(ho:x.op=6\/x.op=7)(hto:x.to=((b+1+n:Nat):Int))(hi:fK x b N R=0)(h:jx l (b+1) n R N):jx l b (n+1) R N:=by
 have e1:hAt l (b+1)=hAt l b:=by rw[jB hx,Ms (by omega)];omega
 have e2:b+(n+1)=b+1+n:=by omega
 refine⟨by rw[e2,h.fin,e1],fun j y h1 h2 hy=> ?_,fun j y h1 h2 hy hg=> ?_,fun j y h1 h2 hy=> ?_⟩<;>by_cases hj:j=b
 ·subst hj;rw[hx]at hy;cases aI hy;rw[Ps (by omega)];omega
 ·have:=h.tk j y (by omega) (by omega) hy;rw[e1]at this;exact this
 ·subst hj;rw[hx]at hy;cases aI hy;rw[hto,cj,h.fin,e1]
 ·exact h.to j y (by omega) (by omega) hy hg
 ·subst hj;rw[hx]at hy;cases aI hy;exact hi
 ·exact h.ins j y (by omega) (by omega) hy
theorem jx.shift {l:List In}{b n R N:Nat}{x:In}(h:jx l b n R N)(hx:l[b+n]? =some x)(ho:x.op=5)(hi:fK x (b+n) N R=0):jx l b (n+1) R N:=by
 refine⟨by rw[<-Nat.add_assoc,jB hx,Ms (by omega),h.fin];omega,fun j y h1 h2 hy=> ?_,fun j y h1 h2 hy hg=> ?_,fun j y h1 h2 hy=> ?_⟩<;>by_cases hj:j=b+n
 ·subst hj;rw[hx]at hy;cases aI hy;rw[Rq ho,h.fin];omega
 ·exact h.tk j y h1 (by omega) hy
 ·subst hj;rw[hx]at hy;cases aI hy;rcases hg with hg|hg<;>omega
 ·exact h.to j y h1 (by omega) hy hg
 ·subst hj;rw[hx]at hy;cases aI hy;exact hi
 ·exact h.ins j y h1 (by omega) hy
theorem jx.pair {l:List In}{b n m R N:Nat}{x:In}(h:jx l b n R N)(h':jx l (b+n) m R N)(hx:l[b+n+m]? =some x)(ho:x.op=2\/x.op=3\/x.op=4):jx l b (n+m+1) R N:=by
 have e1:=h.fin;have e2:=h'.fin;refine⟨by rw[show b+(n+m+1)=b+n+m+1 by omega,jB hx,QM ho];omega,fun j y h1 h2 hy=> ?_,fun j y h1 h2 hy hg=> ?_,fun j y h1 h2 hy=> ?_⟩<;>by_cases hj:j=b+n+m
 ·subst hj;rw[hx]at hy;cases aI hy;rw[Rr ho];omega
 ·by_cases hj2:j<b+n
  ·exact h.tk j y h1 hj2 hy
  ·have:=h'.tk j y (by omega) (by omega) hy;omega
 ·subst hj;rw[hx]at hy;cases aI hy;rcases hg with hg|hg<;>omega
 ·by_cases hj2:j<b+n
  ·exact h.to j y h1 hj2 hy hg
  ·exact h'.to j y (by omega) (by omega) hy hg
 ·subst hj;rw[hx]at hy;cases aI hy;exact N0 ho _ _ _
 ·by_cases hj2:j<b+n
  ·exact h.ins j y h1 hj2 hy
  ·exact h'.ins j y (by omega) (by omega) hy
theorem E5 {k:Int}(h:k=6\/k=7\/k=8):opK k=2\/opK k=3\/opK k=4:=by
 unfold opK;rcases h with rfl|rfl|rfl<;>simp
theorem vh {e k:Ex}(hk:k∈e.kids){x:List UInt8}(hx:x∈nms k):x∈nms e:=by
 rw[kh,cY];right;unfold iZ;exact List.mem_flatten.2 ⟨nms k,dM.2 ⟨k,hk,rfl⟩,hx⟩
theorem vj {e:Ex}(h:e.kind=10):e.name∈nms e:=by rw[kh,ax h];simp
theorem Jt {num:List UInt8->Int}{R N:Nat}{l:List In}: ∀(M:Nat) (e:Ex),SizeOf.sizeOf e<=M->OKE e->(∀x∈nms e,0<=num x/\num x<R)-> ∀b,jW l b (bO num e b)->b+(bO num e b).length<=N->jx l b (bO num e b).length R N
 |0,e,hM,_,_,_,_,_=>by cases e;simp at hM
 |M+1,e,hM,h,hn,b,hs,hN=>by
  have ih: ∀k∈e.kids,∀b',jW l b' (bO num k b')->b'+(bO num k b').length<=N->jx l b' (bO num k b').length R N:=fun k hk b'=>Jt M k (by have:=gT hk;omega) (h.kid hk) (fun x hx=>hn x (vh hk hx)) b';have hr:=h.kinds.2.2.2.1;cases hstd:stdE e with
  |true=>
   rw[lh hstd]at hs⊢;exact jx.one hs.one (.inl rfl) (QG rfl (NZ _) _ _ _)
  |false=>
   rcases nT h hstd with⟨q,k,hk⟩|⟨q,k,hk⟩|⟨q,k,hk⟩|q|⟨q,k,m,hk⟩
   ·have hm:k∈e.kids:=(by rw[hk];simp);have h1:=(lU num _ k (aA _) (h.kid hm) (b+1)).1;unfold rangeP at hr;rw[aw (by omega),ax q]at hr;have hr':=eE hr;rw[mU q (by rw[hk];rfl)]at hs hN⊢;rw[bH]at hN⊢;refine jx.guard hs.one (.inl rfl) rfl (QI rfl ⟨?_,?_⟩ ⟨hr'.1,?_⟩ _) (ih k hm (b+1) hs.tail (by omega))
    ·show(b:Int)+2<=((b+1+_:Nat):Int);omega
    ·show((b+1+_:Nat):Int)<=_;omega
    ·show e.a<=127;omega
   ·have hm:k∈e.kids:=(by rw[hk];simp);have h1:=(lU num _ k (aA _) (h.kid hm) (b+1)).1;unfold rangeP at hr;rw[aw (by omega),aw (by omega),ax q]at hr;have hr':=eE hr;rw[nQ q (by rw[hk];rfl)]at hs hN⊢;rw[bH]at hN⊢;refine jx.guard hs.one (.inr rfl) rfl (QJ rfl ⟨?_,?_⟩ hr' _) (ih k hm (b+1) hs.tail (by omega))
    ·show(b:Int)+2<=((b+1+_:Nat):Int);omega
    ·show((b+1+_:Nat):Int)<=_;omega
   ·have hm:k∈e.kids:=(by rw[hk];simp);unfold rangeP at hr;rw[aw (by omega),aw (by omega),aw (by omega),ax q]at hr;have hr':=eE hr;rw[pZ hstd q hk]at hs hN⊢;rw[aO,eI]at hN⊢;exact jx.shift (ih k hm b hs.left (by omega)) hs.right.one rfl (QH rfl ⟨hr'.1,by show-1439<=e.a;omega,by show e.a<=1439;omega⟩ _ _ _)
   ·rw[mT q]at hs⊢;exact jx.one hs.one (.inr rfl) (QK rfl (hn _ (vj q)) _ _)
   ·have hm:k∈e.kids:=(by rw[hk];simp);have hm':m∈e.kids:=(by rw[hk];simp);rw[pF hstd q hk]at hs hN⊢;rw[aO,aO,eI]at hN⊢;have hs1:=hs.right.one;rw[aO,<-Nat.add_assoc]at hs1;exact jx.pair (ih k hm b hs.left.left (by omega)) (ih m hm' _ hs.left.right (by omega)) hs1 (E5 q)
theorem Ju {num:List UInt8->Int}{R:Nat}{e:Ex}(h:OKE e)(hn: ∀x∈nms e,0<=num x/\num x<R):ma (bO num e 0)/\ ∀j x,(bO num e 0)[j]? =some x->fK x j (bO num e 0).length R=0:=by
 have hs:jW (bO num e 0) 0 (bO num e 0):=fun j _=>by rw[bG]
 have q:=Jt (N:=(bO num e 0).length) (R:=R) _ e (aA _) h hn 0 hs (by omega)
 have lt: ∀{j:Nat} {x:In},(bO num e 0)[j]? =some x->j<0+(bO num e 0).length:=fun hj=>by
  have:=(aD.1 hj).1;omega
 refine⟨⟨fun j x hx=> ?_,fun j x hx hg=>q.to j x (dW _) (lt hx) hx hg,?_⟩,fun j x hx=>q.ins j x (dW _) (lt hx) hx⟩
 ·have:=q.tk j x (dW _) (lt hx) hx;simpa[hAt] using this
 ·have:=q.fin;simpa[hAt] using this
theorem AU {cs cs':List Cd}{l:List In}: ∀(j:Nat),(∀j' x,j'<j->l[j']? =some x->x.op=8->(cs.getD x.a.toNat cd0).high=(cs'.getD x.a.toNat cd0).high)->j<=l.length->mxH cs l j=mxH cs' l j
 |0,_,_=>rfl
 |j+1,h,hj=>by
  have ih:=AU (cs:=cs) (cs':=cs') (l:=l) j (fun j' x h1=>h j' x (by omega)) (by omega);have hx:l[j]? =some l[j]:=ay (by omega);rw[kF hx,kF hx,ih];by_cases ho:(l[j]).op=8
  ·rw[ax ho,ax ho,h j _ (by omega) hx ho]
  ·rw[aw ho,aw ho]
theorem AV {cs cs':List Cd}{l:List In}: ∀(j:Nat),(∀j' x,j'<j->l[j']? =some x->x.op=8->(cs.getD x.a.toNat cd0).steps=(cs'.getD x.a.toNat cd0).steps)->j<=l.length->stS cs l j=stS cs' l j
 |0,_,_=>rfl
 |j+1,h,hj=>by
  have ih:=AV (cs:=cs) (cs':=cs') (l:=l) j (fun j' x h1=>h j' x (by omega)) (by omega);have hx:l[j]? =some l[j]:=ay (by omega);rw[jR hx,jR hx,ih];by_cases ho:(l[j]).op=8
  ·rw[ax ho,ax ho,h j _ (by omega) hx ho]
  ·rw[aw ho,aw ho]
def eN (C:List (List In))(m:Nat->Int×Int):List Cd:=(List.range C.length).map fun k=>⟨C.getD k [],(m k).1,(m k).2⟩
theorem ui (C:List (List In))(m:Nat->Int×Int):(eN C m).length=C.length:=by simp[eN]
theorem lV {C:List (List In)}{m:Nat->Int×Int}{k:Nat}(h:k<C.length):(eN C m).getD k cd0=⟨C.getD k [],(m k).1,(m k).2⟩:=by
 have:(eN C m)[k]? =some ⟨C.getD k [],(m k).1,(m k).2⟩:=by
  unfold eN;rw[bc,List.getElem?_range h];rfl
 simp[List.getD,this]
def li (C:List (List In))(m:Nat->Int×Int)(i:Nat):Int×Int:=(min (mxH (eN C m) (C.getD i []) (C.getD i []).length) 101,min (stS (eN C m) (C.getD i []) (C.getD i []).length) 20001)
def nU (C:List (List In)):Nat->Nat->Int×Int
 |0,_=>(0,0)
 |f+1,i=>li C (nU C f) i
structure sc (C:List (List In))(ρ:Nat->Nat):Prop where
 lt: ∀(i j:Nat) (x:In),i<C.length->(C.getD i [])[j]? =some x->x.op=8->0<=x.a/\x.a.toNat<C.length/\ρ x.a.toNat<ρ i
theorem yv {C:List (List In)}{ρ:Nat->Nat}(h:sc C ρ){m m':Nat->Int×Int}{i:Nat}(hi:i<C.length)(hm: ∀k,k<C.length->ρ k<ρ i->m k=m' k):li C m i=li C m' i:=by
 have key: ∀j' x,j'<(C.getD i []).length->(C.getD i [])[j']? =some x->x.op=8->(eN C m).getD x.a.toNat cd0=(eN C m').getD x.a.toNat cd0:=fun j' x _ hx ho=>by
  obtain⟨_,h2,h3⟩:=h.lt i j' x hi hx ho;rw[lV h2,lV h2,hm _ h2 h3]
 have e1:mxH (eN C m) (C.getD i []) (C.getD i []).length=mxH (eN C m') (C.getD i []) (C.getD i []).length:=AU _ (fun j' x h1 h2 h3=>by rw[key j' x h1 h2 h3]) (aA _);have e2:stS (eN C m) (C.getD i []) (C.getD i []).length=stS (eN C m') (C.getD i []) (C.getD i []).length:=AV _ (fun j' x h1 h2 h3=>by rw[key j' x h1 h2 h3]) (aA _);unfold li;rw[e1,e2]
theorem AW {C:List (List In)}{ρ:Nat->Nat}(h:sc C ρ): ∀(f f' i:Nat),i<C.length->ρ i<f->ρ i<f'->nU C f i=nU C f' i
 |0,_,_,_,h1,_=>by omega
 |_+1,0,_,_,_,h2=>by omega
 |f+1,f'+1,i,hi,h1,h2=>by
  unfold nU;exact yv h hi fun k hk hr=>AW h f f' k hk (by omega) (by omega)
theorem N1 {C:List (List In)}{ρ:Nat->Nat}(h:sc C ρ){N:Nat}(hN: ∀i,i<C.length->ρ i<=N){i:Nat}(hi:i<C.length):nU C (N+1) i=li C (nU C (N+1)) i:=by
 conv=>lhs;unfold nU
 have h1:=hN i hi;exact yv h hi fun k hk hr=>AW h N (N+1) k hk (by omega) (by have:=hN k hk;omega)
theorem xU (x:In): -1<=eff x/\eff x<=1:=by
 unfold eff;split
 ·omega
 ·split<;>omega
theorem nz (l:List In): ∀j:Nat,-(j:Int)<=hAt l j/\hAt l j<=(j:Int)
 |0=>by simp[hAt]
 |j+1=>by
  have ih:=nz l j;have e:=xU (l.getD j in0);simp only[hAt];omega
structure rq (cs:List Cd):Prop where
 hi: ∀k,0<=(cs.getD k cd0).high/\(cs.getD k cd0).high<=101
 st: ∀k,0<=(cs.getD k cd0).steps/\(cs.getD k cd0).steps<=20001
theorem rZ {cs:List Cd}(h:rq cs)(l:List In): ∀j:Nat,0<=mxH cs l j/\mxH cs l j<=(j:Int)+101
 |0=>by simp[mxH]
 |j+1=>by
  have ih:=rZ h l j;have e:=nz l j;have e':=nz l (j+1);have q:=h.hi (l.getD j in0).a.toNat;simp only[mxH];split<;>omega
theorem r6 {cs:List Cd}(h:rq cs)(l:List In): ∀j:Nat,(j:Int)<=stS cs l j/\stS cs l j<=(j:Int)*20002
 |0=>by simp[stS]
 |j+1=>by
  have ih:=r6 h l j;have q:=h.st (l.getD j in0).a.toNat;simp only[stS];split<;>omega
theorem vP {C:List (List In)}{m:Nat->Int×Int}(h: ∀k,k<C.length->(0<=(m k).1/\(m k).1<=101)/\(0<=(m k).2/\(m k).2<=20001)):rq (eN C m):=by
 constructor<;>intro k<;>by_cases hk:k<C.length
 ·rw[lV hk];exact(h k hk).1
 ·have:(eN C m).getD k cd0=cd0:=by
   have:(eN C m)[k]? =none:=eU (by rw[ui];omega);simp[List.getD,this]
  rw[this];simp[cd0]
 ·rw[lV hk];exact(h k hk).2
 ·have:(eN C m).getD k cd0=cd0:=by
   have:(eN C m)[k]? =none:=eU (by rw[ui];omega);simp[List.getD,this]
  rw[this];simp[cd0]
theorem E6 {C:List (List In)}{m:Nat->Int×Int}(h:rq (eN C m))(i:Nat):(0<=(li C m i).1/\(li C m i).1<=101)/\(0<=(li C m i).2/\(li C m i).2<=20001)/\(1<=(C.getD i []).length->1<=(li C m i).2):=by
 have a:=rZ h (C.getD i []) (C.getD i []).length;have b:=r6 h (C.getD i []) (C.getD i []).length;refine⟨⟨?_,?_⟩,⟨?_,?_⟩,fun hl=> ?_⟩<;>simp only[li]<;>omega
theorem E7 (C:List (List In)): ∀(f i:Nat),(0<=(nU C f i).1/\(nU C f i).1<=101)/\(0<=(nU C f i).2/\(nU C f i).2<=20001)
 |0,i=>by simp[nU]
 |f+1,i=>by
  have h:=E6 (C:=C) (vP (C:=C) fun k _=>E7 C f k) i;exact⟨h.1,h.2.1⟩
theorem GC (C:List (List In))(f:Nat):rq (eN C (nU C f)):=vP fun k _=>E7 C f k
section
variable {B:Nat->Prop}
def vk (e:Ex)(w:World)(r:Ending)(w':World):Prop:=r= .returned (.bool (stdE e))/\ao w w'
def QN (w:World)(sl:Value)(ks:List Ex):Prop:=
 ∃g o c:Nat,sl= .slice (some (ae g o)) ks.length c/\ks.length<9223372036854775808/\ ∀(j:Nat) (k:Ex),ks[j]? =some k-> ∃(p:Option Addr) (q:Nat),
  w.cell? (ae g (o+j*5))=some (ag k.kind)/\w.cell? (ae g (o+j*5+1))=some (ag k.a)/\w.cell? (ae g (o+j*5+2))=some (ag k.b)/\
  w.cell? (ae g (o+j*5+3))=some (.string ⟨k.name.toArray⟩)/\w.cell? (ae g (o+j*5+4))=some (.slice p k.kids.length q)/\
  ∀W:World,ao w W->Calls prog 177 #[.agg #[ag k.kind,ag k.a,ag k.b,.string ⟨k.name.toArray⟩,.slice p k.kids.length q]] W (vk k W)
theorem LG {ks:List Ex}{j:Nat}{k:Ex}(h:ks[j]? =some k):(ks.drop j).all stdE=(stdE k&&(ks.drop (j+1)).all stdE):=by
 obtain⟨h1,h2⟩:=aD.1 h;rw[bu h1,h2];rfl
theorem rL (e:Ex)(p:Option Addr)(c:Nat)(w:World)(hk:e.kids=[]\/QN w (.slice p e.kids.length c) e.kids)(hlen:e.kids.length<9223372036854775808):
  Calls prog 177 #[.agg #[ag e.kind,ag e.a,ag e.b,.string ⟨e.name.toArray⟩,.slice p e.kids.length c]] w (vk e w):=by
 have hbA:=am w (.cells #[ag e.kind,ag e.a,ag e.b,.string ⟨e.name.toArray⟩,.slice p e.kids.length c] 52);have hxA:=aB w (.cells #[ag e.kind,ag e.a,ag e.b,.string ⟨e.name.toArray⟩,.slice p e.kids.length c] 52);generalize hwA:w.alloc (.cells #[ag e.kind,ag e.a,ag e.b,.string ⟨e.name.toArray⟩,.slice p e.kids.length c] 52)=wA at*;have z0:=ak 0 hxA;have z4:=ak 4 hxA;generalize hX:stdE e=X;have HX:RJ (stdE e=X):=hX;unfold vk;rw[hX];clear hX;by_cases k4:e.kind=4
 ·have HE:RJ (X=false):=by
   show _=_;rw[<-HX.o];cases hs:stdE e with
   |false=>rfl
   |true=>exact absurd k4 (kV hs).1
  have e4:(e.kind==4)=true:=(by simp[k4]);clear hk HX k4;go_enter func177,ntmps177;go_wp2_with fail;go_ret;rw[HE.o];exact⟨rfl,hbA⟩
 have e4:(e.kind==4)=false:=by simpa using k4
 by_cases k5:e.kind=5
 ·have HE:RJ (X=false):=by
   show _=_;rw[<-HX.o];cases hs:stdE e with
   |false=>rfl
   |true=>exact absurd k5 (kV hs).2.1
  have e5:(e.kind==5)=true:=(by simp[k5]);clear hk HX k4 k5;go_enter func177,ntmps177;go_wp2_with fail;go_ret;rw[HE.o];exact⟨rfl,hbA⟩
 have e5:(e.kind==5)=false:=by simpa using k5
 by_cases k10:e.kind=10
 ·have HE:RJ (X=false):=by
   show _=_;rw[<-HX.o];cases hs:stdE e with
   |false=>rfl
   |true=>exact absurd k10 (kV hs).2.2
  have e10:(e.kind==10)=true:=(by simp[k10]);clear hk HX k4 k5 k10;go_enter func177,ntmps177;go_wp2_with fail;go_ret;rw[HE.o];exact⟨rfl,hbA⟩
 have e10:(e.kind==10)=false:=by simpa using k10
 have HS:RJ ((e.kids.drop 0).all stdE=X):=by
  show _=_;rw[<-HX.o,mg,List.drop_zero];simp[k4,k5,k10]
 clear HX k4 k5 k10;go_enter func177,ntmps177;go_wp2_with fail;go_loopw [4,14] (fun _ t wr=> ∃j:Nat,t=ag (j:Int)/\j<=e.kids.length/\(e.kids.drop j).all stdE=X/\ao w wr) (fun _ t _=>e.kids.length-(intOf t).toNat);case atStart=>exact⟨0,rfl,by omega,HS.o,hbA⟩
 case round=>
  obtain⟨j,rfl,hj,hXr,hb⟩:=hrel;clear HS z0 z4 hxA hbA hwA e4 e5 e10;have hj0:(0:Int)<=(j:Int):=(by omega);by_cases hlt:j<e.kids.length
  ·have hlt':(j:Int)<(e.kids.length:Int):=(by omega);obtain⟨k,hjk⟩: ∃k,e.kids[j]? =some k:=⟨e.kids[j],ay hlt⟩
   rw[LG hjk]at hXr;have hks:e.kids≠[]:=fun h=>(by rw[h]at hlt;simp at hlt);obtain⟨g,o,c',hsl,_,hkid⟩:=hk.resolve_left hks;obtain⟨pk,ck,d0,d1,d2,d3,d4,ihk⟩:=hkid j k hjk;have f0:=aj hb d0;have f1:=aj hb d1;have f2:=aj hb d2;have f3:=aj hb d3;have f4:=aj hb d4;have hbB:=am wr (.cells #[ag k.kind,ag k.a,ag k.b,.string ⟨k.name.toArray⟩,.slice pk k.kids.length ck] 52);have hxB:=aB wr (.cells #[ag k.kind,ag k.a,ag k.b,.string ⟨k.name.toArray⟩,.slice pk k.kids.length ck] 52);have hb2:=au hb hbB;have cR:=ihk _ hb2;injection hsl with e1 e2 e3;subst e1;subst e3;clear d0 d1 d2 d3 d4 ihk hkid hks hjk hbB;have HXr:RJ ((stdE k&&(e.kids.drop (j+1)).all stdE)=X):=hXr;unfold vk at cR;clear hXr;generalize stdE k=y at*;generalize hwB:wr.alloc (.cells #[ag k.kind,ag k.a,ag k.b,.string ⟨k.name.toArray⟩,.slice pk k.kids.length ck] 52)=wB at*;go_wp2_with(refine aR rfl 52 _ rfl _ rfl _ _ _ _ hxB fc rfl (by kernel_rfl) ?_)
   refine cR.mono ?_;rintro r w3 ⟨rfl,b3⟩;have hb3:=au hb2 b3;clear cR hxB hwB f0 f1 f2 f3 f4 b3 hb2;cases y with
   |false=>
    have HE:RJ (X=false):=(by show _=_;rw[<-HXr.o];rfl);clear HXr;go_wp2_with fail;go_ret;rw[HE.o];exact⟨rfl,hb3⟩
   |true=>
    go_wp2_with fail;go_roundw;case rel=>exact⟨j+1,by go_num,by omega,by rw[<-HXr.o];rfl,hb3⟩
    case measure=>simp[intOf];omega
  ·have hlt': ¬(j:Int)<(e.kids.length:Int):=(by omega);have HE:RJ (X=true):=(by show _=_;rw[<-hXr,List.drop_eq_nil_of_le (by omega)];rfl);clear hXr;go_wp2_with fail;go_ret;rw[HE.o];exact⟨rfl,hb⟩
theorem GE: ∀(d:Nat) (e:Ex) (sl:Value) (w:World),fX B d w sl e.kids->Calls prog 177 #[exV e sl] w (vk e w):=by
 intro d;induction d with
 |zero=>
  intro e sl w hk;obtain⟨p,c,rfl⟩:=hk.form;exact rL e p c w (.inl hk.1) (by rw[hk.1];decide)
 |succ d ih=>
  intro e sl w hk;obtain⟨p,c,hsl⟩:=hk.form;subst hsl;rcases hk with⟨h,_⟩|⟨g,o,c',hg,hs,hl,hkid⟩
  ·exact rL e p c w (.inl h) (by rw[h];decide)
  ·refine rL e p c w (.inr ⟨g,o,c',hs,hl,fun j k hj=> ?_⟩) hl;obtain⟨hn',sk,c0,c1,c2,c3,c4,r⟩:=hkid j k hj;obtain⟨p',q',rfl⟩:=r.form;exact⟨p',q',c0,c1,c2,c3,c4,fun W hb=>ih k _ W (r.kept fun g' _ hl'=>hb.block g' hl')⟩
end
theorem E9: ∀(N:Nat) (e:Ex),SizeOf.sizeOf e<=N->stdE e=true->nms e=[]
 |0,e,hN,_=>by cases e;simp at hN
 |N+1,e,hN,h=>by
  rw[kh,aw (kV h).2.2,List.nil_append];unfold iZ;rw[List.flatten_eq_nil_iff];intro x hx;obtain⟨k,hk,rfl⟩:=dM.1 hx;exact E9 N k (by have:=gT hk;omega) (C6 h hk)
theorem yw: ∀(N:Nat) (e:Ex) (deep n deep' n':Nat),SizeOf.sizeOf e<=N->deep'<=deep->n'<=n->(shapeP e deep n).1=0->(shapeP e deep' n').1=0
 |0,e,_,_,_,_,hN,_,_,_=>by cases e;simp at hN
 |N+1,e,deep,n,deep',n',hN,hd,hn,h=>by
  have h0:=h;rw[gU]at h⊢;by_cases h1:600<n+1\/40<deep
  ·rw[ax h1]at h;cases h
  ·rw[aw h1]at h;rw[aw (by omega)];by_cases h2:aloneP e≠0
   ·rw[ax h2]at h;exact absurd h h2
   ·rw[aw h2]at h⊢
    have key: ∀(ks:List Ex) (m m':Nat),(∀k∈ks,SizeOf.sizeOf k<=N)->m'<=m->(gy ks (deep+1) (0,m)).1=0->(gy ks (deep'+1) (0,m')).1=0:=by
     intro ks;induction ks with
     |nil=>intro m m' _ _ _;rfl
     |cons k ks ih=>
      intro m m' hks hm hz;rw[ir]at hz⊢;rw[aw (by simp)]at hz⊢
      have hz1:(shapeP k (deep+1) m).1=0:=by
       by_cases hq:(shapeP k (deep+1) m).1=0
       ·exact hq
       ·rw[kb hq]at hz;exact absurd hz hq
      have hz2:=yw N k (deep+1) m (deep'+1) m' (hks k bo) (by omega) hm hz1;obtain⟨a1,_⟩:=pG _ k (deep+1) m (aA _) hz1;obtain⟨a2,_⟩:=pG _ k (deep'+1) m' (aA _) hz2;rw[show shapeP k (deep+1) m=(0,m+i7 k) from Prod.ext hz1 a1]at hz;rw[show shapeP k (deep'+1) m'=(0,m'+i7 k) from Prod.ext hz2 a2];exact ih _ _ (fun k' hk'=>hks k' (bx _ hk')) (by omega) hz
    exact key e.kids (n+1) (n'+1) (fun k hk=>by have:=gT hk;omega) (by omega) h
def Rt (e:Ex):Prop:=(shapeP e 1 0).1=0
theorem Rt.ok {e:Ex}(h:Rt e):OKE e:=⟨1,0,h⟩
theorem Rt.kid {e k:Ex}(h:Rt e)(hk:k∈e.kids):Rt k:=by
 unfold Rt at h;rw[gU,aw (by omega)]at h;by_cases h2:aloneP e≠0
 ·rw[ax h2]at h;exact absurd h h2
 ·rw[aw h2]at h
  have key: ∀(ks:List Ex) (m:Nat),(gy ks 2 (0,m)).1=0-> ∀k∈ks,Rt k:=by
   intro ks;induction ks with
   |nil=>intro m _ k hk;cases hk
   |cons k' ks ih=>
    intro m hz k hk;rw[ir,aw (by simp)]at hz
    have hz1:(shapeP k' 2 m).1=0:=by
     by_cases hq:(shapeP k' 2 m).1=0
     ·exact hq
     ·rw[kb hq]at hz;exact absurd hz hq
    rcases bp.1 hk with rfl|hk
    ·exact yw _ k 2 m 1 0 (aA _) (by omega) (dW _) hz1
    ·obtain⟨a1,_⟩:=pG _ k' 2 m (aA _) hz1;rw[show shapeP k' 2 m=(0,m+i7 k') from Prod.ext hz1 a1]at hz;exact ih _ hz k hk
  exact key e.kids 1 h k hk
theorem Rt.nod {e:Ex}(h:Rt e):i7 e<=600:=by
 have:=(pG _ e 1 0 (aA _) h).2;omega
theorem N3 {e:Ex}(h:Rt e)(hs:stdE e=true):di [([97],e)]=(0,0):=by
 have hn:nms e=[]:=E9 _ e (aA _) hs
 have hsp:fg [([97],e)] ([97],e)=[]:=by
  unfold fg;rw[show nms (([97],e):Ru).2=[] from hn];rfl
 have hi: ∀{i:Nat},i<[(([97],e):Ru)].length->i=0:=fun hi=>by simp at hi;exact hi
 refine xR ?_ (fun i' h'=> ?_) (fun i' h'=> ?_) (fun i' h'=> ?_)
 ·unfold fH;rw[aw (by simp)]
  have hr:ruleP ([97],e)=0:=by
   unfold ruleP;rw[aw (show¬Go.Proofs.YtjkilacmkbmmbaaGreatDoor.namedL [97]=false by decide)];exact h
  unfold iI;rw[aw (by simpa using hr)];rfl
 ·rw[hi h'];simp[lk1,atP5,atF]
 ·rw[hi h'];show decide (-1∈fg _ _)=false;rw[hsp];rfl
 ·rw[hi h']
  have hl:ik [([97],e)] 0=[]:=by
   unfold ik;show pC (fg _ _)=[]
   rw[hsp];rfl
  unfold lk3;rw[show [(([97],e):Ru)].length+1=1+1 from rfl,fol,hl];rfl
theorem LH {e:Ex}(h:Rt e)(hs:stdE e=true):jZ [([97],e)] 0=(0,0)/\lJ [([97],e)] 0=[mnE e]:=by
 have hc:=N3 h hs
 have hm:jZ [([97],e)] 0=(0,0):=by
  unfold jZ;rw[hc,aw (by simp),aw (by omega)]
 refine⟨hm,?_⟩;unfold lJ;rw[hm,ax rfl];show [meanP _ _ _ 0]=_;rw[kG (by rw[hc]) (show [(([97],e):Ru)][0]? =some ([97],e) from rfl)];rw[C7 (show stdE (([97],e):Ru).2=true from hs)]
theorem N4 {w:World}{g:Nat}{e:Ex}{sl:Value}{d:Nat}(h:w.heap[g]? =ah #[.string ⟨#[97]⟩,ag e.kind,ag e.a,ag e.b,.string ⟨e.name.toArray⟩,sl] 54)(hn:e.name.length<=9223372036854775807)(hk:fX (fun k=>k<w.heap.size) d w sl e.kids):InR w (.slice (some (ae g 0)) 1 1) [(([97],e),sl)]:=by
 refine⟨.inr ⟨g,0,1,rfl,by simp,fun j p hj=> ?_⟩,by simp,fun p hp=> ?_⟩
 ·match j,hj with
  |0,hj=>
   cases aI hj;exact⟨ak 0 h,ak 1 h,ak 2 h,ak 3 h,ak 4 h,ak 5 h⟩
  |j+1,hj=>simp at hj
 ·rw[cg]at hp;subst hp;exact⟨by simp,hn,d,hk⟩
theorem Ec (d:Nat)(e:Ex)(sl:Value)(w:World)(hr:Rt e)(hs:stdE e=true)(hn:e.name.length<=9223372036854775807)(hk:fX (fun k=>k<w.heap.size) d w sl e.kids):
  Calls prog 180 #[exV e sl] w fun r w'=>r= .returned (.agg (mv (mnE e)))/\ao w w':=by
 obtain⟨p,c,hsl⟩:=hk.form;subst hsl;unfold exV;have hz:=eC;have bA:=am w (.cells #[ag e.kind,ag e.a,ag e.b,.string ⟨e.name.toArray⟩,.slice p e.kids.length c] 52);have nA:=aB w (.cells #[ag e.kind,ag e.a,ag e.b,.string ⟨e.name.toArray⟩,.slice p e.kids.length c] 52);generalize hwA:w.alloc (.cells #[ag e.kind,ag e.a,ag e.b,.string ⟨e.name.toArray⟩,.slice p e.kids.length c] 52)=wA at*;have bB:=am wA (.cells (mv fun _=>false) 61);have nB:=aB wA (.cells (mv fun _=>false) 61);have nA1:=ai bB nA;obtain⟨gB,hgB⟩:=aq wA.heap.size;generalize hwB:wA.alloc (.cells (mv fun _=>false) 61)=wB at*;rw[hgB]at nB;have bC:=am wB (.cells #[.string ⟨#[97]⟩,ag e.kind,ag e.a,ag e.b,.string ⟨e.name.toArray⟩,.slice p e.kids.length c] 54);have nC:=aB wB (.cells #[.string ⟨#[97]⟩,ag e.kind,ag e.a,ag e.b,.string ⟨e.name.toArray⟩,.slice p e.kids.length c] 54);generalize hwC:wB.alloc (.cells #[.string ⟨#[97]⟩,ag e.kind,ag e.a,ag e.b,.string ⟨e.name.toArray⟩,.slice p e.kids.length c] 54)=wC at*;have bAC:ao w wC:=bA.trans ((au bB bC).mono bA.size);have nB2:=ai bC nB;have hlow:w.heap.size<=gB:=by rw[<-hgB];exact bA.size
 have hin:=N4 (d:=d) nC hn ((hk.kept fun g _ hl=>bAC.block g hl).mono fun g hg=>aQ hg bAC.size);have cM:=C5 _ _ 0 wC hin;obtain⟨e1,e2⟩:=LH hr hs;unfold vf at cM;simp only[bV,dU]at cM;rw[e1,e2]at cM;clear hin hk e1 e2 bA bB bC nA nC;go_enter func180,ntmps180
 go_wp2_with(first
  |(refine aR rfl 52 _ rfl _ rfl _ _ _ _ nA1 fc rfl (by kernel_rfl) ?_))
 refine cM.mono ?_;rintro r w3 ⟨v3,rfl,hrow,b3⟩;obtain⟨p3,c3,hv3,hb3,hrg⟩:=hrow;subst hv3;obtain⟨g3,o3,hp3,hr3⟩:=hrg 0 (mnE e) rfl;subst hp3;have hbw:=au bAC b3;have nB3:=ai b3 nB2;simp only[Nat.zero_mul,Nat.add_zero]at hr3;have hl1:[mnE e].length=1:=rfl;rw[hl1];generalize hz0:((0:Nat):Int)=iz;have hz1:iz=0:=hz0.symm.trans rfl;subst hz1;clear hz0;have bD:=am w3 (.cells #[ag 0,ag 0] 47);have nD:=aB w3 (.cells #[ag 0,ag 0] 47);have nB4:=ai bD nB3;have hr4:(w3.alloc (.cells #[ag 0,ag 0] 47)).rangeAt g3 o3 (mv (mnE e)).toList:=World.rangeAt_alloc hr3 _;have hbx:=au hbw bD;generalize hwD:w3.alloc (.cells #[ag 0,ag 0] 47)=wD at*;have bE:=below_setRow (aH w3.heap.size wD) (aA _) #[ag 0,ag 0];have hgl:=aG nB3;have nB4e:=(bE.block _ hgl).trans nB4;have hr5:(wD.setRow w3.heap.size #[ag 0,ag 0]).rangeAt g3 o3 (mv (mnE e)).toList:=fun j u hj=>(bE.cell (bJ (hr3 j u hj))).trans (hr4 j u hj);have hbe:=hbx.trans (bE.mono (bg hbw.size (aA _)));generalize hwE:wD.setRow w3.heap.size #[ag 0,ag 0]=wE at*;have nB5:=aL _ _ _ (mv (mnE e)) _ _ nB4e;have hbz:=below_setRow hbe hlow (mv (mnE e));clear cM hbw hbx bAC b3 bD nB2 nB3 hr3 hrg bE hr4 nB4 hbe
 go_wp2_with(first
  |(refine az rfl 47 _ _ rfl _ _ rfl rfl _ _ nD (by kernel_rfl) (by simp) (by simp[Value.oneCell']) ?_;rw[hwE])
  |(refine tV rfl _ rfl g3 o3 rfl (mnE e) hr5 ?_)
  |(refine az rfl 61 _ _ rfl _ _ rfl rfl _ _ nB4e (a7 _) (by simp[bP]) (dN _) ?_))
 refine aV (v:= .agg (mv (mnE e))) ?_ rfl ⟨rfl,hbz⟩;exact a8 rfl _ _ gB _ _ _ _ rfl nB5 bQ rfl (a7 _)
def ib (w:World)(v:Value)(l:List (Int×Int)):Prop:=(l=[]/\ ∃p c,v= .slice p 0 c)\/ ∃(g c:Nat) (cur:Array Value),v= .slice (some (ae g 0)) l.length c/\l.length<9223372036854775808/\w.heap[g]? =ah cur 143/\cur.toList.take (l.length*2)=iT l
theorem ib.nil (w:World)(p:Option Addr)(c:Nat):ib w (.slice p 0 c) []:= .inl ⟨rfl,p,c,rfl⟩
theorem ib.form {w:World}{v:Value}{l:List (Int×Int)}(h:ib w v l): ∃p n c,v= .slice p n c:=by
 rcases h with⟨_,p,c,e⟩|⟨g,c,cur,e,_⟩
 ·exact⟨p,0,c,e⟩
 ·exact⟨_,_,c,e⟩
theorem ib.of_own {w:World}{base:Nat}{v:Value}{l:List (Int×Int)}(h:w.ownsRow base 143 2 v l.length (iT l)):ib w v l:=by
 rcases h.2 with⟨e,e2⟩|⟨g,cap,cur,e,hb,hg,hn,hc,hs,hx⟩
 ·exact .inl ⟨fO e2,none,0,by rw[e]⟩
 ·exact .inr ⟨g,cap,cur,e,by unfold maxLen at hc;omega,hg,hx⟩
def Fr (gm:Nat)(w w':World):Prop:= ∀(q:Nat) (c:Array Value) (T:TypeId),w.heap[q]? =ah c T->T≠234->q≠gm->w'.heap[q]? =ah c T
theorem Fr.trans {gm:Nat}{w w' w'':World}(h:Fr gm w w')(h':Fr gm w' w''):Fr gm w w'':=fun q c T hq hT hne=>h' q c T (h q c T hq hT hne) hT hne
theorem Fr.below {gm:Nat}{w w':World}(hb:ao w w'):Fr gm w w':=fun _ _ _ hq _ _=>ai hb hq
theorem ib.fr {gm:Nat}{w w':World}{v:Value}{l:List (Int×Int)}(h:ib w v l){cw:Array Value}(hg:w.heap[gm]? =ah cw 205)(hf:Fr gm w w'):ib w' v l:=by
 rcases h with h|⟨g,c,cur,e,hl,hb,hx⟩
 ·exact .inl h
 ·refine .inr ⟨g,c,cur,e,hl,hf g _ _ hb (by decide) (fun q=> ?_),hx⟩;subst q;rw[hg]at hb;injection hb with hb;injection hb with _ h2 _;exact absurd h2 (by decide)
theorem ib.below {w w':World}{v:Value}{l:List (Int×Int)}(h:ib w v l)(hb:ao w w'):ib w' v l:=by
 rcases h with h|⟨g,c,cur,e,hl,hg,hx⟩
 ·exact .inl h
 ·exact .inr ⟨g,c,cur,e,hl,ai hb hg,hx⟩
structure WOk (w0:World)(gm:Nat)(mp:Value)(S:List (In×Value))(W:World):Prop where
 st:WsC w0 gm mp S W
 sp: ∀u∈S,ib W u.2 u.1.sp
theorem WOk.below {w0 W W':World}{gm:Nat}{mp:Value}{S:List (In×Value)}(h:WOk w0 gm mp S W)(hb:ao W W'):WOk w0 gm mp S W':=
 ⟨h.st.below hb,fun u hu=>(h.sp u hu).below hb⟩
def nV (w0:World)(gm:Nat)(mp:Value)(S:List (In×Value))(c:List In)(W:World)(r:Ending)(W':World):Prop:=r= .returned (.tuple #[])/\ ∃S',S'.map (fun u=>u.1)=c/\WOk w0 gm mp (S++S') W'/\Fr2 gm W W'
theorem Fr2.fr {w0 W W':World}{gm:Nat}{mp:Value}{S:List (In×Value)}(h:WsC w0 gm mp S W)(hf:Fr2 gm W W'):Fr gm W W':=fun q c T hq hT hne=>by
 obtain⟨_,_,sv,hg,own⟩:=h;refine(hf.blk q (aG hq) hne ?_).trans hq;rw[oN hg];exact fun e=>kN own hq hT e.symm
theorem vn {w0 W:World}{gm:Nat}{mp:Value}{S:List (In×Value)}(h:WOk w0 gm mp S W)(x:In)(v:Value)(hv:ib W v x.sp)(hS:S.length<=1000):
  Calls prog 178 #[ab gm 0,.agg #[ag x.op,ag x.a,ag x.b,ag x.to,v]] W fun e W'=>e= .returned (.tuple #[])/\WOk w0 gm mp (S++[(x,v)]) W'/\Fr2 gm W W':=by
 obtain⟨_,_,sv,hg,_⟩:=id h.st;refine(LF w0 gm mp S (x,v) W h.st hS hv.form).mono fun e W' ⟨he,h1,h2,h3⟩=>⟨he,⟨h1,fun u hu=> ?_⟩,h3⟩
 rcases cY.1 hu with hu|hu
 ·exact(h.sp u hu).fr hg h2
 ·rw[cg]at hu;subst hu;exact hv.fr hg h2
def GF (w0:World)(gm:Nat)(mp:Value)(l:List Ru)(k:Ex)(sk:Value):Prop:= ∀(S:List (In×Value)) (W:World),WOk w0 gm mp S W->S.length+i7 k<=700->Calls prog 154 #[ab gm 0,exV k sk] W (nV w0 gm mp S (bO (atP5 l) k S.length) W)
theorem qQ (S S':List (In×Value)):jm (S++S')=jm S++jm S':=by unfold jm;rw[fu]
theorem AX (S S':List (In×Value))(x:In)(v:Value)(t:Int):(jm (S++((x,v)::S'))).set (S.length*5+3) (ag t)=jm (S++(({x with to:=t},v)::S')):=by
 rw[qQ,qQ,List.set_append_right _ _ (by rw[pH];omega),pH,Nat.add_sub_cancel_left];rfl
theorem Pw {W:World}{base g n c:Nat}{S S':List (In×Value)}{x:In}{v:Value}(t:Int)(h:W.ownsRow base 234 5 (.slice (some (ae g 0)) n c) n (jm (S++((x,v)::S')))):(W.setCell ⟨g,S.length*5+3,none⟩ (ag t)).ownsRow base 234 5 (.slice (some (ae g 0)) n c) n (jm (S++(({x with to:=t},v)::S'))):=by
 obtain⟨h1,h2⟩:=h;rcases h2 with⟨e,_⟩|⟨g',cap,cur,e,hb,hg,hn,hc,hs,hx⟩
 ·cases e
 ·injection e with e1 _ e3;injection e1 with e1;injection e1 with e1 _ _;subst e1 e3;refine⟨by rw[<-AX,ju];exact h1,.inr ⟨g,c,cur.setIfInBounds (S.length*5+3) (ag t),rfl,hb,aW W g _ _ _ _ hg,hn,hc,by rw[gS];exact hs,?_⟩⟩;rw[Array.toList_setIfInBounds,List.take_set,hx,AX]
theorem WOk.lt {w0 W:World}{gm:Nat}{mp:Value}{S:List (In×Value)}(h:WOk w0 gm mp S W):gm<W.heap.size:=by
 obtain⟨_,_,sv,hg,_⟩:=h.st;exact aG hg
section
def upI (f:Nat->Int)(i:Nat)(v:Int):Nat->Int:=fun k=>if k=i then v else f k
theorem iV (f:Nat->Int)(i:Nat)(v:Int):upI f i v i=v:=by unfold upI;rw[ax rfl]
theorem yx (f:Nat->Int){i k:Nat}(v:Int)(h:k≠i):upI f i v k=f k:=by unfold upI;rw[aw h]
def fz (go n:Nat)(sv:Nat->Value)(H T:Nat->Int)(w:World):Prop:= ∃cur:Array Value,w.heap[go]? =ah cur 208/\cur.size=n*3/\ ∀i,i<n->cur[i*3]? =some (sv i)/\cur[i*3+1]? =some (ag (H i))/\cur[i*3+2]? =some (ag (T i))
section
variable {go n:Nat} {sv:Nat->Value} {H T:Nat->Int} {w w':World}
theorem fz.cells (h:fz go n sv H T w){i:Nat}(hi:i<n):w.cell? (ae go (i*3))=some (sv i)/\w.cell? (ae go (i*3+1))=some (ag (H i))/\w.cell? (ae go (i*3+2))=some (ag (T i))/\w.frozen? (ae go (i*3+1))=false/\w.frozen? (ae go (i*3+2))=false:=by
 obtain⟨cur,hg,_,hc⟩:=h;obtain⟨c0,c1,c2⟩:=hc i hi;exact⟨(aX _ _ _ _ _ _ hg).trans c0,(aX _ _ _ _ _ _ hg).trans c1,(aX _ _ _ _ _ _ hg).trans c2,bl _ _ _ _ _ hg,bl _ _ _ _ _ hg⟩
theorem fz.lt (h:fz go n sv H T w):go<w.heap.size:=by
 obtain⟨cur,hg,_⟩:=h;exact aG hg
theorem fz.same (h:fz go n sv H T w)(e:w'.heap[go]? =w.heap[go]?):fz go n sv H T w':=by
 obtain⟨cur,hg,r⟩:=h;exact⟨cur,e.trans hg,r⟩
theorem fz.below (h:fz go n sv H T w)(hb:ao w w'):fz go n sv H T w':=h.same (hb.block _ h.lt)
theorem fz.setH (h:fz go n sv H T w){i:Nat}(v:Int)(hi:i<n):fz go n sv (upI H i v) T (w.setCell ⟨go,i*3+1,none⟩ (ag v)):=by
 obtain⟨cur,hg,hs,hc⟩:=h;refine⟨_,aW w go (i*3+1) _ _ _ hg,by rw[gS];exact hs,fun k hk=> ?_⟩;obtain⟨c0,c1,c2⟩:=hc k hk;refine⟨?_,?_,?_⟩
 ·rw[dj (by omega)];exact c0
 ·by_cases e:k=i
  ·subst e;rw[iV,gh (by omega)]
  ·rw[yx _ _ e,dj (by omega)];exact c1
 ·rw[dj (by omega)];exact c2
theorem fz.setT (h:fz go n sv H T w){i:Nat}(v:Int)(hi:i<n):fz go n sv H (upI T i v) (w.setCell ⟨go,i*3+2,none⟩ (ag v)):=by
 obtain⟨cur,hg,hs,hc⟩:=h;refine⟨_,aW w go (i*3+2) _ _ _ hg,by rw[gS];exact hs,fun k hk=> ?_⟩;obtain⟨c0,c1,c2⟩:=hc k hk;refine⟨?_,?_,?_⟩
 ·rw[dj (by omega)];exact c0
 ·rw[dj (by omega)];exact c1
 ·by_cases e:k=i
  ·subst e;rw[iV,gh (by omega)]
  ·rw[yx _ _ e,dj (by omega)];exact c2
end
theorem jj (w:World)(g i:Nat)(v:Value):bm g w (w.setCell ⟨g,i,none⟩ v):=bm.set w g i v
def jS (w:World)(v:Value)(S:List (In×Value)):Prop:=w.ownsRow 0 234 5 v S.length (jm S)
theorem jS.below {w w':World}{v:Value}{S:List (In×Value)}(h:jS w v S)(hb:ao w w'):jS w' v S:=il h hb
theorem jS.kept {w w':World}{v:Value}{S:List (In×Value)}{go n:Nat}{sv:Nat->Value}{H T:Nat->Int}(h:jS w v S)(hm:fz go n sv H T w)(hk:bm go w w'):jS w' v S:=by
 obtain⟨cur,hg,_⟩:=hm;exact World.ownsRow.kept h hk (.inr fun e=>kN h hg (by decide) e.symm)
theorem jS.form {w:World}{v:Value}{S:List (In×Value)}(h:jS w v S)(h1:1<=S.length): ∃g c,v= .slice (some (ae g 0)) S.length c/\ ∀(j:Nat) (u:In×Value),S[j]? =some u->
  w.cell? (ae g (j*5))=some (ag u.1.op)/\w.cell? (ae g (j*5+1))=some (ag u.1.a)/\w.cell? (ae g (j*5+2))=some (ag u.1.b)/\w.cell? (ae g (j*5+3))=some (ag u.1.to)/\w.cell? (ae g (j*5+4))=some u.2:=by
 rcases h.2 with⟨_,e⟩|⟨g,cap,cur,e,_,hg,_,_,_,hx⟩
 ·omega
 ·refine⟨g,cap,e,fun j u hj=> ?_⟩;have hjl:=(aD.1 hj).1
  have key: ∀(i:Nat) (v:Value),i<5->(iv u).toList[i]? =some v->w.cell? (ae g (j*5+i))=some v:=fun i v hi hv=>by
   refine(aX _ _ _ _ _ _ hg).trans ?_;have e1:(cur.toList.take (S.length*5))[j*5+i]? =(jm S)[j*5+i]? :=(by rw[hx]);rw[dK (by omega)]at e1;rw[<-bn,e1]
   have e2:S=S.take j++(u::S.drop (j+1)):=by
    conv=>lhs;rw[<-gM j S]
    congr 1;rw[bu hjl,(aD.1 hj).2]
   rw[e2,qQ,dL (by rw[pH,eO];omega),pH,eO,fj (by omega),Nat.add_sub_cancel_left];show((iv u).toList++jm (S.drop (j+1)))[i]? =_;rw[d9 (by rw[E8];exact hi)];exact hv
  exact⟨key 0 _ (by omega) rfl,key 1 _ (by omega) rfl,key 2 _ (by omega) rfl,key 3 _ (by omega) rfl,key 4 _ (by omega) rfl⟩
def Me (mea:Nat->Int×Int)(H T:Nat->Int)(k:Nat):Prop:=H k=(mea k).1/\T k=(mea k).2
def Okm (mea:Nat->Int×Int)(H T:Nat->Int)(k:Nat):Prop:=(H k=0/\T k=0)\/Me mea H T k
def lj (mea:Nat->Int×Int)(ρ:Nat->Nat)(n i:Nat)(H0 T0 H T:Nat->Int):Prop:= ∀k,k<n->k≠i->(ρ k<=ρ i->Okm mea H T k/\(Me mea H0 T0 k->Me mea H T k))/\(ρ i<ρ k->H k=H0 k/\T k=T0 k)
section
variable {mea:Nat->Int×Int} {ρ:Nat->Nat} {n i k0:Nat} {H0 T0 H T H' T':Nat->Int}
theorem lj.refl (h: ∀k,k<n->ρ k<=ρ i->Okm mea H0 T0 k):lj mea ρ n i H0 T0 H0 T0:=fun k hk _=>⟨fun hr=>⟨h k hk hr,id⟩,fun _=>⟨rfl,rfl⟩⟩
theorem lj.setH (h:lj mea ρ n i H0 T0 H T)(v:Int):lj mea ρ n i H0 T0 (upI H i v) T:=fun k hk hne=>by
 have:=h k hk hne;unfold Okm Me at this⊢;rw[yx _ _ hne];exact this
theorem lj.setT (h:lj mea ρ n i H0 T0 H T)(v:Int):lj mea ρ n i H0 T0 H (upI T i v):=fun k hk hne=>by
 have:=h k hk hne;unfold Okm Me at this⊢;rw[yx _ _ hne];exact this
theorem lj.pre (h:lj mea ρ n i H0 T0 H T)(hr:ρ k0<ρ i): ∀k,k<n->ρ k<=ρ k0->Okm mea H T k:=fun k hk hk0=>((h k hk (fun e=>by subst e;omega)).1 (by omega)).1
theorem lj.call (h:lj mea ρ n i H0 T0 H T)(hr:ρ k0<ρ i)(hi:i<n)(hm:Me mea H' T' k0)(h':lj mea ρ n k0 H T H' T'):lj mea ρ n i H0 T0 H' T'/\H' i=H i/\T' i=T i:=by
 refine⟨fun k hk hne=>⟨fun hri=> ?_,fun hri=> ?_⟩,(h' i hi (fun e=>by subst e;omega)).2 hr⟩
 ·by_cases e:k=k0
  ·subst e;exact⟨.inr hm,fun _=>hm⟩
  ·have a:=(h k hk hne).1 hri;by_cases hle:ρ k<=ρ k0
   ·have b:=(h' k hk e).1 hle;exact⟨b.1,fun q=>b.2 (a.2 q)⟩
   ·have b:=(h' k hk e).2 (by omega);unfold Okm Me at a⊢;rw[b.1,b.2];exact a
 ·have e:k≠k0:=fun e=>by subst e;omega
  have a:=(h k hk hne).2 hri;have b:=(h' k hk e).2 (by omega);exact⟨b.1.trans a.1,b.2.trans a.2⟩
end
def wH (mea:Nat->Int×Int)(ρ:Nat->Nat)(go n:Nat)(sv:Nat->Value)(i:Nat)(H0 T0:Nat->Int)(w:World)(r:Ending)(w':World):Prop:=r= .returned (.agg #[sv i,ag (mea i).1,ag (mea i).2])/\ ∃H' T',fz go n sv H' T' w'/\Me mea H' T' i/\lj mea ρ n i H0 T0 H' T'/\bm go w w'
theorem AY:prog.underlying 208=some (.struct (prog.fieldsOf 208)):=by kernel_rfl
end
end Go.Proofs.YtjkilacmkbmmbaaGreatDoor
