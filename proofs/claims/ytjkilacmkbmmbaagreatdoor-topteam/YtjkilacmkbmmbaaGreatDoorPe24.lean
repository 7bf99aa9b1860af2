/- Texts of the proof. -/
import Derived.Test.YtjkilacmkbmmbaaGreatDoorPe12
import Derived.Test.YtjkilacmkbmmbaaGreatDoorPe23
set_option maxRecDepth 100000
set_option maxHeartbeats 8000000
namespace Go.Proofs.YtjkilacmkbmmbaaGreatDoor
open Go.Proofs.Tryz Go.RowKit Lx Vx Mx Msk
def stdE (e:Ex):Bool:= !(decide (e.kind=4)||decide (e.kind=5)||decide (e.kind=10))&&e.kids.attach.all fun k=>stdE k.1
 termination_by SizeOf.sizeOf e
 decreasing_by exact gK k.2
theorem rO (e:Ex):stdE e=(!(decide (e.kind=4)||decide (e.kind=5)||decide (e.kind=10))&&e.kids.all stdE):=by
 rw[stdE];congr 1;rw[Bool.eq_iff_iff,dj,dj];exact⟨fun h k hk=>h ⟨k,hk⟩ (List.mem_attach _ _),fun h k _=>h k.1 k.2⟩
theorem kM {e:Ex}(h:stdE e=true):e.kind≠4/\e.kind≠5/\e.kind≠10:=by
 rw[rO,bq]at h;have h1:=h.1;refine⟨fun e=> ?_,fun e=> ?_,fun e=> ?_⟩<;>simp[e]at h1
theorem BZ {e k:Ex}(h:stdE e=true)(hk:k∈e.kids):stdE k=true:=by
 rw[rO,bq,dj]at h;exact h.2 k hk
theorem H8 {e:Ex}(h:e.kids=[])(h4:e.kind≠4)(h5:e.kind≠5)(h10:e.kind≠10):stdE e=true:=by
 rw[rO,h];simp[h4,h5,h10]
def mnE (e:Ex):Nat->Bool:=eQ (fun _=>false) 0 (fun _=>nev) e
theorem DT (wk:Int->Bool)(day:Int)(env:List UInt8->Nat->Bool): ∀(N:Nat) (e:Ex),SizeOf.sizeOf e<=N->stdE e=true->eQ wk day env e=mnE e
 |0,e,hN,_=>by cases e;simp at hN
 |N+1,e,hN,h=>by
  unfold mnE;rw[jk,jk];have hk:e.kids.map (eQ wk day env)=e.kids.map (eQ (fun _=>false) 0 (fun _=>nev)):=List.map_congr_left fun k hk=>DT wk day env N k (by have:=gK hk;omega) (BZ h hk);rw[hk];obtain⟨h4,h5,h10⟩:=kM h;unfold mo;simp only[aw h4,aw h5,aw h10]
theorem B0 {e:Ex}(h:stdE e=true)(wk:Int->Bool)(day:Int)(env:List UInt8->Nat->Bool):eQ wk day env e=mnE e:=DT wk day env _ e (aA _) h
def jU:List (Nat->List In)->Nat->List In
 |[],_=>[]
 |f::fs,b=>f b++jU fs (b+(f b).length)
def noC:Nat->List In:=fun _=>[]
def opK (k:Int):Int:=if k=9 then 5 else if k=6 then 2 else if k=7 then 3 else 4
def sC (num:List UInt8->Int)(e:Ex)(kc:List (Nat->List In))(b:Nat):List In:=
 if stdE e=true then [⟨1,0,0,0,rs (mnE e) 1440⟩]
 else if e.kind=10 then [⟨8,num e.name,0,0,[]⟩]
 else if e.kind=4 then⟨6,e.a,0,((b+1+((kc.getD 0 noC) (b+1)).length:Nat):Int),[]⟩::(kc.getD 0 noC) (b+1)
 else if e.kind=5 then⟨7,e.a,e.b,((b+1+((kc.getD 0 noC) (b+1)).length:Nat):Int),[]⟩::(kc.getD 0 noC) (b+1)
 else jU kc b++[⟨opK e.kind,if e.kind=9 then e.a else 0,0,0,[]⟩]
def bN (num:List UInt8->Int)(e:Ex)(b:Nat):List In:=sC num e (e.kids.attach.map fun k=>fun b'=>bN num k.1 b') b
 termination_by SizeOf.sizeOf e
 decreasing_by exact gK k.2
theorem qx (num:List UInt8->Int)(e:Ex)(b:Nat):bN num e b=sC num e (e.kids.map (bN num)) b:=by
 rw[bN];congr 1;have h:=congrArg (List.map (bN num)) (fF e.kids);rw[jE]at h;exact h
theorem oe {num:List UInt8->Int}{e:Ex}(h:stdE e=true)(b:Nat):bN num e b=[⟨1,0,0,0,rs (mnE e) 1440⟩]:=by
 rw[qx];unfold sC;rw[ay h]
theorem oR {num:List UInt8->Int}{e:Ex}(hk:e.kind=10)(b:Nat):bN num e b=[⟨8,num e.name,0,0,[]⟩]:=by
 rw[qx];unfold sC;rw[aw (fun h=>(kM h).2.2 hk),ay hk]
theorem oS {num:List UInt8->Int}{e k:Ex}(hk:e.kind=4)(h0:e.kids[0]? =some k)(b:Nat):bN num e b=⟨6,e.a,0,((b+1+(bN num k (b+1)).length:Nat):Int),[]⟩::bN num k (b+1):=by
 rw[qx];have e0:(e.kids.map (bN num)).getD 0 noC=bN num k:=by simp[List.getD,h0]
 unfold sC;rw[aw (fun h=>(kM h).1 hk),aw (by omega),ay hk,e0]
theorem mU {num:List UInt8->Int}{e k:Ex}(hk:e.kind=5)(h0:e.kids[0]? =some k)(b:Nat):bN num e b=⟨7,e.a,e.b,((b+1+(bN num k (b+1)).length:Nat):Int),[]⟩::bN num k (b+1):=by
 rw[qx];have e0:(e.kids.map (bN num)).getD 0 noC=bN num k:=by simp[List.getD,h0]
 unfold sC;rw[aw (fun h=>(kM h).2.1 hk),aw (by omega),aw (by omega),ay hk,e0]
theorem og {num:List UInt8->Int}{e:Ex}(h:stdE e=false)(h4:e.kind≠4)(h5:e.kind≠5)(h10:e.kind≠10)(b:Nat):bN num e b=jU (e.kids.map (bN num)) b++[⟨opK e.kind,if e.kind=9 then e.a else 0,0,0,[]⟩]:=by
 rw[qx];unfold sC;rw[aw (by rw[h];simp),aw h10,aw h4,aw h5]
theorem Km {e:Ex}(h:e.kids.length=2): ∃k m,e.kids=[k,m]:=by
 match hk:e.kids with
 |[]=>rw[hk]at h;cases h
 |[_]=>rw[hk]at h;cases h
 |[k,m]=>exact⟨k,m,rfl⟩
 |_::_::_::_=>rw[hk]at h;simp at h
theorem MF {e:Ex}(h:e.kids.length=1): ∃k,e.kids=[k]:=by
 match hk:e.kids with
 |[]=>rw[hk]at h;cases h
 |[k]=>exact⟨k,rfl⟩
 |_::_::_=>rw[hk]at h;simp at h
theorem pD {num:List UInt8->Int}{e k:Ex}(h:stdE e=false)(hk:e.kind=9)(h0:e.kids=[k])(b:Nat):bN num e b=bN num k b++[⟨5,e.a,0,0,[]⟩]:=by
 rw[og h (by omega) (by omega) (by omega),h0];simp only[dl,eO,jU,gZ];unfold opK;rw[ay hk,ay hk]
theorem qP {num:List UInt8->Int}{e k m:Ex}(h:stdE e=false)(hk:e.kind=6\/e.kind=7\/e.kind=8)(h0:e.kids=[k,m])(b:Nat):bN num e b=(bN num k b++bN num m (b+(bN num k b).length))++[⟨opK e.kind,0,0,0,[]⟩]:=by
 rw[og h (by omega) (by omega) (by omega),h0];simp only[dl,eO,jU,gZ];rw[aw (by omega)]
theorem mV {e:Ex}(h:OKE e)(hs:stdE e=false):(e.kind=4/\ ∃k,e.kids=[k])\/(e.kind=5/\ ∃k,e.kids=[k])\/(e.kind=9/\ ∃k,e.kids=[k])\/e.kind=10\/((e.kind=6\/e.kind=7\/e.kind=8)/\ ∃k m,e.kids=[k,m]):=by
 obtain⟨h1,h2,h3,_,_⟩:=h.kinds;unfold kidsP at h3;by_cases q:e.kind=4\/e.kind=5\/e.kind=9
 ·rw[ay q]at h3;obtain⟨k,hk⟩:=MF h3;rcases q with q|q|q
  ·exact .inl ⟨q,k,hk⟩
  ·exact .inr (.inl ⟨q,k,hk⟩)
  ·exact .inr (.inr (.inl ⟨q,k,hk⟩))
 ·rw[aw q]at h3;by_cases q2:e.kind=6\/e.kind=7\/e.kind=8
  ·rw[ay q2]at h3;obtain⟨k,m,hk⟩:=Km h3;exact .inr (.inr (.inr (.inr ⟨q2,k,m,hk⟩)))
  ·rw[aw q2]at h3;by_cases q3:e.kind=10
   ·exact .inr (.inr (.inr (.inl q3)))
   ·have:=H8 (gV.1 h3) (by omega) (by omega) q3;rw[hs]at this;cases this
theorem zZ: ∀(l:List (Int×Int)) (last:Int),good last 1440 l->risL l last=true
 |[],_,_=>rfl
 |s::l,last,⟨h1,h2,h3,h4⟩=>by
  unfold risL;rw[aw (by omega)];exact zZ l s.2 h4
theorem MG (f:Nat->Bool):risL (rs f 1440) (-1)=true:=zZ _ _ (yJ f 1440).good
def iN (e:Ex):Nat:=1+(e.kids.attach.map fun k=>iN k.1).sum
 termination_by SizeOf.sizeOf e
 decreasing_by exact gK k.2
theorem lS (e:Ex):iN e=1+(e.kids.map iN).sum:=by
 rw[iN];congr 2;have h:=congrArg (List.map iN) (fF e.kids);rw[jE]at h;exact h
theorem B1 (e:Ex):1<=iN e:=by rw[lS];omega
theorem lE (num:List UInt8->Int): ∀(N:Nat) (e:Ex),SizeOf.sizeOf e<=N->OKE e-> ∀b,1<=(bN num e b).length/\(bN num e b).length<=iN e
 |0,e,hN,_,_=>by cases e;simp at hN
 |N+1,e,hN,h,b=>by
  have hn:=lS e;cases hs:stdE e with
  |true=>
   rw[oe hs];exact⟨by simp,by simpa using B1 e⟩
  |false=>
   have ih: ∀k∈e.kids,∀b,1<=(bN num k b).length/\(bN num k b).length<=iN k:=fun k hk b=>lE num N k (by have:=gK hk;omega) (h.kid hk) b;rcases mV h hs with⟨q,k,hk⟩|⟨q,k,hk⟩|⟨q,k,hk⟩|q|⟨q,k,m,hk⟩
   ·rw[oS q (by rw[hk];rfl)];have:=ih k (by rw[hk];simp) (b+1);rw[hk]at hn;simp only[dl,eO,iL,List.sum_nil]at hn;rw[bz];omega
   ·rw[mU q (by rw[hk];rfl)];have:=ih k (by rw[hk];simp) (b+1);rw[hk]at hn;simp only[dl,eO,iL,List.sum_nil]at hn;rw[bz];omega
   ·rw[pD hs q hk];have:=ih k (by rw[hk];simp) b;rw[hk]at hn;simp only[dl,eO,iL,List.sum_nil]at hn;rw[aL,dX];omega
   ·rw[oR q];exact⟨by simp,by simpa using B1 e⟩
   ·rw[qP hs q hk];have h1:=ih k (by rw[hk];simp) b;have h2:=ih m (by rw[hk];simp) (b+(bN num k b).length);rw[hk]at hn;simp only[dl,eO,iL,List.sum_nil]at hn;rw[aL,aL,dX];omega
theorem oT: ∀(N:Nat) (e:Ex) (deep n:Nat),SizeOf.sizeOf e<=N->(shapeP e deep n).1=0->(shapeP e deep n).2=n+iN e/\n+iN e<=600
 |0,e,_,_,hN,_=>by cases e;simp at hN
 |N+1,e,deep,n,hN,h=>by
  rw[jB]at h⊢;by_cases h1:600<n+1\/40<deep
  ·rw[ay h1]at h;cases h
  ·rw[aw h1]at h⊢;by_cases h2:aloneP e≠0
   ·rw[ay h2]at h;exact absurd h h2
   ·rw[aw h2]at h⊢
    have key: ∀(ks:List Ex) (m:Nat),(∀k∈ks,SizeOf.sizeOf k<=N)->m<=600->(gL ks (deep+1) (0,m)).1=0->(gL ks (deep+1) (0,m)).2=m+(ks.map iN).sum/\m+(ks.map iN).sum<=600:=by
     intro ks;induction ks with
     |nil=>intro m _ hm _;exact⟨by simp[gL],by simpa using hm⟩
     |cons k ks ih=>
      intro m hks hm hz;rw[ig]at hz⊢;rw[aw (by simp)]at hz⊢
      have hz1:(shapeP k (deep+1) m).1=0:=by
       by_cases hq:(shapeP k (deep+1) m).1=0
       ·exact hq
       ·rw[j8 hq]at hz;exact absurd hz hq
      obtain⟨a1,a2⟩:=oT N k (deep+1) m (hks k bc) hz1;have e1:shapeP k (deep+1) m=(0,m+iN k):=Prod.ext hz1 a1;rw[e1]at hz⊢;obtain⟨b1,b2⟩:=ih (m+iN k) (fun k' hk'=>hks k' (bn _ hk')) a2 hz;rw[dl,iL];exact⟨by rw[b1];omega,by omega⟩
    obtain⟨a,b⟩:=key e.kids (n+1) (fun k hk=>by have:=gK hk;omega) (by omega) h;rw[lS];exact⟨by rw[a];omega,by omega⟩
def jR (l:List In)(b:Nat)(c:List In):Prop:= ∀j,j<c.length->l[b+j]? =c[j]?
theorem jR.left {l:List In}{b:Nat}{c d:List In}(h:jR l b (c++d)):jR l b c:=fun j hj=>by
 rw[h j (by rw[aL];omega),d6 hj]
theorem jR.right {l:List In}{b:Nat}{c d:List In}(h:jR l b (c++d)):jR l (b+c.length) d:=fun j hj=>by
 have:=h (c.length+j) (by rw[aL];omega);rw[dG (by omega),Nat.add_sub_cancel_left,<-Nat.add_assoc]at this;exact this
theorem jR.one {l:List In}{b:Nat}{x:In}{d:List In}(h:jR l b (x::d)):l[b]? =some x:=by
 have:=h 0 (by simp);simpa using this
theorem jR.tail {l:List In}{b:Nat}{x:In}{d:List In}(h:jR l b (x::d)):jR l (b+1) d:=jR.right (c:=[x]) h
structure jl (l:List In)(b n R N:Nat):Prop where
 fin:hAt l (b+n)=hAt l b+1
 tk: ∀j x,b<=j->j<b+n->l[j]? =some x->Vx.tk x+hAt l b<=hAt l j
 to: ∀j x,b<=j->j<b+n->l[j]? =some x->isG x->hAt l x.to.toNat=hAt l j+1
 ins: ∀j x,b<=j->j<b+n->l[j]? =some x->fj x j N R=0
theorem Pa {x:In}(ho:x.op=1)(h:risL x.sp (-1)=true)(j N R:Nat):fj x j N R=0:=by
 unfold fj;rw[aw (by omega),ay ho,ay h]
theorem MH {x:In}(ho:x.op=2\/x.op=3\/x.op=4)(j N R:Nat):fj x j N R=0:=by
 unfold fj;rw[ay ho]
theorem Pb {x:In}(ho:x.op=5)(h:x.a≠0/\ -1439<=x.a/\x.a<=1439)(j N R:Nat):fj x j N R=0:=by
 unfold fj;rw[aw (by omega),aw (by omega),ay ho,ay h]
theorem Pc {x:In}{j N:Nat}(ho:x.op=6)(ht:(j:Int)+2<=x.to/\x.to<=N)(h:1<=x.a/\x.a<=127)(R:Nat):fj x j N R=0:=by
 unfold fj;rw[aw (by omega),aw (by omega),aw (by omega),ay ho,ay ht,ay h]
theorem Pd {x:In}{j N:Nat}(ho:x.op=7)(ht:(j:Int)+2<=x.to/\x.to<=N)(h:0<=x.a/\x.a<=x.b/\x.b<146097)(R:Nat):fj x j N R=0:=by
 unfold fj;rw[aw (by omega),aw (by omega),aw (by omega),aw (by omega),ay ho,ay ht,ay h]
theorem Pe {x:In}{R:Nat}(ho:x.op=8)(h:0<=x.a/\x.a<R)(j N:Nat):fj x j N R=0:=by
 unfold fj;rw[aw (by omega),aw (by omega),aw (by omega),aw (by omega),aw (by omega),ay ho,ay h]
theorem Pf {x:In}(ho:x.op=1\/x.op=8):eff x=1:=by unfold eff;rw[ay ho]
theorem Pg {x:In}(ho:x.op=2\/x.op=3\/x.op=4):eff x= -1:=by unfold eff;rw[aw (by omega),ay ho]
theorem Lg {x:In}(ho:x.op=5\/x.op=6\/x.op=7):eff x=0:=by unfold eff;rw[aw (by omega),aw (by omega)]
theorem Od {x:In}(ho:x.op=1\/x.op=6\/x.op=7\/x.op=8):Vx.tk x=0:=by unfold Vx.tk;rw[aw (by omega),aw (by omega)]
theorem PN {x:In}(ho:x.op=5):Vx.tk x=1:=by unfold Vx.tk;rw[ay ho]
theorem PO {x:In}(ho:x.op=2\/x.op=3\/x.op=4):Vx.tk x=2:=by unfold Vx.tk;rw[aw (by omega),ay ho]
theorem jl.one {l:List In}{b R N:Nat}{x:In}(hx:l[b]? =some x)(ho:x.op=1\/x.op=8)(hi:fj x b N R=0):jl l b 1 R N:=by
 refine⟨by rw[jp hx,Pf ho],fun j y h1 h2 hy=> ?_,fun j y h1 h2 hy hg=> ?_,fun j y h1 h2 hy=> ?_⟩<;>
  (obtain rfl:j=b:=by omega)<;>(rw[hx]at hy;cases aK hy)
 ·rw[Od (by omega)];omega
 ·rcases hg with hg|hg<;>omega
 ·exact hi
theorem jl.guard {l:List In}{b n R N:Nat}{x:In}(hx:l[b]? =some x)(ho:x.op=6\/x.op=7)(hto:x.to=((b+1+n:Nat):Int))(hi:fj x b N R=0)(h:jl l (b+1) n R N):jl l b (n+1) R N:=by
 have e1:hAt l (b+1)=hAt l b:=by rw[jp hx,Lg (by omega)];omega
 have e2:b+(n+1)=b+1+n:=by omega
 refine⟨by rw[e2,h.fin,e1],fun j y h1 h2 hy=> ?_,fun j y h1 h2 hy hg=> ?_,fun j y h1 h2 hy=> ?_⟩<;>by_cases hj:j=b
 ·subst hj;rw[hx]at hy;cases aK hy;rw[Od (by omega)];omega
 ·have:=h.tk j y (by omega) (by omega) hy;rw[e1]at this;exact this
 ·subst hj;rw[hx]at hy;cases aK hy;rw[hto,cg,h.fin,e1]
 ·exact h.to j y (by omega) (by omega) hy hg
 ·subst hj;rw[hx]at hy;cases aK hy;exact hi
 ·exact h.ins j y (by omega) (by omega) hy
theorem jl.shift {l:List In}{b n R N:Nat}{x:In}(h:jl l b n R N)(hx:l[b+n]? =some x)(ho:x.op=5)(hi:fj x (b+n) N R=0):jl l b (n+1) R N:=by
 refine⟨by rw[<-Nat.add_assoc,jp hx,Lg (by omega),h.fin];omega,fun j y h1 h2 hy=> ?_,fun j y h1 h2 hy hg=> ?_,fun j y h1 h2 hy=> ?_⟩<;>by_cases hj:j=b+n
 ·subst hj;rw[hx]at hy;cases aK hy;rw[PN ho,h.fin];omega
 ·exact h.tk j y h1 (by omega) hy
 ·subst hj;rw[hx]at hy;cases aK hy;rcases hg with hg|hg<;>omega
 ·exact h.to j y h1 (by omega) hy hg
 ·subst hj;rw[hx]at hy;cases aK hy;exact hi
 ·exact h.ins j y h1 (by omega) hy
theorem jl.pair {l:List In}{b n m R N:Nat}{x:In}(h:jl l b n R N)(h':jl l (b+n) m R N)(hx:l[b+n+m]? =some x)(ho:x.op=2\/x.op=3\/x.op=4):jl l b (n+m+1) R N:=by
 have e1:=h.fin;have e2:=h'.fin;refine⟨by rw[show b+(n+m+1)=b+n+m+1 by omega,jp hx,Pg ho];omega,fun j y h1 h2 hy=> ?_,fun j y h1 h2 hy hg=> ?_,fun j y h1 h2 hy=> ?_⟩<;>by_cases hj:j=b+n+m
 ·subst hj;rw[hx]at hy;cases aK hy;rw[PO ho];omega
 ·by_cases hj2:j<b+n
  ·exact h.tk j y h1 hj2 hy
  ·have:=h'.tk j y (by omega) (by omega) hy;omega
 ·subst hj;rw[hx]at hy;cases aK hy;rcases hg with hg|hg<;>omega
 ·by_cases hj2:j<b+n
  ·exact h.to j y h1 hj2 hy hg
  ·exact h'.to j y (by omega) (by omega) hy hg
 ·subst hj;rw[hx]at hy;cases aK hy;exact MH ho _ _ _
 ·by_cases hj2:j<b+n
  ·exact h.ins j y h1 hj2 hy
  ·exact h'.ins j y (by omega) (by omega) hy
theorem DU {k:Int}(h:k=6\/k=7\/k=8):opK k=2\/opK k=3\/opK k=4:=by
 unfold opK;rcases h with rfl|rfl|rfl<;>simp
theorem uG {e k:Ex}(hk:k∈e.kids){x:List UInt8}(hx:x∈nms k):x∈nms e:=by
 rw[ly,bJ];right;unfold jn;exact List.mem_flatten.2 ⟨nms k,dw.2 ⟨k,hk,rfl⟩,hx⟩
theorem uH {e:Ex}(h:e.kind=10):e.name∈nms e:=by rw[ly,ay h];simp
theorem H9 {num:List UInt8->Int}{R N:Nat}{l:List In}: ∀(M:Nat) (e:Ex),SizeOf.sizeOf e<=M->OKE e->(∀x∈nms e,0<=num x/\num x<R)-> ∀b,jR l b (bN num e b)->b+(bN num e b).length<=N->jl l b (bN num e b).length R N
 |0,e,hM,_,_,_,_,_=>by cases e;simp at hM
 |M+1,e,hM,h,hn,b,hs,hN=>by
  have ih: ∀k∈e.kids,∀b',jR l b' (bN num k b')->b'+(bN num k b').length<=N->jl l b' (bN num k b').length R N:=fun k hk b'=>H9 M k (by have:=gK hk;omega) (h.kid hk) (fun x hx=>hn x (uG hk hx)) b';have hr:=h.kinds.2.2.2.1;cases hstd:stdE e with
  |true=>
   rw[oe hstd]at hs⊢;exact jl.one hs.one (.inl rfl) (Pa rfl (MG _) _ _ _)
  |false=>
   rcases mV h hstd with⟨q,k,hk⟩|⟨q,k,hk⟩|⟨q,k,hk⟩|q|⟨q,k,m,hk⟩
   ·have hm:k∈e.kids:=(by rw[hk];simp);have h1:=(lE num _ k (aA _) (h.kid hm) (b+1)).1;unfold rangeP at hr;rw[aw (by omega),ay q]at hr;have hr':=eG hr;rw[oS q (by rw[hk];rfl)]at hs hN⊢;rw[bz]at hN⊢;refine jl.guard hs.one (.inl rfl) rfl (Pc rfl ⟨?_,?_⟩ ⟨hr'.1,?_⟩ _) (ih k hm (b+1) hs.tail (by omega))
    ·show(b:Int)+2<=((b+1+_:Nat):Int);omega
    ·show((b+1+_:Nat):Int)<=_;omega
    ·show e.a<=127;omega
   ·have hm:k∈e.kids:=(by rw[hk];simp);have h1:=(lE num _ k (aA _) (h.kid hm) (b+1)).1;unfold rangeP at hr;rw[aw (by omega),aw (by omega),ay q]at hr;have hr':=eG hr;rw[mU q (by rw[hk];rfl)]at hs hN⊢;rw[bz]at hN⊢;refine jl.guard hs.one (.inr rfl) rfl (Pd rfl ⟨?_,?_⟩ hr' _) (ih k hm (b+1) hs.tail (by omega))
    ·show(b:Int)+2<=((b+1+_:Nat):Int);omega
    ·show((b+1+_:Nat):Int)<=_;omega
   ·have hm:k∈e.kids:=(by rw[hk];simp);unfold rangeP at hr;rw[aw (by omega),aw (by omega),aw (by omega),ay q]at hr;have hr':=eG hr;rw[pD hstd q hk]at hs hN⊢;rw[aL,dX]at hN⊢;exact jl.shift (ih k hm b hs.left (by omega)) hs.right.one rfl (Pb rfl ⟨hr'.1,by show-1439<=e.a;omega,by show e.a<=1439;omega⟩ _ _ _)
   ·rw[oR q]at hs⊢;exact jl.one hs.one (.inr rfl) (Pe rfl (hn _ (uH q)) _ _)
   ·have hm:k∈e.kids:=(by rw[hk];simp);have hm':m∈e.kids:=(by rw[hk];simp);rw[qP hstd q hk]at hs hN⊢;rw[aL,aL,dX]at hN⊢;have hs1:=hs.right.one;rw[aL,<-Nat.add_assoc]at hs1;exact jl.pair (ih k hm b hs.left.left (by omega)) (ih m hm' _ hs.left.right (by omega)) hs1 (DU q)
theorem Ia {num:List UInt8->Int}{R:Nat}{e:Ex}(h:OKE e)(hn: ∀x∈nms e,0<=num x/\num x<R):lN (bN num e 0)/\ ∀j x,(bN num e 0)[j]? =some x->fj x j (bN num e 0).length R=0:=by
 have hs:jR (bN num e 0) 0 (bN num e 0):=fun j _=>by rw[bK]
 have q:=H9 (N:=(bN num e 0).length) (R:=R) _ e (aA _) h hn 0 hs (by omega)
 have lt: ∀{j:Nat} {x:In},(bN num e 0)[j]? =some x->j<0+(bN num e 0).length:=fun hj=>by
  have:=(aE.1 hj).1;omega
 refine⟨⟨fun j x hx=> ?_,fun j x hx hg=>q.to j x (df _) (lt hx) hx hg,?_⟩,fun j x hx=>q.ins j x (df _) (lt hx) hx⟩
 ·have:=q.tk j x (df _) (lt hx) hx;simpa[hAt] using this
 ·have:=q.fin;simpa[hAt] using this
theorem Aa {cs cs':List Cd}{l:List In}: ∀(j:Nat),(∀j' x,j'<j->l[j']? =some x->x.op=8->(cs.getD x.a.toNat cd0).high=(cs'.getD x.a.toNat cd0).high)->j<=l.length->mxH cs l j=mxH cs' l j
 |0,_,_=>rfl
 |j+1,h,hj=>by
  have ih:=Aa (cs:=cs) (cs':=cs') (l:=l) j (fun j' x h1=>h j' x (by omega)) (by omega);have hx:l[j]? =some l[j]:=ax (by omega);rw[ku hx,ku hx,ih];by_cases ho:(l[j]).op=8
  ·rw[ay ho,ay ho,h j _ (by omega) hx ho]
  ·rw[aw ho,aw ho]
theorem Ab {cs cs':List Cd}{l:List In}: ∀(j:Nat),(∀j' x,j'<j->l[j']? =some x->x.op=8->(cs.getD x.a.toNat cd0).steps=(cs'.getD x.a.toNat cd0).steps)->j<=l.length->stS cs l j=stS cs' l j
 |0,_,_=>rfl
 |j+1,h,hj=>by
  have ih:=Ab (cs:=cs) (cs':=cs') (l:=l) j (fun j' x h1=>h j' x (by omega)) (by omega);have hx:l[j]? =some l[j]:=ax (by omega);rw[jH hx,jH hx,ih];by_cases ho:(l[j]).op=8
  ·rw[ay ho,ay ho,h j _ (by omega) hx ho]
  ·rw[aw ho,aw ho]
def eh (C:List (List In))(m:Nat->Int×Int):List Cd:=(List.range C.length).map fun k=>⟨C.getD k [],(m k).1,(m k).2⟩
theorem tJ (C:List (List In))(m:Nat->Int×Int):(eh C m).length=C.length:=by simp[eh]
theorem mq {C:List (List In)}{m:Nat->Int×Int}{k:Nat}(h:k<C.length):(eh C m).getD k cd0=⟨C.getD k [],(m k).1,(m k).2⟩:=by
 have:(eh C m)[k]? =some ⟨C.getD k [],(m k).1,(m k).2⟩:=by
  unfold eh;rw[bg,List.getElem?_range h];rfl
 simp[List.getD,this]
def lV (C:List (List In))(m:Nat->Int×Int)(i:Nat):Int×Int:=(min (mxH (eh C m) (C.getD i []) (C.getD i []).length) 101,min (stS (eh C m) (C.getD i []) (C.getD i []).length) 20001)
def mW (C:List (List In)):Nat->Nat->Int×Int
 |0,_=>(0,0)
 |f+1,i=>lV C (mW C f) i
structure rP (C:List (List In))(ρ:Nat->Nat):Prop where
 lt: ∀(i j:Nat) (x:In),i<C.length->(C.getD i [])[j]? =some x->x.op=8->0<=x.a/\x.a.toNat<C.length/\ρ x.a.toNat<ρ i
theorem xM {C:List (List In)}{ρ:Nat->Nat}(h:rP C ρ){m m':Nat->Int×Int}{i:Nat}(hi:i<C.length)(hm: ∀k,k<C.length->ρ k<ρ i->m k=m' k):lV C m i=lV C m' i:=by
 have key: ∀j' x,j'<(C.getD i []).length->(C.getD i [])[j']? =some x->x.op=8->(eh C m).getD x.a.toNat cd0=(eh C m').getD x.a.toNat cd0:=fun j' x _ hx ho=>by
  obtain⟨_,h2,h3⟩:=h.lt i j' x hi hx ho;rw[mq h2,mq h2,hm _ h2 h3]
 have e1:mxH (eh C m) (C.getD i []) (C.getD i []).length=mxH (eh C m') (C.getD i []) (C.getD i []).length:=Aa _ (fun j' x h1 h2 h3=>by rw[key j' x h1 h2 h3]) (aA _);have e2:stS (eh C m) (C.getD i []) (C.getD i []).length=stS (eh C m') (C.getD i []) (C.getD i []).length:=Ab _ (fun j' x h1 h2 h3=>by rw[key j' x h1 h2 h3]) (aA _);unfold lV;rw[e1,e2]
theorem Ac {C:List (List In)}{ρ:Nat->Nat}(h:rP C ρ): ∀(f f' i:Nat),i<C.length->ρ i<f->ρ i<f'->mW C f i=mW C f' i
 |0,_,_,_,h1,_=>by omega
 |_+1,0,_,_,_,h2=>by omega
 |f+1,f'+1,i,hi,h1,h2=>by
  unfold mW;exact xM h hi fun k hk hr=>Ac h f f' k hk (by omega) (by omega)
theorem MJ {C:List (List In)}{ρ:Nat->Nat}(h:rP C ρ){N:Nat}(hN: ∀i,i<C.length->ρ i<=N){i:Nat}(hi:i<C.length):mW C (N+1) i=lV C (mW C (N+1)) i:=by
 conv=>lhs;unfold mW
 have h1:=hN i hi;exact xM h hi fun k hk hr=>Ac h N (N+1) k hk (by omega) (by have:=hN k hk;omega)
theorem xn (x:In): -1<=eff x/\eff x<=1:=by
 unfold eff;split
 ·omega
 ·split<;>omega
theorem mN (l:List In): ∀j:Nat,-(j:Int)<=hAt l j/\hAt l j<=(j:Int)
 |0=>by simp[hAt]
 |j+1=>by
  have ih:=mN l j;have e:=xn (l.getD j in0);simp only[hAt];omega
structure qQ (cs:List Cd):Prop where
 hi: ∀k,0<=(cs.getD k cd0).high/\(cs.getD k cd0).high<=101
 st: ∀k,0<=(cs.getD k cd0).steps/\(cs.getD k cd0).steps<=20001
theorem rG {cs:List Cd}(h:qQ cs)(l:List In): ∀j:Nat,0<=mxH cs l j/\mxH cs l j<=(j:Int)+101
 |0=>by simp[mxH]
 |j+1=>by
  have ih:=rG h l j;have e:=mN l j;have e':=mN l (j+1);have q:=h.hi (l.getD j in0).a.toNat;simp only[mxH];split<;>omega
theorem rH {cs:List Cd}(h:qQ cs)(l:List In): ∀j:Nat,(j:Int)<=stS cs l j/\stS cs l j<=(j:Int)*20002
 |0=>by simp[stS]
 |j+1=>by
  have ih:=rH h l j;have q:=h.st (l.getD j in0).a.toNat;simp only[stS];split<;>omega
theorem vn {C:List (List In)}{m:Nat->Int×Int}(h: ∀k,k<C.length->(0<=(m k).1/\(m k).1<=101)/\(0<=(m k).2/\(m k).2<=20001)):qQ (eh C m):=by
 constructor<;>intro k<;>by_cases hk:k<C.length
 ·rw[mq hk];exact(h k hk).1
 ·have:(eh C m).getD k cd0=cd0:=by
   have:(eh C m)[k]? =none:=ep (by rw[tJ];omega);simp[List.getD,this]
  rw[this];simp[cd0]
 ·rw[mq hk];exact(h k hk).2
 ·have:(eh C m).getD k cd0=cd0:=by
   have:(eh C m)[k]? =none:=ep (by rw[tJ];omega);simp[List.getD,this]
  rw[this];simp[cd0]
theorem DV {C:List (List In)}{m:Nat->Int×Int}(h:qQ (eh C m))(i:Nat):(0<=(lV C m i).1/\(lV C m i).1<=101)/\(0<=(lV C m i).2/\(lV C m i).2<=20001)/\(1<=(C.getD i []).length->1<=(lV C m i).2):=by
 have a:=rG h (C.getD i []) (C.getD i []).length;have b:=rH h (C.getD i []) (C.getD i []).length;refine⟨⟨?_,?_⟩,⟨?_,?_⟩,fun hl=> ?_⟩<;>simp only[lV]<;>omega
theorem DW (C:List (List In)): ∀(f i:Nat),(0<=(mW C f i).1/\(mW C f i).1<=101)/\(0<=(mW C f i).2/\(mW C f i).2<=20001)
 |0,i=>by simp[mW]
 |f+1,i=>by
  have h:=DV (C:=C) (vn (C:=C) fun k _=>DW C f k) i;exact⟨h.1,h.2.1⟩
theorem Fj (C:List (List In))(f:Nat):qQ (eh C (mW C f)):=vn fun k _=>DW C f k
section
variable {B:Nat->Prop}
def uI (e:Ex)(w:World)(r:Ending)(w':World):Prop:=r= .returned (.bool (stdE e))/\ao w w'
def Ph (w:World)(sl:Value)(ks:List Ex):Prop:=
 ∃g o c:Nat,sl= .slice (some (ae g o)) ks.length c/\ks.length<9223372036854775808/\ ∀(j:Nat) (k:Ex),ks[j]? =some k-> ∃(p:Option Addr) (q:Nat),
  w.cell? (ae g (o+j*5))=some (ag k.kind)/\w.cell? (ae g (o+j*5+1))=some (ag k.a)/\w.cell? (ae g (o+j*5+2))=some (ag k.b)/\
  w.cell? (ae g (o+j*5+3))=some (.string ⟨k.name.toArray⟩)/\w.cell? (ae g (o+j*5+4))=some (.slice p k.kids.length q)/\
  ∀W:World,ao w W->Calls prog 177 #[.agg #[ag k.kind,ag k.a,ag k.b,.string ⟨k.name.toArray⟩,.slice p k.kids.length q]] W (uI k W)
theorem Kq {ks:List Ex}{j:Nat}{k:Ex}(h:ks[j]? =some k):(ks.drop j).all stdE=(stdE k&&(ks.drop (j+1)).all stdE):=by
 obtain⟨h1,h2⟩:=aE.1 h;rw[bx h1,h2];rfl
theorem ro (e:Ex)(p:Option Addr)(c:Nat)(w:World)(hk:e.kids=[]\/Ph w (.slice p e.kids.length c) e.kids)(hlen:e.kids.length<9223372036854775808):
  Calls prog 177 #[.agg #[ag e.kind,ag e.a,ag e.b,.string ⟨e.name.toArray⟩,.slice p e.kids.length c]] w (uI e w):=by
 have hbA:=am w (.cells #[ag e.kind,ag e.a,ag e.b,.string ⟨e.name.toArray⟩,.slice p e.kids.length c] 52);have hxA:=aC w (.cells #[ag e.kind,ag e.a,ag e.b,.string ⟨e.name.toArray⟩,.slice p e.kids.length c] 52);generalize hwA:w.alloc (.cells #[ag e.kind,ag e.a,ag e.b,.string ⟨e.name.toArray⟩,.slice p e.kids.length c] 52)=wA at*;have z0:=ak 0 hxA;have z4:=ak 4 hxA;generalize hX:stdE e=X;have HX:P3 (stdE e=X):=hX;unfold uI;rw[hX];clear hX;by_cases k4:e.kind=4
 ·have HE:P3 (X=false):=by
   show _=_;rw[<-HX.o];cases hs:stdE e with
   |false=>rfl
   |true=>exact absurd k4 (kM hs).1
  have e4:(e.kind==4)=true:=(by simp[k4]);clear hk HX k4;go_enter func177,ntmps177;go_wp2_with fail;go_ret;rw[HE.o];exact⟨rfl,hbA⟩
 have e4:(e.kind==4)=false:=by simpa using k4
 by_cases k5:e.kind=5
 ·have HE:P3 (X=false):=by
   show _=_;rw[<-HX.o];cases hs:stdE e with
   |false=>rfl
   |true=>exact absurd k5 (kM hs).2.1
  have e5:(e.kind==5)=true:=(by simp[k5]);clear hk HX k4 k5;go_enter func177,ntmps177;go_wp2_with fail;go_ret;rw[HE.o];exact⟨rfl,hbA⟩
 have e5:(e.kind==5)=false:=by simpa using k5
 by_cases k10:e.kind=10
 ·have HE:P3 (X=false):=by
   show _=_;rw[<-HX.o];cases hs:stdE e with
   |false=>rfl
   |true=>exact absurd k10 (kM hs).2.2
  have e10:(e.kind==10)=true:=(by simp[k10]);clear hk HX k4 k5 k10;go_enter func177,ntmps177;go_wp2_with fail;go_ret;rw[HE.o];exact⟨rfl,hbA⟩
 have e10:(e.kind==10)=false:=by simpa using k10
 have HS:P3 ((e.kids.drop 0).all stdE=X):=by
  show _=_;rw[<-HX.o,rO,List.drop_zero];simp[k4,k5,k10]
 clear HX k4 k5 k10;go_enter func177,ntmps177;go_wp2_with fail;go_loopw [4,14] (fun _ t wr=> ∃j:Nat,t=ag (j:Int)/\j<=e.kids.length/\(e.kids.drop j).all stdE=X/\ao w wr) (fun _ t _=>e.kids.length-(intOf t).toNat);case atStart=>exact⟨0,rfl,by omega,HS.o,hbA⟩
 case round=>
  obtain⟨j,rfl,hj,hXr,hb⟩:=hrel;clear HS z0 z4 hxA hbA hwA e4 e5 e10;have hj0:(0:Int)<=(j:Int):=(by omega);by_cases hlt:j<e.kids.length
  ·have hlt':(j:Int)<(e.kids.length:Int):=(by omega);obtain⟨k,hjk⟩: ∃k,e.kids[j]? =some k:=⟨e.kids[j],ax hlt⟩
   rw[Kq hjk]at hXr;have hks:e.kids≠[]:=fun h=>(by rw[h]at hlt;simp at hlt);obtain⟨g,o,c',hsl,_,hkid⟩:=hk.resolve_left hks;obtain⟨pk,ck,d0,d1,d2,d3,d4,ihk⟩:=hkid j k hjk;have f0:=aj hb d0;have f1:=aj hb d1;have f2:=aj hb d2;have f3:=aj hb d3;have f4:=aj hb d4;have hbB:=am wr (.cells #[ag k.kind,ag k.a,ag k.b,.string ⟨k.name.toArray⟩,.slice pk k.kids.length ck] 52);have hxB:=aC wr (.cells #[ag k.kind,ag k.a,ag k.b,.string ⟨k.name.toArray⟩,.slice pk k.kids.length ck] 52);have hb2:=au hb hbB;have cR:=ihk _ hb2;injection hsl with e1 e2 e3;subst e1;subst e3;clear d0 d1 d2 d3 d4 ihk hkid hks hjk hbB;have HXr:P3 ((stdE k&&(e.kids.drop (j+1)).all stdE)=X):=hXr;unfold uI at cR;clear hXr;generalize stdE k=y at*;generalize hwB:wr.alloc (.cells #[ag k.kind,ag k.a,ag k.b,.string ⟨k.name.toArray⟩,.slice pk k.kids.length ck] 52)=wB at*;go_wp2_with(refine aR rfl 52 _ rfl _ rfl _ _ _ _ hxB eD rfl (by kernel_rfl) ?_)
   refine cR.mono ?_;rintro r w3 ⟨rfl,b3⟩;have hb3:=au hb2 b3;clear cR hxB hwB f0 f1 f2 f3 f4 b3 hb2;cases y with
   |false=>
    have HE:P3 (X=false):=(by show _=_;rw[<-HXr.o];rfl);clear HXr;go_wp2_with fail;go_ret;rw[HE.o];exact⟨rfl,hb3⟩
   |true=>
    go_wp2_with fail;go_roundw;case rel=>exact⟨j+1,by go_num,by omega,by rw[<-HXr.o];rfl,hb3⟩
    case measure=>simp[intOf];omega
  ·have hlt': ¬(j:Int)<(e.kids.length:Int):=(by omega);have HE:P3 (X=true):=(by show _=_;rw[<-hXr,List.drop_eq_nil_of_le (by omega)];rfl);clear hXr;go_wp2_with fail;go_ret;rw[HE.o];exact⟨rfl,hb⟩
theorem Fl: ∀(d:Nat) (e:Ex) (sl:Value) (w:World),fD B d w sl e.kids->Calls prog 177 #[exV e sl] w (uI e w):=by
 intro d;induction d with
 |zero=>
  intro e sl w hk;obtain⟨p,c,rfl⟩:=hk.form;exact ro e p c w (.inl hk.1) (by rw[hk.1];decide)
 |succ d ih=>
  intro e sl w hk;obtain⟨p,c,hsl⟩:=hk.form;subst hsl;rcases hk with⟨h,_⟩|⟨g,o,c',hg,hs,hl,hkid⟩
  ·exact ro e p c w (.inl h) (by rw[h];decide)
  ·refine ro e p c w (.inr ⟨g,o,c',hs,hl,fun j k hj=> ?_⟩) hl;obtain⟨hn',sk,c0,c1,c2,c3,c4,r⟩:=hkid j k hj;obtain⟨p',q',rfl⟩:=r.form;exact⟨p',q',c0,c1,c2,c3,c4,fun W hb=>ih k _ W (r.kept fun g' _ hl'=>hb.block g' hl')⟩
end
theorem DY: ∀(N:Nat) (e:Ex),SizeOf.sizeOf e<=N->stdE e=true->nms e=[]
 |0,e,hN,_=>by cases e;simp at hN
 |N+1,e,hN,h=>by
  rw[ly,aw (kM h).2.2,List.nil_append];unfold jn;rw[List.flatten_eq_nil_iff];intro x hx;obtain⟨k,hk,rfl⟩:=dw.1 hx;exact DY N k (by have:=gK hk;omega) (BZ h hk)
theorem xN: ∀(N:Nat) (e:Ex) (deep n deep' n':Nat),SizeOf.sizeOf e<=N->deep'<=deep->n'<=n->(shapeP e deep n).1=0->(shapeP e deep' n').1=0
 |0,e,_,_,_,_,hN,_,_,_=>by cases e;simp at hN
 |N+1,e,deep,n,deep',n',hN,hd,hn,h=>by
  have h0:=h;rw[jB]at h⊢;by_cases h1:600<n+1\/40<deep
  ·rw[ay h1]at h;cases h
  ·rw[aw h1]at h;rw[aw (by omega)];by_cases h2:aloneP e≠0
   ·rw[ay h2]at h;exact absurd h h2
   ·rw[aw h2]at h⊢
    have key: ∀(ks:List Ex) (m m':Nat),(∀k∈ks,SizeOf.sizeOf k<=N)->m'<=m->(gL ks (deep+1) (0,m)).1=0->(gL ks (deep'+1) (0,m')).1=0:=by
     intro ks;induction ks with
     |nil=>intro m m' _ _ _;rfl
     |cons k ks ih=>
      intro m m' hks hm hz;rw[ig]at hz⊢;rw[aw (by simp)]at hz⊢
      have hz1:(shapeP k (deep+1) m).1=0:=by
       by_cases hq:(shapeP k (deep+1) m).1=0
       ·exact hq
       ·rw[j8 hq]at hz;exact absurd hz hq
      have hz2:=xN N k (deep+1) m (deep'+1) m' (hks k bc) (by omega) hm hz1;obtain⟨a1,_⟩:=oT _ k (deep+1) m (aA _) hz1;obtain⟨a2,_⟩:=oT _ k (deep'+1) m' (aA _) hz2;rw[show shapeP k (deep+1) m=(0,m+iN k) from Prod.ext hz1 a1]at hz;rw[show shapeP k (deep'+1) m'=(0,m'+iN k) from Prod.ext hz2 a2];exact ih _ _ (fun k' hk'=>hks k' (bn _ hk')) (by omega) hz
    exact key e.kids (n+1) (n'+1) (fun k hk=>by have:=gK hk;omega) (by omega) h
def Rt (e:Ex):Prop:=(shapeP e 1 0).1=0
theorem Rt.ok {e:Ex}(h:Rt e):OKE e:=⟨1,0,h⟩
theorem Rt.kid {e k:Ex}(h:Rt e)(hk:k∈e.kids):Rt k:=by
 unfold Rt at h;rw[jB,aw (by omega)]at h;by_cases h2:aloneP e≠0
 ·rw[ay h2]at h;exact absurd h h2
 ·rw[aw h2]at h
  have key: ∀(ks:List Ex) (m:Nat),(gL ks 2 (0,m)).1=0-> ∀k∈ks,Rt k:=by
   intro ks;induction ks with
   |nil=>intro m _ k hk;cases hk
   |cons k' ks ih=>
    intro m hz k hk;rw[ig,aw (by simp)]at hz
    have hz1:(shapeP k' 2 m).1=0:=by
     by_cases hq:(shapeP k' 2 m).1=0
     ·exact hq
     ·rw[j8 hq]at hz;exact absurd hz hq
    rcases bh.1 hk with rfl|hk
    ·exact xN _ k 2 m 1 0 (aA _) (by omega) (df _) hz1
    ·obtain⟨a1,_⟩:=oT _ k' 2 m (aA _) hz1;rw[show shapeP k' 2 m=(0,m+iN k') from Prod.ext hz1 a1]at hz;exact ih _ hz k hk
  exact key e.kids 1 h k hk
theorem Rt.nod {e:Ex}(h:Rt e):iN e<=600:=by
 have:=(oT _ e 1 0 (aA _) h).2;omega
theorem MK {e:Ex}(h:Rt e)(hs:stdE e=true):di [([97],e)]=(0,0):=by
 have hn:nms e=[]:=DY _ e (aA _) hs
 have hsp:fz [([97],e)] ([97],e)=[]:=by
  unfold fz;rw[show nms (([97],e):Ru).2=[] from hn];rfl
 have hi: ∀{i:Nat},i<[(([97],e):Ru)].length->i=0:=fun hi=>by simp at hi;exact hi
 refine EQ ?_ (fun i' h'=> ?_) (fun i' h'=> ?_) (fun i' h'=> ?_)
 ·unfold fy;rw[aw (by simp)]
  have hr:ruleP ([97],e)=0:=by
   unfold ruleP;rw[aw (show¬Go.Proofs.YtjkilacmkbmmbaaGreatDoor.namedL [97]=false by decide)];exact h
  unfold ju;rw[aw (by simpa using hr)];rfl
 ·rw[hi h'];simp[lk1,atP5,atF]
 ·rw[hi h'];show decide (-1∈fz _ _)=false;rw[hsp];rfl
 ·rw[hi h']
  have hl:iy [([97],e)] 0=[]:=by
   unfold iy;show oN (fz _ _)=[]
   rw[hsp];rfl
  unfold lk3;rw[show [(([97],e):Ru)].length+1=1+1 from rfl,fol,hl];rfl
theorem Kr {e:Ex}(h:Rt e)(hs:stdE e=true):oZ [([97],e)] 0=(0,0)/\pC [([97],e)] 0=[mnE e]:=by
 have hc:=MK h hs
 have hm:oZ [([97],e)] 0=(0,0):=by
  unfold oZ;rw[hc,aw (by simp),aw (by omega)]
 refine⟨hm,?_⟩;unfold pC;rw[hm,ay rfl];show [fW _ _ _ 0]=_;rw[od (by rw[hc]) (show [(([97],e):Ru)][0]? =some ([97],e) from rfl)];rw[B0 (show stdE (([97],e):Ru).2=true from hs)]
theorem ML {w:World}{g:Nat}{e:Ex}{sl:Value}{d:Nat}(h:w.heap[g]? =ah #[.string ⟨#[97]⟩,ag e.kind,ag e.a,ag e.b,.string ⟨e.name.toArray⟩,sl] 54)(hn:e.name.length<=9223372036854775807)(hk:fD (fun k=>k<w.heap.size) d w sl e.kids):InR w (.slice (some (ae g 0)) 1 1) [(([97],e),sl)]:=by
 refine⟨.inr ⟨g,0,1,rfl,by simp,fun j p hj=> ?_⟩,by simp,fun p hp=> ?_⟩
 ·match j,hj with
  |0,hj=>
   cases aK hj;exact⟨ak 0 h,ak 1 h,ak 2 h,ak 3 h,ak 4 h,ak 5 h⟩
  |j+1,hj=>simp at hj
 ·rw[bv]at hp;subst hp;exact⟨by simp,hn,d,hk⟩
theorem C8 (d:Nat)(e:Ex)(sl:Value)(w:World)(hr:Rt e)(hs:stdE e=true)(hn:e.name.length<=9223372036854775807)(hk:fD (fun k=>k<w.heap.size) d w sl e.kids):
  Calls prog 180 #[exV e sl] w fun r w'=>r= .returned (.agg (mv (mnE e)))/\ao w w':=by
 obtain⟨p,c,hsl⟩:=hk.form;subst hsl;unfold exV;have hz:=dU;have bA:=am w (.cells #[ag e.kind,ag e.a,ag e.b,.string ⟨e.name.toArray⟩,.slice p e.kids.length c] 52);have nA:=aC w (.cells #[ag e.kind,ag e.a,ag e.b,.string ⟨e.name.toArray⟩,.slice p e.kids.length c] 52);generalize hwA:w.alloc (.cells #[ag e.kind,ag e.a,ag e.b,.string ⟨e.name.toArray⟩,.slice p e.kids.length c] 52)=wA at*;have bB:=am wA (.cells (mv fun _=>false) 61);have nB:=aC wA (.cells (mv fun _=>false) 61);have nA1:=ai bB nA;obtain⟨gB,hgB⟩:=aq wA.heap.size;generalize hwB:wA.alloc (.cells (mv fun _=>false) 61)=wB at*;rw[hgB]at nB;have bC:=am wB (.cells #[.string ⟨#[97]⟩,ag e.kind,ag e.a,ag e.b,.string ⟨e.name.toArray⟩,.slice p e.kids.length c] 54);have nC:=aC wB (.cells #[.string ⟨#[97]⟩,ag e.kind,ag e.a,ag e.b,.string ⟨e.name.toArray⟩,.slice p e.kids.length c] 54);generalize hwC:wB.alloc (.cells #[.string ⟨#[97]⟩,ag e.kind,ag e.a,ag e.b,.string ⟨e.name.toArray⟩,.slice p e.kids.length c] 54)=wC at*;have bAC:ao w wC:=bA.trans ((au bB bC).mono bA.size);have nB2:=ai bC nB;have hlow:w.heap.size<=gB:=by rw[<-hgB];exact bA.size
 have hin:=ML (d:=d) nC hn ((hk.kept fun g _ hl=>bAC.block g hl).mono fun g hg=>aO hg bAC.size);have cM:=Kl _ _ 0 wC hin;obtain⟨e1,e2⟩:=Kr hr hs;unfold xK at cM;simp only[dl,eO]at cM;rw[e1,e2]at cM;clear hin hk e1 e2 bA bB bC nA nC;go_enter func180,ntmps180
 go_wp2_with(first
  |(refine aR rfl 52 _ rfl _ rfl _ _ _ _ nA1 eD rfl (by kernel_rfl) ?_))
 refine cM.mono ?_;rintro r w3 ⟨v3,rfl,hrow,b3⟩;obtain⟨p3,c3,hv3,hb3,hrg⟩:=hrow;subst hv3;obtain⟨g3,o3,hp3,hr3⟩:=hrg 0 (mnE e) rfl;subst hp3;have hbw:=au bAC b3;have nB3:=ai b3 nB2;simp only[Nat.zero_mul,Nat.add_zero]at hr3;have hl1:[mnE e].length=1:=rfl;rw[hl1];generalize hz0:((0:Nat):Int)=iz;have hz1:iz=0:=hz0.symm.trans rfl;subst hz1;clear hz0;have bD:=am w3 (.cells #[ag 0,ag 0] 47);have nD:=aC w3 (.cells #[ag 0,ag 0] 47);have nB4:=ai bD nB3;have hr4:(w3.alloc (.cells #[ag 0,ag 0] 47)).rangeAt g3 o3 (mv (mnE e)).toList:=World.rangeAt_alloc hr3 _;have hbx:=au hbw bD;generalize hwD:w3.alloc (.cells #[ag 0,ag 0] 47)=wD at*;have bE:=below_setRow (aG w3.heap.size wD) (aA _) #[ag 0,ag 0];have hgl:=aF nB3;have nB4e:=(bE.block _ hgl).trans nB4;have hr5:(wD.setRow w3.heap.size #[ag 0,ag 0]).rangeAt g3 o3 (mv (mnE e)).toList:=fun j u hj=>(bE.cell (bT (hr3 j u hj))).trans (hr4 j u hj);have hbe:=hbx.trans (bE.mono (a6 hbw.size (aA _)));generalize hwE:wD.setRow w3.heap.size #[ag 0,ag 0]=wE at*;have nB5:=aJ _ _ _ (mv (mnE e)) _ _ nB4e;have hbz:=below_setRow hbe hlow (mv (mnE e));clear cM hbw hbx bAC b3 bD nB2 nB3 hr3 hrg bE hr4 nB4 hbe
 go_wp2_with(first
  |(refine az rfl 47 _ _ rfl _ _ rfl rfl _ _ nD (by kernel_rfl) (by simp) (by simp[Value.oneCell']) ?_;rw[hwE])
  |(refine tu rfl _ rfl g3 o3 rfl (mnE e) hr5 ?_)
  |(refine az rfl 61 _ _ rfl _ _ rfl rfl _ _ nB4e (ba _) (by simp[bO]) (dH _) ?_))
 refine aU (v:= .agg (mv (mnE e))) ?_ rfl ⟨rfl,hbz⟩;exact a8 rfl _ _ gB _ _ _ _ rfl nB5 bQ rfl (ba _)
def gU (w:World)(v:Value)(l:List (Int×Int)):Prop:=(l=[]/\ ∃p c,v= .slice p 0 c)\/ ∃(g c:Nat) (cur:Array Value),v= .slice (some (ae g 0)) l.length c/\l.length<9223372036854775808/\w.heap[g]? =ah cur 143/\cur.toList.take (l.length*2)=iG l
theorem gU.nil (w:World)(p:Option Addr)(c:Nat):gU w (.slice p 0 c) []:= .inl ⟨rfl,p,c,rfl⟩
theorem gU.form {w:World}{v:Value}{l:List (Int×Int)}(h:gU w v l): ∃p n c,v= .slice p n c:=by
 rcases h with⟨_,p,c,e⟩|⟨g,c,cur,e,_⟩
 ·exact⟨p,0,c,e⟩
 ·exact⟨_,_,c,e⟩
theorem gU.of_own {w:World}{base:Nat}{v:Value}{l:List (Int×Int)}(h:w.ownsRow base 143 2 v l.length (iG l)):gU w v l:=by
 rcases h.2 with⟨e,e2⟩|⟨g,cap,cur,e,hb,hg,hn,hc,hs,hx⟩
 ·exact .inl ⟨fp e2,none,0,by rw[e]⟩
 ·exact .inr ⟨g,cap,cur,e,by unfold maxLen at hc;omega,hg,hx⟩
def Fr (gm:Nat)(w w':World):Prop:= ∀(q:Nat) (c:Array Value) (T:TypeId),w.heap[q]? =ah c T->T≠234->q≠gm->w'.heap[q]? =ah c T
theorem Fr.trans {gm:Nat}{w w' w'':World}(h:Fr gm w w')(h':Fr gm w' w''):Fr gm w w'':=fun q c T hq hT hne=>h' q c T (h q c T hq hT hne) hT hne
theorem Fr.below {gm:Nat}{w w':World}(hb:ao w w'):Fr gm w w':=fun _ _ _ hq _ _=>ai hb hq
theorem gU.fr {gm:Nat}{w w':World}{v:Value}{l:List (Int×Int)}(h:gU w v l){cw:Array Value}(hg:w.heap[gm]? =ah cw 205)(hf:Fr gm w w'):gU w' v l:=by
 rcases h with h|⟨g,c,cur,e,hl,hb,hx⟩
 ·exact .inl h
 ·refine .inr ⟨g,c,cur,e,hl,hf g _ _ hb (by decide) (fun q=> ?_),hx⟩;subst q;rw[hg]at hb;injection hb with hb;injection hb with _ h2 _;exact absurd h2 (by decide)
theorem gU.below {w w':World}{v:Value}{l:List (Int×Int)}(h:gU w v l)(hb:ao w w'):gU w' v l:=by
 rcases h with h|⟨g,c,cur,e,hl,hg,hx⟩
 ·exact .inl h
 ·exact .inr ⟨g,c,cur,e,hl,ai hb hg,hx⟩
structure WOk (w0:World)(gm:Nat)(mp:Value)(S:List (In×Value))(W:World):Prop where
 st:WsC w0 gm mp S W
 sp: ∀u∈S,gU W u.2 u.1.sp
theorem WOk.below {w0 W W':World}{gm:Nat}{mp:Value}{S:List (In×Value)}(h:WOk w0 gm mp S W)(hb:ao W W'):WOk w0 gm mp S W':=
 ⟨h.st.below hb,fun u hu=>(h.sp u hu).below hb⟩
def mX (w0:World)(gm:Nat)(mp:Value)(S:List (In×Value))(c:List In)(W:World)(r:Ending)(W':World):Prop:=r= .returned (.tuple #[])/\ ∃S',S'.map (fun u=>u.1)=c/\WOk w0 gm mp (S++S') W'/\Fr2 gm W W'
theorem Fr2.fr {w0 W W':World}{gm:Nat}{mp:Value}{S:List (In×Value)}(h:WsC w0 gm mp S W)(hf:Fr2 gm W W'):Fr gm W W':=fun q c T hq hT hne=>by
 obtain⟨_,_,sv,hg,own⟩:=h;refine(hf.blk q (aF hq) hne ?_).trans hq;rw[oh hg];exact fun e=>jY own hq hT e.symm
theorem uJ {w0 W:World}{gm:Nat}{mp:Value}{S:List (In×Value)}(h:WOk w0 gm mp S W)(x:In)(v:Value)(hv:gU W v x.sp)(hS:S.length<=1000):
  Calls prog 178 #[ab gm 0,.agg #[ag x.op,ag x.a,ag x.b,ag x.to,v]] W fun e W'=>e= .returned (.tuple #[])/\WOk w0 gm mp (S++[(x,v)]) W'/\Fr2 gm W W':=by
 obtain⟨_,_,sv,hg,_⟩:=id h.st;refine(Ko w0 gm mp S (x,v) W h.st hS hv.form).mono fun e W' ⟨he,h1,h2,h3⟩=>⟨he,⟨h1,fun u hu=> ?_⟩,h3⟩
 rcases bJ.1 hu with hu|hu
 ·exact(h.sp u hu).fr hg h2
 ·rw[bv]at hu;subst hu;exact hv.fr hg h2
def Fm (w0:World)(gm:Nat)(mp:Value)(l:List Ru)(k:Ex)(sk:Value):Prop:= ∀(S:List (In×Value)) (W:World),WOk w0 gm mp S W->S.length+iN k<=700->Calls prog 154 #[ab gm 0,exV k sk] W (mX w0 gm mp S (bN (atP5 l) k S.length) W)
theorem qy (S S':List (In×Value)):i7 (S++S')=i7 S++i7 S':=by unfold i7;rw[dZ]
theorem Ae (S S':List (In×Value))(x:In)(v:Value)(t:Int):(i7 (S++((x,v)::S'))).set (S.length*5+3) (ag t)=i7 (S++(({x with to:=t},v)::S')):=by
 rw[qy,qy,List.set_append_right _ _ (by rw[oU];omega),oU,Nat.add_sub_cancel_left];rfl
theorem Og {W:World}{base g n c:Nat}{S S':List (In×Value)}{x:In}{v:Value}(t:Int)(h:W.ownsRow base 234 5 (.slice (some (ae g 0)) n c) n (i7 (S++((x,v)::S')))):(W.setCell ⟨g,S.length*5+3,none⟩ (ag t)).ownsRow base 234 5 (.slice (some (ae g 0)) n c) n (i7 (S++(({x with to:=t},v)::S'))):=by
 obtain⟨h1,h2⟩:=h;rcases h2 with⟨e,_⟩|⟨g',cap,cur,e,hb,hg,hn,hc,hs,hx⟩
 ·cases e
 ·injection e with e1 _ e3;injection e1 with e1;injection e1 with e1 _ _;subst e1 e3;refine⟨by rw[<-Ae,jh];exact h1,.inr ⟨g,c,cur.setIfInBounds (S.length*5+3) (ag t),rfl,hb,aX W g _ _ _ _ hg,hn,hc,by rw[gJ];exact hs,?_⟩⟩;rw[Array.toList_setIfInBounds,List.take_set,hx,Ae]
theorem WOk.lt {w0 W:World}{gm:Nat}{mp:Value}{S:List (In×Value)}(h:WOk w0 gm mp S W):gm<W.heap.size:=by
 obtain⟨_,_,sv,hg,_⟩:=h.st;exact aF hg
section
def upI (f:Nat->Int)(i:Nat)(v:Int):Nat->Int:=fun k=>if k=i then v else f k
theorem iI (f:Nat->Int)(i:Nat)(v:Int):upI f i v i=v:=by unfold upI;rw[ay rfl]
theorem xO (f:Nat->Int){i k:Nat}(v:Int)(h:k≠i):upI f i v k=f k:=by unfold upI;rw[aw h]
def eW (go n:Nat)(sv:Nat->Value)(H T:Nat->Int)(w:World):Prop:= ∃cur:Array Value,w.heap[go]? =ah cur 208/\cur.size=n*3/\ ∀i,i<n->cur[i*3]? =some (sv i)/\cur[i*3+1]? =some (ag (H i))/\cur[i*3+2]? =some (ag (T i))
section
variable {go n:Nat} {sv:Nat->Value} {H T:Nat->Int} {w w':World}
theorem eW.cells (h:eW go n sv H T w){i:Nat}(hi:i<n):w.cell? (ae go (i*3))=some (sv i)/\w.cell? (ae go (i*3+1))=some (ag (H i))/\w.cell? (ae go (i*3+2))=some (ag (T i))/\w.frozen? (ae go (i*3+1))=false/\w.frozen? (ae go (i*3+2))=false:=by
 obtain⟨cur,hg,_,hc⟩:=h;obtain⟨c0,c1,c2⟩:=hc i hi;exact⟨(aV _ _ _ _ _ _ hg).trans c0,(aV _ _ _ _ _ _ hg).trans c1,(aV _ _ _ _ _ _ hg).trans c2,bl _ _ _ _ _ hg,bl _ _ _ _ _ hg⟩
theorem eW.lt (h:eW go n sv H T w):go<w.heap.size:=by
 obtain⟨cur,hg,_⟩:=h;exact aF hg
theorem eW.same (h:eW go n sv H T w)(e:w'.heap[go]? =w.heap[go]?):eW go n sv H T w':=by
 obtain⟨cur,hg,r⟩:=h;exact⟨cur,e.trans hg,r⟩
theorem eW.below (h:eW go n sv H T w)(hb:ao w w'):eW go n sv H T w':=h.same (hb.block _ h.lt)
theorem eW.setH (h:eW go n sv H T w){i:Nat}(v:Int)(hi:i<n):eW go n sv (upI H i v) T (w.setCell ⟨go,i*3+1,none⟩ (ag v)):=by
 obtain⟨cur,hg,hs,hc⟩:=h;refine⟨_,aX w go (i*3+1) _ _ _ hg,by rw[gJ];exact hs,fun k hk=> ?_⟩;obtain⟨c0,c1,c2⟩:=hc k hk;refine⟨?_,?_,?_⟩
 ·rw[da (by omega)];exact c0
 ·by_cases e:k=i
  ·subst e;rw[iI,fQ (by omega)]
  ·rw[xO _ _ e,da (by omega)];exact c1
 ·rw[da (by omega)];exact c2
theorem eW.setT (h:eW go n sv H T w){i:Nat}(v:Int)(hi:i<n):eW go n sv H (upI T i v) (w.setCell ⟨go,i*3+2,none⟩ (ag v)):=by
 obtain⟨cur,hg,hs,hc⟩:=h;refine⟨_,aX w go (i*3+2) _ _ _ hg,by rw[gJ];exact hs,fun k hk=> ?_⟩;obtain⟨c0,c1,c2⟩:=hc k hk;refine⟨?_,?_,?_⟩
 ·rw[da (by omega)];exact c0
 ·rw[da (by omega)];exact c1
 ·by_cases e:k=i
  ·subst e;rw[iI,fQ (by omega)]
  ·rw[xO _ _ e,da (by omega)];exact c2
end
theorem ip (w:World)(g i:Nat)(v:Value):bm g w (w.setCell ⟨g,i,none⟩ v):=bm.set w g i v
def jI (w:World)(v:Value)(S:List (In×Value)):Prop:=w.ownsRow 0 234 5 v S.length (i7 S)
theorem jI.below {w w':World}{v:Value}{S:List (In×Value)}(h:jI w v S)(hb:ao w w'):jI w' v S:=g6 h hb
theorem jI.kept {w w':World}{v:Value}{S:List (In×Value)}{go n:Nat}{sv:Nat->Value}{H T:Nat->Int}(h:jI w v S)(hm:eW go n sv H T w)(hk:bm go w w'):jI w' v S:=by
 obtain⟨cur,hg,_⟩:=hm;exact World.ownsRow.kept h hk (.inr fun e=>jY h hg (by decide) e.symm)
theorem jI.form {w:World}{v:Value}{S:List (In×Value)}(h:jI w v S)(h1:1<=S.length): ∃g c,v= .slice (some (ae g 0)) S.length c/\ ∀(j:Nat) (u:In×Value),S[j]? =some u->
  w.cell? (ae g (j*5))=some (ag u.1.op)/\w.cell? (ae g (j*5+1))=some (ag u.1.a)/\w.cell? (ae g (j*5+2))=some (ag u.1.b)/\w.cell? (ae g (j*5+3))=some (ag u.1.to)/\w.cell? (ae g (j*5+4))=some u.2:=by
 rcases h.2 with⟨_,e⟩|⟨g,cap,cur,e,_,hg,_,_,_,hx⟩
 ·omega
 ·refine⟨g,cap,e,fun j u hj=> ?_⟩;have hjl:=(aE.1 hj).1
  have key: ∀(i:Nat) (v:Value),i<5->(iv u).toList[i]? =some v->w.cell? (ae g (j*5+i))=some v:=fun i v hi hv=>by
   refine(aV _ _ _ _ _ _ hg).trans ?_;have e1:(cur.toList.take (S.length*5))[j*5+i]? =(i7 S)[j*5+i]? :=(by rw[hx]);rw[dA (by omega)]at e1;rw[<-bo,e1]
   have e2:S=S.take j++(u::S.drop (j+1)):=by
    conv=>lhs;rw[<-gy j S]
    congr 1;rw[bx hjl,(aE.1 hj).2]
   rw[e2,qy,dG (by rw[oU,d8];omega),oU,d8,fC (by omega),Nat.add_sub_cancel_left];show((iv u).toList++i7 (S.drop (j+1)))[i]? =_;rw[d6 (by rw[DX];exact hi)];exact hv
  exact⟨key 0 _ (by omega) rfl,key 1 _ (by omega) rfl,key 2 _ (by omega) rfl,key 3 _ (by omega) rfl,key 4 _ (by omega) rfl⟩
def Me (mea:Nat->Int×Int)(H T:Nat->Int)(k:Nat):Prop:=H k=(mea k).1/\T k=(mea k).2
def Okm (mea:Nat->Int×Int)(H T:Nat->Int)(k:Nat):Prop:=(H k=0/\T k=0)\/Me mea H T k
def kW (mea:Nat->Int×Int)(ρ:Nat->Nat)(n i:Nat)(H0 T0 H T:Nat->Int):Prop:= ∀k,k<n->k≠i->(ρ k<=ρ i->Okm mea H T k/\(Me mea H0 T0 k->Me mea H T k))/\(ρ i<ρ k->H k=H0 k/\T k=T0 k)
section
variable {mea:Nat->Int×Int} {ρ:Nat->Nat} {n i k0:Nat} {H0 T0 H T H' T':Nat->Int}
theorem kW.refl (h: ∀k,k<n->ρ k<=ρ i->Okm mea H0 T0 k):kW mea ρ n i H0 T0 H0 T0:=fun k hk _=>⟨fun hr=>⟨h k hk hr,id⟩,fun _=>⟨rfl,rfl⟩⟩
theorem kW.setH (h:kW mea ρ n i H0 T0 H T)(v:Int):kW mea ρ n i H0 T0 (upI H i v) T:=fun k hk hne=>by
 have:=h k hk hne;unfold Okm Me at this⊢;rw[xO _ _ hne];exact this
theorem kW.setT (h:kW mea ρ n i H0 T0 H T)(v:Int):kW mea ρ n i H0 T0 H (upI T i v):=fun k hk hne=>by
 have:=h k hk hne;unfold Okm Me at this⊢;rw[xO _ _ hne];exact this
theorem kW.pre (h:kW mea ρ n i H0 T0 H T)(hr:ρ k0<ρ i): ∀k,k<n->ρ k<=ρ k0->Okm mea H T k:=fun k hk hk0=>((h k hk (fun e=>by subst e;omega)).1 (by omega)).1
theorem kW.call (h:kW mea ρ n i H0 T0 H T)(hr:ρ k0<ρ i)(hi:i<n)(hm:Me mea H' T' k0)(h':kW mea ρ n k0 H T H' T'):kW mea ρ n i H0 T0 H' T'/\H' i=H i/\T' i=T i:=by
 refine⟨fun k hk hne=>⟨fun hri=> ?_,fun hri=> ?_⟩,(h' i hi (fun e=>by subst e;omega)).2 hr⟩
 ·by_cases e:k=k0
  ·subst e;exact⟨.inr hm,fun _=>hm⟩
  ·have a:=(h k hk hne).1 hri;by_cases hle:ρ k<=ρ k0
   ·have b:=(h' k hk e).1 hle;exact⟨b.1,fun q=>b.2 (a.2 q)⟩
   ·have b:=(h' k hk e).2 (by omega);unfold Okm Me at a⊢;rw[b.1,b.2];exact a
 ·have e:k≠k0:=fun e=>by subst e;omega
  have a:=(h k hk hne).2 hri;have b:=(h' k hk e).2 (by omega);exact⟨b.1.trans a.1,b.2.trans a.2⟩
end
def vU (mea:Nat->Int×Int)(ρ:Nat->Nat)(go n:Nat)(sv:Nat->Value)(i:Nat)(H0 T0:Nat->Int)(w:World)(r:Ending)(w':World):Prop:=r= .returned (.agg #[sv i,ag (mea i).1,ag (mea i).2])/\ ∃H' T',eW go n sv H' T' w'/\Me mea H' T' i/\kW mea ρ n i H0 T0 H' T'/\bm go w w'
theorem Af:prog.underlying 208=some (.struct (prog.fieldsOf 208)):=by kernel_rfl
end
end Go.Proofs.YtjkilacmkbmmbaaGreatDoor
