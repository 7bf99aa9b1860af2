/- Texts of the proof. -/
import Derived.Test.YtpdoienkhgnceaaGreatDoorPt19
set_option maxRecDepth 100000
set_option maxHeartbeats 8000000
namespace Go.Proofs.YtpdoienkhgnceaaGreatDoor
open Go.Proofs.Tryz Go.RowKit Lx Vx Mx Msk
def stdE (e:Ex):Bool:= !(decide (e.kind=4)||decide (e.kind=5)||decide (e.kind=10))&&e.kids.attach.all fun k=>stdE k.1
 termination_by SizeOf.sizeOf e
 decreasing_by exact fy k.2
theorem tu (e:Ex):stdE e=(!(decide (e.kind=4)||decide (e.kind=5)||decide (e.kind=10))&&e.kids.all stdE):=by
 rw[stdE];congr 1;rw[Bool.eq_iff_iff,dl,dl];exact⟨fun h k a=>h ⟨k,a⟩ (List.mem_attach _ _),fun h k _=>h k.1 k.2⟩
theorem lH {e:Ex}(h:stdE e=true):e.kind≠4/\e.kind≠5/\e.kind≠10:=by
 rw[tu,bx]at h;have a:=h.1;refine⟨fun e=> ?_,fun e=> ?_,fun e=> ?_⟩<;>simp[e]at a
theorem D6 {e k:Ex}(h:stdE e=true)(a:k∈e.kids):stdE k=true:=by
 rw[tu,bx,dl]at h;exact h.2 k a
theorem La {e:Ex}(h:e.kids=[])(b:e.kind≠4)(c:e.kind≠5)(a:e.kind≠10):stdE e=true:=by
 rw[tu,h];simp[b,c,a]
def mnE (e:Ex):Nat->Bool:=fA (fun _=>false) 0 (fun _=>nev) e
theorem GA (d:Int->Bool)(day:Int)(a:List UInt8->Nat->Bool): ∀(N:Nat) (e:Ex),SizeOf.sizeOf e<=N->stdE e=true->fA d day a e=mnE e
 |0,e,f,_=>by cases e;simp at f
 |N+1,e,f,h=>by
  unfold mnE;rw[jF,jF];have b:e.kids.map (fA d day a)=e.kids.map (fA (fun _=>false) 0 (fun _=>nev)):=List.map_congr_left fun k b=>GA d day a N k (by have:=fy b;omega) (D6 h b);rw[b];obtain⟨g,i,c⟩:=lH h;unfold nO;simp only[aw g,aw i,aw c]
theorem D7 {e:Ex}(h:stdE e=true)(b:Int->Bool)(day:Int)(a:List UInt8->Nat->Bool):fA b day a e=mnE e:=GA b day a _ e (aA _) h
def kH:List (Nat->List In)->Nat->List In
 |[],_=>[]
 |f::a,b=>f b++kH a (b+(f b).length)
def noC:Nat->List In:=fun _=>[]
def opK (k:Int):Int:=if k=9 then 5 else if k=6 then 2 else if k=7 then 3 else 4
def ub (num:List UInt8->Int)(e:Ex)(c:List (Nat->List In))(b:Nat):List In:=
 if stdE e=true then [⟨1,0,0,0,rs (mnE e) 1440⟩]
 else if e.kind=10 then [⟨8,num e.name,0,0,[]⟩]
 else if e.kind=4 then⟨6,e.a,0,((b+1+((c.getD 0 noC) (b+1)).length:Nat):Int),[]⟩::(c.getD 0 noC) (b+1)
 else if e.kind=5 then⟨7,e.a,e.b,((b+1+((c.getD 0 noC) (b+1)).length:Nat):Int),[]⟩::(c.getD 0 noC) (b+1)
 else kH c b++[⟨opK e.kind,if e.kind=9 then e.a else 0,0,0,[]⟩]
def bT (num:List UInt8->Int)(e:Ex)(b:Nat):List In:=ub num e (e.kids.attach.map fun k=>fun a=>bT num k.1 a) b
 termination_by SizeOf.sizeOf e
 decreasing_by exact fy k.2
theorem rO (num:List UInt8->Int)(e:Ex)(b:Nat):bT num e b=ub num e (e.kids.map (bT num)) b:=by
 rw[bT];congr 1;have h:=congrArg (List.map (bT num)) (eY e.kids);rw[iU]at h;exact h
theorem pH {num:List UInt8->Int}{e:Ex}(h:stdE e=true)(b:Nat):bT num e b=[⟨1,0,0,0,rs (mnE e) 1440⟩]:=by
 rw[rO];unfold ub;rw[ax h]
theorem qg {num:List UInt8->Int}{e:Ex}(a:e.kind=10)(b:Nat):bT num e b=[⟨8,num e.name,0,0,[]⟩]:=by
 rw[rO];unfold ub;rw[aw (fun h=>(lH h).2.2 a),ax a]
theorem qh {num:List UInt8->Int}{e k:Ex}(c:e.kind=4)(f:e.kids[0]? =some k)(b:Nat):bT num e b=⟨6,e.a,0,((b+1+(bT num k (b+1)).length:Nat):Int),[]⟩::bT num k (b+1):=by
 rw[rO];have d:(e.kids.map (bT num)).getD 0 noC=bT num k:=by simp[List.getD,f]
 unfold ub;rw[aw (fun h=>(lH h).1 c),aw (by omega),ax c,d]
theorem oQ {num:List UInt8->Int}{e k:Ex}(c:e.kind=5)(f:e.kids[0]? =some k)(b:Nat):bT num e b=⟨7,e.a,e.b,((b+1+(bT num k (b+1)).length:Nat):Int),[]⟩::bT num k (b+1):=by
 rw[rO];have d:(e.kids.map (bT num)).getD 0 noC=bT num k:=by simp[List.getD,f]
 unfold ub;rw[aw (fun h=>(lH h).2.1 c),aw (by omega),aw (by omega),ax c,d]
theorem pI {num:List UInt8->Int}{e:Ex}(h:stdE e=false)(d:e.kind≠4)(f:e.kind≠5)(c:e.kind≠10)(b:Nat):bT num e b=kH (e.kids.map (bT num)) b++[⟨opK e.kind,if e.kind=9 then e.a else 0,0,0,[]⟩]:=by
 rw[rO];unfold ub;rw[aw (by rw[h];simp),aw c,aw d,aw f]
theorem D8 {e:Ex}(h:e.kids.length=2): ∃k m,e.kids=[k,m]:=by
 match hk:e.kids with
 |[]=>rw[hk]at h;cases h
 |[_]=>rw[hk]at h;cases h
 |[k,m]=>exact⟨k,m,rfl⟩
 |_::_::_::_=>rw[hk]at h;simp at h
theorem GB {e:Ex}(h:e.kids.length=1): ∃k,e.kids=[k]:=by
 match hk:e.kids with
 |[]=>rw[hk]at h;cases h
 |[k]=>exact⟨k,rfl⟩
 |_::_::_=>rw[hk]at h;simp at h
theorem qL {num:List UInt8->Int}{e k:Ex}(h:stdE e=false)(c:e.kind=9)(d:e.kids=[k])(b:Nat):bT num e b=bT num k b++[⟨5,e.a,0,0,[]⟩]:=by
 rw[pI h (by omega) (by omega) (by omega),d];simp only[cQ,fu,kH,iE];unfold opK;rw[ax c,ax c]
theorem sA {num:List UInt8->Int}{e k m:Ex}(h:stdE e=false)(c:e.kind=6\/e.kind=7\/e.kind=8)(a:e.kids=[k,m])(b:Nat):bT num e b=(bT num k b++bT num m (b+(bT num k b).length))++[⟨opK e.kind,0,0,0,[]⟩]:=by
 rw[pI h (by omega) (by omega) (by omega),a];simp only[cQ,fu,kH,iE];rw[aw (by omega)]
theorem oR {e:Ex}(h:OKE e)(f:stdE e=false):(e.kind=4/\ ∃k,e.kids=[k])\/(e.kind=5/\ ∃k,e.kids=[k])\/(e.kind=9/\ ∃k,e.kids=[k])\/e.kind=10\/((e.kind=6\/e.kind=7\/e.kind=8)/\ ∃k m,e.kids=[k,m]):=by
 obtain⟨g,i,a,_,_⟩:=h.kinds;unfold kidsP at a;by_cases q:e.kind=4\/e.kind=5\/e.kind=9
 ·rw[ax q]at a;obtain⟨k,b⟩:=GB a;rcases q with q|q|q
  ·exact .inl ⟨q,k,b⟩
  ·exact .inr (.inl ⟨q,k,b⟩)
  ·exact .inr (.inr (.inl ⟨q,k,b⟩))
 ·rw[aw q]at a;by_cases c:e.kind=6\/e.kind=7\/e.kind=8
  ·rw[ax c]at a;obtain⟨k,m,b⟩:=D8 a;exact .inr (.inr (.inr (.inr ⟨c,k,m,b⟩)))
  ·rw[aw c]at a;by_cases d:e.kind=10
   ·exact .inr (.inr (.inr (.inl d)))
   ·have:=La (gG.1 a) (by omega) (by omega) d;rw[f]at this;cases this
theorem BZ: ∀(l:List (Int×Int)) (last:Int),good last 1440 l->risL l last=true
 |[],_,_=>rfl
 |s::l,last,⟨b,c,d,a⟩=>by
  unfold risL;rw[aw (by omega)];exact BZ l s.2 a
theorem PU (f:Nat->Bool):risL (rs f 1440) (-1)=true:=BZ _ _ (A3 f 1440).good
def jf (e:Ex):Nat:=1+(e.kids.attach.map fun k=>jf k.1).sum
 termination_by SizeOf.sizeOf e
 decreasing_by exact fy k.2
theorem mN (e:Ex):jf e=1+(e.kids.map jf).sum:=by
 rw[jf];congr 2;have h:=congrArg (List.map jf) (eY e.kids);rw[iU]at h;exact h
theorem D9 (e:Ex):1<=jf e:=by rw[mN];omega
theorem mB (num:List UInt8->Int): ∀(N:Nat) (e:Ex),SizeOf.sizeOf e<=N->OKE e-> ∀b,1<=(bT num e b).length/\(bT num e b).length<=jf e
 |0,e,f,_,_=>by cases e;simp at f
 |N+1,e,f,h,b=>by
  have c:=mN e;cases hs:stdE e with
  |true=>
   rw[pH hs];exact⟨by simp,by simpa using D9 e⟩
  |false=>
   have d: ∀k∈e.kids,∀b,1<=(bT num k b).length/\(bT num k b).length<=jf k:=fun k a b=>mB num N k (by have:=fy a;omega) (h.kid a) b;rcases oR h hs with⟨q,k,a⟩|⟨q,k,a⟩|⟨q,k,a⟩|q|⟨q,k,m,a⟩
   ·rw[qh q (by rw[a];rfl)];have:=d k (by rw[a];simp) (b+1);rw[a]at c;simp only[cQ,fu,il,List.sum_nil]at c;rw[bK];omega
   ·rw[oQ q (by rw[a];rfl)];have:=d k (by rw[a];simp) (b+1);rw[a]at c;simp only[cQ,fu,il,List.sum_nil]at c;rw[bK];omega
   ·rw[qL hs q a];have:=d k (by rw[a];simp) b;rw[a]at c;simp only[cQ,fu,il,List.sum_nil]at c;rw[aN,eG];omega
   ·rw[qg q];exact⟨by simp,by simpa using D9 e⟩
   ·rw[sA hs q a];have g:=d k (by rw[a];simp) b;have i:=d m (by rw[a];simp) (b+(bT num k b).length);rw[a]at c;simp only[cQ,fu,il,List.sum_nil]at c;rw[aN,aN,eG];omega
theorem qi: ∀(N:Nat) (e:Ex) (c n:Nat),SizeOf.sizeOf e<=N->(shapeP e c n).1=0->(shapeP e c n).2=n+jf e/\n+jf e<=600
 |0,e,_,_,r,_=>by cases e;simp at r
 |N+1,e,c,n,r,h=>by
  rw[jd]at h⊢;by_cases q:600<n+1\/40<c
  ·rw[ax q]at h;cases h
  ·rw[aw q]at h⊢;by_cases j:aloneP e≠0
   ·rw[ax j]at h;exact absurd h j
   ·rw[aw j]at h⊢
    have p: ∀(d:List Ex) (m:Nat),(∀k∈d,SizeOf.sizeOf k<=N)->m<=600->(gF d (c+1) (0,m)).1=0->(gF d (c+1) (0,m)).2=m+(d.map jf).sum/\m+(d.map jf).sum<=600:=by
     intro d;induction d with
     |nil=>intro m _ s _;exact⟨by simp[gF],by simpa using s⟩
     |cons k d x=>
      intro m g s f;rw[gT]at f⊢;rw[aw (by simp)]at f⊢
      have i:(shapeP k (c+1) m).1=0:=by
       by_cases o:(shapeP k (c+1) m).1=0
       ·exact o
       ·rw[jX o]at f;exact absurd f o
      obtain⟨t,u⟩:=qi N k (c+1) m (g k aV) i;have v:shapeP k (c+1) m=(0,m+jf k):=Prod.ext i t;rw[v]at f⊢;obtain⟨b1,b2⟩:=x (m+jf k) (fun y l=>g y (bj _ l)) u f;rw[cQ,il];exact⟨by rw[b1];omega,by omega⟩
    obtain⟨a,b⟩:=p e.kids (n+1) (fun k w=>by have:=fy w;omega) (by omega) h;rw[mN];exact⟨by rw[a];omega,by omega⟩
def kE (l:List In)(b:Nat)(c:List In):Prop:= ∀j,j<c.length->l[b+j]? =c[j]?
theorem kE.left {l:List In}{b:Nat}{c d:List In}(h:kE l b (c++d)):kE l b c:=fun j a=>by
 rw[h j (by rw[aN];omega),eP a]
theorem kE.right {l:List In}{b:Nat}{c d:List In}(h:kE l b (c++d)):kE l (b+c.length) d:=fun j a=>by
 have:=h (c.length+j) (by rw[aN];omega);rw[dR (by omega),Nat.add_sub_cancel_left,<-Nat.add_assoc]at this;exact this
theorem kE.one {l:List In}{b:Nat}{x:In}{d:List In}(h:kE l b (x::d)):l[b]? =some x:=by
 have:=h 0 (by simp);simpa using this
theorem kE.tail {l:List In}{b:Nat}{x:In}{d:List In}(h:kE l b (x::d)):kE l (b+1) d:=kE.right (c:=[x]) h
structure jG (l:List In)(b n R N:Nat):Prop where
 fin:hAt l (b+n)=hAt l b+1
 tk: ∀j x,b<=j->j<b+n->l[j]? =some x->Vx.tk x+hAt l b<=hAt l j
 to: ∀j x,b<=j->j<b+n->l[j]? =some x->isG x->hAt l x.to.toNat=hAt l j+1
 ins: ∀j x,b<=j->j<b+n->l[j]? =some x->fT x j N R=0
theorem SZ {x:In}(a:x.op=1)(h:risL x.sp (-1)=true)(j N R:Nat):fT x j N R=0:=by
 unfold fT;rw[aw (by omega),ax a,ax h]
theorem PV {x:In}(a:x.op=2\/x.op=3\/x.op=4)(j N R:Nat):fT x j N R=0:=by
 unfold fT;rw[ax a]
theorem S1 {x:In}(b:x.op=5)(h:x.a≠0/\ -1439<=x.a/\x.a<=1439)(j N R:Nat):fT x j N R=0:=by
 unfold fT;rw[aw (by omega),aw (by omega),ax b,ax h]
theorem S3 {x:In}{j N:Nat}(b:x.op=6)(c:(j:Int)+2<=x.to/\x.to<=N)(h:1<=x.a/\x.a<=127)(R:Nat):fT x j N R=0:=by
 unfold fT;rw[aw (by omega),aw (by omega),aw (by omega),ax b,ax c,ax h]
theorem S4 {x:In}{j N:Nat}(c:x.op=7)(d:(j:Int)+2<=x.to/\x.to<=N)(h:0<=x.a/\x.a<=x.b/\x.b<146097)(R:Nat):fT x j N R=0:=by
 unfold fT;rw[aw (by omega),aw (by omega),aw (by omega),aw (by omega),ax c,ax d,ax h]
theorem S5 {x:In}{R:Nat}(b:x.op=8)(h:0<=x.a/\x.a<R)(j N:Nat):fT x j N R=0:=by
 unfold fT;rw[aw (by omega),aw (by omega),aw (by omega),aw (by omega),aw (by omega),ax b,ax h]
theorem S6 {x:In}(a:x.op=1\/x.op=8):eff x=1:=by unfold eff;rw[ax a]
theorem S7 {x:In}(a:x.op=2\/x.op=3\/x.op=4):eff x= -1:=by unfold eff;rw[aw (by omega),ax a]
theorem OC {x:In}(a:x.op=5\/x.op=6\/x.op=7):eff x=0:=by unfold eff;rw[aw (by omega),aw (by omega)]
theorem RI {x:In}(a:x.op=1\/x.op=6\/x.op=7\/x.op=8):Vx.tk x=0:=by unfold Vx.tk;rw[aw (by omega),aw (by omega)]
theorem TD {x:In}(a:x.op=5):Vx.tk x=1:=by unfold Vx.tk;rw[ax a]
theorem TE {x:In}(a:x.op=2\/x.op=3\/x.op=4):Vx.tk x=2:=by unfold Vx.tk;rw[aw (by omega),ax a]
theorem jG.one {l:List In}{b R N:Nat}{x:In}(f:l[b]? =some x)(g:x.op=1\/x.op=8)(hi:fT x b N R=0):jG l b 1 R N:=by
 refine⟨by rw[jN f,S6 g],fun j y d e a=> ?_,fun j y d e a c=> ?_,fun j y d e a=> ?_⟩<;>
  (obtain rfl:j=b:=by omega)<;>(rw[f]at a;cases ay a)
 ·rw[RI (by omega)];omega
 ·rcases c with c|c<;>omega
 ·exact hi
theorem jG.guard {l:List In}{b n R N:Nat}{x:In}(c:l[b]? =some x)(o:x.op=6\/x.op=7)(f:x.to=((b+1+n:Nat):Int))(hi:fT x b N R=0)(h:jG l (b+1) n R N):jG l b (n+1) R N:=by
 have d:hAt l (b+1)=hAt l b:=by rw[jN c,OC (by omega)];omega
 have k:b+(n+1)=b+1+n:=by omega
 refine⟨by rw[k,h.fin,d],fun j y g i a=> ?_,fun j y g i a m=> ?_,fun j y g i a=> ?_⟩<;>by_cases e:j=b
 ·subst e;rw[c]at a;cases ay a;rw[RI (by omega)];omega
 ·have:=h.tk j y (by omega) (by omega) a;rw[d]at this;exact this
 ·subst e;rw[c]at a;cases ay a;rw[f,di,h.fin,d]
 ·exact h.to j y (by omega) (by omega) a m
 ·subst e;rw[c]at a;cases ay a;exact hi
 ·exact h.ins j y (by omega) (by omega) a
theorem jG.shift {l:List In}{b n R N:Nat}{x:In}(h:jG l b n R N)(e:l[b+n]? =some x)(i:x.op=5)(hi:fT x (b+n) N R=0):jG l b (n+1) R N:=by
 refine⟨by rw[<-Nat.add_assoc,jN e,OC (by omega),h.fin];omega,fun j y c g a=> ?_,fun j y c g a d=> ?_,fun j y c g a=> ?_⟩<;>by_cases f:j=b+n
 ·subst f;rw[e]at a;cases ay a;rw[TD i,h.fin];omega
 ·exact h.tk j y c (by omega) a
 ·subst f;rw[e]at a;cases ay a;rcases d with d|d<;>omega
 ·exact h.to j y c (by omega) a d
 ·subst f;rw[e]at a;cases ay a;exact hi
 ·exact h.ins j y c (by omega) a
theorem jG.pair {l:List In}{b n m R N:Nat}{x:In}(h:jG l b n R N)(f:jG l (b+n) m R N)(g:l[b+n+m]? =some x)(k:x.op=2\/x.op=3\/x.op=4):jG l b (n+m+1) R N:=by
 have p:=h.fin;have q:=f.fin;refine⟨by rw[show b+(n+m+1)=b+n+m+1 by omega,jN g,S7 k];omega,fun j y d o a=> ?_,fun j y d o a e=> ?_,fun j y d o a=> ?_⟩<;>by_cases i:j=b+n+m
 ·subst i;rw[g]at a;cases ay a;rw[TE k];omega
 ·by_cases c:j<b+n
  ·exact h.tk j y d c a
  ·have:=f.tk j y (by omega) (by omega) a;omega
 ·subst i;rw[g]at a;cases ay a;rcases e with e|e<;>omega
 ·by_cases c:j<b+n
  ·exact h.to j y d c a e
  ·exact f.to j y (by omega) (by omega) a e
 ·subst i;rw[g]at a;cases ay a;exact PV k _ _ _
 ·by_cases c:j<b+n
  ·exact h.ins j y d c a
  ·exact f.ins j y (by omega) (by omega) a
theorem GC {k:Int}(h:k=6\/k=7\/k=8):opK k=2\/opK k=3\/opK k=4:=by
 unfold opK;rcases h with rfl|rfl|rfl<;>simp
theorem wm {e k:Ex}(a:k∈e.kids){x:List UInt8}(b:x∈nms k):x∈nms e:=by
 rw[mw,cZ];right;unfold jM;exact List.mem_flatten.2 ⟨nms k,dB.2 ⟨k,a,rfl⟩,b⟩
theorem wn {e:Ex}(h:e.kind=10):e.name∈nms e:=by rw[mw,ax h];simp
theorem Lb {num:List UInt8->Int}{R N:Nat}{l:List In}: ∀(M:Nat) (e:Ex),SizeOf.sizeOf e<=M->OKE e->(∀x∈nms e,0<=num x/\num x<R)-> ∀b,kE l b (bT num e b)->b+(bT num e b).length<=N->jG l b (bT num e b).length R N
 |0,e,s,_,_,_,_,_=>by cases e;simp at s
 |M+1,e,s,h,t,b,c,n=>by
  have p: ∀k∈e.kids,∀j,kE l j (bT num k j)->j+(bT num k j).length<=N->jG l j (bT num k j).length R N:=fun k d j=>Lb M k (by have:=fy d;omega) (h.kid d) (fun x v=>t x (wm d v)) j;have i:=h.kinds.2.2.2.1;cases hstd:stdE e with
  |true=>
   rw[pH hstd]at c⊢;exact jG.one c.one (.inl rfl) (SZ rfl (PU _) _ _ _)
  |false=>
   rcases oR h hstd with⟨q,k,d⟩|⟨q,k,d⟩|⟨q,k,d⟩|q|⟨q,k,m,d⟩
   ·have g:k∈e.kids:=(by rw[d];simp);have u:=(mB num _ k (aA _) (h.kid g) (b+1)).1;unfold rangeP at i;rw[aw (by omega),ax q]at i;have f:=dM i;rw[qh q (by rw[d];rfl)]at c n⊢;rw[bK]at n⊢;refine jG.guard c.one (.inl rfl) rfl (S3 rfl ⟨?_,?_⟩ ⟨f.1,?_⟩ _) (p k g (b+1) c.tail (by omega))
    ·show(b:Int)+2<=((b+1+_:Nat):Int);omega
    ·show((b+1+_:Nat):Int)<=_;omega
    ·show e.a<=127;omega
   ·have g:k∈e.kids:=(by rw[d];simp);have u:=(mB num _ k (aA _) (h.kid g) (b+1)).1;unfold rangeP at i;rw[aw (by omega),aw (by omega),ax q]at i;have f:=dM i;rw[oQ q (by rw[d];rfl)]at c n⊢;rw[bK]at n⊢;refine jG.guard c.one (.inr rfl) rfl (S4 rfl ⟨?_,?_⟩ f _) (p k g (b+1) c.tail (by omega))
    ·show(b:Int)+2<=((b+1+_:Nat):Int);omega
    ·show((b+1+_:Nat):Int)<=_;omega
   ·have g:k∈e.kids:=(by rw[d];simp);unfold rangeP at i;rw[aw (by omega),aw (by omega),aw (by omega),ax q]at i;have f:=dM i;rw[qL hstd q d]at c n⊢;rw[aN,eG]at n⊢;exact jG.shift (p k g b c.left (by omega)) c.right.one rfl (S1 rfl ⟨f.1,by show-1439<=e.a;omega,by show e.a<=1439;omega⟩ _ _ _)
   ·rw[qg q]at c⊢;exact jG.one c.one (.inr rfl) (S5 rfl (t _ (wn q)) _ _)
   ·have g:k∈e.kids:=(by rw[d];simp);have r:m∈e.kids:=(by rw[d];simp);rw[sA hstd q d]at c n⊢;rw[aN,aN,eG]at n⊢;have o:=c.right.one;rw[aN,<-Nat.add_assoc]at o;exact jG.pair (p k g b c.left.left (by omega)) (p m r _ c.left.right (by omega)) o (GC q)
theorem Lc {num:List UInt8->Int}{R:Nat}{e:Ex}(h:OKE e)(d: ∀x∈nms e,0<=num x/\num x<R):mI (bT num e 0)/\ ∀j x,(bT num e 0)[j]? =some x->fT x j (bT num e 0).length R=0:=by
 have f:kE (bT num e 0) 0 (bT num e 0):=fun j _=>by rw[bN]
 have q:=Lb (N:=(bT num e 0).length) (R:=R) _ e (aA _) h d 0 f (by omega)
 have lt: ∀{j:Nat} {x:In},(bT num e 0)[j]? =some x->j<0+(bT num e 0).length:=fun c=>by
  have:=(aE.1 c).1;omega
 refine⟨⟨fun j x a=> ?_,fun j x a b=>q.to j x (dU _) (lt a) a b,?_⟩,fun j x a=>q.ins j x (dU _) (lt a) a⟩
 ·have:=q.tk j x (dU _) (lt a) a;simpa[hAt] using this
 ·have:=q.fin;simpa[hAt] using this
theorem B0 {cs cs':List Cd}{l:List In}: ∀(j:Nat),(∀c x,c<j->l[c]? =some x->x.op=8->(cs.getD x.a.toNat cd0).high=(cs'.getD x.a.toNat cd0).high)->j<=l.length->mxH cs l j=mxH cs' l j
 |0,_,_=>rfl
 |j+1,h,g=>by
  have e:=B0 (cs:=cs) (cs':=cs') (l:=l) j (fun c x f=>h c x (by omega)) (by omega);have d:l[j]? =some l[j]:=az (by omega);rw[k6 d,k6 d,e];by_cases b:(l[j]).op=8
  ·rw[ax b,ax b,h j _ (by omega) d b]
  ·rw[aw b,aw b]
theorem B2 {cs cs':List Cd}{l:List In}: ∀(j:Nat),(∀c x,c<j->l[c]? =some x->x.op=8->(cs.getD x.a.toNat cd0).steps=(cs'.getD x.a.toNat cd0).steps)->j<=l.length->stS cs l j=stS cs' l j
 |0,_,_=>rfl
 |j+1,h,g=>by
  have e:=B2 (cs:=cs) (cs':=cs') (l:=l) j (fun c x f=>h c x (by omega)) (by omega);have d:l[j]? =some l[j]:=az (by omega);rw[kh d,kh d,e];by_cases b:(l[j]).op=8
  ·rw[ax b,ax b,h j _ (by omega) d b]
  ·rw[aw b,aw b]
def eV (C:List (List In))(m:Nat->Int×Int):List Cd:=(List.range C.length).map fun k=>⟨C.getD k [],(m k).1,(m k).2⟩
theorem vu (C:List (List In))(m:Nat->Int×Int):(eV C m).length=C.length:=by simp[eV]
theorem nP {C:List (List In)}{m:Nat->Int×Int}{k:Nat}(h:k<C.length):(eV C m).getD k cd0=⟨C.getD k [],(m k).1,(m k).2⟩:=by
 have:(eV C m)[k]? =some ⟨C.getD k [],(m k).1,(m k).2⟩:=by
  unfold eV;rw[bf,List.getElem?_range h];rfl
 simp[List.getD,this]
def mR (C:List (List In))(m:Nat->Int×Int)(i:Nat):Int×Int:=(min (mxH (eV C m) (C.getD i []) (C.getD i []).length) 101,min (stS (eV C m) (C.getD i []) (C.getD i []).length) 20001)
def oS (C:List (List In)):Nat->Nat->Int×Int
 |0,_=>(0,0)
 |f+1,i=>mR C (oS C f) i
structure tw (C:List (List In))(ρ:Nat->Nat):Prop where
 lt: ∀(i j:Nat) (x:In),i<C.length->(C.getD i [])[j]? =some x->x.op=8->0<=x.a/\x.a.toNat<C.length/\ρ x.a.toNat<ρ i
theorem zS {C:List (List In)}{ρ:Nat->Nat}(h:tw C ρ){m f:Nat->Int×Int}{i:Nat}(hi:i<C.length)(n: ∀k,k<C.length->ρ k<ρ i->m k=f k):mR C m i=mR C f i:=by
 have e: ∀b x,b<(C.getD i []).length->(C.getD i [])[b]? =some x->x.op=8->(eV C m).getD x.a.toNat cd0=(eV C f).getD x.a.toNat cd0:=fun b x _ p o=>by
  obtain⟨_,c,d⟩:=h.lt i b x hi p o;rw[nP c,nP c,n _ c d]
 have j:mxH (eV C m) (C.getD i []) (C.getD i []).length=mxH (eV C f) (C.getD i []) (C.getD i []).length:=B0 _ (fun b x g c d=>by rw[e b x g c d]) (aA _);have l:stS (eV C m) (C.getD i []) (C.getD i []).length=stS (eV C f) (C.getD i []) (C.getD i []).length:=B2 _ (fun b x g c d=>by rw[e b x g c d]) (aA _);unfold mR;rw[j,l]
theorem B3 {C:List (List In)}{ρ:Nat->Nat}(h:tw C ρ): ∀(f a i:Nat),i<C.length->ρ i<f->ρ i<a->oS C f i=oS C a i
 |0,_,_,_,b,_=>by omega
 |_+1,0,_,_,_,c=>by omega
 |f+1,a+1,i,hi,b,c=>by
  unfold oS;exact zS h hi fun k d e=>B3 h f a k d (by omega) (by omega)
theorem PW {C:List (List In)}{ρ:Nat->Nat}(h:tw C ρ){N:Nat}(a: ∀i,i<C.length->ρ i<=N){i:Nat}(hi:i<C.length):oS C (N+1) i=mR C (oS C (N+1)) i:=by
 conv=>lhs;unfold oS
 have c:=a i hi;exact zS h hi fun k b d=>B3 h N (N+1) k b (by omega) (by have:=a k b;omega)
theorem zl (x:In): -1<=eff x/\eff x<=1:=by
 unfold eff;split
 ·omega
 ·split<;>omega
theorem oH (l:List In): ∀j:Nat,-(j:Int)<=hAt l j/\hAt l j<=(j:Int)
 |0=>by simp[hAt]
 |j+1=>by
  have a:=oH l j;have e:=zl (l.getD j in0);simp only[hAt];omega
structure sB (cs:List Cd):Prop where
 hi: ∀k,0<=(cs.getD k cd0).high/\(cs.getD k cd0).high<=101
 st: ∀k,0<=(cs.getD k cd0).steps/\(cs.getD k cd0).steps<=20001
theorem ti {b:List Cd}(h:sB b)(l:List In): ∀j:Nat,0<=mxH b l j/\mxH b l j<=(j:Int)+101
 |0=>by simp[mxH]
 |j+1=>by
  have d:=ti h l j;have e:=oH l j;have c:=oH l (j+1);have q:=h.hi (l.getD j in0).a.toNat;simp only[mxH];split<;>omega
theorem tj {b:List Cd}(h:sB b)(l:List In): ∀j:Nat,(j:Int)<=stS b l j/\stS b l j<=(j:Int)*20002
 |0=>by simp[stS]
 |j+1=>by
  have c:=tj h l j;have q:=h.st (l.getD j in0).a.toNat;simp only[stS];split<;>omega
theorem xo {C:List (List In)}{m:Nat->Int×Int}(h: ∀k,k<C.length->(0<=(m k).1/\(m k).1<=101)/\(0<=(m k).2/\(m k).2<=20001)):sB (eV C m):=by
 constructor<;>intro k<;>by_cases a:k<C.length
 ·rw[nP a];exact(h k a).1
 ·have:(eV C m).getD k cd0=cd0:=by
   have:(eV C m)[k]? =none:=fc (by rw[vu];omega);simp[List.getD,this]
  rw[this];simp[cd0]
 ·rw[nP a];exact(h k a).2
 ·have:(eV C m).getD k cd0=cd0:=by
   have:(eV C m)[k]? =none:=fc (by rw[vu];omega);simp[List.getD,this]
  rw[this];simp[cd0]
theorem GD {C:List (List In)}{m:Nat->Int×Int}(h:sB (eV C m))(i:Nat):(0<=(mR C m i).1/\(mR C m i).1<=101)/\(0<=(mR C m i).2/\(mR C m i).2<=20001)/\(1<=(C.getD i []).length->1<=(mR C m i).2):=by
 have a:=ti h (C.getD i []) (C.getD i []).length;have b:=tj h (C.getD i []) (C.getD i []).length;refine⟨⟨?_,?_⟩,⟨?_,?_⟩,fun c=> ?_⟩<;>simp only[mR]<;>omega
theorem GF (C:List (List In)): ∀(f i:Nat),(0<=(oS C f i).1/\(oS C f i).1<=101)/\(0<=(oS C f i).2/\(oS C f i).2<=20001)
 |0,i=>by simp[oS]
 |f+1,i=>by
  have h:=GD (C:=C) (xo (C:=C) fun k _=>GF C f k) i;exact⟨h.1,h.2.1⟩
theorem IJ (C:List (List In))(f:Nat):sB (eV C (oS C f)):=xo fun k _=>GF C f k
section
variable {B:Nat->Prop}
def wo (e:Ex)(w:World)(r:Ending)(a:World):Prop:=r= .returned (.bool (stdE e))/\ao w a
def S8 (w:World)(sl:Value)(d:List Ex):Prop:=
 ∃g o c:Nat,sl= .slice (some (ae g o)) d.length c/\d.length<9223372036854775808/\ ∀(j:Nat) (k:Ex),d[j]? =some k-> ∃(p:Option Addr) (q:Nat),
  w.cell? (ae g (o+j*5))=some (ag k.kind)/\w.cell? (ae g (o+j*5+1))=some (ag k.a)/\w.cell? (ae g (o+j*5+2))=some (ag k.b)/\
  w.cell? (ae g (o+j*5+3))=some (.string ⟨k.name.toArray⟩)/\w.cell? (ae g (o+j*5+4))=some (.slice p k.kids.length q)/\
  ∀W:World,ao w W->Calls prog 50 #[.agg #[ag k.kind,ag k.a,ag k.b,.string ⟨k.name.toArray⟩,.slice p k.kids.length q]] W (wo k W)
theorem NB {a:List Ex}{j:Nat}{k:Ex}(h:a[j]? =some k):(a.drop j).all stdE=(stdE k&&(a.drop (j+1)).all stdE):=by
 obtain⟨b,c⟩:=aE.1 h;rw[bG b,c];rfl
theorem sS (e:Ex)(p:Option Addr)(c:Nat)(w:World)(J:e.kids=[]\/S8 w (.slice p e.kids.length c) e.kids)(Z:e.kids.length<9223372036854775808):
  Calls prog 50 #[.agg #[ag e.kind,ag e.a,ag e.b,.string ⟨e.name.toArray⟩,.slice p e.kids.length c]] w (wo e w):=by
 have i:=am w (.cells #[ag e.kind,ag e.a,ag e.b,.string ⟨e.name.toArray⟩,.slice p e.kids.length c] 78);have A:=aB w (.cells #[ag e.kind,ag e.a,ag e.b,.string ⟨e.name.toArray⟩,.slice p e.kids.length c] 78);generalize N:w.alloc (.cells #[ag e.kind,ag e.a,ag e.b,.string ⟨e.name.toArray⟩,.slice p e.kids.length c] 78)=wA at*;have z0:=ak 0 A;have z4:=ak 4 A;generalize L:stdE e=X;have m:T4 (stdE e=X):=L;unfold wo;rw[L];clear L;by_cases q:e.kind=4
 ·have l:T4 (X=false):=by
   show _=_;rw[<-m.o];cases hs:stdE e with
   |false=>rfl
   |true=>exact absurd q (lH hs).1
  have W:(e.kind==4)=true:=(by simp[q]);clear J m q;go_enter func50,ntmps50;go_wp2_with fail;go_ret;rw[l.o];exact⟨rfl,i⟩
 have W:(e.kind==4)=false:=by simpa using q
 by_cases B:e.kind=5
 ·have l:T4 (X=false):=by
   show _=_;rw[<-m.o];cases hs:stdE e with
   |false=>rfl
   |true=>exact absurd B (lH hs).2.1
  have Y:(e.kind==5)=true:=(by simp[B]);clear J m q B;go_enter func50,ntmps50;go_wp2_with fail;go_ret;rw[l.o];exact⟨rfl,i⟩
 have Y:(e.kind==5)=false:=by simpa using B
 by_cases d:e.kind=10
 ·have l:T4 (X=false):=by
   show _=_;rw[<-m.o];cases hs:stdE e with
   |false=>rfl
   |true=>exact absurd d (lH hs).2.2
  have C:(e.kind==10)=true:=(by simp[d]);clear J m q B d;go_enter func50,ntmps50;go_wp2_with fail;go_ret;rw[l.o];exact⟨rfl,i⟩
 have C:(e.kind==10)=false:=by simpa using d
 have Q:T4 ((e.kids.drop 0).all stdE=X):=by
  show _=_;rw[<-m.o,tu,List.drop_zero];simp[q,B,d]
 clear m q B d;go_enter func50,ntmps50;go_wp2_with fail;go_loopw [4,14] (fun _ t wr=> ∃j:Nat,t=ag (j:Int)/\j<=e.kids.length/\(e.kids.drop j).all stdE=X/\ao w wr) (fun _ t _=>e.kids.length-(intOf t).toNat);case atStart=>exact⟨0,rfl,by omega,Q.o,i⟩
 case round=>
  obtain⟨j,rfl,hj,f,u⟩:=hrel;clear Q z0 z4 A i N W Y C;have aa:(0:Int)<=(j:Int):=(by omega);by_cases z:j<e.kids.length
  ·have G:(j:Int)<(e.kids.length:Int):=(by omega);obtain⟨k,x⟩: ∃k,e.kids[j]? =some k:=⟨e.kids[j],az z⟩
   rw[NB x]at f;have F:e.kids≠[]:=fun h=>(by rw[h]at z;simp at z);obtain⟨g,o,c',M,_,n⟩:=J.resolve_left F;obtain⟨P,K,R,S,T,U,V,I⟩:=n j k x;have f0:=aj u R;have f1:=aj u S;have f2:=aj u T;have f3:=aj u U;have f4:=aj u V;have E:=am wr (.cells #[ag k.kind,ag k.a,ag k.b,.string ⟨k.name.toArray⟩,.slice P k.kids.length K] 78);have H:=aB wr (.cells #[ag k.kind,ag k.a,ag k.b,.string ⟨k.name.toArray⟩,.slice P k.kids.length K] 78);have v:=au u E;have cR:=I _ v;injection M with e1 e2 e3;subst e1;subst e3;clear R S T U V I n F x E;have s:T4 ((stdE k&&(e.kids.drop (j+1)).all stdE)=X):=f;unfold wo at cR;clear f;generalize stdE k=y at*;generalize O:wr.alloc (.cells #[ag k.kind,ag k.a,ag k.b,.string ⟨k.name.toArray⟩,.slice P k.kids.length K] 78)=wB at*;go_wp2_with(refine aO rfl 78 _ rfl _ rfl _ _ _ _ H d9 rfl (by kernel_rfl) ?_)
   refine cR.mono ?_;rintro r w3 ⟨rfl,b3⟩;have D:=au v b3;clear cR H O f0 f1 f2 f3 f4 b3 v;cases y with
   |false=>
    have l:T4 (X=false):=(by show _=_;rw[<-s.o];rfl);clear s;go_wp2_with fail;go_ret;rw[l.o];exact⟨rfl,D⟩
   |true=>
    go_wp2_with fail;go_roundw;case rel=>exact⟨j+1,by go_num,by omega,by rw[<-s.o];rfl,D⟩
    case measure=>simp[intOf];omega
  ·have G: ¬(j:Int)<(e.kids.length:Int):=(by omega);have l:T4 (X=true):=(by show _=_;rw[<-f,List.drop_eq_nil_of_le (by omega)];rfl);clear f;go_wp2_with fail;go_ret;rw[l.o];exact⟨rfl,u⟩
theorem IL: ∀(d:Nat) (e:Ex) (sl:Value) (w:World),fV B d w sl e.kids->Calls prog 50 #[exV e sl] w (wo e w):=by
 intro d;induction d with
 |zero=>
  intro e sl w a;obtain⟨p,c,rfl⟩:=a.form;exact sS e p c w (.inl a.1) (by rw[a.1];decide)
 |succ d z=>
  intro e sl w a;obtain⟨p,c,i⟩:=a.form;subst i;rcases a with⟨h,_⟩|⟨g,o,m,D,y,l,b⟩
  ·exact sS e p c w (.inl h) (by rw[h];decide)
  ·refine sS e p c w (.inr ⟨g,o,m,y,l,fun j k v=> ?_⟩) l;obtain⟨x,E,c0,c1,n,q,s,r⟩:=b j k v;obtain⟨A,C,rfl⟩:=r.form;exact⟨A,C,c0,c1,n,q,s,fun W u=>z k _ W (r.kept fun t _ f=>u.block t f)⟩
end
theorem GH: ∀(N:Nat) (e:Ex),SizeOf.sizeOf e<=N->stdE e=true->nms e=[]
 |0,e,a,_=>by cases e;simp at a
 |N+1,e,a,h=>by
  rw[mw,aw (lH h).2.2,List.nil_append];unfold jM;rw[List.flatten_eq_nil_iff];intro x c;obtain⟨k,b,rfl⟩:=dB.1 c;exact GH N k (by have:=fy b;omega) (D6 h b)
theorem zU: ∀(N:Nat) (e:Ex) (a n b l:Nat),SizeOf.sizeOf e<=N->b<=a->l<=n->(shapeP e a n).1=0->(shapeP e b l).1=0
 |0,e,_,_,_,_,t,_,_,_=>by cases e;simp at t
 |N+1,e,a,n,b,l,t,B,C,h=>by
  have A:=h;rw[jd]at h⊢;by_cases s:600<n+1\/40<a
  ·rw[ax s]at h;cases h
  ·rw[aw s]at h;rw[aw (by omega)];by_cases o:aloneP e≠0
   ·rw[ax o]at h;exact absurd h o
   ·rw[aw o]at h⊢
    have r: ∀(g:List Ex) (m c:Nat),(∀k∈g,SizeOf.sizeOf k<=N)->c<=m->(gF g (a+1) (0,m)).1=0->(gF g (b+1) (0,c)).1=0:=by
     intro g;induction g with
     |nil=>intro m c _ _ _;rfl
     |cons k g y=>
      intro m c i x f;rw[gT]at f⊢;rw[aw (by simp)]at f⊢
      have d:(shapeP k (a+1) m).1=0:=by
       by_cases q:(shapeP k (a+1) m).1=0
       ·exact q
       ·rw[jX q]at f;exact absurd f q
      have j:=zU N k (a+1) m (b+1) c (i k aV) (by omega) x d;obtain⟨u,_⟩:=qi _ k (a+1) m (aA _) d;obtain⟨v,_⟩:=qi _ k (b+1) c (aA _) j;rw[show shapeP k (a+1) m=(0,m+jf k) from Prod.ext d u]at f;rw[show shapeP k (b+1) c=(0,c+jf k) from Prod.ext j v];exact y _ _ (fun z p=>i z (bj _ p)) (by omega) f
    exact r e.kids (n+1) (l+1) (fun k w=>by have:=fy w;omega) (by omega) h
def Rt (e:Ex):Prop:=(shapeP e 1 0).1=0
theorem Rt.ok {e:Ex}(h:Rt e):OKE e:=⟨1,0,h⟩
theorem Rt.kid {e k:Ex}(h:Rt e)(a:k∈e.kids):Rt k:=by
 unfold Rt at h;rw[jd,aw (by omega)]at h;by_cases g:aloneP e≠0
 ·rw[ax g]at h;exact absurd h g
 ·rw[aw g]at h
  have j: ∀(f:List Ex) (m:Nat),(gF f 2 (0,m)).1=0-> ∀k∈f,Rt k:=by
   intro f;induction f with
   |nil=>intro m _ k a;cases a
   |cons d f n=>
    intro m c k a;rw[gT,aw (by simp)]at c
    have b:(shapeP d 2 m).1=0:=by
     by_cases i:(shapeP d 2 m).1=0
     ·exact i
     ·rw[jX i]at c;exact absurd c i
    rcases bv.1 a with rfl|a
    ·exact zU _ k 2 m 1 0 (aA _) (by omega) (dU _) b
    ·obtain⟨l,_⟩:=qi _ d 2 m (aA _) b;rw[show shapeP d 2 m=(0,m+jf d) from Prod.ext b l]at c;exact n _ c k a
  exact j e.kids 1 h k a
theorem Rt.nod {e:Ex}(h:Rt e):jf e<=600:=by
 have:=(qi _ e 1 0 (aA _) h).2;omega
theorem PX {e:Ex}(h:Rt e)(j:stdE e=true):dm [([97],e)]=(0,0):=by
 have f:nms e=[]:=GH _ e (aA _) j
 have b:gj [([97],e)] ([97],e)=[]:=by
  unfold gj;rw[show nms (([97],e):Ru).2=[] from f];rfl
 have hi: ∀{i:Nat},i<[(([97],e):Ru)].length->i=0:=fun hi=>by simp at hi;exact hi
 refine If ?_ (fun c a=> ?_) (fun c a=> ?_) (fun c a=> ?_)
 ·unfold dQ7;rw[aw (by simp)]
  have g:ruleP ([97],e)=0:=by
   unfold ruleP;rw[aw (show¬Go.Proofs.YtpdoienkhgnceaaGreatDoor.namedL [97]=false by decide)];exact h
  unfold iA;rw[aw (by simpa using g)];rfl
 ·rw[hi a];simp[lk1,atP5,atF]
 ·rw[hi a];show decide (-1∈gj _ _)=false;rw[b];rfl
 ·rw[hi a]
  have d:iP [([97],e)] 0=[]:=by
   unfold iP;show qd (gj _ _)=[]
   rw[b];rfl
  unfold lk3;rw[show [(([97],e):Ru)].length+1=1+1 from rfl,fol,d];rfl
theorem NC {e:Ex}(h:Rt e)(c:stdE e=true):md [([97],e)] 0=(0,0)/\lS [([97],e)] 0=[mnE e]:=by
 have a:=PX h c
 have b:md [([97],e)] 0=(0,0):=by
  unfold md;rw[a,aw (by simp),aw (by omega)]
 refine⟨b,?_⟩;unfold lS;rw[b,ax rfl];show [gL _ _ _ 0]=_;rw[pG (by rw[a]) (show [(([97],e):Ru)][0]? =some ([97],e) from rfl)];rw[D7 (show stdE (([97],e):Ru).2=true from c)]
theorem PY {w:World}{g:Nat}{e:Ex}{sl:Value}{d:Nat}(h:w.heap[g]? =ah #[.string ⟨#[97]⟩,ag e.kind,ag e.a,ag e.b,.string ⟨e.name.toArray⟩,sl] 80)(l:e.name.length<=9223372036854775807)(i:fV (fun k=>k<w.heap.size) d w sl e.kids):InR w (.slice (some (ae g 0)) 1 1) [(([97],e),sl)]:=by
 refine⟨.inr ⟨g,0,1,rfl,by simp,fun j p c=> ?_⟩,by simp,fun p f=> ?_⟩
 ·match j,c with
  |0,c=>
   cases ay c;exact⟨ak 0 h,ak 1 h,ak 2 h,ak 3 h,ak 4 h,ak 5 h⟩
  |j+1,c=>simp at c
 ·rw[bJ]at f;subst f;exact⟨by simp,l,d,i⟩
theorem Fw (d:Nat)(e:Ex)(sl:Value)(w:World)(hr:Rt e)(hs:stdE e=true)(hn:e.name.length<=9223372036854775807)(P:fV (fun k=>k<w.heap.size) d w sl e.kids):
  Calls prog 53 #[exV e sl] w fun r w'=>r= .returned (.agg (mv (mnE e)))/\ao w w':=by
 obtain⟨p,c,T⟩:=P.form;subst T;unfold exV;have hz:=ea;have G:=am w (.cells #[ag e.kind,ag e.a,ag e.b,.string ⟨e.name.toArray⟩,.slice p e.kids.length c] 78);have nA:=aB w (.cells #[ag e.kind,ag e.a,ag e.b,.string ⟨e.name.toArray⟩,.slice p e.kids.length c] 78);generalize ab:w.alloc (.cells #[ag e.kind,ag e.a,ag e.b,.string ⟨e.name.toArray⟩,.slice p e.kids.length c] 78)=I at*;have J:=am I (.cells (mv fun _=>false) 39);have nB:=aB I (.cells (mv fun _=>false) 39);have X:=ai J nA;obtain⟨gB,x⟩:=aq I.heap.size;generalize ac:I.alloc (.cells (mv fun _=>false) 39)=wB at*;rw[x]at nB;have K:=am wB (.cells #[.string ⟨#[97]⟩,ag e.kind,ag e.a,ag e.b,.string ⟨e.name.toArray⟩,.slice p e.kids.length c] 80);have nC:=aB wB (.cells #[.string ⟨#[97]⟩,ag e.kind,ag e.a,ag e.b,.string ⟨e.name.toArray⟩,.slice p e.kids.length c] 80);generalize ad:wB.alloc (.cells #[.string ⟨#[97]⟩,ag e.kind,ag e.a,ag e.b,.string ⟨e.name.toArray⟩,.slice p e.kids.length c] 80)=wC at*;have f:ao w wC:=G.trans ((au J K).mono G.size);have E:=ai K nB;have z:w.heap.size<=gB:=by rw[<-x];exact G.size
 have y:=PY (d:=d) nC hn ((P.kept fun g _ hl=>f.block g hl).mono fun g hg=>aT hg f.size);have q:=D5 _ _ 0 wC y;obtain⟨e1,e2⟩:=NC hr hs;unfold wl at q;simp only[cQ,fu]at q;rw[e1,e2]at q;clear y P e1 e2 G J K nA nC;go_enter func53,ntmps53
 go_wp2_with(first
  |(refine aO rfl 78 _ rfl _ rfl _ _ _ _ X d9 rfl (by kernel_rfl) ?_))
 refine q.mono ?_;rintro r o ⟨v3,rfl,C,b3⟩;obtain⟨p3,c3,U,aa,B⟩:=C;subst U;obtain⟨M,Z,R,i⟩:=B 0 (mnE e) rfl;subst R;have m:=au f b3;have n:=ai b3 E;simp only[Nat.zero_mul,Nat.add_zero]at i;have Q:[mnE e].length=1:=rfl;rw[Q];generalize D:((0:Nat):Int)=iz;have W:iz=0:=D.symm.trans rfl;subst W;clear D;have L:=am o (.cells #[ag 0,ag 0] 26);have nD:=aB o (.cells #[ag 0,ag 0] 26);have F:=ai L n;have A:(o.alloc (.cells #[ag 0,ag 0] 26)).rangeAt M Z (mv (mnE e)).toList:=World.rangeAt_alloc i _;have t:=au m L;generalize ae:o.alloc (.cells #[ag 0,ag 0] 26)=wD at*;have H:=below_setRow (aF o.heap.size wD) (aA _) #[ag 0,ag 0];have O:=aH n;have l:=(H.block _ O).trans F;have S:(wD.setRow o.heap.size #[ag 0,ag 0]).rangeAt M Z (mv (mnE e)).toList:=fun j u hj=>(H.cell (aU (i j u hj))).trans (A j u hj);have s:=t.trans (H.mono (bh m.size (aA _)));generalize V:wD.setRow o.heap.size #[ag 0,ag 0]=wE at*;have Y:=aK _ _ _ (mv (mnE e)) _ _ l;have N:=below_setRow s z (mv (mnE e));clear q m t f b3 L E n i B H A F s
 go_wp2_with(first
  |(refine aC rfl 26 _ _ rfl _ _ rfl rfl _ _ nD (by kernel_rfl) (by simp) (by simp[Value.oneCell']) ?_;rw[V])
  |(refine uX rfl _ rfl M Z rfl (mnE e) S ?_)
  |(refine aC rfl 39 _ _ rfl _ _ rfl rfl _ _ l (bg _) (by simp[bU]) (dI _) ?_))
 refine aX (v:= .agg (mv (mnE e))) ?_ rfl ⟨rfl,N⟩;exact bn rfl _ _ gB _ _ _ _ rfl Y cj rfl (bg _)
def iu (w:World)(v:Value)(l:List (Int×Int)):Prop:=(l=[]/\ ∃p c,v= .slice p 0 c)\/ ∃(g c:Nat) (a:Array Value),v= .slice (some (ae g 0)) l.length c/\l.length<9223372036854775808/\w.heap[g]? =ah a 171/\a.toList.take (l.length*2)=iZ l
theorem iu.nil (w:World)(p:Option Addr)(c:Nat):iu w (.slice p 0 c) []:= .inl ⟨rfl,p,c,rfl⟩
theorem iu.form {w:World}{v:Value}{l:List (Int×Int)}(h:iu w v l): ∃p n c,v= .slice p n c:=by
 rcases h with⟨_,p,c,e⟩|⟨g,c,a,e,_⟩
 ·exact⟨p,0,c,e⟩
 ·exact⟨_,_,c,e⟩
theorem iu.of_own {w:World}{a:Nat}{v:Value}{l:List (Int×Int)}(h:w.ownsRow a 171 2 v l.length (iZ l)):iu w v l:=by
 rcases h.2 with⟨e,c⟩|⟨g,cap,b,e,j,f,k,d,m,i⟩
 ·exact .inl ⟨fX c,none,0,by rw[e]⟩
 ·exact .inr ⟨g,cap,b,e,by unfold maxLen at d;omega,f,i⟩
def Fr (gm:Nat)(w a:World):Prop:= ∀(q:Nat) (c:Array Value) (T:TypeId),w.heap[q]? =ah c T->T≠140->q≠gm->a.heap[q]? =ah c T
theorem Fr.trans {gm:Nat}{w e b:World}(h:Fr gm w e)(f:Fr gm e b):Fr gm w b:=fun q c T g d a=>f q c T (h q c T g d a) d a
theorem Fr.below {gm:Nat}{w a:World}(b:ao w a):Fr gm w a:=fun _ _ _ c _ _=>ai b c
theorem iu.fr {gm:Nat}{w d:World}{v:Value}{l:List (Int×Int)}(h:iu w v l){f:Array Value}(k:w.heap[gm]? =ah f 90)(j:Fr gm w d):iu d v l:=by
 rcases h with h|⟨g,c,b,e,m,a,n⟩
 ·exact .inl h
 ·refine .inr ⟨g,c,b,e,m,j g _ _ a (by decide) (fun q=> ?_),n⟩;subst q;rw[k]at a;injection a with a;injection a with _ i _;exact absurd i (by decide)
theorem iu.below {w b:World}{v:Value}{l:List (Int×Int)}(h:iu w v l)(d:ao w b):iu b v l:=by
 rcases h with h|⟨g,c,a,e,i,f,j⟩
 ·exact .inl h
 ·exact .inr ⟨g,c,a,e,i,ai d f,j⟩
structure WOk (w0:World)(gm:Nat)(mp:Value)(S:List (In×Value))(W:World):Prop where
 st:WsC w0 gm mp S W
 sp: ∀u∈S,iu W u.2 u.1.sp
theorem WOk.below {d W a:World}{gm:Nat}{c:Value}{S:List (In×Value)}(h:WOk d gm c S W)(b:ao W a):WOk d gm c S a:=
 ⟨h.st.below b,fun u e=>(h.sp u e).below b⟩
def oT (e:World)(gm:Nat)(d:Value)(S:List (In×Value))(c:List In)(W:World)(r:Ending)(b:World):Prop:=r= .returned (.tuple #[])/\ ∃a,a.map (fun u=>u.1)=c/\WOk e gm d (S++a) b/\Fr2 gm W b
theorem Fr2.fr {k W d:World}{gm:Nat}{j:Value}{S:List (In×Value)}(h:WsC k gm j S W)(g:Fr2 gm W d):Fr gm W d:=fun q c T b f a=>by
 obtain⟨_,_,sv,i,own⟩:=h;refine(g.blk q (aH b) a ?_).trans b;rw[pJ i];exact fun e=>lm own b f e.symm
theorem ws {g W:World}{gm:Nat}{f:Value}{S:List (In×Value)}(h:WOk g gm f S W)(x:In)(v:Value)(k:iu W v x.sp)(n:S.length<=1000):
  Calls prog 51 #[ab gm 0,.agg #[ag x.op,ag x.a,ag x.b,ag x.to,v]] W fun e d=>e= .returned (.tuple #[])/\WOk g gm f (S++[(x,v)]) d/\Fr2 gm W d:=by
 obtain⟨_,_,sv,j,_⟩:=id h.st;refine(Nz g gm f S (x,v) W h.st n k.form).mono fun e d ⟨o,l,i,m⟩=>⟨o,⟨l,fun u c=> ?_⟩,m⟩
 rcases cZ.1 c with c|c
 ·exact(h.sp u c).fr j i
 ·rw[bJ]at c;subst c;exact k.fr j i
def IM (b:World)(gm:Nat)(a:Value)(l:List Ru)(k:Ex)(c:Value):Prop:= ∀(S:List (In×Value)) (W:World),WOk b gm a S W->S.length+jf k<=700->Calls prog 24 #[ab gm 0,exV k c] W (oT b gm a S (bT (atP5 l) k S.length) W)
theorem rP (S a:List (In×Value)):ju (S++a)=ju S++ju a:=by unfold ju;rw[fC]
theorem B4 (S a:List (In×Value))(x:In)(v:Value)(t:Int):(ju (S++((x,v)::a))).set (S.length*5+3) (ag t)=ju (S++(({x with to:=t},v)::a)):=by
 rw[rP,rP,List.set_append_right _ _ (by rw[qj];omega),qj,Nat.add_sub_cancel_left];rfl
theorem RL {W:World}{a g n c:Nat}{S f:List (In×Value)}{x:In}{v:Value}(t:Int)(h:W.ownsRow a 140 5 (.slice (some (ae g 0)) n c) n (ju (S++((x,v)::f)))):(W.setCell ⟨g,S.length*5+3,none⟩ (ag t)).ownsRow a 140 5 (.slice (some (ae g 0)) n c) n (ju (S++(({x with to:=t},v)::f))):=by
 obtain⟨j,k⟩:=h;rcases k with⟨e,_⟩|⟨s,cap,d,e,l,o,p,m,q,r⟩
 ·cases e
 ·injection e with b _ i;injection b with b;injection b with b _ _;subst b i;refine⟨by rw[<-B4,jD];exact j,.inr ⟨g,c,d.setIfInBounds (S.length*5+3) (ag t),rfl,l,aY W g _ _ _ _ o,p,m,by rw[ig];exact q,?_⟩⟩;rw[Array.toList_setIfInBounds,List.take_set,r,B4]
theorem WOk.lt {c W:World}{gm:Nat}{b:Value}{S:List (In×Value)}(h:WOk c gm b S W):gm<W.heap.size:=by
 obtain⟨_,_,sv,a,_⟩:=h.st;exact aH a
section
def upI (f:Nat->Int)(i:Nat)(v:Int):Nat->Int:=fun k=>if k=i then v else f k
theorem i8 (f:Nat->Int)(i:Nat)(v:Int):upI f i v i=v:=by unfold upI;rw[ax rfl]
theorem zV (f:Nat->Int){i k:Nat}(v:Int)(h:k≠i):upI f i v k=f k:=by unfold upI;rw[aw h]
def fE (go n:Nat)(sv:Nat->Value)(H T:Nat->Int)(w:World):Prop:= ∃a:Array Value,w.heap[go]? =ah a 93/\a.size=n*3/\ ∀i,i<n->a[i*3]? =some (sv i)/\a[i*3+1]? =some (ag (H i))/\a[i*3+2]? =some (ag (T i))
section
variable {go n:Nat} {sv:Nat->Value} {H T:Nat->Int} {w w':World}
theorem fE.cells (h:fE go n sv H T w){i:Nat}(hi:i<n):w.cell? (ae go (i*3))=some (sv i)/\w.cell? (ae go (i*3+1))=some (ag (H i))/\w.cell? (ae go (i*3+2))=some (ag (T i))/\w.frozen? (ae go (i*3+1))=false/\w.frozen? (ae go (i*3+2))=false:=by
 obtain⟨c,a,_,d⟩:=h;obtain⟨c0,c1,b⟩:=d i hi;exact⟨(aW _ _ _ _ _ _ a).trans c0,(aW _ _ _ _ _ _ a).trans c1,(aW _ _ _ _ _ _ a).trans b,bu _ _ _ _ _ a,bu _ _ _ _ _ a⟩
theorem fE.lt (h:fE go n sv H T w):go<w.heap.size:=by
 obtain⟨a,b,_⟩:=h;exact aH b
theorem fE.same (h:fE go n sv H T w)(e:w'.heap[go]? =w.heap[go]?):fE go n sv H T w':=by
 obtain⟨a,b,r⟩:=h;exact⟨a,e.trans b,r⟩
theorem fE.below (h:fE go n sv H T w)(a:ao w w'):fE go n sv H T w':=h.same (a.block _ h.lt)
theorem fE.setH (h:fE go n sv H T w){i:Nat}(v:Int)(hi:i<n):fE go n sv (upI H i v) T (w.setCell ⟨go,i*3+1,none⟩ (ag v)):=by
 obtain⟨b,d,g,c⟩:=h;refine⟨_,aY w go (i*3+1) _ _ _ d,by rw[ig];exact g,fun k f=> ?_⟩;obtain⟨c0,c1,a⟩:=c k f;refine⟨?_,?_,?_⟩
 ·rw[dj (by omega)];exact c0
 ·by_cases e:k=i
  ·subst e;rw[i8,gO (by omega)]
  ·rw[zV _ _ e,dj (by omega)];exact c1
 ·rw[dj (by omega)];exact a
theorem fE.setT (h:fE go n sv H T w){i:Nat}(v:Int)(hi:i<n):fE go n sv H (upI T i v) (w.setCell ⟨go,i*3+2,none⟩ (ag v)):=by
 obtain⟨b,d,g,c⟩:=h;refine⟨_,aY w go (i*3+2) _ _ _ d,by rw[ig];exact g,fun k f=> ?_⟩;obtain⟨c0,c1,a⟩:=c k f;refine⟨?_,?_,?_⟩
 ·rw[dj (by omega)];exact c0
 ·rw[dj (by omega)];exact c1
 ·by_cases e:k=i
  ·subst e;rw[i8,gO (by omega)]
  ·rw[zV _ _ e,dj (by omega)];exact a
end
theorem jp (w:World)(g i:Nat)(v:Value):bp g w (w.setCell ⟨g,i,none⟩ v):=bp.set w g i v
def kj (w:World)(v:Value)(S:List (In×Value)):Prop:=w.ownsRow 0 140 5 v S.length (ju S)
theorem kj.below {w w':World}{v:Value}{S:List (In×Value)}(h:kj w v S)(a:ao w w'):kj w' v S:=iG h a
theorem kj.kept {w w':World}{v:Value}{S:List (In×Value)}{go n:Nat}{sv:Nat->Value}{H T:Nat->Int}(h:kj w v S)(d:fE go n sv H T w)(c:bp go w w'):kj w' v S:=by
 obtain⟨a,b,_⟩:=d;exact World.ownsRow.kept h c (.inr fun e=>lm h b (by decide) e.symm)
theorem kj.form {w:World}{v:Value}{S:List (In×Value)}(h:kj w v S)(r:1<=S.length): ∃g c,v= .slice (some (ae g 0)) S.length c/\ ∀(j:Nat) (u:In×Value),S[j]? =some u->
  w.cell? (ae g (j*5))=some (ag u.1.op)/\w.cell? (ae g (j*5+1))=some (ag u.1.a)/\w.cell? (ae g (j*5+2))=some (ag u.1.b)/\w.cell? (ae g (j*5+3))=some (ag u.1.to)/\w.cell? (ae g (j*5+4))=some u.2:=by
 rcases h.2 with⟨_,e⟩|⟨g,cap,f,e,_,o,_,_,_,q⟩
 ·omega
 ·refine⟨g,cap,e,fun j u m=> ?_⟩;have k:=(aE.1 m).1
  have d: ∀(i:Nat) (v:Value),i<5->(iv u).toList[i]? =some v->w.cell? (ae g (j*5+i))=some v:=fun i v hi p=>by
   refine(aW _ _ _ _ _ _ o).trans ?_;have l:(f.toList.take (S.length*5))[j*5+i]? =(ju S)[j*5+i]? :=(by rw[q]);rw[dJ (by omega)]at l;rw[<-bq,l]
   have n:S=S.take j++(u::S.drop (j+1)):=by
    conv=>lhs;rw[<-gZ j S]
    congr 1;rw[bG k,(aE.1 m).2]
   rw[n,rP,dR (by rw[qj,ef];omega),qj,ef,gu (by omega),Nat.add_sub_cancel_left];show((iv u).toList++ju (S.drop (j+1)))[i]? =_;rw[eP (by rw[GG];exact hi)];exact p
  exact⟨d 0 _ (by omega) rfl,d 1 _ (by omega) rfl,d 2 _ (by omega) rfl,d 3 _ (by omega) rfl,d 4 _ (by omega) rfl⟩
def Me (mea:Nat->Int×Int)(H T:Nat->Int)(k:Nat):Prop:=H k=(mea k).1/\T k=(mea k).2
def Okm (mea:Nat->Int×Int)(H T:Nat->Int)(k:Nat):Prop:=(H k=0/\T k=0)\/Me mea H T k
def lT (mea:Nat->Int×Int)(ρ:Nat->Nat)(n i:Nat)(H0 T0 H T:Nat->Int):Prop:= ∀k,k<n->k≠i->(ρ k<=ρ i->Okm mea H T k/\(Me mea H0 T0 k->Me mea H T k))/\(ρ i<ρ k->H k=H0 k/\T k=T0 k)
section
variable {mea:Nat->Int×Int} {ρ:Nat->Nat} {n i k0:Nat} {H0 T0 H T H' T':Nat->Int}
theorem lT.refl (h: ∀k,k<n->ρ k<=ρ i->Okm mea H0 T0 k):lT mea ρ n i H0 T0 H0 T0:=fun k a _=>⟨fun b=>⟨h k a b,id⟩,fun _=>⟨rfl,rfl⟩⟩
theorem lT.setH (h:lT mea ρ n i H0 T0 H T)(v:Int):lT mea ρ n i H0 T0 (upI H i v) T:=fun k b a=>by
 have:=h k b a;unfold Okm Me at this⊢;rw[zV _ _ a];exact this
theorem lT.setT (h:lT mea ρ n i H0 T0 H T)(v:Int):lT mea ρ n i H0 T0 H (upI T i v):=fun k b a=>by
 have:=h k b a;unfold Okm Me at this⊢;rw[zV _ _ a];exact this
theorem lT.pre (h:lT mea ρ n i H0 T0 H T)(c:ρ k0<ρ i): ∀k,k<n->ρ k<=ρ k0->Okm mea H T k:=fun k a b=>((h k a (fun e=>by subst e;omega)).1 (by omega)).1
theorem lT.call (h:lT mea ρ n i H0 T0 H T)(m:ρ k0<ρ i)(hi:i<n)(l:Me mea H' T' k0)(g:lT mea ρ n k0 H T H' T'):lT mea ρ n i H0 T0 H' T'/\H' i=H i/\T' i=T i:=by
 refine⟨fun k d f=>⟨fun c=> ?_,fun c=> ?_⟩,(g i hi (fun e=>by subst e;omega)).2 m⟩
 ·by_cases e:k=k0
  ·subst e;exact⟨.inr l,fun _=>l⟩
  ·have a:=(h k d f).1 c;by_cases j:ρ k<=ρ k0
   ·have b:=(g k d e).1 j;exact⟨b.1,fun q=>b.2 (a.2 q)⟩
   ·have b:=(g k d e).2 (by omega);unfold Okm Me at a⊢;rw[b.1,b.2];exact a
 ·have e:k≠k0:=fun e=>by subst e;omega
  have a:=(h k d f).2 c;have b:=(g k d e).2 (by omega);exact⟨b.1.trans a.1,b.2.trans a.2⟩
end
def yc (mea:Nat->Int×Int)(ρ:Nat->Nat)(go n:Nat)(sv:Nat->Value)(i:Nat)(H0 T0:Nat->Int)(w:World)(r:Ending)(w':World):Prop:=r= .returned (.agg #[sv i,ag (mea i).1,ag (mea i).2])/\ ∃H' T',fE go n sv H' T' w'/\Me mea H' T' i/\lT mea ρ n i H0 T0 H' T'/\bp go w w'
theorem B5:prog.underlying 93=some (.struct (prog.fieldsOf 93)):=by kernel_rfl
end
end Go.Proofs.YtpdoienkhgnceaaGreatDoor
