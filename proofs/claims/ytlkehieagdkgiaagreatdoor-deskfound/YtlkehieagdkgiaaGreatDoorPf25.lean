/- Texts of the proof. -/
import Derived.Test.YtlkehieagdkgiaaGreatDoorPf24
set_option maxRecDepth 100000
set_option maxHeartbeats 8000000
namespace Go.Proofs.YtlkehieagdkgiaaGreatDoor
open Go.Proofs.Tryz Go.RowKit Lx Vx Mx Msk
def stdE (e:Ex):Bool:= !(decide (e.kind=4)||decide (e.kind=5)||decide (e.kind=10))&&e.kids.attach.all fun k=>stdE k.1
 termination_by SizeOf.sizeOf e
 decreasing_by exact ja k.2
theorem sL (e:Ex):stdE e=(!(decide (e.kind=4)||decide (e.kind=5)||decide (e.kind=10))&&e.kids.all stdE):=by
 rw[stdE];congr 1;rw[Bool.eq_iff_iff,du,du];exact⟨fun h k a=>h ⟨k,a⟩ (List.mem_attach _ _),fun h k _=>h k.1 k.2⟩
theorem lA {e:Ex}(h:stdE e=true):e.kind≠4/\e.kind≠5/\e.kind≠10:=by
 rw[sL,br]at h;have a:=h.1;refine⟨fun e=> ?_,fun e=> ?_,fun e=> ?_⟩<;>simp[e]at a
theorem CZ {e k:Ex}(h:stdE e=true)(a:k∈e.kids):stdE k=true:=by
 rw[sL,br,du]at h;exact h.2 k a
theorem Jw {e:Ex}(h:e.kids=[])(b:e.kind≠4)(c:e.kind≠5)(a:e.kind≠10):stdE e=true:=by
 rw[sL,h];simp[b,c,a]
def mnE (e:Ex):Nat->Bool:=fK (fun _=>false) 0 (fun _=>nev) e
theorem E6 (d:Int->Bool)(day:Int)(a:List UInt8->Nat->Bool): ∀(N:Nat) (e:Ex),SizeOf.sizeOf e<=N->stdE e=true->fK d day a e=mnE e
 |0,e,f,_=>by cases e;simp at f
 |N+1,e,f,h=>by
  unfold mnE;rw[jK,jK];have b:e.kids.map (fK d day a)=e.kids.map (fK (fun _=>false) 0 (fun _=>nev)):=List.map_congr_left fun k b=>E6 d day a N k (by have:=ja b;omega) (CZ h b);rw[b];obtain⟨g,i,c⟩:=lA h;unfold mY;simp only[ax g,ax i,ax c]
theorem C0 {e:Ex}(h:stdE e=true)(b:Int->Bool)(day:Int)(a:List UInt8->Nat->Bool):fK b day a e=mnE e:=E6 b day a _ e (aD _) h
def kJ:List (Nat->List In)->Nat->List In
 |[],_=>[]
 |f::a,b=>f b++kJ a (b+(f b).length)
def noC:Nat->List In:=fun _=>[]
def opK (k:Int):Int:=if k=9 then 5 else if k=6 then 2 else if k=7 then 3 else 4
def tu (num:List UInt8->Int)(e:Ex)(c:List (Nat->List In))(b:Nat):List In:=
 if stdE e=true then [⟨1,0,0,0,rs (mnE e) 1440⟩]
 else if e.kind=10 then [⟨8,num e.name,0,0,[]⟩]
 else if e.kind=4 then⟨6,e.a,0,((b+1+((c.getD 0 noC) (b+1)).length:Nat):Int),[]⟩::(c.getD 0 noC) (b+1)
 else if e.kind=5 then⟨7,e.a,e.b,((b+1+((c.getD 0 noC) (b+1)).length:Nat):Int),[]⟩::(c.getD 0 noC) (b+1)
 else kJ c b++[⟨opK e.kind,if e.kind=9 then e.a else 0,0,0,[]⟩]
def bU (num:List UInt8->Int)(e:Ex)(b:Nat):List In:=tu num e (e.kids.attach.map fun k=>fun a=>bU num k.1 a) b
 termination_by SizeOf.sizeOf e
 decreasing_by exact ja k.2
theorem rh (num:List UInt8->Int)(e:Ex)(b:Nat):bU num e b=tu num e (e.kids.map (bU num)) b:=by
 rw[bU];congr 1;have h:=congrArg (List.map (bU num)) (iH e.kids);rw[j9]at h;exact h
theorem oT {num:List UInt8->Int}{e:Ex}(h:stdE e=true)(b:Nat):bU num e b=[⟨1,0,0,0,rs (mnE e) 1440⟩]:=by
 rw[rh];unfold tu;rw[aB h]
theorem pJ {num:List UInt8->Int}{e:Ex}(a:e.kind=10)(b:Nat):bU num e b=[⟨8,num e.name,0,0,[]⟩]:=by
 rw[rh];unfold tu;rw[ax (fun h=>(lA h).2.2 a),aB a]
theorem pK {num:List UInt8->Int}{e k:Ex}(c:e.kind=4)(d:e.kids[0]? =some k)(b:Nat):bU num e b=⟨6,e.a,0,((b+1+(bU num k (b+1)).length:Nat):Int),[]⟩::bU num k (b+1):=by
 rw[rh];have e0:(e.kids.map (bU num)).getD 0 noC=bU num k:=by simp[List.getD,d]
 unfold tu;rw[ax (fun h=>(lA h).1 c),ax (by omega),aB c,e0]
theorem oj {num:List UInt8->Int}{e k:Ex}(c:e.kind=5)(d:e.kids[0]? =some k)(b:Nat):bU num e b=⟨7,e.a,e.b,((b+1+(bU num k (b+1)).length:Nat):Int),[]⟩::bU num k (b+1):=by
 rw[rh];have e0:(e.kids.map (bU num)).getD 0 noC=bU num k:=by simp[List.getD,d]
 unfold tu;rw[ax (fun h=>(lA h).2.1 c),ax (by omega),ax (by omega),aB c,e0]
theorem oU {num:List UInt8->Int}{e:Ex}(h:stdE e=false)(d:e.kind≠4)(f:e.kind≠5)(c:e.kind≠10)(b:Nat):bU num e b=kJ (e.kids.map (bU num)) b++[⟨opK e.kind,if e.kind=9 then e.a else 0,0,0,[]⟩]:=by
 rw[rh];unfold tu;rw[ax (by rw[h];simp),ax c,ax d,ax f]
theorem LJ {e:Ex}(h:e.kids.length=2): ∃k m,e.kids=[k,m]:=by
 match hk:e.kids with
 |[]=>rw[hk]at h;cases h
 |[_]=>rw[hk]at h;cases h
 |[k,m]=>exact⟨k,m,rfl⟩
 |_::_::_::_=>rw[hk]at h;simp at h
theorem NV {e:Ex}(h:e.kids.length=1): ∃k,e.kids=[k]:=by
 match hk:e.kids with
 |[]=>rw[hk]at h;cases h
 |[k]=>exact⟨k,rfl⟩
 |_::_::_=>rw[hk]at h;simp at h
theorem ql {num:List UInt8->Int}{e k:Ex}(h:stdE e=false)(c:e.kind=9)(d:e.kids=[k])(b:Nat):bU num e b=bU num k b++[⟨5,e.a,0,0,[]⟩]:=by
 rw[oU h (by omega) (by omega) (by omega),d];simp only[dR,fw,kJ,gJ];unfold opK;rw[aB c,aB c]
theorem rR {num:List UInt8->Int}{e k m:Ex}(h:stdE e=false)(c:e.kind=6\/e.kind=7\/e.kind=8)(a:e.kids=[k,m])(b:Nat):bU num e b=(bU num k b++bU num m (b+(bU num k b).length))++[⟨opK e.kind,0,0,0,[]⟩]:=by
 rw[oU h (by omega) (by omega) (by omega),a];simp only[dR,fw,kJ,gJ];rw[ax (by omega)]
theorem ol {e:Ex}(h:OKE e)(f:stdE e=false):(e.kind=4/\ ∃k,e.kids=[k])\/(e.kind=5/\ ∃k,e.kids=[k])\/(e.kind=9/\ ∃k,e.kids=[k])\/e.kind=10\/((e.kind=6\/e.kind=7\/e.kind=8)/\ ∃k m,e.kids=[k,m]):=by
 obtain⟨g,i,a,_,_⟩:=h.kinds;unfold kidsP at a;by_cases q:e.kind=4\/e.kind=5\/e.kind=9
 ·rw[aB q]at a;obtain⟨k,b⟩:=NV a;rcases q with q|q|q
  ·exact .inl ⟨q,k,b⟩
  ·exact .inr (.inl ⟨q,k,b⟩)
  ·exact .inr (.inr (.inl ⟨q,k,b⟩))
 ·rw[ax q]at a;by_cases c:e.kind=6\/e.kind=7\/e.kind=8
  ·rw[aB c]at a;obtain⟨k,m,b⟩:=LJ a;exact .inr (.inr (.inr (.inr ⟨c,k,m,b⟩)))
  ·rw[ax c]at a;by_cases d:e.kind=10
   ·exact .inr (.inr (.inr (.inl d)))
   ·have:=Jw (iC.1 a) (by omega) (by omega) d;rw[f]at this;cases this
theorem Bb: ∀(l:List (Int×Int)) (last:Int),good last 1440 l->risL l last=true
 |[],_,_=>rfl
 |s::l,last,⟨b,c,d,a⟩=>by
  unfold risL;rw[ax (by omega)];exact Bb l s.2 a
theorem NW (f:Nat->Bool):risL (rs f 1440) (-1)=true:=Bb _ _ (Ae f 1440).good
def jm (e:Ex):Nat:=1+(e.kids.attach.map fun k=>jm k.1).sum
 termination_by SizeOf.sizeOf e
 decreasing_by exact ja k.2
theorem mC (e:Ex):jm e=1+(e.kids.map jm).sum:=by
 rw[jm];congr 2;have h:=congrArg (List.map jm) (iH e.kids);rw[j9]at h;exact h
theorem C1 (e:Ex):1<=jm e:=by rw[mC];omega
theorem ml (num:List UInt8->Int): ∀(N:Nat) (e:Ex),SizeOf.sizeOf e<=N->OKE e-> ∀b,1<=(bU num e b).length/\(bU num e b).length<=jm e
 |0,e,f,_,_=>by cases e;simp at f
 |N+1,e,f,h,b=>by
  have c:=mC e;cases hs:stdE e with
  |true=>
   rw[oT hs];exact⟨by simp,by simpa using C1 e⟩
  |false=>
   have d: ∀k∈e.kids,∀b,1<=(bU num k b).length/\(bU num k b).length<=jm k:=fun k a b=>ml num N k (by have:=ja a;omega) (h.kid a) b;rcases ol h hs with⟨q,k,a⟩|⟨q,k,a⟩|⟨q,k,a⟩|q|⟨q,k,m,a⟩
   ·rw[pK q (by rw[a];rfl)];have:=d k (by rw[a];simp) (b+1);rw[a]at c;simp only[dR,fw,jj,List.sum_nil]at c;rw[bO];omega
   ·rw[oj q (by rw[a];rfl)];have:=d k (by rw[a];simp) (b+1);rw[a]at c;simp only[dR,fw,jj,List.sum_nil]at c;rw[bO];omega
   ·rw[ql hs q a];have:=d k (by rw[a];simp) b;rw[a]at c;simp only[dR,fw,jj,List.sum_nil]at c;rw[aO,eB];omega
   ·rw[pJ q];exact⟨by simp,by simpa using C1 e⟩
   ·rw[rR hs q a];have g:=d k (by rw[a];simp) b;have i:=d m (by rw[a];simp) (b+(bU num k b).length);rw[a]at c;simp only[dR,fw,jj,List.sum_nil]at c;rw[aO,aO,eB];omega
theorem pL: ∀(N:Nat) (e:Ex) (c n:Nat),SizeOf.sizeOf e<=N->(shapeP e c n).1=0->(shapeP e c n).2=n+jm e/\n+jm e<=600
 |0,e,_,_,r,_=>by cases e;simp at r
 |N+1,e,c,n,r,h=>by
  rw[kQ]at h⊢;by_cases q:600<n+1\/40<c
  ·rw[aB q]at h;cases h
  ·rw[ax q]at h⊢;by_cases j:aloneP e≠0
   ·rw[aB j]at h;exact absurd h j
   ·rw[ax j]at h⊢
    have p: ∀(d:List Ex) (m:Nat),(∀k∈d,SizeOf.sizeOf k<=N)->m<=600->(io d (c+1) (0,m)).1=0->(io d (c+1) (0,m)).2=m+(d.map jm).sum/\m+(d.map jm).sum<=600:=by
     intro d;induction d with
     |nil=>intro m _ s _;exact⟨by simp[io],by simpa using s⟩
     |cons k d x=>
      intro m g s f;rw[j6]at f⊢;rw[ax (by simp)]at f⊢
      have i:(shapeP k (c+1) m).1=0:=by
       by_cases o:(shapeP k (c+1) m).1=0
       ·exact o
       ·rw[kR o]at f;exact absurd f o
      obtain⟨t,u⟩:=pL N k (c+1) m (g k bf) i;have v:shapeP k (c+1) m=(0,m+jm k):=Prod.ext i t;rw[v]at f⊢;obtain⟨b1,b2⟩:=x (m+jm k) (fun y l=>g y (bG _ l)) u f;rw[dR,jj];exact⟨by rw[b1];omega,by omega⟩
    obtain⟨a,b⟩:=p e.kids (n+1) (fun k w=>by have:=ja w;omega) (by omega) h;rw[mC];exact⟨by rw[a];omega,by omega⟩
def kH (l:List In)(b:Nat)(c:List In):Prop:= ∀j,j<c.length->l[b+j]? =c[j]?
theorem kH.left {l:List In}{b:Nat}{c d:List In}(h:kH l b (c++d)):kH l b c:=fun j a=>by
 rw[h j (by rw[aO];omega),dV a]
theorem kH.right {l:List In}{b:Nat}{c d:List In}(h:kH l b (c++d)):kH l (b+c.length) d:=fun j a=>by
 have:=h (c.length+j) (by rw[aO];omega);rw[df (by omega),Nat.add_sub_cancel_left,<-Nat.add_assoc]at this;exact this
theorem kH.one {l:List In}{b:Nat}{x:In}{d:List In}(h:kH l b (x::d)):l[b]? =some x:=by
 have:=h 0 (by simp);simpa using this
theorem kH.tail {l:List In}{b:Nat}{x:In}{d:List In}(h:kH l b (x::d)):kH l (b+1) d:=kH.right (c:=[x]) h
structure jL (l:List In)(b n R N:Nat):Prop where
 fin:hAt l (b+n)=hAt l b+1
 tk: ∀j x,b<=j->j<b+n->l[j]? =some x->Vx.tk x+hAt l b<=hAt l j
 to: ∀j x,b<=j->j<b+n->l[j]? =some x->isG x->hAt l x.to.toNat=hAt l j+1
 ins: ∀j x,b<=j->j<b+n->l[j]? =some x->gj x j N R=0
theorem Qm {x:In}(a:x.op=1)(h:risL x.sp (-1)=true)(j N R:Nat):gj x j N R=0:=by
 unfold gj;rw[ax (by omega),aB a,aB h]
theorem NX {x:In}(a:x.op=2\/x.op=3\/x.op=4)(j N R:Nat):gj x j N R=0:=by
 unfold gj;rw[aB a]
theorem Qn {x:In}(b:x.op=5)(h:x.a≠0/\ -1439<=x.a/\x.a<=1439)(j N R:Nat):gj x j N R=0:=by
 unfold gj;rw[ax (by omega),ax (by omega),aB b,aB h]
theorem Qo {x:In}{j N:Nat}(b:x.op=6)(c:(j:Int)+2<=x.to/\x.to<=N)(h:1<=x.a/\x.a<=127)(R:Nat):gj x j N R=0:=by
 unfold gj;rw[ax (by omega),ax (by omega),ax (by omega),aB b,aB c,aB h]
theorem Qp {x:In}{j N:Nat}(c:x.op=7)(d:(j:Int)+2<=x.to/\x.to<=N)(h:0<=x.a/\x.a<=x.b/\x.b<146097)(R:Nat):gj x j N R=0:=by
 unfold gj;rw[ax (by omega),ax (by omega),ax (by omega),ax (by omega),aB c,aB d,aB h]
theorem Qq {x:In}{R:Nat}(b:x.op=8)(h:0<=x.a/\x.a<R)(j N:Nat):gj x j N R=0:=by
 unfold gj;rw[ax (by omega),ax (by omega),ax (by omega),ax (by omega),ax (by omega),aB b,aB h]
theorem Qr {x:In}(a:x.op=1\/x.op=8):eff x=1:=by unfold eff;rw[aB a]
theorem Qs {x:In}(a:x.op=2\/x.op=3\/x.op=4):eff x= -1:=by unfold eff;rw[ax (by omega),aB a]
theorem Mr {x:In}(a:x.op=5\/x.op=6\/x.op=7):eff x=0:=by unfold eff;rw[ax (by omega),ax (by omega)]
theorem Po {x:In}(a:x.op=1\/x.op=6\/x.op=7\/x.op=8):Vx.tk x=0:=by unfold Vx.tk;rw[ax (by omega),ax (by omega)]
theorem QW {x:In}(a:x.op=5):Vx.tk x=1:=by unfold Vx.tk;rw[aB a]
theorem QX {x:In}(a:x.op=2\/x.op=3\/x.op=4):Vx.tk x=2:=by unfold Vx.tk;rw[ax (by omega),aB a]
theorem jL.one {l:List In}{b R N:Nat}{x:In}(f:l[b]? =some x)(g:x.op=1\/x.op=8)(hi:gj x b N R=0):jL l b 1 R N:=by
 refine⟨by rw[jP f,Qr g],fun j y d e a=> ?_,fun j y d e a c=> ?_,fun j y d e a=> ?_⟩<;>
  (obtain rfl:j=b:=by omega)<;>(rw[f]at a;cases aM a)
 ·rw[Po (by omega)];omega
 ·rcases c with c|c<;>omega
 ·exact hi
theorem jL.guard {l:List In}{b n R N:Nat}{x:In}(c:l[b]? =some x)(m:x.op=6\/x.op=7)(f:x.to=((b+1+n:Nat):Int))(hi:gj x b N R=0)(h:jL l (b+1) n R N):jL l b (n+1) R N:=by
 have d:hAt l (b+1)=hAt l b:=by rw[jP c,Mr (by omega)];omega
 have e2:b+(n+1)=b+1+n:=by omega
 refine⟨by rw[e2,h.fin,d],fun j y g i a=> ?_,fun j y g i a k=> ?_,fun j y g i a=> ?_⟩<;>by_cases e:j=b
 ·subst e;rw[c]at a;cases aM a;rw[Po (by omega)];omega
 ·have:=h.tk j y (by omega) (by omega) a;rw[d]at this;exact this
 ·subst e;rw[c]at a;cases aM a;rw[f,cj,h.fin,d]
 ·exact h.to j y (by omega) (by omega) a k
 ·subst e;rw[c]at a;cases aM a;exact hi
 ·exact h.ins j y (by omega) (by omega) a
theorem jL.shift {l:List In}{b n R N:Nat}{x:In}(h:jL l b n R N)(e:l[b+n]? =some x)(i:x.op=5)(hi:gj x (b+n) N R=0):jL l b (n+1) R N:=by
 refine⟨by rw[<-Nat.add_assoc,jP e,Mr (by omega),h.fin];omega,fun j y c g a=> ?_,fun j y c g a d=> ?_,fun j y c g a=> ?_⟩<;>by_cases f:j=b+n
 ·subst f;rw[e]at a;cases aM a;rw[QW i,h.fin];omega
 ·exact h.tk j y c (by omega) a
 ·subst f;rw[e]at a;cases aM a;rcases d with d|d<;>omega
 ·exact h.to j y c (by omega) a d
 ·subst f;rw[e]at a;cases aM a;exact hi
 ·exact h.ins j y c (by omega) a
theorem jL.pair {l:List In}{b n m R N:Nat}{x:In}(h:jL l b n R N)(f:jL l (b+n) m R N)(g:l[b+n+m]? =some x)(k:x.op=2\/x.op=3\/x.op=4):jL l b (n+m+1) R N:=by
 have p:=h.fin;have e2:=f.fin;refine⟨by rw[show b+(n+m+1)=b+n+m+1 by omega,jP g,Qs k];omega,fun j y d o a=> ?_,fun j y d o a e=> ?_,fun j y d o a=> ?_⟩<;>by_cases i:j=b+n+m
 ·subst i;rw[g]at a;cases aM a;rw[QX k];omega
 ·by_cases c:j<b+n
  ·exact h.tk j y d c a
  ·have:=f.tk j y (by omega) (by omega) a;omega
 ·subst i;rw[g]at a;cases aM a;rcases e with e|e<;>omega
 ·by_cases c:j<b+n
  ·exact h.to j y d c a e
  ·exact f.to j y (by omega) (by omega) a e
 ·subst i;rw[g]at a;cases aM a;exact NX k _ _ _
 ·by_cases c:j<b+n
  ·exact h.ins j y d c a
  ·exact f.ins j y (by omega) (by omega) a
theorem E7 {k:Int}(h:k=6\/k=7\/k=8):opK k=2\/opK k=3\/opK k=4:=by
 unfold opK;rcases h with rfl|rfl|rfl<;>simp
theorem vI {e k:Ex}(a:k∈e.kids){x:List UInt8}(b:x∈nms k):x∈nms e:=by
 rw[md,bN];right;unfold jN;exact List.mem_flatten.2 ⟨nms k,dI.2 ⟨k,a,rfl⟩,b⟩
theorem vJ {e:Ex}(h:e.kind=10):e.name∈nms e:=by rw[md,aB h];simp
theorem Jx {num:List UInt8->Int}{R N:Nat}{l:List In}: ∀(M:Nat) (e:Ex),SizeOf.sizeOf e<=M->OKE e->(∀x∈nms e,0<=num x/\num x<R)-> ∀b,kH l b (bU num e b)->b+(bU num e b).length<=N->jL l b (bU num e b).length R N
 |0,e,s,_,_,_,_,_=>by cases e;simp at s
 |M+1,e,s,h,t,b,c,n=>by
  have p: ∀k∈e.kids,∀j,kH l j (bU num k j)->j+(bU num k j).length<=N->jL l j (bU num k j).length R N:=fun k d j=>Jx M k (by have:=ja d;omega) (h.kid d) (fun x v=>t x (vI d v)) j;have i:=h.kinds.2.2.2.1;cases hstd:stdE e with
  |true=>
   rw[oT hstd]at c⊢;exact jL.one c.one (.inl rfl) (Qm rfl (NW _) _ _ _)
  |false=>
   rcases ol h hstd with⟨q,k,d⟩|⟨q,k,d⟩|⟨q,k,d⟩|q|⟨q,k,m,d⟩
   ·have g:k∈e.kids:=(by rw[d];simp);have u:=(ml num _ k (aD _) (h.kid g) (b+1)).1;unfold rangeP at i;rw[ax (by omega),aB q]at i;have f:=fb i;rw[pK q (by rw[d];rfl)]at c n⊢;rw[bO]at n⊢;refine jL.guard c.one (.inl rfl) rfl (Qo rfl ⟨?_,?_⟩ ⟨f.1,?_⟩ _) (p k g (b+1) c.tail (by omega))
    ·show(b:Int)+2<=((b+1+_:Nat):Int);omega
    ·show((b+1+_:Nat):Int)<=_;omega
    ·show e.a<=127;omega
   ·have g:k∈e.kids:=(by rw[d];simp);have u:=(ml num _ k (aD _) (h.kid g) (b+1)).1;unfold rangeP at i;rw[ax (by omega),ax (by omega),aB q]at i;have f:=fb i;rw[oj q (by rw[d];rfl)]at c n⊢;rw[bO]at n⊢;refine jL.guard c.one (.inr rfl) rfl (Qp rfl ⟨?_,?_⟩ f _) (p k g (b+1) c.tail (by omega))
    ·show(b:Int)+2<=((b+1+_:Nat):Int);omega
    ·show((b+1+_:Nat):Int)<=_;omega
   ·have g:k∈e.kids:=(by rw[d];simp);unfold rangeP at i;rw[ax (by omega),ax (by omega),ax (by omega),aB q]at i;have f:=fb i;rw[ql hstd q d]at c n⊢;rw[aO,eB]at n⊢;exact jL.shift (p k g b c.left (by omega)) c.right.one rfl (Qn rfl ⟨f.1,by show-1439<=e.a;omega,by show e.a<=1439;omega⟩ _ _ _)
   ·rw[pJ q]at c⊢;exact jL.one c.one (.inr rfl) (Qq rfl (t _ (vJ q)) _ _)
   ·have g:k∈e.kids:=(by rw[d];simp);have r:m∈e.kids:=(by rw[d];simp);rw[rR hstd q d]at c n⊢;rw[aO,aO,eB]at n⊢;have o:=c.right.one;rw[aO,<-Nat.add_assoc]at o;exact jL.pair (p k g b c.left.left (by omega)) (p m r _ c.left.right (by omega)) o (E7 q)
theorem Jy {num:List UInt8->Int}{R:Nat}{e:Ex}(h:OKE e)(d: ∀x∈nms e,0<=num x/\num x<R):mw (bU num e 0)/\ ∀j x,(bU num e 0)[j]? =some x->gj x j (bU num e 0).length R=0:=by
 have f:kH (bU num e 0) 0 (bU num e 0):=fun j _=>by rw[bQ]
 have q:=Jx (N:=(bU num e 0).length) (R:=R) _ e (aD _) h d 0 f (by omega)
 have lt: ∀{j:Nat} {x:In},(bU num e 0)[j]? =some x->j<0+(bU num e 0).length:=fun c=>by
  have:=(aE.1 c).1;omega
 refine⟨⟨fun j x a=> ?_,fun j x a b=>q.to j x (dL _) (lt a) a b,?_⟩,fun j x a=>q.ins j x (dL _) (lt a) a⟩
 ·have:=q.tk j x (dL _) (lt a) a;simpa[hAt] using this
 ·have:=q.fin;simpa[hAt] using this
theorem Bc {cs cs':List Cd}{l:List In}: ∀(j:Nat),(∀c x,c<j->l[c]? =some x->x.op=8->(cs.getD x.a.toNat cd0).high=(cs'.getD x.a.toNat cd0).high)->j<=l.length->mxH cs l j=mxH cs' l j
 |0,_,_=>rfl
 |j+1,h,g=>by
  have e:=Bc (cs:=cs) (cs':=cs') (l:=l) j (fun c x f=>h c x (by omega)) (by omega);have d:l[j]? =some l[j]:=ay (by omega);rw[ld d,ld d,e];by_cases b:(l[j]).op=8
  ·rw[aB b,aB b,h j _ (by omega) d b]
  ·rw[ax b,ax b]
theorem Bd {cs cs':List Cd}{l:List In}: ∀(j:Nat),(∀c x,c<j->l[c]? =some x->x.op=8->(cs.getD x.a.toNat cd0).steps=(cs'.getD x.a.toNat cd0).steps)->j<=l.length->stS cs l j=stS cs' l j
 |0,_,_=>rfl
 |j+1,h,g=>by
  have e:=Bd (cs:=cs) (cs':=cs') (l:=l) j (fun c x f=>h c x (by omega)) (by omega);have d:l[j]? =some l[j]:=ay (by omega);rw[ko d,ko d,e];by_cases b:(l[j]).op=8
  ·rw[aB b,aB b,h j _ (by omega) d b]
  ·rw[ax b,ax b]
def fj (C:List (List In))(m:Nat->Int×Int):List Cd:=(List.range C.length).map fun k=>⟨C.getD k [],(m k).1,(m k).2⟩
theorem uC (C:List (List In))(m:Nat->Int×Int):(fj C m).length=C.length:=by simp[fj]
theorem mZ {C:List (List In)}{m:Nat->Int×Int}{k:Nat}(h:k<C.length):(fj C m).getD k cd0=⟨C.getD k [],(m k).1,(m k).2⟩:=by
 have:(fj C m)[k]? =some ⟨C.getD k [],(m k).1,(m k).2⟩:=by
  unfold fj;rw[bj,List.getElem?_range h];rfl
 simp[List.getD,this]
def mG (C:List (List In))(m:Nat->Int×Int)(i:Nat):Int×Int:=(min (mxH (fj C m) (C.getD i []) (C.getD i []).length) 101,min (stS (fj C m) (C.getD i []) (C.getD i []).length) 20001)
def om (C:List (List In)):Nat->Nat->Int×Int
 |0,_=>(0,0)
 |f+1,i=>mG C (om C f) i
structure sM (C:List (List In))(ρ:Nat->Nat):Prop where
 lt: ∀(i j:Nat) (x:In),i<C.length->(C.getD i [])[j]? =some x->x.op=8->0<=x.a/\x.a.toNat<C.length/\ρ x.a.toNat<ρ i
theorem yY {C:List (List In)}{ρ:Nat->Nat}(h:sM C ρ){m f:Nat->Int×Int}{i:Nat}(hi:i<C.length)(l: ∀k,k<C.length->ρ k<ρ i->m k=f k):mG C m i=mG C f i:=by
 have e: ∀b x,b<(C.getD i []).length->(C.getD i [])[b]? =some x->x.op=8->(fj C m).getD x.a.toNat cd0=(fj C f).getD x.a.toNat cd0:=fun b x _ o n=>by
  obtain⟨_,c,d⟩:=h.lt i b x hi o n;rw[mZ c,mZ c,l _ c d]
 have j:mxH (fj C m) (C.getD i []) (C.getD i []).length=mxH (fj C f) (C.getD i []) (C.getD i []).length:=Bc _ (fun b x g c d=>by rw[e b x g c d]) (aD _);have e2:stS (fj C m) (C.getD i []) (C.getD i []).length=stS (fj C f) (C.getD i []) (C.getD i []).length:=Bd _ (fun b x g c d=>by rw[e b x g c d]) (aD _);unfold mG;rw[j,e2]
theorem Be {C:List (List In)}{ρ:Nat->Nat}(h:sM C ρ): ∀(f a i:Nat),i<C.length->ρ i<f->ρ i<a->om C f i=om C a i
 |0,_,_,_,b,_=>by omega
 |_+1,0,_,_,_,c=>by omega
 |f+1,a+1,i,hi,b,c=>by
  unfold om;exact yY h hi fun k d e=>Be h f a k d (by omega) (by omega)
theorem NY {C:List (List In)}{ρ:Nat->Nat}(h:sM C ρ){N:Nat}(a: ∀i,i<C.length->ρ i<=N){i:Nat}(hi:i<C.length):om C (N+1) i=mG C (om C (N+1)) i:=by
 conv=>lhs;unfold om
 have c:=a i hi;exact yY h hi fun k b d=>Be h N (N+1) k b (by omega) (by have:=a k b;omega)
theorem yB (x:In): -1<=eff x/\eff x<=1:=by
 unfold eff;split
 ·omega
 ·split<;>omega
theorem nV (l:List In): ∀j:Nat,-(j:Int)<=hAt l j/\hAt l j<=(j:Int)
 |0=>by simp[hAt]
 |j+1=>by
  have a:=nV l j;have e:=yB (l.getD j in0);simp only[hAt];omega
structure rS (cs:List Cd):Prop where
 hi: ∀k,0<=(cs.getD k cd0).high/\(cs.getD k cd0).high<=101
 st: ∀k,0<=(cs.getD k cd0).steps/\(cs.getD k cd0).steps<=20001
theorem sE {b:List Cd}(h:rS b)(l:List In): ∀j:Nat,0<=mxH b l j/\mxH b l j<=(j:Int)+101
 |0=>by simp[mxH]
 |j+1=>by
  have d:=sE h l j;have e:=nV l j;have c:=nV l (j+1);have q:=h.hi (l.getD j in0).a.toNat;simp only[mxH];split<;>omega
theorem sF {b:List Cd}(h:rS b)(l:List In): ∀j:Nat,(j:Int)<=stS b l j/\stS b l j<=(j:Int)*20002
 |0=>by simp[stS]
 |j+1=>by
  have c:=sF h l j;have q:=h.st (l.getD j in0).a.toNat;simp only[stS];split<;>omega
theorem wf {C:List (List In)}{m:Nat->Int×Int}(h: ∀k,k<C.length->(0<=(m k).1/\(m k).1<=101)/\(0<=(m k).2/\(m k).2<=20001)):rS (fj C m):=by
 constructor<;>intro k<;>by_cases a:k<C.length
 ·rw[mZ a];exact(h k a).1
 ·have:(fj C m).getD k cd0=cd0:=by
   have:(fj C m)[k]? =none:=eU (by rw[uC];omega);simp[List.getD,this]
  rw[this];simp[cd0]
 ·rw[mZ a];exact(h k a).2
 ·have:(fj C m).getD k cd0=cd0:=by
   have:(fj C m)[k]? =none:=eU (by rw[uC];omega);simp[List.getD,this]
  rw[this];simp[cd0]
theorem E8 {C:List (List In)}{m:Nat->Int×Int}(h:rS (fj C m))(i:Nat):(0<=(mG C m i).1/\(mG C m i).1<=101)/\(0<=(mG C m i).2/\(mG C m i).2<=20001)/\(1<=(C.getD i []).length->1<=(mG C m i).2):=by
 have a:=sE h (C.getD i []) (C.getD i []).length;have b:=sF h (C.getD i []) (C.getD i []).length;refine⟨⟨?_,?_⟩,⟨?_,?_⟩,fun c=> ?_⟩<;>simp only[mG]<;>omega
theorem E9 (C:List (List In)): ∀(f i:Nat),(0<=(om C f i).1/\(om C f i).1<=101)/\(0<=(om C f i).2/\(om C f i).2<=20001)
 |0,i=>by simp[om]
 |f+1,i=>by
  have h:=E8 (C:=C) (wf (C:=C) fun k _=>E9 C f k) i;exact⟨h.1,h.2.1⟩
theorem GF (C:List (List In))(f:Nat):rS (fj C (om C f)):=wf fun k _=>E9 C f k
section
variable {B:Nat->Prop}
def vK (e:Ex)(w:World)(r:Ending)(w':World):Prop:=r= .returned (.bool (stdE e))/\aq w w'
def Qt (w:World)(sl:Value)(d:List Ex):Prop:=
 ∃g o c:Nat,sl= .slice (some (ae g o)) d.length c/\d.length<9223372036854775808/\ ∀(j:Nat) (k:Ex),d[j]? =some k-> ∃(p:Option Addr) (q:Nat),
  w.cell? (ae g (o+j*5))=some (ag k.kind)/\w.cell? (ae g (o+j*5+1))=some (ag k.a)/\w.cell? (ae g (o+j*5+2))=some (ag k.b)/\
  w.cell? (ae g (o+j*5+3))=some (.string ⟨k.name.toArray⟩)/\w.cell? (ae g (o+j*5+4))=some (.slice p k.kids.length q)/\
  ∀W:World,aq w W->Calls prog 155 #[.agg #[ag k.kind,ag k.a,ag k.b,.string ⟨k.name.toArray⟩,.slice p k.kids.length q]] W (vK k W)
theorem LM {a:List Ex}{j:Nat}{k:Ex}(h:a[j]? =some k):(a.drop j).all stdE=(stdE k&&(a.drop (j+1)).all stdE):=by
 obtain⟨b,c⟩:=aE.1 h;rw[bK b,c];rfl
theorem sf (e:Ex)(p:Option Addr)(c:Nat)(w:World)(J:e.kids=[]\/Qt w (.slice p e.kids.length c) e.kids)(Z:e.kids.length<9223372036854775808):
  Calls prog 155 #[.agg #[ag e.kind,ag e.a,ag e.b,.string ⟨e.name.toArray⟩,.slice p e.kids.length c]] w (vK e w):=by
 have i:=am w (.cells #[ag e.kind,ag e.a,ag e.b,.string ⟨e.name.toArray⟩,.slice p e.kids.length c] 84);have A:=aG w (.cells #[ag e.kind,ag e.a,ag e.b,.string ⟨e.name.toArray⟩,.slice p e.kids.length c] 84);generalize N:w.alloc (.cells #[ag e.kind,ag e.a,ag e.b,.string ⟨e.name.toArray⟩,.slice p e.kids.length c] 84)=wA at*;have z0:=ak 0 A;have z4:=ak 4 A;generalize L:stdE e=X;have m:Rg (stdE e=X):=L;unfold vK;rw[L];clear L;by_cases q:e.kind=4
 ·have l:Rg (X=false):=by
   show _=_;rw[<-m.o];cases hs:stdE e with
   |false=>rfl
   |true=>exact absurd q (lA hs).1
  have W:(e.kind==4)=true:=(by simp[q]);clear J m q;go_enter func155,ntmps155;go_wp2_with fail;go_ret;rw[l.o];exact⟨rfl,i⟩
 have W:(e.kind==4)=false:=by simpa using q
 by_cases B:e.kind=5
 ·have l:Rg (X=false):=by
   show _=_;rw[<-m.o];cases hs:stdE e with
   |false=>rfl
   |true=>exact absurd B (lA hs).2.1
  have Y:(e.kind==5)=true:=(by simp[B]);clear J m q B;go_enter func155,ntmps155;go_wp2_with fail;go_ret;rw[l.o];exact⟨rfl,i⟩
 have Y:(e.kind==5)=false:=by simpa using B
 by_cases d:e.kind=10
 ·have l:Rg (X=false):=by
   show _=_;rw[<-m.o];cases hs:stdE e with
   |false=>rfl
   |true=>exact absurd d (lA hs).2.2
  have C:(e.kind==10)=true:=(by simp[d]);clear J m q B d;go_enter func155,ntmps155;go_wp2_with fail;go_ret;rw[l.o];exact⟨rfl,i⟩
 have C:(e.kind==10)=false:=by simpa using d
 have Q:Rg ((e.kids.drop 0).all stdE=X):=by
  show _=_;rw[<-m.o,sL,List.drop_zero];simp[q,B,d]
 clear m q B d;go_enter func155,ntmps155;go_wp2_with fail;go_loopw [4,14] (fun _ t wr=> ∃j:Nat,t=ag (j:Int)/\j<=e.kids.length/\(e.kids.drop j).all stdE=X/\aq w wr) (fun _ t _=>e.kids.length-(intOf t).toNat);case atStart=>exact⟨0,rfl,by omega,Q.o,i⟩
 case round=>
  obtain⟨j,rfl,hj,f,u⟩:=hrel;clear Q z0 z4 A i N W Y C;have aa:(0:Int)<=(j:Int):=(by omega);by_cases z:j<e.kids.length
  ·have G:(j:Int)<(e.kids.length:Int):=(by omega);obtain⟨k,x⟩: ∃k,e.kids[j]? =some k:=⟨e.kids[j],ay z⟩
   rw[LM x]at f;have F:e.kids≠[]:=fun h=>(by rw[h]at z;simp at z);obtain⟨g,o,c',M,_,n⟩:=J.resolve_left F;obtain⟨P,K,R,S,T,U,V,I⟩:=n j k x;have f0:=aj u R;have f1:=aj u S;have f2:=aj u T;have f3:=aj u U;have f4:=aj u V;have E:=am wr (.cells #[ag k.kind,ag k.a,ag k.b,.string ⟨k.name.toArray⟩,.slice P k.kids.length K] 84);have H:=aG wr (.cells #[ag k.kind,ag k.a,ag k.b,.string ⟨k.name.toArray⟩,.slice P k.kids.length K] 84);have v:=aw u E;have cR:=I _ v;injection M with e1 e2 e3;subst e1;subst e3;clear R S T U V I n F x E;have s:Rg ((stdE k&&(e.kids.drop (j+1)).all stdE)=X):=f;unfold vK at cR;clear f;generalize stdE k=y at*;generalize O:wr.alloc (.cells #[ag k.kind,ag k.a,ag k.b,.string ⟨k.name.toArray⟩,.slice P k.kids.length K] 84)=wB at*;go_wp2_with(refine aR rfl 84 _ rfl _ rfl _ _ _ _ H ft rfl (by kernel_rfl) ?_)
   refine cR.mono ?_;rintro r w3 ⟨rfl,b3⟩;have D:=aw v b3;clear cR H O f0 f1 f2 f3 f4 b3 v;cases y with
   |false=>
    have l:Rg (X=false):=(by show _=_;rw[<-s.o];rfl);clear s;go_wp2_with fail;go_ret;rw[l.o];exact⟨rfl,D⟩
   |true=>
    go_wp2_with fail;go_roundw;case rel=>exact⟨j+1,by go_num,by omega,by rw[<-s.o];rfl,D⟩
    case measure=>simp[intOf];omega
  ·have G: ¬(j:Int)<(e.kids.length:Int):=(by omega);have l:Rg (X=true):=(by show _=_;rw[<-f,List.drop_eq_nil_of_le (by omega)];rfl);clear f;go_wp2_with fail;go_ret;rw[l.o];exact⟨rfl,u⟩
theorem GH: ∀(d:Nat) (e:Ex) (sl:Value) (w:World),gK B d w sl e.kids->Calls prog 155 #[exV e sl] w (vK e w):=by
 intro d;induction d with
 |zero=>
  intro e sl w a;obtain⟨p,c,rfl⟩:=a.form;exact sf e p c w (.inl a.1) (by rw[a.1];decide)
 |succ d z=>
  intro e sl w a;obtain⟨p,c,i⟩:=a.form;subst i;rcases a with⟨h,_⟩|⟨g,o,m,D,y,l,b⟩
  ·exact sf e p c w (.inl h) (by rw[h];decide)
  ·refine sf e p c w (.inr ⟨g,o,m,y,l,fun j k v=> ?_⟩) l;obtain⟨x,E,c0,c1,n,q,s,r⟩:=b j k v;obtain⟨A,C,rfl⟩:=r.form;exact⟨A,C,c0,c1,n,q,s,fun W u=>z k _ W (r.kept fun t _ f=>u.block t f)⟩
end
theorem Fb: ∀(N:Nat) (e:Ex),SizeOf.sizeOf e<=N->stdE e=true->nms e=[]
 |0,e,a,_=>by cases e;simp at a
 |N+1,e,a,h=>by
  rw[md,ax (lA h).2.2,List.nil_append];unfold jN;rw[List.flatten_eq_nil_iff];intro x c;obtain⟨k,b,rfl⟩:=dI.1 c;exact Fb N k (by have:=ja b;omega) (CZ h b)
theorem yZ: ∀(N:Nat) (e:Ex) (a n b l:Nat),SizeOf.sizeOf e<=N->b<=a->l<=n->(shapeP e a n).1=0->(shapeP e b l).1=0
 |0,e,_,_,_,_,t,_,_,_=>by cases e;simp at t
 |N+1,e,a,n,b,l,t,B,C,h=>by
  have A:=h;rw[kQ]at h⊢;by_cases s:600<n+1\/40<a
  ·rw[aB s]at h;cases h
  ·rw[ax s]at h;rw[ax (by omega)];by_cases o:aloneP e≠0
   ·rw[aB o]at h;exact absurd h o
   ·rw[ax o]at h⊢
    have r: ∀(g:List Ex) (m c:Nat),(∀k∈g,SizeOf.sizeOf k<=N)->c<=m->(io g (a+1) (0,m)).1=0->(io g (b+1) (0,c)).1=0:=by
     intro g;induction g with
     |nil=>intro m c _ _ _;rfl
     |cons k g y=>
      intro m c i x f;rw[j6]at f⊢;rw[ax (by simp)]at f⊢
      have d:(shapeP k (a+1) m).1=0:=by
       by_cases q:(shapeP k (a+1) m).1=0
       ·exact q
       ·rw[kR q]at f;exact absurd f q
      have j:=yZ N k (a+1) m (b+1) c (i k bf) (by omega) x d;obtain⟨u,_⟩:=pL _ k (a+1) m (aD _) d;obtain⟨v,_⟩:=pL _ k (b+1) c (aD _) j;rw[show shapeP k (a+1) m=(0,m+jm k) from Prod.ext d u]at f;rw[show shapeP k (b+1) c=(0,c+jm k) from Prod.ext j v];exact y _ _ (fun z p=>i z (bG _ p)) (by omega) f
    exact r e.kids (n+1) (l+1) (fun k w=>by have:=ja w;omega) (by omega) h
def Rt (e:Ex):Prop:=(shapeP e 1 0).1=0
theorem Rt.ok {e:Ex}(h:Rt e):OKE e:=⟨1,0,h⟩
theorem Rt.kid {e k:Ex}(h:Rt e)(a:k∈e.kids):Rt k:=by
 unfold Rt at h;rw[kQ,ax (by omega)]at h;by_cases g:aloneP e≠0
 ·rw[aB g]at h;exact absurd h g
 ·rw[ax g]at h
  have j: ∀(f:List Ex) (m:Nat),(io f 2 (0,m)).1=0-> ∀k∈f,Rt k:=by
   intro f;induction f with
   |nil=>intro m _ k a;cases a
   |cons d f n=>
    intro m c k a;rw[j6,ax (by simp)]at c
    have b:(shapeP d 2 m).1=0:=by
     by_cases i:(shapeP d 2 m).1=0
     ·exact i
     ·rw[kR i]at c;exact absurd c i
    rcases bo.1 a with rfl|a
    ·exact yZ _ k 2 m 1 0 (aD _) (by omega) (dL _) b
    ·obtain⟨l,_⟩:=pL _ d 2 m (aD _) b;rw[show shapeP d 2 m=(0,m+jm d) from Prod.ext b l]at c;exact n _ c k a
  exact j e.kids 1 h k a
theorem Rt.nod {e:Ex}(h:Rt e):jm e<=600:=by
 have:=(pL _ e 1 0 (aD _) h).2;omega
theorem NZ {e:Ex}(h:Rt e)(j:stdE e=true):dy [([97],e)]=(0,0):=by
 have f:nms e=[]:=Fb _ e (aD _) j
 have b:gI [([97],e)] ([97],e)=[]:=by
  unfold gI;rw[show nms (([97],e):Ru).2=[] from f];rfl
 have hi: ∀{i:Nat},i<[(([97],e):Ru)].length->i=0:=fun hi=>by simp at hi;exact hi
 refine F8 ?_ (fun c a=> ?_) (fun c a=> ?_) (fun c a=> ?_)
 ·unfold gH;rw[ax (by simp)]
  have g:ruleP ([97],e)=0:=by
   unfold ruleP;rw[ax (show¬Go.Proofs.YtlkehieagdkgiaaGreatDoor.namedL [97]=false by decide)];exact h
  unfold jT;rw[ax (by simpa using g)];rfl
 ·rw[hi a];simp[lk1,atP5,atF]
 ·rw[hi a];show decide (-1∈gI _ _)=false;rw[b];rfl
 ·rw[hi a]
  have d:iW [([97],e)] 0=[]:=by
   unfold iW;show pG (gI _ _)=[]
   rw[b];rfl
  unfold lk3;rw[show [(([97],e):Ru)].length+1=1+1 from rfl,fol,d];rfl
theorem LN {e:Ex}(h:Rt e)(c:stdE e=true):pT [([97],e)] 0=(0,0)/\qj [([97],e)] 0=[mnE e]:=by
 have a:=NZ h c
 have b:pT [([97],e)] 0=(0,0):=by
  unfold pT;rw[a,ax (by simp),ax (by omega)]
 refine⟨b,?_⟩;unfold qj;rw[b,aB rfl];show [iJ _ _ _ 0]=_;rw[oS (by rw[a]) (show [(([97],e):Ru)][0]? =some ([97],e) from rfl)];rw[C0 (show stdE (([97],e):Ru).2=true from c)]
theorem N0 {w:World}{g:Nat}{e:Ex}{sl:Value}{d:Nat}(h:w.heap[g]? =ah #[.string ⟨#[97]⟩,ag e.kind,ag e.a,ag e.b,.string ⟨e.name.toArray⟩,sl] 86)(l:e.name.length<=9223372036854775807)(i:gK (fun k=>k<w.heap.size) d w sl e.kids):InR w (.slice (some (ae g 0)) 1 1) [(([97],e),sl)]:=by
 refine⟨.inr ⟨g,0,1,rfl,by simp,fun j p c=> ?_⟩,by simp,fun p f=> ?_⟩
 ·match j,c with
  |0,c=>
   cases aM c;exact⟨ak 0 h,ak 1 h,ak 2 h,ak 3 h,ak 4 h,ak 5 h⟩
  |j+1,c=>simp at c
 ·rw[bL]at f;subst f;exact⟨by simp,l,d,i⟩
theorem Ef (d:Nat)(e:Ex)(sl:Value)(w:World)(hr:Rt e)(hs:stdE e=true)(hn:e.name.length<=9223372036854775807)(P:gK (fun k=>k<w.heap.size) d w sl e.kids):
  Calls prog 158 #[exV e sl] w fun r w'=>r= .returned (.agg (mv (mnE e)))/\aq w w':=by
 obtain⟨p,c,T⟩:=P.form;subst T;unfold exV;have hz:=eY;have G:=am w (.cells #[ag e.kind,ag e.a,ag e.b,.string ⟨e.name.toArray⟩,.slice p e.kids.length c] 84);have nA:=aG w (.cells #[ag e.kind,ag e.a,ag e.b,.string ⟨e.name.toArray⟩,.slice p e.kids.length c] 84);generalize ab:w.alloc (.cells #[ag e.kind,ag e.a,ag e.b,.string ⟨e.name.toArray⟩,.slice p e.kids.length c] 84)=I at*;have J:=am I (.cells (mv fun _=>false) 55);have nB:=aG I (.cells (mv fun _=>false) 55);have X:=ai J nA;obtain⟨gB,x⟩:=au I.heap.size;generalize ac:I.alloc (.cells (mv fun _=>false) 55)=wB at*;rw[x]at nB;have K:=am wB (.cells #[.string ⟨#[97]⟩,ag e.kind,ag e.a,ag e.b,.string ⟨e.name.toArray⟩,.slice p e.kids.length c] 86);have nC:=aG wB (.cells #[.string ⟨#[97]⟩,ag e.kind,ag e.a,ag e.b,.string ⟨e.name.toArray⟩,.slice p e.kids.length c] 86);generalize ad:wB.alloc (.cells #[.string ⟨#[97]⟩,ag e.kind,ag e.a,ag e.b,.string ⟨e.name.toArray⟩,.slice p e.kids.length c] 86)=wC at*;have f:aq w wC:=G.trans ((aw J K).mono G.size);have E:=ai K nB;have z:w.heap.size<=gB:=by rw[<-x];exact G.size
 have y:=N0 (d:=d) nC hn ((P.kept fun g _ hl=>f.block g hl).mono fun g hg=>aU hg f.size);have q:=LI _ _ 0 wC y;obtain⟨e1,e2⟩:=LN hr hs;unfold yW at q;simp only[dR,fw]at q;rw[e1,e2]at q;clear y P e1 e2 G J K nA nC;go_enter func158,ntmps158
 go_wp2_with(first
  |(refine aR rfl 84 _ rfl _ rfl _ _ _ _ X ft rfl (by kernel_rfl) ?_))
 refine q.mono ?_;rintro r o ⟨v3,rfl,C,b3⟩;obtain⟨p3,c3,U,aa,B⟩:=C;subst U;obtain⟨M,Z,R,i⟩:=B 0 (mnE e) rfl;subst R;have m:=aw f b3;have n:=ai b3 E;simp only[Nat.zero_mul,Nat.add_zero]at i;have Q:[mnE e].length=1:=rfl;rw[Q];generalize D:((0:Nat):Int)=iz;have W:iz=0:=D.symm.trans rfl;subst W;clear D;have L:=am o (.cells #[ag 0,ag 0] 48);have nD:=aG o (.cells #[ag 0,ag 0] 48);have F:=ai L n;have A:(o.alloc (.cells #[ag 0,ag 0] 48)).rangeAt M Z (mv (mnE e)).toList:=World.rangeAt_alloc i _;have t:=aw m L;generalize ae:o.alloc (.cells #[ag 0,ag 0] 48)=wD at*;have H:=below_setRow (aH o.heap.size wD) (aD _) #[ag 0,ag 0];have O:=aI n;have l:=(H.block _ O).trans F;have S:(wD.setRow o.heap.size #[ag 0,ag 0]).rangeAt M Z (mv (mnE e)).toList:=fun j u hj=>(H.cell (cg (i j u hj))).trans (A j u hj);have s:=t.trans (H.mono (bg m.size (aD _)));generalize V:wD.setRow o.heap.size #[ag 0,ag 0]=wE at*;have Y:=aL _ _ _ (mv (mnE e)) _ _ l;have N:=below_setRow s z (mv (mnE e));clear q m t f b3 L E n i B H A F s
 go_wp2_with(first
  |(refine aA rfl 48 _ _ rfl _ _ rfl rfl _ _ nD (by kernel_rfl) (by simp) (by simp[Value.oneCell']) ?_;rw[V])
  |(refine uk rfl _ rfl M Z rfl (mnE e) S ?_)
  |(refine aA rfl 55 _ _ rfl _ _ rfl rfl _ _ l (bl _) (by simp[bV]) (dY _) ?_))
 refine aY (v:= .agg (mv (mnE e))) ?_ rfl ⟨rfl,N⟩;exact bc rfl _ _ gB _ _ _ _ rfl Y cY rfl (bl _)
def iA (w:World)(v:Value)(l:List (Int×Int)):Prop:=(l=[]/\ ∃p c,v= .slice p 0 c)\/ ∃(g c:Nat) (a:Array Value),v= .slice (some (ae g 0)) l.length c/\l.length<9223372036854775808/\w.heap[g]? =ah a 57/\a.toList.take (l.length*2)=jc l
theorem iA.nil (w:World)(p:Option Addr)(c:Nat):iA w (.slice p 0 c) []:= .inl ⟨rfl,p,c,rfl⟩
theorem iA.form {w:World}{v:Value}{l:List (Int×Int)}(h:iA w v l): ∃p n c,v= .slice p n c:=by
 rcases h with⟨_,p,c,e⟩|⟨g,c,a,e,_⟩
 ·exact⟨p,0,c,e⟩
 ·exact⟨_,_,c,e⟩
theorem iA.of_own {w:World}{a:Nat}{v:Value}{l:List (Int×Int)}(h:w.ownsRow a 57 2 v l.length (jc l)):iA w v l:=by
 rcases h.2 with⟨e,e2⟩|⟨g,cap,b,e,i,d,j,c,k,f⟩
 ·exact .inl ⟨gz e2,none,0,by rw[e]⟩
 ·exact .inr ⟨g,cap,b,e,by unfold maxLen at c;omega,d,f⟩
def Fr (gm:Nat)(w w':World):Prop:= ∀(q:Nat) (c:Array Value) (T:TypeId),w.heap[q]? =ah c T->T≠216->q≠gm->w'.heap[q]? =ah c T
theorem Fr.trans {gm:Nat}{w w' b:World}(h:Fr gm w w')(e:Fr gm w' b):Fr gm w b:=fun q c T f d a=>e q c T (h q c T f d a) d a
theorem Fr.below {gm:Nat}{w w':World}(a:aq w w'):Fr gm w w':=fun _ _ _ b _ _=>ai a b
theorem iA.fr {gm:Nat}{w w':World}{v:Value}{l:List (Int×Int)}(h:iA w v l){d:Array Value}(j:w.heap[gm]? =ah d 192)(i:Fr gm w w'):iA w' v l:=by
 rcases h with h|⟨g,c,b,e,k,a,m⟩
 ·exact .inl h
 ·refine .inr ⟨g,c,b,e,k,i g _ _ a (by decide) (fun q=> ?_),m⟩;subst q;rw[j]at a;injection a with a;injection a with _ f _;exact absurd f (by decide)
theorem iA.below {w w':World}{v:Value}{l:List (Int×Int)}(h:iA w v l)(b:aq w w'):iA w' v l:=by
 rcases h with h|⟨g,c,a,e,f,d,i⟩
 ·exact .inl h
 ·exact .inr ⟨g,c,a,e,f,ai b d,i⟩
structure WOk (w0:World)(gm:Nat)(mp:Value)(S:List (In×Value))(W:World):Prop where
 st:WsC w0 gm mp S W
 sp: ∀u∈S,iA W u.2 u.1.sp
theorem WOk.below {d W a:World}{gm:Nat}{c:Value}{S:List (In×Value)}(h:WOk d gm c S W)(b:aq W a):WOk d gm c S a:=
 ⟨h.st.below b,fun u e=>(h.sp u e).below b⟩
def oq (e:World)(gm:Nat)(d:Value)(S:List (In×Value))(c:List In)(W:World)(r:Ending)(b:World):Prop:=r= .returned (.tuple #[])/\ ∃a,a.map (fun u=>u.1)=c/\WOk e gm d (S++a) b/\Fr2 gm W b
theorem Fr2.fr {k W d:World}{gm:Nat}{j:Value}{S:List (In×Value)}(h:WsC k gm j S W)(g:Fr2 gm W d):Fr gm W d:=fun q c T b f a=>by
 obtain⟨_,_,sv,i,own⟩:=h;refine(g.blk q (aI b) a ?_).trans b;rw[oV i];exact fun e=>kM own b f e.symm
theorem vL {g W:World}{gm:Nat}{f:Value}{S:List (In×Value)}(h:WOk g gm f S W)(x:In)(v:Value)(k:iA W v x.sp)(n:S.length<=1000):
  Calls prog 156 #[ab gm 0,.agg #[ag x.op,ag x.a,ag x.b,ag x.to,v]] W fun e d=>e= .returned (.tuple #[])/\WOk g gm f (S++[(x,v)]) d/\Fr2 gm W d:=by
 obtain⟨_,_,sv,j,_⟩:=id h.st;refine(LL g gm f S (x,v) W h.st n k.form).mono fun e d ⟨o,l,i,m⟩=>⟨o,⟨l,fun u c=> ?_⟩,m⟩
 rcases bN.1 c with c|c
 ·exact(h.sp u c).fr j i
 ·rw[bL]at c;subst c;exact k.fr j i
def GI (b:World)(gm:Nat)(a:Value)(l:List Ru)(k:Ex)(c:Value):Prop:= ∀(S:List (In×Value)) (W:World),WOk b gm a S W->S.length+jm k<=700->Calls prog 132 #[ab gm 0,exV k c] W (oq b gm a S (bU (atP5 l) k S.length) W)
theorem rj (S a:List (In×Value)):jz (S++a)=jz S++jz a:=by unfold jz;rw[fN]
theorem Bf (S a:List (In×Value))(x:In)(v:Value)(t:Int):(jz (S++((x,v)::a))).set (S.length*5+3) (ag t)=jz (S++(({x with to:=t},v)::a)):=by
 rw[rj,rj,List.set_append_right _ _ (by rw[pM];omega),pM,Nat.add_sub_cancel_left];rfl
theorem Pr {W:World}{a g n c:Nat}{S f:List (In×Value)}{x:In}{v:Value}(t:Int)(h:W.ownsRow a 216 5 (.slice (some (ae g 0)) n c) n (jz (S++((x,v)::f)))):(W.setCell ⟨g,S.length*5+3,none⟩ (ag t)).ownsRow a 216 5 (.slice (some (ae g 0)) n c) n (jz (S++(({x with to:=t},v)::f))):=by
 obtain⟨j,k⟩:=h;rcases k with⟨e,_⟩|⟨s,cap,d,e,l,o,p,m,q,r⟩
 ·cases e
 ·injection e with b _ i;injection b with b;injection b with b _ _;subst b i;refine⟨by rw[<-Bf,jH];exact j,.inr ⟨g,c,d.setIfInBounds (S.length*5+3) (ag t),rfl,l,aZ W g _ _ _ _ o,p,m,by rw[il];exact q,?_⟩⟩;rw[Array.toList_setIfInBounds,List.take_set,r,Bf]
theorem WOk.lt {c W:World}{gm:Nat}{b:Value}{S:List (In×Value)}(h:WOk c gm b S W):gm<W.heap.size:=by
 obtain⟨_,_,sv,a,_⟩:=h.st;exact aI a
section
def upI (f:Nat->Int)(i:Nat)(v:Int):Nat->Int:=fun k=>if k=i then v else f k
theorem jd (f:Nat->Int)(i:Nat)(v:Int):upI f i v i=v:=by unfold upI;rw[aB rfl]
theorem za (f:Nat->Int){i k:Nat}(v:Int)(h:k≠i):upI f i v k=f k:=by unfold upI;rw[ax h]
def fU (go n:Nat)(sv:Nat->Value)(H T:Nat->Int)(w:World):Prop:= ∃a:Array Value,w.heap[go]? =ah a 195/\a.size=n*3/\ ∀i,i<n->a[i*3]? =some (sv i)/\a[i*3+1]? =some (ag (H i))/\a[i*3+2]? =some (ag (T i))
section
variable {go n:Nat} {sv:Nat->Value} {H T:Nat->Int} {w w':World}
theorem fU.cells (h:fU go n sv H T w){i:Nat}(hi:i<n):w.cell? (ae go (i*3))=some (sv i)/\w.cell? (ae go (i*3+1))=some (ag (H i))/\w.cell? (ae go (i*3+2))=some (ag (T i))/\w.frozen? (ae go (i*3+1))=false/\w.frozen? (ae go (i*3+2))=false:=by
 obtain⟨c,a,_,d⟩:=h;obtain⟨c0,c1,b⟩:=d i hi;exact⟨(a8 _ _ _ _ _ _ a).trans c0,(a8 _ _ _ _ _ _ a).trans c1,(a8 _ _ _ _ _ _ a).trans b,bp _ _ _ _ _ a,bp _ _ _ _ _ a⟩
theorem fU.lt (h:fU go n sv H T w):go<w.heap.size:=by
 obtain⟨a,b,_⟩:=h;exact aI b
theorem fU.same (h:fU go n sv H T w)(e:w'.heap[go]? =w.heap[go]?):fU go n sv H T w':=by
 obtain⟨a,b,r⟩:=h;exact⟨a,e.trans b,r⟩
theorem fU.below (h:fU go n sv H T w)(a:aq w w'):fU go n sv H T w':=h.same (a.block _ h.lt)
theorem fU.setH (h:fU go n sv H T w){i:Nat}(v:Int)(hi:i<n):fU go n sv (upI H i v) T (w.setCell ⟨go,i*3+1,none⟩ (ag v)):=by
 obtain⟨b,d,g,c⟩:=h;refine⟨_,aZ w go (i*3+1) _ _ _ d,by rw[il];exact g,fun k f=> ?_⟩;obtain⟨c0,c1,a⟩:=c k f;refine⟨?_,?_,?_⟩
 ·rw[dt (by omega)];exact c0
 ·by_cases e:k=i
  ·subst e;rw[jd,gT (by omega)]
  ·rw[za _ _ e,dt (by omega)];exact c1
 ·rw[dt (by omega)];exact a
theorem fU.setT (h:fU go n sv H T w){i:Nat}(v:Int)(hi:i<n):fU go n sv H (upI T i v) (w.setCell ⟨go,i*3+2,none⟩ (ag v)):=by
 obtain⟨b,d,g,c⟩:=h;refine⟨_,aZ w go (i*3+2) _ _ _ d,by rw[il];exact g,fun k f=> ?_⟩;obtain⟨c0,c1,a⟩:=c k f;refine⟨?_,?_,?_⟩
 ·rw[dt (by omega)];exact c0
 ·rw[dt (by omega)];exact c1
 ·by_cases e:k=i
  ·subst e;rw[jd,gT (by omega)]
  ·rw[za _ _ e,dt (by omega)];exact a
end
theorem iR (w:World)(g i:Nat)(v:Value):bq g w (w.setCell ⟨g,i,none⟩ v):=bq.set w g i v
def kB (w:World)(v:Value)(S:List (In×Value)):Prop:=w.ownsRow 0 216 5 v S.length (jz S)
theorem kB.below {w w':World}{v:Value}{S:List (In×Value)}(h:kB w v S)(a:aq w w'):kB w' v S:=iI h a
theorem kB.kept {w w':World}{v:Value}{S:List (In×Value)}{go n:Nat}{sv:Nat->Value}{H T:Nat->Int}(h:kB w v S)(d:fU go n sv H T w)(c:bq go w w'):kB w' v S:=by
 obtain⟨a,b,_⟩:=d;exact World.ownsRow.kept h c (.inr fun e=>kM h b (by decide) e.symm)
theorem kB.form {w:World}{v:Value}{S:List (In×Value)}(h:kB w v S)(q:1<=S.length): ∃g c,v= .slice (some (ae g 0)) S.length c/\ ∀(j:Nat) (u:In×Value),S[j]? =some u->
  w.cell? (ae g (j*5))=some (ag u.1.op)/\w.cell? (ae g (j*5+1))=some (ag u.1.a)/\w.cell? (ae g (j*5+2))=some (ag u.1.b)/\w.cell? (ae g (j*5+3))=some (ag u.1.to)/\w.cell? (ae g (j*5+4))=some u.2:=by
 rcases h.2 with⟨_,e⟩|⟨g,cap,f,e,_,n,_,_,_,p⟩
 ·omega
 ·refine⟨g,cap,e,fun j u m=> ?_⟩;have k:=(aE.1 m).1
  have d: ∀(i:Nat) (v:Value),i<5->(iv u).toList[i]? =some v->w.cell? (ae g (j*5+i))=some v:=fun i v hi o=>by
   refine(a8 _ _ _ _ _ _ n).trans ?_;have l:(f.toList.take (S.length*5))[j*5+i]? =(jz S)[j*5+i]? :=(by rw[p]);rw[dH (by omega)]at l;rw[<-bv,l]
   have e2:S=S.take j++(u::S.drop (j+1)):=by
    conv=>lhs;rw[<-ie j S]
    congr 1;rw[bK k,(aE.1 m).2]
   rw[e2,rj,df (by rw[pM,eR];omega),pM,eR,fE (by omega),Nat.add_sub_cancel_left];show((iv u).toList++jz (S.drop (j+1)))[i]? =_;rw[dV (by rw[Fa];exact hi)];exact o
  exact⟨d 0 _ (by omega) rfl,d 1 _ (by omega) rfl,d 2 _ (by omega) rfl,d 3 _ (by omega) rfl,d 4 _ (by omega) rfl⟩
def Me (mea:Nat->Int×Int)(H T:Nat->Int)(k:Nat):Prop:=H k=(mea k).1/\T k=(mea k).2
def Okm (mea:Nat->Int×Int)(H T:Nat->Int)(k:Nat):Prop:=(H k=0/\T k=0)\/Me mea H T k
def lI (mea:Nat->Int×Int)(ρ:Nat->Nat)(n i:Nat)(H0 T0 H T:Nat->Int):Prop:= ∀k,k<n->k≠i->(ρ k<=ρ i->Okm mea H T k/\(Me mea H0 T0 k->Me mea H T k))/\(ρ i<ρ k->H k=H0 k/\T k=T0 k)
section
variable {mea:Nat->Int×Int} {ρ:Nat->Nat} {n i k0:Nat} {H0 T0 H T H' T':Nat->Int}
theorem lI.refl (h: ∀k,k<n->ρ k<=ρ i->Okm mea H0 T0 k):lI mea ρ n i H0 T0 H0 T0:=fun k a _=>⟨fun b=>⟨h k a b,id⟩,fun _=>⟨rfl,rfl⟩⟩
theorem lI.setH (h:lI mea ρ n i H0 T0 H T)(v:Int):lI mea ρ n i H0 T0 (upI H i v) T:=fun k b a=>by
 have:=h k b a;unfold Okm Me at this⊢;rw[za _ _ a];exact this
theorem lI.setT (h:lI mea ρ n i H0 T0 H T)(v:Int):lI mea ρ n i H0 T0 H (upI T i v):=fun k b a=>by
 have:=h k b a;unfold Okm Me at this⊢;rw[za _ _ a];exact this
theorem lI.pre (h:lI mea ρ n i H0 T0 H T)(c:ρ k0<ρ i): ∀k,k<n->ρ k<=ρ k0->Okm mea H T k:=fun k a b=>((h k a (fun e=>by subst e;omega)).1 (by omega)).1
theorem lI.call (h:lI mea ρ n i H0 T0 H T)(m:ρ k0<ρ i)(hi:i<n)(l:Me mea H' T' k0)(g:lI mea ρ n k0 H T H' T'):lI mea ρ n i H0 T0 H' T'/\H' i=H i/\T' i=T i:=by
 refine⟨fun k d f=>⟨fun c=> ?_,fun c=> ?_⟩,(g i hi (fun e=>by subst e;omega)).2 m⟩
 ·by_cases e:k=k0
  ·subst e;exact⟨.inr l,fun _=>l⟩
  ·have a:=(h k d f).1 c;by_cases j:ρ k<=ρ k0
   ·have b:=(g k d e).1 j;exact⟨b.1,fun q=>b.2 (a.2 q)⟩
   ·have b:=(g k d e).2 (by omega);unfold Okm Me at a⊢;rw[b.1,b.2];exact a
 ·have e:k≠k0:=fun e=>by subst e;omega
  have a:=(h k d f).2 c;have b:=(g k d e).2 (by omega);exact⟨b.1.trans a.1,b.2.trans a.2⟩
end
def xl (mea:Nat->Int×Int)(ρ:Nat->Nat)(go n:Nat)(sv:Nat->Value)(i:Nat)(H0 T0:Nat->Int)(w:World)(r:Ending)(w':World):Prop:=r= .returned (.agg #[sv i,ag (mea i).1,ag (mea i).2])/\ ∃H' T',fU go n sv H' T' w'/\Me mea H' T' i/\lI mea ρ n i H0 T0 H' T'/\bq go w w'
theorem Bg:prog.underlying 195=some (.struct (prog.fieldsOf 195)):=by kernel_rfl
end
end Go.Proofs.YtlkehieagdkgiaaGreatDoor
