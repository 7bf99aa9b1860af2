/- Texts of the proof. -/
import Derived.Test.YtlkehieagdkgiaaGreatDoorPe23
set_option maxRecDepth 100000
set_option maxHeartbeats 8000000
namespace Go.Proofs.YtlkehieagdkgiaaGreatDoor
open Go.Proofs.Tryz Go.RowKit Lx Vx Mx Msk
def stdE (e:Ex):Bool:= !(decide (e.kind=4)||decide (e.kind=5)||decide (e.kind=10))&&e.kids.attach.all fun k=>stdE k.1
 termination_by SizeOf.sizeOf e
 decreasing_by exact iZ k.2
theorem sW (e:Ex):stdE e=(!(decide (e.kind=4)||decide (e.kind=5)||decide (e.kind=10))&&e.kids.all stdE):=by
 rw[stdE];congr 1;rw[Bool.eq_iff_iff,dD,dD];exact⟨fun h k a=>h ⟨k,a⟩ (List.mem_attach _ _),fun h k _=>h k.1 k.2⟩
theorem ly {e:Ex}(h:stdE e=true):e.kind≠4/\e.kind≠5/\e.kind≠10:=by
 rw[sW,bz]at h;have a:=h.1;refine⟨fun e=> ?_,fun e=> ?_,fun e=> ?_⟩<;>simp[e]at a
theorem CX {e k:Ex}(h:stdE e=true)(a:k∈e.kids):stdE k=true:=by
 rw[sW,bz,dD]at h;exact h.2 k a
theorem I8 {e:Ex}(h:e.kids=[])(b:e.kind≠4)(c:e.kind≠5)(a:e.kind≠10):stdE e=true:=by
 rw[sW,h];simp[b,c,a]
def mnE (e:Ex):Nat->Bool:=fE (fun _=>false) 0 (fun _=>nev) e
theorem EU (d:Int->Bool)(day:Int)(a:List UInt8->Nat->Bool): ∀(N:Nat) (e:Ex),SizeOf.sizeOf e<=N->stdE e=true->fE d day a e=mnE e
 |0,e,f,_=>by cases e;simp at f
 |N+1,e,f,h=>by
  unfold mnE;rw[jG,jG];have b:e.kids.map (fE d day a)=e.kids.map (fE (fun _=>false) 0 (fun _=>nev)):=List.map_congr_left fun k b=>EU d day a N k (by have:=iZ b;omega) (CX h b);rw[b];obtain⟨g,i,c⟩:=ly h;unfold mY;simp only[ax g,ax i,ax c]
theorem CY {e:Ex}(h:stdE e=true)(b:Int->Bool)(day:Int)(a:List UInt8->Nat->Bool):fE b day a e=mnE e:=EU b day a _ e (aD _) h
def kG:List (Nat->List In)->Nat->List In
 |[],_=>[]
 |f::a,b=>f b++kG a (b+(f b).length)
def noC:Nat->List In:=fun _=>[]
def opK (k:Int):Int:=if k=9 then 5 else if k=6 then 2 else if k=7 then 3 else 4
def tG (num:List UInt8->Int)(e:Ex)(c:List (Nat->List In))(b:Nat):List In:=
 if stdE e=true then [⟨1,0,0,0,rs (mnE e) 1440⟩]
 else if e.kind=10 then [⟨8,num e.name,0,0,[]⟩]
 else if e.kind=4 then⟨6,e.a,0,((b+1+((c.getD 0 noC) (b+1)).length:Nat):Int),[]⟩::(c.getD 0 noC) (b+1)
 else if e.kind=5 then⟨7,e.a,e.b,((b+1+((c.getD 0 noC) (b+1)).length:Nat):Int),[]⟩::(c.getD 0 noC) (b+1)
 else kG c b++[⟨opK e.kind,if e.kind=9 then e.a else 0,0,0,[]⟩]
def dc (num:List UInt8->Int)(e:Ex)(b:Nat):List In:=tG num e (e.kids.attach.map fun k=>fun a=>dc num k.1 a) b
 termination_by SizeOf.sizeOf e
 decreasing_by exact iZ k.2
theorem ry (num:List UInt8->Int)(e:Ex)(b:Nat):dc num e b=tG num e (e.kids.map (dc num)) b:=by
 rw[dc];congr 1;have h:=congrArg (List.map (dc num)) (iD e.kids);rw[j7]at h;exact h
theorem pj {num:List UInt8->Int}{e:Ex}(h:stdE e=true)(b:Nat):dc num e b=[⟨1,0,0,0,rs (mnE e) 1440⟩]:=by
 rw[ry];unfold tG;rw[aB h]
theorem pT {num:List UInt8->Int}{e:Ex}(a:e.kind=10)(b:Nat):dc num e b=[⟨8,num e.name,0,0,[]⟩]:=by
 rw[ry];unfold tG;rw[ax (fun h=>(ly h).2.2 a),aB a]
theorem pU {num:List UInt8->Int}{e k:Ex}(c:e.kind=4)(f:e.kids[0]? =some k)(b:Nat):dc num e b=⟨6,e.a,0,((b+1+(dc num k (b+1)).length:Nat):Int),[]⟩::dc num k (b+1):=by
 rw[ry];have d:(e.kids.map (dc num)).getD 0 noC=dc num k:=by simp[List.getD,f]
 unfold tG;rw[ax (fun h=>(ly h).1 c),ax (by omega),aB c,d]
theorem oD {num:List UInt8->Int}{e k:Ex}(c:e.kind=5)(f:e.kids[0]? =some k)(b:Nat):dc num e b=⟨7,e.a,e.b,((b+1+(dc num k (b+1)).length:Nat):Int),[]⟩::dc num k (b+1):=by
 rw[ry];have d:(e.kids.map (dc num)).getD 0 noC=dc num k:=by simp[List.getD,f]
 unfold tG;rw[ax (fun h=>(ly h).2.1 c),ax (by omega),ax (by omega),aB c,d]
theorem po {num:List UInt8->Int}{e:Ex}(h:stdE e=false)(d:e.kind≠4)(f:e.kind≠5)(c:e.kind≠10)(b:Nat):dc num e b=kG (e.kids.map (dc num)) b++[⟨opK e.kind,if e.kind=9 then e.a else 0,0,0,[]⟩]:=by
 rw[ry];unfold tG;rw[ax (by rw[h];simp),ax c,ax d,ax f]
theorem Lh {e:Ex}(h:e.kids.length=2): ∃k m,e.kids=[k,m]:=by
 match hk:e.kids with
 |[]=>rw[hk]at h;cases h
 |[_]=>rw[hk]at h;cases h
 |[k,m]=>exact⟨k,m,rfl⟩
 |_::_::_::_=>rw[hk]at h;simp at h
theorem NE {e:Ex}(h:e.kids.length=1): ∃k,e.kids=[k]:=by
 match hk:e.kids with
 |[]=>rw[hk]at h;cases h
 |[k]=>exact⟨k,rfl⟩
 |_::_::_=>rw[hk]at h;simp at h
theorem qy {num:List UInt8->Int}{e k:Ex}(h:stdE e=false)(c:e.kind=9)(d:e.kids=[k])(b:Nat):dc num e b=dc num k b++[⟨5,e.a,0,0,[]⟩]:=by
 rw[po h (by omega) (by omega) (by omega),d];simp only[dO,fA,kG,gH];unfold opK;rw[aB c,aB c]
theorem rU {num:List UInt8->Int}{e k m:Ex}(h:stdE e=false)(c:e.kind=6\/e.kind=7\/e.kind=8)(a:e.kids=[k,m])(b:Nat):dc num e b=(dc num k b++dc num m (b+(dc num k b).length))++[⟨opK e.kind,0,0,0,[]⟩]:=by
 rw[po h (by omega) (by omega) (by omega),a];simp only[dO,fA,kG,gH];rw[ax (by omega)]
theorem oF {e:Ex}(h:OKE e)(f:stdE e=false):(e.kind=4/\ ∃k,e.kids=[k])\/(e.kind=5/\ ∃k,e.kids=[k])\/(e.kind=9/\ ∃k,e.kids=[k])\/e.kind=10\/((e.kind=6\/e.kind=7\/e.kind=8)/\ ∃k m,e.kids=[k,m]):=by
 obtain⟨g,i,a,_,_⟩:=h.kinds;unfold kidsP at a;by_cases q:e.kind=4\/e.kind=5\/e.kind=9
 ·rw[aB q]at a;obtain⟨k,b⟩:=NE a;rcases q with q|q|q
  ·exact .inl ⟨q,k,b⟩
  ·exact .inr (.inl ⟨q,k,b⟩)
  ·exact .inr (.inr (.inl ⟨q,k,b⟩))
 ·rw[ax q]at a;by_cases c:e.kind=6\/e.kind=7\/e.kind=8
  ·rw[aB c]at a;obtain⟨k,m,b⟩:=Lh a;exact .inr (.inr (.inr (.inr ⟨c,k,m,b⟩)))
  ·rw[ax c]at a;by_cases d:e.kind=10
   ·exact .inr (.inr (.inr (.inl d)))
   ·have:=I8 (iu.1 a) (by omega) (by omega) d;rw[f]at this;cases this
theorem A7: ∀(l:List (Int×Int)) (last:Int),good last 1440 l->risL l last=true
 |[],_,_=>rfl
 |s::l,last,⟨b,c,d,a⟩=>by
  unfold risL;rw[ax (by omega)];exact A7 l s.2 a
theorem NF (f:Nat->Bool):risL (rs f 1440) (-1)=true:=A7 _ _ (EQ f 1440).good
def jj (e:Ex):Nat:=1+(e.kids.attach.map fun k=>jj k.1).sum
 termination_by SizeOf.sizeOf e
 decreasing_by exact iZ k.2
theorem mC (e:Ex):jj e=1+(e.kids.map jj).sum:=by
 rw[jj];congr 2;have h:=congrArg (List.map jj) (iD e.kids);rw[j7]at h;exact h
theorem CZ (e:Ex):1<=jj e:=by rw[mC];omega
theorem mn (num:List UInt8->Int): ∀(N:Nat) (e:Ex),SizeOf.sizeOf e<=N->OKE e-> ∀b,1<=(dc num e b).length/\(dc num e b).length<=jj e
 |0,e,f,_,_=>by cases e;simp at f
 |N+1,e,f,h,b=>by
  have c:=mC e;cases hs:stdE e with
  |true=>
   rw[pj hs];exact⟨by simp,by simpa using CZ e⟩
  |false=>
   have d: ∀k∈e.kids,∀b,1<=(dc num k b).length/\(dc num k b).length<=jj k:=fun k a b=>mn num N k (by have:=iZ a;omega) (h.kid a) b;rcases oF h hs with⟨q,k,a⟩|⟨q,k,a⟩|⟨q,k,a⟩|q|⟨q,k,m,a⟩
   ·rw[pU q (by rw[a];rfl)];have:=d k (by rw[a];simp) (b+1);rw[a]at c;simp only[dO,fA,jg,List.sum_nil]at c;rw[bV];omega
   ·rw[oD q (by rw[a];rfl)];have:=d k (by rw[a];simp) (b+1);rw[a]at c;simp only[dO,fA,jg,List.sum_nil]at c;rw[bV];omega
   ·rw[qy hs q a];have:=d k (by rw[a];simp) b;rw[a]at c;simp only[dO,fA,jg,List.sum_nil]at c;rw[aP,d9];omega
   ·rw[pT q];exact⟨by simp,by simpa using CZ e⟩
   ·rw[rU hs q a];have g:=d k (by rw[a];simp) b;have i:=d m (by rw[a];simp) (b+(dc num k b).length);rw[a]at c;simp only[dO,fA,jg,List.sum_nil]at c;rw[aP,aP,d9];omega
theorem pV: ∀(N:Nat) (e:Ex) (c n:Nat),SizeOf.sizeOf e<=N->(shapeP e c n).1=0->(shapeP e c n).2=n+jj e/\n+jj e<=600
 |0,e,_,_,r,_=>by cases e;simp at r
 |N+1,e,c,n,r,h=>by
  rw[kL]at h⊢;by_cases q:600<n+1\/40<c
  ·rw[aB q]at h;cases h
  ·rw[ax q]at h⊢;by_cases j:aloneP e≠0
   ·rw[aB j]at h;exact absurd h j
   ·rw[ax j]at h⊢
    have p: ∀(d:List Ex) (m:Nat),(∀k∈d,SizeOf.sizeOf k<=N)->m<=600->(ii d (c+1) (0,m)).1=0->(ii d (c+1) (0,m)).2=m+(d.map jj).sum/\m+(d.map jj).sum<=600:=by
     intro d;induction d with
     |nil=>intro m _ s _;exact⟨by simp[ii],by simpa using s⟩
     |cons k d x=>
      intro m g s f;rw[jX]at f⊢;rw[ax (by simp)]at f⊢
      have i:(shapeP k (c+1) m).1=0:=by
       by_cases o:(shapeP k (c+1) m).1=0
       ·exact o
       ·rw[kM o]at f;exact absurd f o
      obtain⟨t,u⟩:=pV N k (c+1) m (g k bq) i;have v:shapeP k (c+1) m=(0,m+jj k):=Prod.ext i t;rw[v]at f⊢;obtain⟨b1,b2⟩:=x (m+jj k) (fun y l=>g y (bL _ l)) u f;rw[dO,jg];exact⟨by rw[b1];omega,by omega⟩
    obtain⟨a,b⟩:=p e.kids (n+1) (fun k w=>by have:=iZ w;omega) (by omega) h;rw[mC];exact⟨by rw[a];omega,by omega⟩
def kB (l:List In)(b:Nat)(c:List In):Prop:= ∀j,j<c.length->l[b+j]? =c[j]?
theorem kB.left {l:List In}{b:Nat}{c d:List In}(h:kB l b (c++d)):kB l b c:=fun j a=>by
 rw[h j (by rw[aP];omega),dT a]
theorem kB.right {l:List In}{b:Nat}{c d:List In}(h:kB l b (c++d)):kB l (b+c.length) d:=fun j a=>by
 have:=h (c.length+j) (by rw[aP];omega);rw[dB (by omega),Nat.add_sub_cancel_left,<-Nat.add_assoc]at this;exact this
theorem kB.one {l:List In}{b:Nat}{x:In}{d:List In}(h:kB l b (x::d)):l[b]? =some x:=by
 have:=h 0 (by simp);simpa using this
theorem kB.tail {l:List In}{b:Nat}{x:In}{d:List In}(h:kB l b (x::d)):kB l (b+1) d:=kB.right (c:=[x]) h
structure jH (l:List In)(b n R N:Nat):Prop where
 fin:hAt l (b+n)=hAt l b+1
 tk: ∀j x,b<=j->j<b+n->l[j]? =some x->Vx.tk x+hAt l b<=hAt l j
 to: ∀j x,b<=j->j<b+n->l[j]? =some x->isG x->hAt l x.to.toNat=hAt l j+1
 ins: ∀j x,b<=j->j<b+n->l[j]? =some x->gg x j N R=0
theorem Qf {x:In}(a:x.op=1)(h:risL x.sp (-1)=true)(j N R:Nat):gg x j N R=0:=by
 unfold gg;rw[ax (by omega),aB a,aB h]
theorem NG {x:In}(a:x.op=2\/x.op=3\/x.op=4)(j N R:Nat):gg x j N R=0:=by
 unfold gg;rw[aB a]
theorem Qg {x:In}(b:x.op=5)(h:x.a≠0/\ -1439<=x.a/\x.a<=1439)(j N R:Nat):gg x j N R=0:=by
 unfold gg;rw[ax (by omega),ax (by omega),aB b,aB h]
theorem Qh {x:In}{j N:Nat}(b:x.op=6)(c:(j:Int)+2<=x.to/\x.to<=N)(h:1<=x.a/\x.a<=127)(R:Nat):gg x j N R=0:=by
 unfold gg;rw[ax (by omega),ax (by omega),ax (by omega),aB b,aB c,aB h]
theorem Qi {x:In}{j N:Nat}(c:x.op=7)(d:(j:Int)+2<=x.to/\x.to<=N)(h:0<=x.a/\x.a<=x.b/\x.b<146097)(R:Nat):gg x j N R=0:=by
 unfold gg;rw[ax (by omega),ax (by omega),ax (by omega),ax (by omega),aB c,aB d,aB h]
theorem Qj {x:In}{R:Nat}(b:x.op=8)(h:0<=x.a/\x.a<R)(j N:Nat):gg x j N R=0:=by
 unfold gg;rw[ax (by omega),ax (by omega),ax (by omega),ax (by omega),ax (by omega),aB b,aB h]
theorem Qk {x:In}(a:x.op=1\/x.op=8):eff x=1:=by unfold eff;rw[aB a]
theorem Ql {x:In}(a:x.op=2\/x.op=3\/x.op=4):eff x= -1:=by unfold eff;rw[ax (by omega),aB a]
theorem L6 {x:In}(a:x.op=5\/x.op=6\/x.op=7):eff x=0:=by unfold eff;rw[ax (by omega),ax (by omega)]
theorem Ph {x:In}(a:x.op=1\/x.op=6\/x.op=7\/x.op=8):Vx.tk x=0:=by unfold Vx.tk;rw[ax (by omega),ax (by omega)]
theorem QR {x:In}(a:x.op=5):Vx.tk x=1:=by unfold Vx.tk;rw[aB a]
theorem QS {x:In}(a:x.op=2\/x.op=3\/x.op=4):Vx.tk x=2:=by unfold Vx.tk;rw[ax (by omega),aB a]
theorem jH.one {l:List In}{b R N:Nat}{x:In}(f:l[b]? =some x)(g:x.op=1\/x.op=8)(hi:gg x b N R=0):jH l b 1 R N:=by
 refine⟨by rw[jN f,Qk g],fun j y d e a=> ?_,fun j y d e a c=> ?_,fun j y d e a=> ?_⟩<;>
  (obtain rfl:j=b:=by omega)<;>(rw[f]at a;cases aN a)
 ·rw[Ph (by omega)];omega
 ·rcases c with c|c<;>omega
 ·exact hi
theorem jH.guard {l:List In}{b n R N:Nat}{x:In}(c:l[b]? =some x)(o:x.op=6\/x.op=7)(f:x.to=((b+1+n:Nat):Int))(hi:gg x b N R=0)(h:jH l (b+1) n R N):jH l b (n+1) R N:=by
 have d:hAt l (b+1)=hAt l b:=by rw[jN c,L6 (by omega)];omega
 have k:b+(n+1)=b+1+n:=by omega
 refine⟨by rw[k,h.fin,d],fun j y g i a=> ?_,fun j y g i a m=> ?_,fun j y g i a=> ?_⟩<;>by_cases e:j=b
 ·subst e;rw[c]at a;cases aN a;rw[Ph (by omega)];omega
 ·have:=h.tk j y (by omega) (by omega) a;rw[d]at this;exact this
 ·subst e;rw[c]at a;cases aN a;rw[f,dj,h.fin,d]
 ·exact h.to j y (by omega) (by omega) a m
 ·subst e;rw[c]at a;cases aN a;exact hi
 ·exact h.ins j y (by omega) (by omega) a
theorem jH.shift {l:List In}{b n R N:Nat}{x:In}(h:jH l b n R N)(e:l[b+n]? =some x)(i:x.op=5)(hi:gg x (b+n) N R=0):jH l b (n+1) R N:=by
 refine⟨by rw[<-Nat.add_assoc,jN e,L6 (by omega),h.fin];omega,fun j y c g a=> ?_,fun j y c g a d=> ?_,fun j y c g a=> ?_⟩<;>by_cases f:j=b+n
 ·subst f;rw[e]at a;cases aN a;rw[QR i,h.fin];omega
 ·exact h.tk j y c (by omega) a
 ·subst f;rw[e]at a;cases aN a;rcases d with d|d<;>omega
 ·exact h.to j y c (by omega) a d
 ·subst f;rw[e]at a;cases aN a;exact hi
 ·exact h.ins j y c (by omega) a
theorem jH.pair {l:List In}{b n m R N:Nat}{x:In}(h:jH l b n R N)(f:jH l (b+n) m R N)(g:l[b+n+m]? =some x)(k:x.op=2\/x.op=3\/x.op=4):jH l b (n+m+1) R N:=by
 have p:=h.fin;have q:=f.fin;refine⟨by rw[show b+(n+m+1)=b+n+m+1 by omega,jN g,Ql k];omega,fun j y d o a=> ?_,fun j y d o a e=> ?_,fun j y d o a=> ?_⟩<;>by_cases i:j=b+n+m
 ·subst i;rw[g]at a;cases aN a;rw[QS k];omega
 ·by_cases c:j<b+n
  ·exact h.tk j y d c a
  ·have:=f.tk j y (by omega) (by omega) a;omega
 ·subst i;rw[g]at a;cases aN a;rcases e with e|e<;>omega
 ·by_cases c:j<b+n
  ·exact h.to j y d c a e
  ·exact f.to j y (by omega) (by omega) a e
 ·subst i;rw[g]at a;cases aN a;exact NG k _ _ _
 ·by_cases c:j<b+n
  ·exact h.ins j y d c a
  ·exact f.ins j y (by omega) (by omega) a
theorem EV {k:Int}(h:k=6\/k=7\/k=8):opK k=2\/opK k=3\/opK k=4:=by
 unfold opK;rcases h with rfl|rfl|rfl<;>simp
theorem vH {e k:Ex}(a:k∈e.kids){x:List UInt8}(b:x∈nms k):x∈nms e:=by
 rw[md,da];right;unfold jL;exact List.mem_flatten.2 ⟨nms k,dR.2 ⟨k,a,rfl⟩,b⟩
theorem vI {e:Ex}(h:e.kind=10):e.name∈nms e:=by rw[md,aB h];simp
theorem I9 {num:List UInt8->Int}{R N:Nat}{l:List In}: ∀(M:Nat) (e:Ex),SizeOf.sizeOf e<=M->OKE e->(∀x∈nms e,0<=num x/\num x<R)-> ∀b,kB l b (dc num e b)->b+(dc num e b).length<=N->jH l b (dc num e b).length R N
 |0,e,s,_,_,_,_,_=>by cases e;simp at s
 |M+1,e,s,h,t,b,c,n=>by
  have p: ∀k∈e.kids,∀j,kB l j (dc num k j)->j+(dc num k j).length<=N->jH l j (dc num k j).length R N:=fun k d j=>I9 M k (by have:=iZ d;omega) (h.kid d) (fun x v=>t x (vH d v)) j;have i:=h.kinds.2.2.2.1;cases hstd:stdE e with
  |true=>
   rw[pj hstd]at c⊢;exact jH.one c.one (.inl rfl) (Qf rfl (NF _) _ _ _)
  |false=>
   rcases oF h hstd with⟨q,k,d⟩|⟨q,k,d⟩|⟨q,k,d⟩|q|⟨q,k,m,d⟩
   ·have g:k∈e.kids:=(by rw[d];simp);have u:=(mn num _ k (aD _) (h.kid g) (b+1)).1;unfold rangeP at i;rw[ax (by omega),aB q]at i;have f:=gj i;rw[pU q (by rw[d];rfl)]at c n⊢;rw[bV]at n⊢;refine jH.guard c.one (.inl rfl) rfl (Qh rfl ⟨?_,?_⟩ ⟨f.1,?_⟩ _) (p k g (b+1) c.tail (by omega))
    ·show(b:Int)+2<=((b+1+_:Nat):Int);omega
    ·show((b+1+_:Nat):Int)<=_;omega
    ·show e.a<=127;omega
   ·have g:k∈e.kids:=(by rw[d];simp);have u:=(mn num _ k (aD _) (h.kid g) (b+1)).1;unfold rangeP at i;rw[ax (by omega),ax (by omega),aB q]at i;have f:=gj i;rw[oD q (by rw[d];rfl)]at c n⊢;rw[bV]at n⊢;refine jH.guard c.one (.inr rfl) rfl (Qi rfl ⟨?_,?_⟩ f _) (p k g (b+1) c.tail (by omega))
    ·show(b:Int)+2<=((b+1+_:Nat):Int);omega
    ·show((b+1+_:Nat):Int)<=_;omega
   ·have g:k∈e.kids:=(by rw[d];simp);unfold rangeP at i;rw[ax (by omega),ax (by omega),ax (by omega),aB q]at i;have f:=gj i;rw[qy hstd q d]at c n⊢;rw[aP,d9]at n⊢;exact jH.shift (p k g b c.left (by omega)) c.right.one rfl (Qg rfl ⟨f.1,by show-1439<=e.a;omega,by show e.a<=1439;omega⟩ _ _ _)
   ·rw[pT q]at c⊢;exact jH.one c.one (.inr rfl) (Qj rfl (t _ (vI q)) _ _)
   ·have g:k∈e.kids:=(by rw[d];simp);have r:m∈e.kids:=(by rw[d];simp);rw[rU hstd q d]at c n⊢;rw[aP,aP,d9]at n⊢;have o:=c.right.one;rw[aP,<-Nat.add_assoc]at o;exact jH.pair (p k g b c.left.left (by omega)) (p m r _ c.left.right (by omega)) o (EV q)
theorem Ja {num:List UInt8->Int}{R:Nat}{e:Ex}(h:OKE e)(d: ∀x∈nms e,0<=num x/\num x<R):mw (dc num e 0)/\ ∀j x,(dc num e 0)[j]? =some x->gg x j (dc num e 0).length R=0:=by
 have f:kB (dc num e 0) 0 (dc num e 0):=fun j _=>by rw[cY]
 have q:=I9 (N:=(dc num e 0).length) (R:=R) _ e (aD _) h d 0 f (by omega)
 have lt: ∀{j:Nat} {x:In},(dc num e 0)[j]? =some x->j<0+(dc num e 0).length:=fun c=>by
  have:=(aF.1 c).1;omega
 refine⟨⟨fun j x a=> ?_,fun j x a b=>q.to j x (dF _) (lt a) a b,?_⟩,fun j x a=>q.ins j x (dF _) (lt a) a⟩
 ·have:=q.tk j x (dF _) (lt a) a;simpa[hAt] using this
 ·have:=q.fin;simpa[hAt] using this
theorem A8 {cs cs':List Cd}{l:List In}: ∀(j:Nat),(∀c x,c<j->l[c]? =some x->x.op=8->(cs.getD x.a.toNat cd0).high=(cs'.getD x.a.toNat cd0).high)->j<=l.length->mxH cs l j=mxH cs' l j
 |0,_,_=>rfl
 |j+1,h,g=>by
  have e:=A8 (cs:=cs) (cs':=cs') (l:=l) j (fun c x f=>h c x (by omega)) (by omega);have d:l[j]? =some l[j]:=ay (by omega);rw[kT d,kT d,e];by_cases b:(l[j]).op=8
  ·rw[aB b,aB b,h j _ (by omega) d b]
  ·rw[ax b,ax b]
theorem A9 {cs cs':List Cd}{l:List In}: ∀(j:Nat),(∀c x,c<j->l[c]? =some x->x.op=8->(cs.getD x.a.toNat cd0).steps=(cs'.getD x.a.toNat cd0).steps)->j<=l.length->stS cs l j=stS cs' l j
 |0,_,_=>rfl
 |j+1,h,g=>by
  have e:=A9 (cs:=cs) (cs':=cs') (l:=l) j (fun c x f=>h c x (by omega)) (by omega);have d:l[j]? =some l[j]:=ay (by omega);rw[kh d,kh d,e];by_cases b:(l[j]).op=8
  ·rw[aB b,aB b,h j _ (by omega) d b]
  ·rw[ax b,ax b]
def fc (C:List (List In))(m:Nat->Int×Int):List Cd:=(List.range C.length).map fun k=>⟨C.getD k [],(m k).1,(m k).2⟩
theorem uF (C:List (List In))(m:Nat->Int×Int):(fc C m).length=C.length:=by simp[fc]
theorem mZ {C:List (List In)}{m:Nat->Int×Int}{k:Nat}(h:k<C.length):(fc C m).getD k cd0=⟨C.getD k [],(m k).1,(m k).2⟩:=by
 have:(fc C m)[k]? =some ⟨C.getD k [],(m k).1,(m k).2⟩:=by
  unfold fc;rw[a8,List.getElem?_range h];rfl
 simp[List.getD,this]
def mG (C:List (List In))(m:Nat->Int×Int)(i:Nat):Int×Int:=(min (mxH (fc C m) (C.getD i []) (C.getD i []).length) 101,min (stS (fc C m) (C.getD i []) (C.getD i []).length) 20001)
def oG (C:List (List In)):Nat->Nat->Int×Int
 |0,_=>(0,0)
 |f+1,i=>mG C (oG C f) i
structure sX (C:List (List In))(ρ:Nat->Nat):Prop where
 lt: ∀(i j:Nat) (x:In),i<C.length->(C.getD i [])[j]? =some x->x.op=8->0<=x.a/\x.a.toNat<C.length/\ρ x.a.toNat<ρ i
theorem yZ {C:List (List In)}{ρ:Nat->Nat}(h:sX C ρ){m f:Nat->Int×Int}{i:Nat}(hi:i<C.length)(n: ∀k,k<C.length->ρ k<ρ i->m k=f k):mG C m i=mG C f i:=by
 have e: ∀b x,b<(C.getD i []).length->(C.getD i [])[b]? =some x->x.op=8->(fc C m).getD x.a.toNat cd0=(fc C f).getD x.a.toNat cd0:=fun b x _ p o=>by
  obtain⟨_,c,d⟩:=h.lt i b x hi p o;rw[mZ c,mZ c,n _ c d]
 have j:mxH (fc C m) (C.getD i []) (C.getD i []).length=mxH (fc C f) (C.getD i []) (C.getD i []).length:=A8 _ (fun b x g c d=>by rw[e b x g c d]) (aD _);have l:stS (fc C m) (C.getD i []) (C.getD i []).length=stS (fc C f) (C.getD i []) (C.getD i []).length:=A9 _ (fun b x g c d=>by rw[e b x g c d]) (aD _);unfold mG;rw[j,l]
theorem Ba {C:List (List In)}{ρ:Nat->Nat}(h:sX C ρ): ∀(f a i:Nat),i<C.length->ρ i<f->ρ i<a->oG C f i=oG C a i
 |0,_,_,_,b,_=>by omega
 |_+1,0,_,_,_,c=>by omega
 |f+1,a+1,i,hi,b,c=>by
  unfold oG;exact yZ h hi fun k d e=>Ba h f a k d (by omega) (by omega)
theorem NH {C:List (List In)}{ρ:Nat->Nat}(h:sX C ρ){N:Nat}(a: ∀i,i<C.length->ρ i<=N){i:Nat}(hi:i<C.length):oG C (N+1) i=mG C (oG C (N+1)) i:=by
 conv=>lhs;unfold oG
 have c:=a i hi;exact yZ h hi fun k b d=>Ba h N (N+1) k b (by omega) (by have:=a k b;omega)
theorem yD (x:In): -1<=eff x/\eff x<=1:=by
 unfold eff;split
 ·omega
 ·split<;>omega
theorem oj (l:List In): ∀j:Nat,-(j:Int)<=hAt l j/\hAt l j<=(j:Int)
 |0=>by simp[hAt]
 |j+1=>by
  have a:=oj l j;have e:=yD (l.getD j in0);simp only[hAt];omega
structure rV (cs:List Cd):Prop where
 hi: ∀k,0<=(cs.getD k cd0).high/\(cs.getD k cd0).high<=101
 st: ∀k,0<=(cs.getD k cd0).steps/\(cs.getD k cd0).steps<=20001
theorem sN {b:List Cd}(h:rV b)(l:List In): ∀j:Nat,0<=mxH b l j/\mxH b l j<=(j:Int)+101
 |0=>by simp[mxH]
 |j+1=>by
  have d:=sN h l j;have e:=oj l j;have c:=oj l (j+1);have q:=h.hi (l.getD j in0).a.toNat;simp only[mxH];split<;>omega
theorem sP {b:List Cd}(h:rV b)(l:List In): ∀j:Nat,(j:Int)<=stS b l j/\stS b l j<=(j:Int)*20002
 |0=>by simp[stS]
 |j+1=>by
  have c:=sP h l j;have q:=h.st (l.getD j in0).a.toNat;simp only[stS];split<;>omega
theorem we {C:List (List In)}{m:Nat->Int×Int}(h: ∀k,k<C.length->(0<=(m k).1/\(m k).1<=101)/\(0<=(m k).2/\(m k).2<=20001)):rV (fc C m):=by
 constructor<;>intro k<;>by_cases a:k<C.length
 ·rw[mZ a];exact(h k a).1
 ·have:(fc C m).getD k cd0=cd0:=by
   have:(fc C m)[k]? =none:=eO (by rw[uF];omega);simp[List.getD,this]
  rw[this];simp[cd0]
 ·rw[mZ a];exact(h k a).2
 ·have:(fc C m).getD k cd0=cd0:=by
   have:(fc C m)[k]? =none:=eO (by rw[uF];omega);simp[List.getD,this]
  rw[this];simp[cd0]
theorem EW {C:List (List In)}{m:Nat->Int×Int}(h:rV (fc C m))(i:Nat):(0<=(mG C m i).1/\(mG C m i).1<=101)/\(0<=(mG C m i).2/\(mG C m i).2<=20001)/\(1<=(C.getD i []).length->1<=(mG C m i).2):=by
 have a:=sN h (C.getD i []) (C.getD i []).length;have b:=sP h (C.getD i []) (C.getD i []).length;refine⟨⟨?_,?_⟩,⟨?_,?_⟩,fun c=> ?_⟩<;>simp only[mG]<;>omega
theorem EX (C:List (List In)): ∀(f i:Nat),(0<=(oG C f i).1/\(oG C f i).1<=101)/\(0<=(oG C f i).2/\(oG C f i).2<=20001)
 |0,i=>by simp[oG]
 |f+1,i=>by
  have h:=EW (C:=C) (we (C:=C) fun k _=>EX C f k) i;exact⟨h.1,h.2.1⟩
theorem Gr (C:List (List In))(f:Nat):rV (fc C (oG C f)):=we fun k _=>EX C f k
section
variable {B:Nat->Prop}
def vJ (e:Ex)(w:World)(r:Ending)(w':World):Prop:=r= .returned (.bool (stdE e))/\aq w w'
def Qm (w:World)(sl:Value)(d:List Ex):Prop:=
 ∃g o c:Nat,sl= .slice (some (ae g o)) d.length c/\d.length<9223372036854775808/\ ∀(j:Nat) (k:Ex),d[j]? =some k-> ∃(p:Option Addr) (q:Nat),
  w.cell? (ae g (o+j*5))=some (ag k.kind)/\w.cell? (ae g (o+j*5+1))=some (ag k.a)/\w.cell? (ae g (o+j*5+2))=some (ag k.b)/\
  w.cell? (ae g (o+j*5+3))=some (.string ⟨k.name.toArray⟩)/\w.cell? (ae g (o+j*5+4))=some (.slice p k.kids.length q)/\
  ∀W:World,aq w W->Calls prog 155 #[.agg #[ag k.kind,ag k.a,ag k.b,.string ⟨k.name.toArray⟩,.slice p k.kids.length q]] W (vJ k W)
theorem Lk {a:List Ex}{j:Nat}{k:Ex}(h:a[j]? =some k):(a.drop j).all stdE=(stdE k&&(a.drop (j+1)).all stdE):=by
 obtain⟨b,c⟩:=aF.1 h;rw[bJ b,c];rfl
theorem sx (e:Ex)(p:Option Addr)(c:Nat)(w:World)(J:e.kids=[]\/Qm w (.slice p e.kids.length c) e.kids)(Z:e.kids.length<9223372036854775808):
  Calls prog 155 #[.agg #[ag e.kind,ag e.a,ag e.b,.string ⟨e.name.toArray⟩,.slice p e.kids.length c]] w (vJ e w):=by
 have i:=am w (.cells #[ag e.kind,ag e.a,ag e.b,.string ⟨e.name.toArray⟩,.slice p e.kids.length c] 84);have A:=aG w (.cells #[ag e.kind,ag e.a,ag e.b,.string ⟨e.name.toArray⟩,.slice p e.kids.length c] 84);generalize N:w.alloc (.cells #[ag e.kind,ag e.a,ag e.b,.string ⟨e.name.toArray⟩,.slice p e.kids.length c] 84)=wA at*;have z0:=ak 0 A;have z4:=ak 4 A;generalize L:stdE e=X;have m:Rb (stdE e=X):=L;unfold vJ;rw[L];clear L;by_cases q:e.kind=4
 ·have l:Rb (X=false):=by
   show _=_;rw[<-m.o];cases hs:stdE e with
   |false=>rfl
   |true=>exact absurd q (ly hs).1
  have W:(e.kind==4)=true:=(by simp[q]);clear J m q;go_enter func155,ntmps155;go_wp2_with fail;go_ret;rw[l.o];exact⟨rfl,i⟩
 have W:(e.kind==4)=false:=by simpa using q
 by_cases B:e.kind=5
 ·have l:Rb (X=false):=by
   show _=_;rw[<-m.o];cases hs:stdE e with
   |false=>rfl
   |true=>exact absurd B (ly hs).2.1
  have Y:(e.kind==5)=true:=(by simp[B]);clear J m q B;go_enter func155,ntmps155;go_wp2_with fail;go_ret;rw[l.o];exact⟨rfl,i⟩
 have Y:(e.kind==5)=false:=by simpa using B
 by_cases d:e.kind=10
 ·have l:Rb (X=false):=by
   show _=_;rw[<-m.o];cases hs:stdE e with
   |false=>rfl
   |true=>exact absurd d (ly hs).2.2
  have C:(e.kind==10)=true:=(by simp[d]);clear J m q B d;go_enter func155,ntmps155;go_wp2_with fail;go_ret;rw[l.o];exact⟨rfl,i⟩
 have C:(e.kind==10)=false:=by simpa using d
 have Q:Rb ((e.kids.drop 0).all stdE=X):=by
  show _=_;rw[<-m.o,sW,List.drop_zero];simp[q,B,d]
 clear m q B d;go_enter func155,ntmps155;go_wp2_with fail;go_loopw [4,14] (fun _ t wr=> ∃j:Nat,t=ag (j:Int)/\j<=e.kids.length/\(e.kids.drop j).all stdE=X/\aq w wr) (fun _ t _=>e.kids.length-(intOf t).toNat);case atStart=>exact⟨0,rfl,by omega,Q.o,i⟩
 case round=>
  obtain⟨j,rfl,hj,f,u⟩:=hrel;clear Q z0 z4 A i N W Y C;have aa:(0:Int)<=(j:Int):=(by omega);by_cases z:j<e.kids.length
  ·have G:(j:Int)<(e.kids.length:Int):=(by omega);obtain⟨k,x⟩: ∃k,e.kids[j]? =some k:=⟨e.kids[j],ay z⟩
   rw[Lk x]at f;have F:e.kids≠[]:=fun h=>(by rw[h]at z;simp at z);obtain⟨g,o,c',M,_,n⟩:=J.resolve_left F;obtain⟨P,K,R,S,T,U,V,I⟩:=n j k x;have f0:=aj u R;have f1:=aj u S;have f2:=aj u T;have f3:=aj u U;have f4:=aj u V;have E:=am wr (.cells #[ag k.kind,ag k.a,ag k.b,.string ⟨k.name.toArray⟩,.slice P k.kids.length K] 84);have H:=aG wr (.cells #[ag k.kind,ag k.a,ag k.b,.string ⟨k.name.toArray⟩,.slice P k.kids.length K] 84);have v:=aw u E;have cR:=I _ v;injection M with e1 e2 e3;subst e1;subst e3;clear R S T U V I n F x E;have s:Rb ((stdE k&&(e.kids.drop (j+1)).all stdE)=X):=f;unfold vJ at cR;clear f;generalize stdE k=y at*;generalize O:wr.alloc (.cells #[ag k.kind,ag k.a,ag k.b,.string ⟨k.name.toArray⟩,.slice P k.kids.length K] 84)=wB at*;go_wp2_with(refine aR rfl 84 _ rfl _ rfl _ _ _ _ H fo rfl (by kernel_rfl) ?_)
   refine cR.mono ?_;rintro r w3 ⟨rfl,b3⟩;have D:=aw v b3;clear cR H O f0 f1 f2 f3 f4 b3 v;cases y with
   |false=>
    have l:Rb (X=false):=(by show _=_;rw[<-s.o];rfl);clear s;go_wp2_with fail;go_ret;rw[l.o];exact⟨rfl,D⟩
   |true=>
    go_wp2_with fail;go_roundw;case rel=>exact⟨j+1,by go_num,by omega,by rw[<-s.o];rfl,D⟩
    case measure=>simp[intOf];omega
  ·have G: ¬(j:Int)<(e.kids.length:Int):=(by omega);have l:Rb (X=true):=(by show _=_;rw[<-f,List.drop_eq_nil_of_le (by omega)];rfl);clear f;go_wp2_with fail;go_ret;rw[l.o];exact⟨rfl,u⟩
theorem Gt: ∀(d:Nat) (e:Ex) (sl:Value) (w:World),fP B d w sl e.kids->Calls prog 155 #[exV e sl] w (vJ e w):=by
 intro d;induction d with
 |zero=>
  intro e sl w a;obtain⟨p,c,rfl⟩:=a.form;exact sx e p c w (.inl a.1) (by rw[a.1];decide)
 |succ d z=>
  intro e sl w a;obtain⟨p,c,i⟩:=a.form;subst i;rcases a with⟨h,_⟩|⟨g,o,m,D,y,l,b⟩
  ·exact sx e p c w (.inl h) (by rw[h];decide)
  ·refine sx e p c w (.inr ⟨g,o,m,y,l,fun j k v=> ?_⟩) l;obtain⟨x,E,c0,c1,n,q,s,r⟩:=b j k v;obtain⟨A,C,rfl⟩:=r.form;exact⟨A,C,c0,c1,n,q,s,fun W u=>z k _ W (r.kept fun t _ f=>u.block t f)⟩
end
theorem EZ: ∀(N:Nat) (e:Ex),SizeOf.sizeOf e<=N->stdE e=true->nms e=[]
 |0,e,a,_=>by cases e;simp at a
 |N+1,e,a,h=>by
  rw[md,ax (ly h).2.2,List.nil_append];unfold jL;rw[List.flatten_eq_nil_iff];intro x c;obtain⟨k,b,rfl⟩:=dR.1 c;exact EZ N k (by have:=iZ b;omega) (CX h b)
theorem za: ∀(N:Nat) (e:Ex) (a n b l:Nat),SizeOf.sizeOf e<=N->b<=a->l<=n->(shapeP e a n).1=0->(shapeP e b l).1=0
 |0,e,_,_,_,_,t,_,_,_=>by cases e;simp at t
 |N+1,e,a,n,b,l,t,B,C,h=>by
  have A:=h;rw[kL]at h⊢;by_cases s:600<n+1\/40<a
  ·rw[aB s]at h;cases h
  ·rw[ax s]at h;rw[ax (by omega)];by_cases o:aloneP e≠0
   ·rw[aB o]at h;exact absurd h o
   ·rw[ax o]at h⊢
    have r: ∀(g:List Ex) (m c:Nat),(∀k∈g,SizeOf.sizeOf k<=N)->c<=m->(ii g (a+1) (0,m)).1=0->(ii g (b+1) (0,c)).1=0:=by
     intro g;induction g with
     |nil=>intro m c _ _ _;rfl
     |cons k g y=>
      intro m c i x f;rw[jX]at f⊢;rw[ax (by simp)]at f⊢
      have d:(shapeP k (a+1) m).1=0:=by
       by_cases q:(shapeP k (a+1) m).1=0
       ·exact q
       ·rw[kM q]at f;exact absurd f q
      have j:=za N k (a+1) m (b+1) c (i k bq) (by omega) x d;obtain⟨u,_⟩:=pV _ k (a+1) m (aD _) d;obtain⟨v,_⟩:=pV _ k (b+1) c (aD _) j;rw[show shapeP k (a+1) m=(0,m+jj k) from Prod.ext d u]at f;rw[show shapeP k (b+1) c=(0,c+jj k) from Prod.ext j v];exact y _ _ (fun z p=>i z (bL _ p)) (by omega) f
    exact r e.kids (n+1) (l+1) (fun k w=>by have:=iZ w;omega) (by omega) h
def Rt (e:Ex):Prop:=(shapeP e 1 0).1=0
theorem Rt.ok {e:Ex}(h:Rt e):OKE e:=⟨1,0,h⟩
theorem Rt.kid {e k:Ex}(h:Rt e)(a:k∈e.kids):Rt k:=by
 unfold Rt at h;rw[kL,ax (by omega)]at h;by_cases g:aloneP e≠0
 ·rw[aB g]at h;exact absurd h g
 ·rw[ax g]at h
  have j: ∀(f:List Ex) (m:Nat),(ii f 2 (0,m)).1=0-> ∀k∈f,Rt k:=by
   intro f;induction f with
   |nil=>intro m _ k a;cases a
   |cons d f n=>
    intro m c k a;rw[jX,ax (by simp)]at c
    have b:(shapeP d 2 m).1=0:=by
     by_cases i:(shapeP d 2 m).1=0
     ·exact i
     ·rw[kM i]at c;exact absurd c i
    rcases bO.1 a with rfl|a
    ·exact za _ k 2 m 1 0 (aD _) (by omega) (dF _) b
    ·obtain⟨l,_⟩:=pV _ d 2 m (aD _) b;rw[show shapeP d 2 m=(0,m+jj d) from Prod.ext b l]at c;exact n _ c k a
  exact j e.kids 1 h k a
theorem Rt.nod {e:Ex}(h:Rt e):jj e<=600:=by
 have:=(pV _ e 1 0 (aD _) h).2;omega
theorem NI {e:Ex}(h:Rt e)(j:stdE e=true):dC [([97],e)]=(0,0):=by
 have f:nms e=[]:=EZ _ e (aD _) j
 have b:gF [([97],e)] ([97],e)=[]:=by
  unfold gF;rw[show nms (([97],e):Ru).2=[] from f];rfl
 have hi: ∀{i:Nat},i<[(([97],e):Ru)].length->i=0:=fun hi=>by simp at hi;exact hi
 refine FT ?_ (fun c a=> ?_) (fun c a=> ?_) (fun c a=> ?_)
 ·unfold gC;rw[ax (by simp)]
  have g:ruleP ([97],e)=0:=by
   unfold ruleP;rw[ax (show¬Go.Proofs.YtlkehieagdkgiaaGreatDoor.namedL [97]=false by decide)];exact h
  unfold jR;rw[ax (by simpa using g)];rfl
 ·rw[hi a];simp[lk1,atP5,atF]
 ·rw[hi a];show decide (-1∈gF _ _)=false;rw[b];rfl
 ·rw[hi a]
  have d:iT [([97],e)] 0=[]:=by
   unfold iT;show pQ (gF _ _)=[]
   rw[b];rfl
  unfold lk3;rw[show [(([97],e):Ru)].length+1=1+1 from rfl,fol,d];rfl
theorem Ll {e:Ex}(h:Rt e)(c:stdE e=true):mF [([97],e)] 0=(0,0)/\kY [([97],e)] 0=[mnE e]:=by
 have a:=NI h c
 have b:mF [([97],e)] 0=(0,0):=by
  unfold mF;rw[a,ax (by simp),ax (by omega)]
 refine⟨b,?_⟩;unfold kY;rw[b,aB rfl];show [gX _ _ _ 0]=_;rw[ph (by rw[a]) (show [(([97],e):Ru)][0]? =some ([97],e) from rfl)];rw[CY (show stdE (([97],e):Ru).2=true from c)]
theorem NJ {w:World}{g:Nat}{e:Ex}{sl:Value}{d:Nat}(h:w.heap[g]? =ah #[.string ⟨#[97]⟩,ag e.kind,ag e.a,ag e.b,.string ⟨e.name.toArray⟩,sl] 86)(l:e.name.length<=9223372036854775807)(i:fP (fun k=>k<w.heap.size) d w sl e.kids):InR w (.slice (some (ae g 0)) 1 1) [(([97],e),sl)]:=by
 refine⟨.inr ⟨g,0,1,rfl,by simp,fun j p c=> ?_⟩,by simp,fun p f=> ?_⟩
 ·match j,c with
  |0,c=>
   cases aN c;exact⟨ak 0 h,ak 1 h,ak 2 h,ak 3 h,ak 4 h,ak 5 h⟩
  |j+1,c=>simp at c
 ·rw[cQ]at f;subst f;exact⟨by simp,l,d,i⟩
theorem D1 (d:Nat)(e:Ex)(sl:Value)(w:World)(hr:Rt e)(hs:stdE e=true)(hn:e.name.length<=9223372036854775807)(P:fP (fun k=>k<w.heap.size) d w sl e.kids):
  Calls prog 158 #[exV e sl] w fun r w'=>r= .returned (.agg (mv (mnE e)))/\aq w w':=by
 obtain⟨p,c,T⟩:=P.form;subst T;unfold exV;have hz:=eR;have G:=am w (.cells #[ag e.kind,ag e.a,ag e.b,.string ⟨e.name.toArray⟩,.slice p e.kids.length c] 84);have nA:=aG w (.cells #[ag e.kind,ag e.a,ag e.b,.string ⟨e.name.toArray⟩,.slice p e.kids.length c] 84);generalize ab:w.alloc (.cells #[ag e.kind,ag e.a,ag e.b,.string ⟨e.name.toArray⟩,.slice p e.kids.length c] 84)=I at*;have J:=am I (.cells (mv fun _=>false) 55);have nB:=aG I (.cells (mv fun _=>false) 55);have X:=ai J nA;obtain⟨gB,x⟩:=au I.heap.size;generalize ac:I.alloc (.cells (mv fun _=>false) 55)=wB at*;rw[x]at nB;have K:=am wB (.cells #[.string ⟨#[97]⟩,ag e.kind,ag e.a,ag e.b,.string ⟨e.name.toArray⟩,.slice p e.kids.length c] 86);have nC:=aG wB (.cells #[.string ⟨#[97]⟩,ag e.kind,ag e.a,ag e.b,.string ⟨e.name.toArray⟩,.slice p e.kids.length c] 86);generalize ad:wB.alloc (.cells #[.string ⟨#[97]⟩,ag e.kind,ag e.a,ag e.b,.string ⟨e.name.toArray⟩,.slice p e.kids.length c] 86)=wC at*;have f:aq w wC:=G.trans ((aw J K).mono G.size);have E:=ai K nB;have z:w.heap.size<=gB:=by rw[<-x];exact G.size
 have y:=NJ (d:=d) nC hn ((P.kept fun g _ hl=>f.block g hl).mono fun g hg=>aU hg f.size);have q:=CW _ _ 0 wC y;obtain⟨e1,e2⟩:=Ll hr hs;unfold vG at q;simp only[dO,fA]at q;rw[e1,e2]at q;clear y P e1 e2 G J K nA nC;go_enter func158,ntmps158
 go_wp2_with(first
  |(refine aR rfl 84 _ rfl _ rfl _ _ _ _ X fo rfl (by kernel_rfl) ?_))
 refine q.mono ?_;rintro r o ⟨v3,rfl,C,b3⟩;obtain⟨p3,c3,U,aa,B⟩:=C;subst U;obtain⟨M,Z,R,i⟩:=B 0 (mnE e) rfl;subst R;have m:=aw f b3;have n:=ai b3 E;simp only[Nat.zero_mul,Nat.add_zero]at i;have Q:[mnE e].length=1:=rfl;rw[Q];generalize D:((0:Nat):Int)=iz;have W:iz=0:=D.symm.trans rfl;subst W;clear D;have L:=am o (.cells #[ag 0,ag 0] 48);have nD:=aG o (.cells #[ag 0,ag 0] 48);have F:=ai L n;have A:(o.alloc (.cells #[ag 0,ag 0] 48)).rangeAt M Z (mv (mnE e)).toList:=World.rangeAt_alloc i _;have t:=aw m L;generalize ae:o.alloc (.cells #[ag 0,ag 0] 48)=wD at*;have H:=below_setRow (aH o.heap.size wD) (aD _) #[ag 0,ag 0];have O:=aI n;have l:=(H.block _ O).trans F;have S:(wD.setRow o.heap.size #[ag 0,ag 0]).rangeAt M Z (mv (mnE e)).toList:=fun j u hj=>(H.cell (cZ (i j u hj))).trans (A j u hj);have s:=t.trans (H.mono (bg m.size (aD _)));generalize V:wD.setRow o.heap.size #[ag 0,ag 0]=wE at*;have Y:=aL _ _ _ (mv (mnE e)) _ _ l;have N:=below_setRow s z (mv (mnE e));clear q m t f b3 L E n i B H A F s
 go_wp2_with(first
  |(refine az rfl 48 _ _ rfl _ _ rfl rfl _ _ nD (by kernel_rfl) (by simp) (by simp[Value.oneCell']) ?_;rw[V])
  |(refine uu rfl _ rfl M Z rfl (mnE e) S ?_)
  |(refine az rfl 55 _ _ rfl _ _ rfl rfl _ _ l (bl _) (by simp[di]) (dW _) ?_))
 refine aX (v:= .agg (mv (mnE e))) ?_ rfl ⟨rfl,N⟩;exact bf rfl _ _ gB _ _ _ _ rfl Y dm rfl (bl _)
def it (w:World)(v:Value)(l:List (Int×Int)):Prop:=(l=[]/\ ∃p c,v= .slice p 0 c)\/ ∃(g c:Nat) (a:Array Value),v= .slice (some (ae g 0)) l.length c/\l.length<9223372036854775808/\w.heap[g]? =ah a 57/\a.toList.take (l.length*2)=jb l
theorem it.nil (w:World)(p:Option Addr)(c:Nat):it w (.slice p 0 c) []:= .inl ⟨rfl,p,c,rfl⟩
theorem it.form {w:World}{v:Value}{l:List (Int×Int)}(h:it w v l): ∃p n c,v= .slice p n c:=by
 rcases h with⟨_,p,c,e⟩|⟨g,c,a,e,_⟩
 ·exact⟨p,0,c,e⟩
 ·exact⟨_,_,c,e⟩
theorem it.of_own {w:World}{a:Nat}{v:Value}{l:List (Int×Int)}(h:w.ownsRow a 57 2 v l.length (jb l)):it w v l:=by
 rcases h.2 with⟨e,c⟩|⟨g,cap,b,e,j,f,k,d,m,i⟩
 ·exact .inl ⟨gZ c,none,0,by rw[e]⟩
 ·exact .inr ⟨g,cap,b,e,by unfold maxLen at d;omega,f,i⟩
def Fr (gm:Nat)(w w':World):Prop:= ∀(q:Nat) (c:Array Value) (T:TypeId),w.heap[q]? =ah c T->T≠216->q≠gm->w'.heap[q]? =ah c T
theorem Fr.trans {gm:Nat}{w w' b:World}(h:Fr gm w w')(e:Fr gm w' b):Fr gm w b:=fun q c T f d a=>e q c T (h q c T f d a) d a
theorem Fr.below {gm:Nat}{w w':World}(a:aq w w'):Fr gm w w':=fun _ _ _ b _ _=>ai a b
theorem it.fr {gm:Nat}{w w':World}{v:Value}{l:List (Int×Int)}(h:it w v l){d:Array Value}(j:w.heap[gm]? =ah d 192)(i:Fr gm w w'):it w' v l:=by
 rcases h with h|⟨g,c,b,e,k,a,m⟩
 ·exact .inl h
 ·refine .inr ⟨g,c,b,e,k,i g _ _ a (by decide) (fun q=> ?_),m⟩;subst q;rw[j]at a;injection a with a;injection a with _ f _;exact absurd f (by decide)
theorem it.below {w w':World}{v:Value}{l:List (Int×Int)}(h:it w v l)(b:aq w w'):it w' v l:=by
 rcases h with h|⟨g,c,a,e,f,d,i⟩
 ·exact .inl h
 ·exact .inr ⟨g,c,a,e,f,ai b d,i⟩
structure WOk (w0:World)(gm:Nat)(mp:Value)(S:List (In×Value))(W:World):Prop where
 st:WsC w0 gm mp S W
 sp: ∀u∈S,it W u.2 u.1.sp
theorem WOk.below {d W a:World}{gm:Nat}{c:Value}{S:List (In×Value)}(h:WOk d gm c S W)(b:aq W a):WOk d gm c S a:=
 ⟨h.st.below b,fun u e=>(h.sp u e).below b⟩
def oH (e:World)(gm:Nat)(d:Value)(S:List (In×Value))(c:List In)(W:World)(r:Ending)(b:World):Prop:=r= .returned (.tuple #[])/\ ∃a,a.map (fun u=>u.1)=c/\WOk e gm d (S++a) b/\Fr2 gm W b
theorem Fr2.fr {k W d:World}{gm:Nat}{j:Value}{S:List (In×Value)}(h:WsC k gm j S W)(g:Fr2 gm W d):Fr gm W d:=fun q c T b f a=>by
 obtain⟨_,_,sv,i,own⟩:=h;refine(g.blk q (aI b) a ?_).trans b;rw[pt i];exact fun e=>lj own b f e.symm
theorem vK {g W:World}{gm:Nat}{f:Value}{S:List (In×Value)}(h:WOk g gm f S W)(x:In)(v:Value)(k:it W v x.sp)(n:S.length<=1000):
  Calls prog 156 #[ab gm 0,.agg #[ag x.op,ag x.a,ag x.b,ag x.to,v]] W fun e d=>e= .returned (.tuple #[])/\WOk g gm f (S++[(x,v)]) d/\Fr2 gm W d:=by
 obtain⟨_,_,sv,j,_⟩:=id h.st;refine(Lj g gm f S (x,v) W h.st n k.form).mono fun e d ⟨o,l,i,m⟩=>⟨o,⟨l,fun u c=> ?_⟩,m⟩
 rcases da.1 c with c|c
 ·exact(h.sp u c).fr j i
 ·rw[cQ]at c;subst c;exact k.fr j i
def Gu (b:World)(gm:Nat)(a:Value)(l:List Ru)(k:Ex)(c:Value):Prop:= ∀(S:List (In×Value)) (W:World),WOk b gm a S W->S.length+jj k<=700->Calls prog 132 #[ab gm 0,exV k c] W (oH b gm a S (dc (atP5 l) k S.length) W)
theorem rz (S a:List (In×Value)):jy (S++a)=jy S++jy a:=by unfold jy;rw[fG]
theorem Bb (S a:List (In×Value))(x:In)(v:Value)(t:Int):(jy (S++((x,v)::a))).set (S.length*5+3) (ag t)=jy (S++(({x with to:=t},v)::a)):=by
 rw[rz,rz,List.set_append_right _ _ (by rw[pW];omega),pW,Nat.add_sub_cancel_left];rfl
theorem Pk {W:World}{a g n c:Nat}{S f:List (In×Value)}{x:In}{v:Value}(t:Int)(h:W.ownsRow a 216 5 (.slice (some (ae g 0)) n c) n (jy (S++((x,v)::f)))):(W.setCell ⟨g,S.length*5+3,none⟩ (ag t)).ownsRow a 216 5 (.slice (some (ae g 0)) n c) n (jy (S++(({x with to:=t},v)::f))):=by
 obtain⟨j,k⟩:=h;rcases k with⟨e,_⟩|⟨s,cap,d,e,l,o,p,m,q,r⟩
 ·cases e
 ·injection e with b _ i;injection b with b;injection b with b _ _;subst b i;refine⟨by rw[<-Bb,iE];exact j,.inr ⟨g,c,d.setIfInBounds (S.length*5+3) (ag t),rfl,l,aY W g _ _ _ _ o,p,m,by rw[ig];exact q,?_⟩⟩;rw[Array.toList_setIfInBounds,List.take_set,r,Bb]
theorem WOk.lt {c W:World}{gm:Nat}{b:Value}{S:List (In×Value)}(h:WOk c gm b S W):gm<W.heap.size:=by
 obtain⟨_,_,sv,a,_⟩:=h.st;exact aI a
section
def upI (f:Nat->Int)(i:Nat)(v:Int):Nat->Int:=fun k=>if k=i then v else f k
theorem jc (f:Nat->Int)(i:Nat)(v:Int):upI f i v i=v:=by unfold upI;rw[aB rfl]
theorem zb (f:Nat->Int){i k:Nat}(v:Int)(h:k≠i):upI f i v k=f k:=by unfold upI;rw[ax h]
def fL (go n:Nat)(sv:Nat->Value)(H T:Nat->Int)(w:World):Prop:= ∃a:Array Value,w.heap[go]? =ah a 195/\a.size=n*3/\ ∀i,i<n->a[i*3]? =some (sv i)/\a[i*3+1]? =some (ag (H i))/\a[i*3+2]? =some (ag (T i))
section
variable {go n:Nat} {sv:Nat->Value} {H T:Nat->Int} {w w':World}
theorem fL.cells (h:fL go n sv H T w){i:Nat}(hi:i<n):w.cell? (ae go (i*3))=some (sv i)/\w.cell? (ae go (i*3+1))=some (ag (H i))/\w.cell? (ae go (i*3+2))=some (ag (T i))/\w.frozen? (ae go (i*3+1))=false/\w.frozen? (ae go (i*3+2))=false:=by
 obtain⟨c,a,_,d⟩:=h;obtain⟨c0,c1,b⟩:=d i hi;exact⟨(aZ _ _ _ _ _ _ a).trans c0,(aZ _ _ _ _ _ _ a).trans c1,(aZ _ _ _ _ _ _ a).trans b,bo _ _ _ _ _ a,bo _ _ _ _ _ a⟩
theorem fL.lt (h:fL go n sv H T w):go<w.heap.size:=by
 obtain⟨a,b,_⟩:=h;exact aI b
theorem fL.same (h:fL go n sv H T w)(e:w'.heap[go]? =w.heap[go]?):fL go n sv H T w':=by
 obtain⟨a,b,r⟩:=h;exact⟨a,e.trans b,r⟩
theorem fL.below (h:fL go n sv H T w)(a:aq w w'):fL go n sv H T w':=h.same (a.block _ h.lt)
theorem fL.setH (h:fL go n sv H T w){i:Nat}(v:Int)(hi:i<n):fL go n sv (upI H i v) T (w.setCell ⟨go,i*3+1,none⟩ (ag v)):=by
 obtain⟨b,d,g,c⟩:=h;refine⟨_,aY w go (i*3+1) _ _ _ d,by rw[ig];exact g,fun k f=> ?_⟩;obtain⟨c0,c1,a⟩:=c k f;refine⟨?_,?_,?_⟩
 ·rw[dx (by omega)];exact c0
 ·by_cases e:k=i
  ·subst e;rw[jc,gN (by omega)]
  ·rw[zb _ _ e,dx (by omega)];exact c1
 ·rw[dx (by omega)];exact a
theorem fL.setT (h:fL go n sv H T w){i:Nat}(v:Int)(hi:i<n):fL go n sv H (upI T i v) (w.setCell ⟨go,i*3+2,none⟩ (ag v)):=by
 obtain⟨b,d,g,c⟩:=h;refine⟨_,aY w go (i*3+2) _ _ _ d,by rw[ig];exact g,fun k f=> ?_⟩;obtain⟨c0,c1,a⟩:=c k f;refine⟨?_,?_,?_⟩
 ·rw[dx (by omega)];exact c0
 ·rw[dx (by omega)];exact c1
 ·by_cases e:k=i
  ·subst e;rw[jc,gN (by omega)]
  ·rw[zb _ _ e,dx (by omega)];exact a
end
theorem iP (w:World)(g i:Nat)(v:Value):bp g w (w.setCell ⟨g,i,none⟩ v):=bp.set w g i v
def kj (w:World)(v:Value)(S:List (In×Value)):Prop:=w.ownsRow 0 216 5 v S.length (jy S)
theorem kj.below {w w':World}{v:Value}{S:List (In×Value)}(h:kj w v S)(a:aq w w'):kj w' v S:=iG h a
theorem kj.kept {w w':World}{v:Value}{S:List (In×Value)}{go n:Nat}{sv:Nat->Value}{H T:Nat->Int}(h:kj w v S)(d:fL go n sv H T w)(c:bp go w w'):kj w' v S:=by
 obtain⟨a,b,_⟩:=d;exact World.ownsRow.kept h c (.inr fun e=>lj h b (by decide) e.symm)
theorem kj.form {w:World}{v:Value}{S:List (In×Value)}(h:kj w v S)(r:1<=S.length): ∃g c,v= .slice (some (ae g 0)) S.length c/\ ∀(j:Nat) (u:In×Value),S[j]? =some u->
  w.cell? (ae g (j*5))=some (ag u.1.op)/\w.cell? (ae g (j*5+1))=some (ag u.1.a)/\w.cell? (ae g (j*5+2))=some (ag u.1.b)/\w.cell? (ae g (j*5+3))=some (ag u.1.to)/\w.cell? (ae g (j*5+4))=some u.2:=by
 rcases h.2 with⟨_,e⟩|⟨g,cap,f,e,_,o,_,_,_,q⟩
 ·omega
 ·refine⟨g,cap,e,fun j u m=> ?_⟩;have k:=(aF.1 m).1
  have d: ∀(i:Nat) (v:Value),i<5->(iv u).toList[i]? =some v->w.cell? (ae g (j*5+i))=some v:=fun i v hi p=>by
   refine(aZ _ _ _ _ _ _ o).trans ?_;have l:(f.toList.take (S.length*5))[j*5+i]? =(jy S)[j*5+i]? :=(by rw[q]);rw[dP (by omega)]at l;rw[<-bx,l]
   have n:S=S.take j++(u::S.drop (j+1)):=by
    conv=>lhs;rw[<-gY j S]
    congr 1;rw[bJ k,(aF.1 m).2]
   rw[n,rz,dB (by rw[pW,eI];omega),pW,eI,fg (by omega),Nat.add_sub_cancel_left];show((iv u).toList++jy (S.drop (j+1)))[i]? =_;rw[dT (by rw[EY];exact hi)];exact p
  exact⟨d 0 _ (by omega) rfl,d 1 _ (by omega) rfl,d 2 _ (by omega) rfl,d 3 _ (by omega) rfl,d 4 _ (by omega) rfl⟩
def Me (mea:Nat->Int×Int)(H T:Nat->Int)(k:Nat):Prop:=H k=(mea k).1/\T k=(mea k).2
def Okm (mea:Nat->Int×Int)(H T:Nat->Int)(k:Nat):Prop:=(H k=0/\T k=0)\/Me mea H T k
def lG (mea:Nat->Int×Int)(ρ:Nat->Nat)(n i:Nat)(H0 T0 H T:Nat->Int):Prop:= ∀k,k<n->k≠i->(ρ k<=ρ i->Okm mea H T k/\(Me mea H0 T0 k->Me mea H T k))/\(ρ i<ρ k->H k=H0 k/\T k=T0 k)
section
variable {mea:Nat->Int×Int} {ρ:Nat->Nat} {n i k0:Nat} {H0 T0 H T H' T':Nat->Int}
theorem lG.refl (h: ∀k,k<n->ρ k<=ρ i->Okm mea H0 T0 k):lG mea ρ n i H0 T0 H0 T0:=fun k a _=>⟨fun b=>⟨h k a b,id⟩,fun _=>⟨rfl,rfl⟩⟩
theorem lG.setH (h:lG mea ρ n i H0 T0 H T)(v:Int):lG mea ρ n i H0 T0 (upI H i v) T:=fun k b a=>by
 have:=h k b a;unfold Okm Me at this⊢;rw[zb _ _ a];exact this
theorem lG.setT (h:lG mea ρ n i H0 T0 H T)(v:Int):lG mea ρ n i H0 T0 H (upI T i v):=fun k b a=>by
 have:=h k b a;unfold Okm Me at this⊢;rw[zb _ _ a];exact this
theorem lG.pre (h:lG mea ρ n i H0 T0 H T)(c:ρ k0<ρ i): ∀k,k<n->ρ k<=ρ k0->Okm mea H T k:=fun k a b=>((h k a (fun e=>by subst e;omega)).1 (by omega)).1
theorem lG.call (h:lG mea ρ n i H0 T0 H T)(m:ρ k0<ρ i)(hi:i<n)(l:Me mea H' T' k0)(g:lG mea ρ n k0 H T H' T'):lG mea ρ n i H0 T0 H' T'/\H' i=H i/\T' i=T i:=by
 refine⟨fun k d f=>⟨fun c=> ?_,fun c=> ?_⟩,(g i hi (fun e=>by subst e;omega)).2 m⟩
 ·by_cases e:k=k0
  ·subst e;exact⟨.inr l,fun _=>l⟩
  ·have a:=(h k d f).1 c;by_cases j:ρ k<=ρ k0
   ·have b:=(g k d e).1 j;exact⟨b.1,fun q=>b.2 (a.2 q)⟩
   ·have b:=(g k d e).2 (by omega);unfold Okm Me at a⊢;rw[b.1,b.2];exact a
 ·have e:k≠k0:=fun e=>by subst e;omega
  have a:=(h k d f).2 c;have b:=(g k d e).2 (by omega);exact⟨b.1.trans a.1,b.2.trans a.2⟩
end
def xu (mea:Nat->Int×Int)(ρ:Nat->Nat)(go n:Nat)(sv:Nat->Value)(i:Nat)(H0 T0:Nat->Int)(w:World)(r:Ending)(w':World):Prop:=r= .returned (.agg #[sv i,ag (mea i).1,ag (mea i).2])/\ ∃H' T',fL go n sv H' T' w'/\Me mea H' T' i/\lG mea ρ n i H0 T0 H' T'/\bp go w w'
theorem Bc:prog.underlying 195=some (.struct (prog.fieldsOf 195)):=by kernel_rfl
end
end Go.Proofs.YtlkehieagdkgiaaGreatDoor
