/- Texts of the proof. -/
import Derived.Test.YtpdoienkhgnceaaGreatDoorPt28
import Derived.Shelf.Strings.BuilderK
import Derived.Shelf.Strings.OnBuilder
import Derived.Shelf.Strings.Repeat
import Derived.Shelf.Strconv.Itoa3
import Derived.Lib.AppendIntMem
set_option maxRecDepth 100000
set_option maxHeartbeats 8000000
namespace Go.Proofs.YtpdoienkhgnceaaGreatDoor
open Go.Proofs.Tryz Go.RowKit Lx Vx Mx Msk
def Txt (e:Ex)(l:Nat):Prop:= ∃a,(∀r,lC r->gz a (eJ e l++r) (skp r))/\fJ (eJ e l)/\(l=0->K0 e a 41)/\(l=1->K1 e a 41)/\(l=2->K2 e a 41)/\(l=3->K3 e a 40)
def Bar (e:Ex):Prop:= ∃a,(∀r,lC r->gz a (bareP e (fj e.kids)++r) (skp r))/\fJ (bareP e (fj e.kids))/\(Lx.holdP e.kind=0->K0 e a 42)/\(Lx.holdP e.kind=1->K1 e a 42)/\(Lx.holdP e.kind=2->K2 e a 41)/\(Lx.holdP e.kind=3->K3 e a 41)
theorem Oe (k:Int):Lx.holdP k<=3:=by
 unfold Lx.holdP;split
 ·omega
 ·split
  ·omega
  ·split<;>omega
theorem lF {c:UInt8}{r:List UInt8}(h:c.toNat≠32/\c.toNat≠9/\c.toNat≠10/\c.toNat≠35):fJ (c::r):=⟨c,r,rfl,h⟩
theorem CK {d:List T1}{t:List UInt8}(g: ∀r,lC r->gz d (t++r) (skp r))(s:fJ t): ∀r,gz (sgT 40::(d++[sgT 41])) ([40]++t++[41]++r) (skp r):=fun r=>by
 have a:=kW (c:=40) (t++41::r) (by decide) (by decide) (by decide) (by decide);rw[d8 (s.app _)]at a;have b:=g (41::r) ⟨41,r,rfl,by decide⟩;rw[d8 (lF (by decide))]at b;have e:=kW (c:=41) r (by decide) (by decide) (by decide) (by decide);have:=a.trans (b.trans e);simpa using this
theorem Ay {e:Ex}(h:Bar e)(l:Nat)(m:l<=3):Txt e l:=by
 obtain⟨d,g,s,b0,b1,b2,b3⟩:=h;have j:=Oe e.kind;by_cases i:Lx.holdP e.kind<l
 ·have b:eJ e l=[40]++bareP e (fj e.kids)++[41]:=by rw[uj,brk,ax (bc i)]
  have f:K0 e d 41:=by
   by_cases c0:Lx.holdP e.kind=0
   ·exact(b0 c0).mono (by omega)
   by_cases c1:Lx.holdP e.kind=1
   ·exact(b1 c1).k0.mono (by omega)
   ·exact(b2 (by omega)).k1.k0
  have c:Lx.holdP e.kind<=1->K0 e d 42:=fun k=>by
   by_cases c0:Lx.holdP e.kind=0
   ·exact b0 c0
   ·exact(b1 (by omega)).k0
  refine⟨sgT 40::(d++[sgT 41]),fun r _=>by rw[b];exact CK g s r,by rw[b];exact lF (by decide),fun h=>by omega,fun h=> ?_,fun h=> ?_,fun _=> ?_⟩
  ·exact((c (by omega)).brackets (by omega)).k2.k1
  ·exact((c (by omega)).brackets (by omega)).k2
  ·exact f.brackets (by omega)
 ·have b:eJ e l=bareP e (fj e.kids):=by rw[uj,brk,aw (by simpa using i)]
  refine⟨d,by rw[b];exact g,by rw[b];exact s,fun h=> ?_,fun h=> ?_,fun h=> ?_,fun h=> ?_⟩
  ·by_cases c0:Lx.holdP e.kind=0
   ·exact(b0 c0).mono (by omega)
   by_cases c1:Lx.holdP e.kind=1
   ·exact(b1 c1).k0.mono (by omega)
   by_cases a:Lx.holdP e.kind=2
   ·exact(b2 a).k1.k0
   ·exact(b3 (by omega)).k2.k1.k0
  ·by_cases c1:Lx.holdP e.kind=1
   ·exact(b1 c1).mono (by omega)
   by_cases a:Lx.holdP e.kind=2
   ·exact(b2 a).k1
   ·exact(b3 (by omega)).k2.k1
  ·by_cases a:Lx.holdP e.kind=2
   ·exact b2 a
   ·exact(b3 (by omega)).k2
  ·exact(b3 (by omega)).mono (by omega)
theorem xy {e:Ex}(ha:aloneP e=0):1<=e.kind/\e.kind<=10/\e.kids.length=kidsP e.kind/\rangeP e.kind e.a e.b=true/\(e.kind=10->namedL e.name=true):=by
 unfold aloneP at ha;split at ha
 ·cases ha
 ·split at ha
  ·cases ha
  ·split at ha
   ·cases ha
   ·split at ha
    ·cases ha
    ·rename_i i c d f;refine⟨by omega,by omega,by simpa using c,by simpa using d,fun g=> ?_⟩;cases hn:namedL e.name with
     |true=>rfl
     |false=>exact absurd ⟨g,hn⟩ f
theorem Az (r:List UInt8):lC (32::r):=⟨32,r,rfl,.inl rfl⟩
theorem vL {c:UInt8}{d e:List T1}{t0 t1:List UInt8}(j:isD c=false)(k:isL c=false)(f:c≠46)(hi: ¬Lib.indexByte lq c<0)(m:c.toNat≠32/\c.toNat≠9/\c.toNat≠10/\c.toNat≠35)
  (g: ∀r,lC r->gz d (t0++r) (skp r)) (n:fJ t1) (i: ∀r,lC r->gz e (t1++r) (skp r)): ∀r,lC r->gz (d++sgT c::e) (t0++([32,c,32]++t1)++r) (skp r):=fun r l=>by
 have a:=g (32::c::32::(t1++r)) (Az _);rw[j7,d8 (lF m)]at a;have b:=kW (c:=c) (32::(t1++r)) j k f hi;rw[j7,d8 (n.app _)]at b;have:=a.trans (b.trans (i r l));simpa using this
theorem LX (k:Nat)(r:List UInt8):fJ (Lib.decDigits k++r):=by
 obtain⟨_,b⟩:=Bi k k (aA _);have a:1<=(Lib.decDigits k).length:=by rw[Lib.decDigits_length];exact Lib.nDigits_pos k
 generalize Lib.decDigits k=x at*;cases x with
 |nil=>simp at a
 |cons c x=>
  have:=b c aV;unfold isD at this;simp at this;exact⟨c,x++r,rfl,by omega,by omega,by omega,by omega⟩
theorem LY {a:Int}(ha:a≠0/\ -1440<a/\a<1440){r:List UInt8}(e:lC r):gz (EM a) (Lib.itoa a++r) (skp r)/\fJ (Lib.itoa a):=by
 unfold EM Lib.itoa;by_cases d:a<0
 ·rw[ax d,ax d];have b:=kW (c:=45) (Lib.decDigits a.natAbs++r) (by decide) (by decide) (by decide) (by decide);rw[d8 (LX _ _)]at b;exact⟨b.trans (EH (by omega) e),lF (by decide)⟩
 ·rw[aw d,aw d];exact⟨EH (by omega) e,by have:=LX a.toNat [];rwa[iE]at this⟩
theorem Jm {c:List T1}{t0:List UInt8}{a:Int}(ha:a≠0/\ -1440<a/\a<1440)(d: ∀r,lC r->gz c (t0++r) (skp r)): ∀r,lC r->gz (c++wdT fY::EM a) (t0++([32,115,104,105,102,116,32]++Lib.itoa a)++r) (skp r):=fun r e=>by
 obtain⟨f,i⟩:=LY ha e;have g:=d (32::(fY++32::(Lib.itoa a++r))) (Az _);rw[j7,d8 ((fJ.word (x:=fY) (by decide) (by decide)).app _)]at g;have b:=ol (x:=fY) (r:=32::(Lib.itoa a++r)) (by decide) (by decide) (by decide) (by decide) (qq _);rw[j7,d8 (i.app _)]at b;have:=g.trans (b.trans f);simpa[fY] using this
theorem EP {a:List T1}{t0:List UInt8}(f:fJ t0)(d: ∀r,lC r->gz a (t0++r) (skp r)): ∀r,lC r->gz (sgT 58::a) (58::32::(t0++r)) (skp r):=fun r e=>by
 have b:=kW (c:=58) (32::(t0++r)) (by decide) (by decide) (by decide) (by decide);rw[j7,d8 (f.app _)]at b;exact b.trans (d r e)
theorem LZ {c:List T1}{t0:List UInt8}{a:Int}(ha:1<=a/\a<128)(k:fJ t0)(f: ∀r,lC r->gz c (t0++r) (skp r)): ∀r,lC r->gz (wdT eX::(vK (bP a 7)++sgT 58::c)) ([119,101,101,107,108,121,32]++daysL a++[58,32]++t0++r) (skp r):=fun r g=>by
 obtain⟨d,e,_⟩:=CB ha.1 ha.2;obtain⟨i,j⟩:=CA (q:=32::(t0++r)) (bP a 7) e d;have b:=ol (x:=eX) (r:=32::(Lib.join (bP a 7) [44]++58::32::(t0++r))) (by decide) (by decide) (by decide) (by decide) (qq _);rw[j7,d8 (j.app _)]at b;have:=b.trans (i.trans (EP k f r g));simpa[eX,daysL] using this
theorem Jn {f:List T1}{t0:List UInt8}{a b:Int}(ha:0<=a/\a<=b/\b<146097)(p:fJ t0)(l: ∀r,lC r->gz f (t0++r) (skp r)): ∀r,lC r->gz (wdT fG::(EO a b++sgT 58::f)) ([100,97,116,101,115,32]++datesL a b++[58,32]++t0++r) (skp r):=fun r m=>by
 have k:=EP p l r m;have e:fJ (58::32::(t0++r)):=lF (by decide)
 have i:gz (EO a b) (datesL a b++58::32::(t0++r)) (58::32::(t0++r))/\fJ (datesL a b):=by
  unfold EO datesL;by_cases c:a=b
  ·rw[ax c,ax c];obtain⟨d,g⟩:=vJ (n:=a) (by omega) (by omega) (58::32::(t0++r));rw[d8 e]at d;exact⟨d,g⟩
  ·rw[aw c,aw c];obtain⟨d,g⟩:=vJ (n:=a) (by omega) (by omega) (46::46::(dateL b++58::32::(t0++r)));rw[d8 (lF (by decide))]at d;obtain⟨j,o⟩:=vJ (n:=b) (by omega) (by omega) (58::32::(t0++r));rw[d8 e]at j;have t:=Qo (dateL b++58::32::(t0++r));rw[d8 (o.app _)]at t;have:=d.trans (t.trans j);exact⟨by simpa using this,g.app _⟩
 have w:=ol (x:=fG) (r:=32::(datesL a b++58::32::(t0++r))) (by decide) (by decide) (by decide) (by decide) (qq _);rw[j7,d8 (i.2.app _)]at w;have:=w.trans (i.1.trans k);simpa[fG] using this
theorem EQ {a:Int}(b:0<=a)(c:a<=1440)(r:List UInt8):fJ (clockL a++r):=by
 refine⟨UInt8.ofNat (48+a.toNat/60/10),_,rfl,?_⟩;rw[jH (by omega)];omega
theorem L0 {a b:Int}(e:0<=a)(f:a<b)(d:b<=1440): ∀r,lC r->gz [tmT a,sgT 45,tmT b] (clockL a++45::clockL b++r) (skp r):=fun r _=>by
 have x:=Cz e (by omega) (45::(clockL b++r));rw[d8 (lF (by decide))]at x;have y:=kW (c:=45) (clockL b++r) (by decide) (by decide) (by decide) (by decide);rw[d8 (EQ (by omega) d r)]at y;have:=x.trans (y.trans (Cz (by omega) d r));simpa using this
theorem wO {a:List Ex}(h:a.length=0):a=[]:=gG.1 h
theorem G2: ∀(N:Nat) (e:Ex),SizeOf.sizeOf e<=N->qC e=true->Bar e
 |0,e,z,_=>by cases e;simp at z
 |N+1,e,z,ha=>by
  obtain⟨A,B⟩:=(rU e).1 ha;obtain⟨G,H,i,p,D⟩:=xy A;have g: ∀(k:Ex),k∈e.kids-> ∀l,l<=3->Txt k l:=fun k c l C=>Ay (G2 N k (by have:=fy c;omega) (B k c)) l C;have q:e.kind=1\/e.kind=2\/e.kind=3\/e.kind=4\/e.kind=5\/e.kind=6\/e.kind=7\/e.kind=8\/e.kind=9\/e.kind=10:=(by omega)
  have m:kidsP e.kind=2-> ∃x y,e.kids=[x,y]:=fun h=>by
   rw[h]at i;match hh:e.kids,i with
   |[x,y],_=>exact⟨x,y,rfl⟩
  have one:kidsP e.kind=1-> ∃x,e.kids=[x]:=fun h=>by
   rw[h]at i;match hh:e.kids,i with
   |[x],_=>exact⟨x,rfl⟩
  rcases q with c|c|c|c|c|c|c|c|c|c
  ·rw[c]at i;have d:=wO i;refine⟨[wdT fw],fun r f=> ?_,?_,fun h=> ?_,fun h=> ?_,fun h=> ?_,fun _=>Qy c d⟩
   ·rw[Ak c];exact ol (x:=fw) (by decide) (by decide) (by decide) (by decide) (yA f)
   ·rw[Ak c];exact fJ.word (x:=fw) (by decide) (by decide)
   all_goals (rw[c]at h;exact absurd h (by decide))
  ·rw[c]at i;have d:=wO i;refine⟨[wdT eW],fun r f=> ?_,?_,fun h=> ?_,fun h=> ?_,fun h=> ?_,fun _=>Ob c d⟩
   ·rw[Al c];exact ol (x:=eW) (by decide) (by decide) (by decide) (by decide) (yA f)
   ·rw[Al c];exact fJ.word (x:=eW) (by decide) (by decide)
   all_goals (rw[c]at h;exact absurd h (by decide))
  ·rw[c]at i p;have d:=wO i;have f:0<=e.a/\e.a<e.b/\e.b<=1440:=dM p;refine⟨[tmT e.a,sgT 45,tmT e.b],?_,?_,fun h=> ?_,fun h=> ?_,fun h=> ?_,fun _=>Si c d f.2.1⟩
   ·rw[Am c];exact L0 f.1 f.2.1 f.2.2
   ·rw[Am c];exact EQ f.1 (by omega) _
   all_goals (rw[c]at h;exact absurd h (by decide))
  ·obtain⟨x,d⟩:=one (by rw[c];rfl);rw[c]at p;have f:1<=e.a/\e.a<128:=dM p;obtain⟨t0,j,n,_,_,c0,_⟩:=g x (by rw[d];simp) 2 (by omega);have s:fj e.kids 0 2=eJ x 2:=iI (by rw[d];rfl);refine⟨_,?_,?_,fun h=> ?_,fun h=> ?_,fun _=>Sh c d f (c0 rfl),fun h=> ?_⟩
   ·rw[Au c,s];exact LZ f n j
   ·rw[Au c];exact lF (by decide)
   all_goals (rw[c]at h;exact absurd h (by decide))
  ·obtain⟨x,d⟩:=one (by rw[c];rfl);rw[c]at p;have f:0<=e.a/\e.a<=e.b/\e.b<146097:=dM p;obtain⟨t0,j,n,_,_,c0,_⟩:=g x (by rw[d];simp) 2 (by omega);have s:fj e.kids 0 2=eJ x 2:=iI (by rw[d];rfl);refine⟨_,?_,?_,fun h=> ?_,fun h=> ?_,fun _=>Qx c d f.2.1 (c0 rfl),fun h=> ?_⟩
   ·rw[Av c,s];exact Jn f n j
   ·rw[Av c];exact lF (by decide)
   all_goals (rw[c]at h;exact absurd h (by decide))
  ·obtain⟨x,y,d⟩:=m (by rw[c];rfl);obtain⟨t0,j,n,c0,_⟩:=g x (by rw[d];simp) 0 (by omega);obtain⟨t1,u,v,_,c1,_⟩:=g y (by rw[d];simp) 1 (by omega);have o:fj e.kids 0 0=eJ x 0:=iI (by rw[d];rfl);have t:fj e.kids 1 1=eJ y 1:=iI (by rw[d];rfl);refine⟨_,?_,?_,fun _=>Sf c d (c0 rfl) (c1 rfl),fun h=> ?_,fun h=> ?_,fun h=> ?_⟩
   ·rw[Ao c,o,t];exact vL (by decide) (by decide) (by decide) (by decide) (by decide) j v u
   ·rw[Ao c,o];exact n.app _
   all_goals (rw[c]at h;exact absurd h (by decide))
  ·obtain⟨x,y,d⟩:=m (by rw[c];rfl);obtain⟨t0,j,n,c0,_⟩:=g x (by rw[d];simp) 0 (by omega);obtain⟨t1,u,v,_,c1,_⟩:=g y (by rw[d];simp) 1 (by omega);have o:fj e.kids 0 0=eJ x 0:=iI (by rw[d];rfl);have t:fj e.kids 1 1=eJ y 1:=iI (by rw[d];rfl);refine⟨_,?_,?_,fun _=>Qt c d (c0 rfl) (c1 rfl),fun h=> ?_,fun h=> ?_,fun h=> ?_⟩
   ·rw[Aq c,o,t];exact vL (by decide) (by decide) (by decide) (by decide) (by decide) j v u
   ·rw[Aq c,o];exact n.app _
   all_goals (rw[c]at h;exact absurd h (by decide))
  ·obtain⟨x,y,d⟩:=m (by rw[c];rfl);obtain⟨t0,j,n,_,c0,_⟩:=g x (by rw[d];simp) 1 (by omega);obtain⟨t1,u,v,_,_,c1,_⟩:=g y (by rw[d];simp) 2 (by omega);have o:fj e.kids 0 1=eJ x 1:=iI (by rw[d];rfl);have t:fj e.kids 1 2=eJ y 2:=iI (by rw[d];rfl);refine⟨_,?_,?_,fun h=> ?_,fun _=>Sg c d (c0 rfl) (c1 rfl),fun h=> ?_,fun h=> ?_⟩
   ·rw[Ar c,o,t];exact vL (by decide) (by decide) (by decide) (by decide) (by decide) j v u
   ·rw[Ar c,o];exact n.app _
   all_goals (rw[c]at h;exact absurd h (by decide))
  ·obtain⟨x,d⟩:=one (by rw[c];rfl);rw[c]at p;have f:e.a≠0/\ -1440<e.a/\e.a<1440:=dM p;obtain⟨t0,j,n,_,_,_,c0⟩:=g x (by rw[d];simp) 3 (by omega);have s:fj e.kids 0 3=eJ x 3:=iI (by rw[d];rfl);refine⟨_,?_,?_,fun h=> ?_,fun h=> ?_,fun h=> ?_,fun _=>Qu c d f (c0 rfl)⟩
   ·rw[As c,s];exact Jm f j
   ·rw[As c,s];exact n.app _
   all_goals (rw[c]at h;exact absurd h (by decide))
  ·rw[c]at i;have d:=wO i;have w:=D c;obtain⟨E,F,_,_⟩:=mP w;refine⟨[nmT e.name],fun r f=> ?_,?_,fun h=> ?_,fun h=> ?_,fun h=> ?_,fun _=>Sj c d w⟩
   ·rw[wJ c];exact Cy w (yA f)
   ·rw[wJ c];exact fJ.word E F
   all_goals (rw[c]at h;exact absurd h (by decide))
section
open Go.Shelf
def FO:Go.Shelf.Ren:=⟨fun|170=>22|n=>n,fun|70=>72|3=>3|0=>0|72=>75|37=>73|5=>5|n=>n,fun|n=>n⟩
theorem Qz:Go.Proofs.Lays.n170 prog FO:={
 mixed:=by kernel_rfl
 f170:=func22.trans (congrArg some (by kernel_rfl))
 t0:=underlying0
 a0:=isAgg0
 z0:=sizeOf0
 v0:=zeroValue0
 t3:=underlying3
 a3:=isAgg3
 z3:=sizeOf3
 v3:=zeroValue3
 t37:=underlying73
 a37:=isAgg73
 z37:=sizeOf73
 v37:=zeroValue73
 t70:=underlying72
 a70:=isAgg72
 z70:=sizeOf72
 v70:=zeroValue72
 t72:=underlying75
 a72:=isAgg75
 z72:=sizeOf75
 v72:=zeroValue75}
def xz:Go.Shelf.Ren:=⟨fun|169=>23|n=>n,fun|70=>72|9=>9|0=>0|72=>75|37=>73|127=>133|3=>3|5=>5|n=>n,fun|n=>n⟩
theorem QA:Go.Proofs.Lays.n169 prog xz:={
 mixed:=by kernel_rfl
 f169:=func23.trans (congrArg some (by kernel_rfl))
 t0:=underlying0
 a0:=isAgg0
 z0:=sizeOf0
 v0:=zeroValue0
 t3:=underlying3
 a3:=isAgg3
 z3:=sizeOf3
 v3:=zeroValue3
 t9:=underlying9
 a9:=isAgg9
 z9:=sizeOf9
 v9:=zeroValue9
 t37:=underlying73
 a37:=isAgg73
 z37:=sizeOf73
 v37:=zeroValue73
 t70:=underlying72
 a70:=isAgg72
 z70:=sizeOf72
 v70:=zeroValue72
 t72:=underlying75
 a72:=isAgg75
 z72:=sizeOf75
 v72:=zeroValue75
 t127:=underlying133
 a127:=isAgg133
 z127:=sizeOf133
 v127:=zeroValue133}
theorem wT:Builder.Extra prog xz:={
 sizeBuilder:=by kernel_rfl
 liesBuilder:=by kernel_rfl
 t5:=underlying5
 a5:=isAgg5
 z5:=sizeOf5
 v5:=zeroValue5
 infoByte:=by kernel_rfl
 cellsByte:=by kernel_rfl
 sizeByte:=by kernel_rfl
 neB5:=by decide}
def sY:Go.Shelf.Ren:=⟨fun|156=>141|165=>182|166=>20|169=>23|240=>47|241=>208|276=>92|277=>229|n=>n,fun|31=>103|9=>9|3=>3|4=>4|0=>0|20=>20|72=>75|76=>83|70=>72|37=>73|75=>82|127=>133|164=>176|5=>5|80=>87|n=>n,fun|n=>n⟩
theorem dG:Go.Proofs.Lays.n156 prog sY:={
 mixed:=by kernel_rfl
 f156:=func141.trans (congrArg some (by kernel_rfl))
 f165:=func182.trans (congrArg some (by kernel_rfl))
 f166:=func20.trans (congrArg some (by kernel_rfl))
 f169:=func23.trans (congrArg some (by kernel_rfl))
 f240:=func47.trans (congrArg some (by kernel_rfl))
 f241:=func208.trans (congrArg some (by kernel_rfl))
 f276:=func92.trans (congrArg some (by kernel_rfl))
 f277:=func229.trans (congrArg some (by kernel_rfl))
 t0:=underlying0
 a0:=isAgg0
 z0:=sizeOf0
 v0:=zeroValue0
 t3:=underlying3
 a3:=isAgg3
 z3:=sizeOf3
 v3:=zeroValue3
 t4:=underlying4
 a4:=isAgg4
 z4:=sizeOf4
 v4:=zeroValue4
 t9:=underlying9
 a9:=isAgg9
 z9:=sizeOf9
 v9:=zeroValue9
 t20:=underlying20
 a20:=isAgg20
 z20:=sizeOf20
 v20:=zeroValue20
 t31:=underlying103
 a31:=isAgg103
 z31:=sizeOf103
 v31:=zeroValue103
 t37:=underlying73
 a37:=isAgg73
 z37:=sizeOf73
 v37:=zeroValue73
 t70:=underlying72
 a70:=isAgg72
 z70:=sizeOf72
 v70:=zeroValue72
 t72:=underlying75
 a72:=isAgg75
 z72:=sizeOf75
 v72:=zeroValue75
 t75:=underlying82
 a75:=isAgg82
 z75:=sizeOf82
 v75:=zeroValue82
 t76:=underlying83
 a76:=isAgg83
 z76:=sizeOf83
 v76:=zeroValue83
 t127:=underlying133
 a127:=isAgg133
 z127:=sizeOf133
 v127:=zeroValue133
 t164:=underlying176
 a164:=isAgg176
 z164:=sizeOf176
 v164:=zeroValue176}
theorem qD:Builder.Extra prog sY:={
 sizeBuilder:=by kernel_rfl
 liesBuilder:=by kernel_rfl
 t5:=underlying5
 a5:=isAgg5
 z5:=sizeOf5
 v5:=zeroValue5
 infoByte:=by kernel_rfl
 cellsByte:=by kernel_rfl
 sizeByte:=by kernel_rfl
 neB5:=by decide}
def FP:Go.Shelf.Ren:=⟨fun|105=>180|212=>203|99=>125|165=>182|166=>20|170=>22|169=>23|263=>222|264=>223|206=>172|240=>47|241=>208|276=>92|277=>229|n=>n,fun|9=>9|3=>3|4=>4|20=>20|0=>0|46=>265|109=>266|5=>5|72=>75|76=>83|51=>284|146=>285|53=>37|148=>287|70=>72|37=>73|75=>82|127=>133|164=>176|80=>87|n=>n,fun|n=>n⟩
theorem G3:Go.Proofs.Lays.n105 prog FP:={
 mixed:=by kernel_rfl
 f99:=func125.trans (congrArg some (by kernel_rfl))
 f105:=func180.trans (congrArg some (by kernel_rfl))
 f165:=func182.trans (congrArg some (by kernel_rfl))
 f166:=func20.trans (congrArg some (by kernel_rfl))
 f169:=func23.trans (congrArg some (by kernel_rfl))
 f170:=func22.trans (congrArg some (by kernel_rfl))
 f206:=func172.trans (congrArg some (by kernel_rfl))
 f212:=func203.trans (congrArg some (by kernel_rfl))
 f240:=func47.trans (congrArg some (by kernel_rfl))
 f241:=func208.trans (congrArg some (by kernel_rfl))
 f263:=func222.trans (congrArg some (by kernel_rfl))
 f264:=func223.trans (congrArg some (by kernel_rfl))
 f276:=func92.trans (congrArg some (by kernel_rfl))
 f277:=func229.trans (congrArg some (by kernel_rfl))
 t0:=underlying0
 a0:=isAgg0
 z0:=sizeOf0
 v0:=zeroValue0
 t3:=underlying3
 a3:=isAgg3
 z3:=sizeOf3
 v3:=zeroValue3
 t4:=underlying4
 a4:=isAgg4
 z4:=sizeOf4
 v4:=zeroValue4
 t5:=underlying5
 a5:=isAgg5
 z5:=sizeOf5
 v5:=zeroValue5
 t9:=underlying9
 a9:=isAgg9
 z9:=sizeOf9
 v9:=zeroValue9
 t20:=underlying20
 a20:=isAgg20
 z20:=sizeOf20
 v20:=zeroValue20
 t37:=underlying73
 a37:=isAgg73
 z37:=sizeOf73
 v37:=zeroValue73
 t46:=underlying265
 a46:=isAgg265
 z46:=sizeOf265
 v46:=zeroValue265
 t51:=underlying284
 a51:=isAgg284
 z51:=sizeOf284
 v51:=zeroValue284
 t53:=underlying37
 a53:=isAgg37
 z53:=sizeOf37
 v53:=zeroValue37
 t70:=underlying72
 a70:=isAgg72
 z70:=sizeOf72
 v70:=zeroValue72
 t72:=underlying75
 a72:=isAgg75
 z72:=sizeOf75
 v72:=zeroValue75
 t75:=underlying82
 a75:=isAgg82
 z75:=sizeOf82
 v75:=zeroValue82
 t76:=underlying83
 a76:=isAgg83
 z76:=sizeOf83
 v76:=zeroValue83
 t109:=underlying266
 a109:=isAgg266
 z109:=sizeOf266
 v109:=zeroValue266
 t127:=underlying133
 a127:=isAgg133
 z127:=sizeOf133
 v127:=zeroValue133
 t146:=underlying285
 a146:=isAgg285
 z146:=sizeOf285
 v146:=zeroValue285
 t148:=underlying287
 a148:=isAgg287
 z148:=sizeOf287
 v148:=zeroValue287
 t164:=underlying176
 a164:=isAgg176
 z164:=sizeOf176
 v164:=zeroValue176}
def ER:Go.Shelf.Ren:=⟨fun|171=>95|243=>140|246=>181|283=>204|284=>205|285=>206|286=>207|129=>225|317=>224|318=>226|319=>227|320=>228|337=>239|338=>184|n=>n,fun|3=>3|9=>9|2=>2|4=>4|171=>268|0=>0|53=>37|37=>73|5=>5|173=>270|212=>290|51=>284|20=>20|213=>291|46=>265|232=>306|233=>272|n=>n,fun|17=>4|18=>5|19=>2|n=>n⟩
theorem ES:Go.Proofs.LaysM.n171 prog ER:={
 mixed:=by kernel_rfl
 f129:=func225.trans (congrArg some (by kernel_rfl))
 f171:=func95.trans (congrArg some (by kernel_rfl))
 f243:=func140.trans (congrArg some (by kernel_rfl))
 f246:=func181.trans (congrArg some (by kernel_rfl))
 f283:=func204.trans (congrArg some (by kernel_rfl))
 f284:=func205.trans (congrArg some (by kernel_rfl))
 f285:=func206.trans (congrArg some (by kernel_rfl))
 f286:=func207.trans (congrArg some (by kernel_rfl))
 f317:=func224.trans (congrArg some (by kernel_rfl))
 f318:=func226.trans (congrArg some (by kernel_rfl))
 f319:=func227.trans (congrArg some (by kernel_rfl))
 f320:=func228.trans (congrArg some (by kernel_rfl))
 f337:=func239.trans (congrArg some (by kernel_rfl))
 f338:=func184.trans (congrArg some (by kernel_rfl))
 t0:=underlying0
 a0:=isAgg0
 z0:=sizeOf0
 v0:=zeroValue0
 t2:=underlying2
 a2:=isAgg2
 z2:=sizeOf2
 v2:=zeroValue2
 t3:=underlying3
 a3:=isAgg3
 z3:=sizeOf3
 v3:=zeroValue3
 t4:=underlying4
 a4:=isAgg4
 z4:=sizeOf4
 v4:=zeroValue4
 t5:=underlying5
 a5:=isAgg5
 z5:=sizeOf5
 v5:=zeroValue5
 t9:=underlying9
 a9:=isAgg9
 z9:=sizeOf9
 v9:=zeroValue9
 t20:=underlying20
 a20:=isAgg20
 z20:=sizeOf20
 v20:=zeroValue20
 t37:=underlying73
 a37:=isAgg73
 z37:=sizeOf73
 v37:=zeroValue73
 t46:=underlying265
 a46:=isAgg265
 z46:=sizeOf265
 v46:=zeroValue265
 t51:=underlying284
 a51:=isAgg284
 z51:=sizeOf284
 v51:=zeroValue284
 t53:=underlying37
 a53:=isAgg37
 z53:=sizeOf37
 v53:=zeroValue37
 t171:=underlying268
 a171:=isAgg268
 z171:=sizeOf268
 v171:=zeroValue268
 t173:=underlying270
 a173:=isAgg270
 z173:=sizeOf270
 v173:=zeroValue270
 t212:=underlying290
 a212:=isAgg290
 z212:=sizeOf290
 v212:=zeroValue290
 t213:=underlying291
 a213:=isAgg291
 z213:=sizeOf291
 t232:=underlying306
 a232:=isAgg306
 z232:=sizeOf306
 v232:=zeroValue306
 t233:=underlying272
 a233:=isAgg272
 z233:=sizeOf272
 v233:=zeroValue272
 g17:=by kernel_rfl
 g18:=by kernel_rfl
 g19:=by kernel_rfl
 i0:=by kernel_rfl
 i2:=by kernel_rfl
 i3:=by kernel_rfl
 i4:=by kernel_rfl
 i5:=by kernel_rfl
 i9:=by kernel_rfl
 i20:=by kernel_rfl
 i37:=by kernel_rfl
 i46:=by kernel_rfl
 i51:=by kernel_rfl
 i53:=by kernel_rfl
 i171:=by kernel_rfl
 i173:=by kernel_rfl
 i212:=by kernel_rfl
 i232:=by kernel_rfl
 i233:=by kernel_rfl
 m17:=by kernel_rfl
 m18:=by kernel_rfl
 m19:=by kernel_rfl}
theorem QB:Go.Proofs.Lays.n166 prog sY:={
 mixed:=dG.mixed
 f166:=dG.f166
 f240:=dG.f240
 f276:=dG.f276
 t0:=dG.t0
 a0:=dG.a0
 z0:=dG.z0
 v0:=dG.v0
 t3:=dG.t3
 a3:=dG.a3
 z3:=dG.z3
 v3:=dG.v3
 t4:=dG.t4
 a4:=dG.a4
 z4:=dG.z4
 v4:=dG.v4
 t9:=dG.t9
 a9:=dG.a9
 z9:=dG.z9
 v9:=dG.v9
 t20:=dG.t20
 a20:=dG.a20
 z20:=dG.z20
 v20:=dG.v20
 t37:=dG.t37
 a37:=dG.a37
 z37:=dG.z37
 v37:=dG.v37
 t70:=dG.t70
 a70:=dG.a70
 z70:=dG.z70
 v70:=dG.v70
 t72:=dG.t72
 a72:=dG.a72
 z72:=dG.z72
 v72:=dG.v72
 t75:=dG.t75
 a75:=dG.a75
 z75:=dG.z75
 v75:=dG.v75
 t164:=dG.t164
 a164:=dG.a164
 z164:=dG.z164
 v164:=dG.v164}
def G4:String:=Rows.topTextRow.named.getD 3 default
abbrev yD (w:World):Prop:=Lib.TabIs prog w G4 .u64 Lib.pow10Tab
theorem Jo (i:Nat)(hi:i<100)(w:World):Calls prog 95 #[ag (i:Int)] w fun e a=>e= .returned (.string ⟨(Lib.decDigits i).toArray⟩)/\a=w:=
 Any.strconv_Itoa_small ES.ton171 i hi w
theorem ET (n:Int)(b: -9223372036854775808<=n)(c:n<=9223372036854775807)(w:World)(f:yD w):Calls prog 95 #[ag n] w fun e a=>e= .returned (.string ⟨(Lib.itoa n).toArray⟩)/\ao w a:=
 (Any.strconv_Itoa ES n b c w f).mono fun e a ⟨d,k,os,g⟩=>⟨d,by rw[g];exact Lib.below_grow _ w (aA _) k os⟩
theorem QC (s:ByteArray)(w:World):Calls prog 180 #[.string s,ag 1] w fun e a=>e= .returned (.string s)/\a=w:=Any.strings_Repeat_one G3 s w
theorem EU (s:ByteArray)(w:World):Calls prog 180 #[.string s,ag 0] w fun e a=>e= .returned (.string ⟨#[]⟩)/\a=w:=Any.strings_Repeat_zero G3 s w
theorem L1 (g o c:Nat)(xs:List ByteArray)(b:ByteArray)(w:World)
  (a: ∀(j:Nat) x,xs[j]? =some x->w.cell? (ae g (o+j))=some (.string x))
  (i:g<w.heap.size) (k:xs.length<=140737488355328) (d:xs.length<=c)
  (f:(Lib.join (xs.map (·.data.toList)) b.data.toList).length<=140737488355328):
  Calls prog 141 #[.slice (some (ae g o)) xs.length c,.string b] w fun e l=>e= .returned (.string ⟨(Lib.join (xs.map (·.data.toList)) b.data.toList).toArray⟩)/\ao w l:=
 Any.strings_Join dG qD g o c xs b w a i k d f
theorem TO (B b:Nat)(c:List Value)(s:ByteArray)(w:World)(h:Lib.IsBuilderF 75 5 B b c w)(a:c.length+s.size<=140737488355328)(d:B<=w.heap.size):
  Calls prog 20 #[ab b 0,.string s] w fun e f=>e= .returned (.tuple #[ag s.size,.nilIface])/\(Lib.BuilderAtF 75 5 B b (ab b 0) (c++Lib.strCells s) f/\Below B w f/\Lib.OthersKept 5 (some b) w f):=
 Any.Builder_WriteString_k QB qD B b c s w h a d
theorem TP (B b:Nat)(l:List UInt8)(w:World)(h:Lib.IsBuilderF 75 5 B b (Lib.byteCells l) w)(a:B<=w.heap.size):
  Calls prog 23 #[ab b 0] w fun e c=>e= .returned (.string ⟨l.toArray⟩)/\(Lib.IsBuilderF 75 5 B b (Lib.byteCells l) c/\Below B w c/\Lib.OthersKept 5 (some b) w c):=
 Any.Builder_String_any_k QA wT B b l w h a
theorem TQ (B b:Nat)(a:List Value)(w:World)(h:Lib.IsBuilderF 75 5 B b a w):
  Calls prog 22 #[ab b 0] w fun e c=>e= .returned (ag a.length)/\c=w:=
 Any.Builder_Len_f Qz B b a w h
end
theorem l3 {s:ByteArray}{l:List UInt8}(h:s.data=l.toArray):Value.string s= .string ⟨l.toArray⟩:=by
 cases s;simp at h;rw[h]
theorem QD {n:Nat}(h:n<10):pad2 n=[48,UInt8.ofNat (48+n)]:=by
 unfold pad2;rw[show n/10=0 by omega,show n%10=n by omega];rfl
theorem QE {n:Nat}(a: ¬n<10)(b:n<100):Lib.decDigits n=pad2 n:=Lib.decDigits_two a b
theorem EV (n:Nat)(h:n<100)(w:World):
  Calls prog 139 #[ag (n:Int),ag 2] w fun e a=>e= .returned (.string ⟨(pad2 n).toArray⟩)/\a=w:=by
 have c:=Jo n h w;by_cases b:n<10
 ·rw[Lib.decDigits_one b]at c;rw[QD b];have r:=QC ⟨#[48]⟩ w;go_enter func139,ntmps139;go_wp2_with fail;refine c.mono ?_;rintro e a ⟨rfl,rfl⟩;clear c;go_wp2_with fail;refine r.mono ?_;rintro e a ⟨rfl,rfl⟩;go_wp2_with fail;go_ret;exact⟨congrArg Ending.returned (l3 (by simp)),rfl⟩
 ·rw[QE b h]at c;have r:=EU ⟨#[48]⟩ w;have d:(pad2 n).length=2:=rfl;generalize pad2 n=P at*;go_enter func139,ntmps139;go_wp2_with fail;refine c.mono ?_;rintro e a ⟨rfl,rfl⟩;clear c;go_wp2_with fail;refine r.mono ?_;rintro e a ⟨rfl,rfl⟩;go_wp2_with fail;go_ret;exact⟨congrArg Ending.returned (l3 (by simp)),rfl⟩
theorem qS (a:Int)(c:0<=a)(d:a<100)(w:World):
  Calls prog 139 #[ag a,ag 2] w fun e b=>e= .returned (.string ⟨(pad2 a.toNat).toArray⟩)/\b=w:=by
 have h:=EV a.toNat (by omega) w;rw[show((a.toNat:Nat):Int)=a by omega]at h;exact h
theorem FQ (y:Int)(f:2000<=y)(g:y<=2399)(w:World)(a:yD w):
  Calls prog 139 #[ag y,ag 4] w fun e b=>e= .returned (.string ⟨(Lib.decDigits y.toNat).toArray⟩)/\ao w b:=by
 have c:=ET y (by omega) (by omega) w a;have e:Lib.itoa y=Lib.decDigits y.toNat:=by unfold Lib.itoa;rw[aw (by omega)]
 rw[e]at c
 have i:(Lib.decDigits y.toNat).length=4:=by
  rw[Lib.decDigits_length];exact Lib.nDigits_unique 3 y.toNat (by omega) (by omega)
 have r:=fun w=>EU ⟨#[48]⟩ w;clear e a;generalize Lib.decDigits y.toNat=P at*;go_enter func139,ntmps139;go_wp2_with fail;refine c.mono ?_;rintro e b ⟨rfl,d⟩;clear c;go_wp2_with fail;refine(r _).mono ?_;rintro e j ⟨rfl,rfl⟩;clear r;go_wp2_with fail;go_ret;exact⟨congrArg Ending.returned (l3 (by simp)),d⟩
theorem vM (a:Int)(d:0<=a)(f:a<=1440)(w:World):
  Calls prog 93 #[ag a] w fun e b=>e= .returned (.string ⟨(clockL a).toArray⟩)/\b=w:=by
 have c1:=qS (a/60) (by omega) (by omega) w;have c:=qS (a%60) (by omega) (by omega) w
 have e:clockL a=pad2 (a/60).toNat++58::pad2 (a%60).toNat:=by
  unfold clockL;rw[show(a/60).toNat=a.toNat/60 by omega,show(a%60).toNat=a.toNat%60 by omega]
 rw[e];have g:=uk (a/60).toNat;have i:=uk (a%60).toNat;clear e;generalize pad2 (a/60).toNat=P at*;generalize pad2 (a%60).toNat=R at*;go_enter func93,ntmps93;go_wp2_with fail;refine c1.mono ?_;rintro e b ⟨rfl,rfl⟩;clear c1;go_wp2_with fail;refine c.mono ?_;rintro e b ⟨rfl,rfl⟩;clear c;go_wp2_with fail;go_ret;exact⟨congrArg Ending.returned (l3 (by simp)),rfl⟩
theorem vN (n:Int)(O:0<=n)(P:n<146097)(w:World)(R:fL w)(S: ∀t,ao w t->yD t):
  Calls prog 142 #[ag n] w fun e t=>e= .returned (.string ⟨(dateL n).toArray⟩)/\ao w t:=by
 have c:=Sb n w R O P;clear R;go_enter func142,ntmps142;go_wp2_with fail;refine c.mono ?_;rintro e l ⟨y,m,d,rfl,E,F,r,u⟩;clear c;have G:=LW E F r;have I:=Cal.AQ y m (by omega);have H:=Cal.QU y m;have ED:T4 (dateL n=Lib.decDigits y.toNat++45::(pad2 m.toNat++45::pad2 d.toNat)):=by show _=_;unfold dateL;rw[G]
 clear G r;have C:=u.trans ((am l (.cells #[ag y,ag m,ag d] 208)).mono u.size);have x:=aB l (.cells #[ag y,ag m,ag d] 208);have V:=fun(W:World) (h:Below (l.alloc (.cells #[ag y,ag m,ag d] 208)).heap.size (l.alloc (.cells #[ag y,ag m,ag d] 208)) W)=>FQ y (by omega) (by omega) W (S W (au C h));have U:=fun(W:World)=>(qS m (by omega) (by omega) W).mono (fun e t h=>(⟨h.1,h.2▸aF _ _⟩:e= .returned (.string ⟨(pad2 m.toNat).toArray⟩)/\ao W t));have T:=fun(W:World)=>(qS d (by omega) (by omega) W).mono (fun e t h=>(⟨h.1,h.2▸aF _ _⟩:e= .returned (.string ⟨(pad2 d.toNat).toArray⟩)/\ao W t));have lY:(Lib.decDigits y.toNat).length<=4:=tD (by omega);have lM:=uk m.toNat;have lD:=uk d.toNat;clear S E F I H u O P;generalize Lib.decDigits y.toNat=Y at*;generalize pad2 m.toNat=M at*;generalize pad2 d.toNat=D at*;go_wp2_with fail;generalize av:l.alloc (.cells #[ag y,ag m,ag d] 208)=wA at*;have z0:=ak 0 x;have z1:=ak 1 x;have z2:=ak 2 x;refine AG (by kernel_rfl) (by kernel_rfl) (by kernel_rfl) (by kernel_rfl) [(10,ab l.heap.size 0),(11,ag y),(12,.string ⟨(Y).toArray⟩),(13,.string ⟨(Y++[45]).toArray⟩),(14,ab l.heap.size 1),(15,ag m),(16,.string ⟨(M).toArray⟩),(17,.string ⟨(Y++45::M).toArray⟩),(18,.string ⟨(Y++45::(M++[45])).toArray⟩),(19,ab l.heap.size 2),(20,ag d),(21,.string ⟨(D).toArray⟩),(22,.string ⟨(Y++45::(M++45::D)).toArray⟩),(2,.string ⟨(Y++45::(M++45::D)).toArray⟩)] (by kernel_rfl) (by kernel_rfl) ?_ ?_
 ·intro i s v o L A W f g a B p b;match i,f,g with
  |0,f,g=>
   cases ay f;cases ay g;have Q:A.tmps[3]?.getD undef=ab l.heap.size 0:=(gd A 3).trans (p 3 (by kernel_rfl));refine dq rfl (fun K j=> ?_);go_simp;exact j _ _ ⟨rfl,aF _ _⟩
  |1,f,g=>
   cases ay f;cases ay g;have X:A.tmps[10]?.getD undef=ab l.heap.size 0:=(gd A 10).trans (b 0 10 _ rfl (a ⟨0,.data⟩ (by simp) rfl));have z:W.cell? (ae l.heap.size 0)=some (ag y):=aj B z0;refine dq rfl (fun K j=> ?_);go_simp;exact j _ _ ⟨rfl,aF _ _⟩
  |2,f,g=>
   cases ay f;cases ay g;have Z:A.tmps[11]?.getD undef=ag y:=(gd A 11).trans (b 1 11 _ rfl (a ⟨1,.data⟩ (by simp) rfl));refine dq rfl (fun K j=> ?_);go_simp;refine(V W B).mono ?_;rintro N J ⟨rfl,q⟩;exact j _ _ ⟨rfl,q⟩
  |3,f,g=>
   cases ay f;cases ay g;have aa:A.tmps[12]?.getD undef= .string ⟨(Y).toArray⟩:=(gd A 12).trans (b 2 12 _ rfl (a ⟨2,.data⟩ (by simp) rfl));refine dq rfl (fun K j=> ?_);go_simp;rw[aw (by omega)];exact j _ _ ⟨congrArg (A.put (some 13)) (l3 (by simp)),aF _ _⟩
  |4,f,g=>
   cases ay f;cases ay g;have Q:A.tmps[3]?.getD undef=ab l.heap.size 0:=(gd A 3).trans (p 3 (by kernel_rfl));refine dq rfl (fun K j=> ?_);go_simp;exact j _ _ ⟨rfl,aF _ _⟩
  |5,f,g=>
   cases ay f;cases ay g;have ad:A.tmps[14]?.getD undef=ab l.heap.size 1:=(gd A 14).trans (b 4 14 _ rfl (a ⟨4,.data⟩ (by simp) rfl));have z:W.cell? (ae l.heap.size 1)=some (ag m):=aj B z1;refine dq rfl (fun K j=> ?_);go_simp;exact j _ _ ⟨rfl,aF _ _⟩
  |6,f,g=>
   cases ay f;cases ay g;have af:A.tmps[15]?.getD undef=ag m:=(gd A 15).trans (b 5 15 _ rfl (a ⟨5,.data⟩ (by simp) rfl));refine dq rfl (fun K j=> ?_);go_simp;refine(U W).mono ?_;rintro N J ⟨rfl,q⟩;exact j _ _ ⟨rfl,q⟩
  |7,f,g=>
   cases ay f;cases ay g;have ac:A.tmps[13]?.getD undef= .string ⟨(Y++[45]).toArray⟩:=(gd A 13).trans (b 3 13 _ rfl (a ⟨3,.data⟩ (by simp) rfl));have ah:A.tmps[16]?.getD undef= .string ⟨(M).toArray⟩:=(gd A 16).trans (b 6 16 _ rfl (a ⟨6,.data⟩ (by simp) rfl));refine dq rfl (fun K j=> ?_);go_simp;rw[aw (by omega)];exact j _ _ ⟨congrArg (A.put (some 17)) (l3 (by simp)),aF _ _⟩
  |8,f,g=>
   cases ay f;cases ay g;have ai:A.tmps[17]?.getD undef= .string ⟨(Y++45::M).toArray⟩:=(gd A 17).trans (b 7 17 _ rfl (a ⟨7,.data⟩ (by simp) rfl));refine dq rfl (fun K j=> ?_);go_simp;rw[aw (by omega)];exact j _ _ ⟨congrArg (A.put (some 18)) (l3 (by simp)),aF _ _⟩
  |9,f,g=>
   cases ay f;cases ay g;have Q:A.tmps[3]?.getD undef=ab l.heap.size 0:=(gd A 3).trans (p 3 (by kernel_rfl));refine dq rfl (fun K j=> ?_);go_simp;exact j _ _ ⟨rfl,aF _ _⟩
  |10,f,g=>
   cases ay f;cases ay g;have an:A.tmps[19]?.getD undef=ab l.heap.size 2:=(gd A 19).trans (b 9 19 _ rfl (a ⟨9,.data⟩ (by simp) rfl));have z:W.cell? (ae l.heap.size 2)=some (ag d):=aj B z2;refine dq rfl (fun K j=> ?_);go_simp;exact j _ _ ⟨rfl,aF _ _⟩
  |11,f,g=>
   cases ay f;cases ay g;have ap:A.tmps[20]?.getD undef=ag d:=(gd A 20).trans (b 10 20 _ rfl (a ⟨10,.data⟩ (by simp) rfl));refine dq rfl (fun K j=> ?_);go_simp;refine(T W).mono ?_;rintro N J ⟨rfl,q⟩;exact j _ _ ⟨rfl,q⟩
  |12,f,g=>
   cases ay f;cases ay g;have al:A.tmps[18]?.getD undef= .string ⟨(Y++45::(M++[45])).toArray⟩:=(gd A 18).trans (b 8 18 _ rfl (a ⟨8,.data⟩ (by simp) rfl));have aq:A.tmps[21]?.getD undef= .string ⟨(D).toArray⟩:=(gd A 21).trans (b 11 21 _ rfl (a ⟨11,.data⟩ (by simp) rfl));refine dq rfl (fun K j=> ?_);go_simp;rw[aw (by omega)];exact j _ _ ⟨congrArg (A.put (some 22)) (l3 (by simp)),aF _ _⟩
  |13,f,g=>
   cases ay f;cases ay g;have ar:A.tmps[22]?.getD undef= .string ⟨(Y++45::(M++45::D)).toArray⟩:=(gd A 22).trans (b 12 22 _ rfl (a ⟨12,.data⟩ (by simp) rfl));refine dq rfl (fun K j=> ?_);go_simp;exact j _ _ ⟨rfl,aF _ _⟩
  |k+14,f,g=>simp at f
 ·intro W B;simp only[aR,a8];go_simp;go_wp2_with fail;go_ret;exact⟨congrArg Ending.returned (l3 (by rw[ED.o])),au C B⟩
section
theorem Sk (w:World):(Instr.index 217 (.agg #[.string ⟨#[109,111,110]⟩,.string ⟨#[116,117,101]⟩,.string ⟨#[119,101,100]⟩,.string ⟨#[116,104,117]⟩,.string ⟨#[102,114,105]⟩,.string ⟨#[115,97,116]⟩,.string ⟨#[115,117,110]⟩]) (ag 0)).run prog w= .ok (.string ⟨#[109,111,110]⟩) w:=by
 unfold Instr.index;simp[go_sem]
theorem Sm (w:World):(Instr.index 217 (.agg #[.string ⟨#[109,111,110]⟩,.string ⟨#[116,117,101]⟩,.string ⟨#[119,101,100]⟩,.string ⟨#[116,104,117]⟩,.string ⟨#[102,114,105]⟩,.string ⟨#[115,97,116]⟩,.string ⟨#[115,117,110]⟩]) (ag 1)).run prog w= .ok (.string ⟨#[116,117,101]⟩) w:=by
 unfold Instr.index;simp[go_sem]
theorem Sn (w:World):(Instr.index 217 (.agg #[.string ⟨#[109,111,110]⟩,.string ⟨#[116,117,101]⟩,.string ⟨#[119,101,100]⟩,.string ⟨#[116,104,117]⟩,.string ⟨#[102,114,105]⟩,.string ⟨#[115,97,116]⟩,.string ⟨#[115,117,110]⟩]) (ag 2)).run prog w= .ok (.string ⟨#[119,101,100]⟩) w:=by
 unfold Instr.index;simp[go_sem]
theorem So (w:World):(Instr.index 217 (.agg #[.string ⟨#[109,111,110]⟩,.string ⟨#[116,117,101]⟩,.string ⟨#[119,101,100]⟩,.string ⟨#[116,104,117]⟩,.string ⟨#[102,114,105]⟩,.string ⟨#[115,97,116]⟩,.string ⟨#[115,117,110]⟩]) (ag 3)).run prog w= .ok (.string ⟨#[116,104,117]⟩) w:=by
 unfold Instr.index;simp[go_sem]
theorem Sp (w:World):(Instr.index 217 (.agg #[.string ⟨#[109,111,110]⟩,.string ⟨#[116,117,101]⟩,.string ⟨#[119,101,100]⟩,.string ⟨#[116,104,117]⟩,.string ⟨#[102,114,105]⟩,.string ⟨#[115,97,116]⟩,.string ⟨#[115,117,110]⟩]) (ag 4)).run prog w= .ok (.string ⟨#[102,114,105]⟩) w:=by
 unfold Instr.index;simp[go_sem]
theorem Sq (w:World):(Instr.index 217 (.agg #[.string ⟨#[109,111,110]⟩,.string ⟨#[116,117,101]⟩,.string ⟨#[119,101,100]⟩,.string ⟨#[116,104,117]⟩,.string ⟨#[102,114,105]⟩,.string ⟨#[115,97,116]⟩,.string ⟨#[115,117,110]⟩]) (ag 5)).run prog w= .ok (.string ⟨#[115,97,116]⟩) w:=by
 unfold Instr.index;simp[go_sem]
theorem Sr (w:World):(Instr.index 217 (.agg #[.string ⟨#[109,111,110]⟩,.string ⟨#[116,117,101]⟩,.string ⟨#[119,101,100]⟩,.string ⟨#[116,104,117]⟩,.string ⟨#[102,114,105]⟩,.string ⟨#[115,97,116]⟩,.string ⟨#[115,117,110]⟩]) (ag 6)).run prog w= .ok (.string ⟨#[115,117,110]⟩) w:=by
 unfold Instr.index;simp[go_sem]
attribute [local go_sem] Sk Sm Sn So Sp Sq Sr
theorem nU:prog.underlying 103=some (.slice 9):=underlying103
theorem QF: ∀(a:Fin 128) (j:Fin 7),bits .and .i64 (a.1:Int) (2^j.1)=if nt (a.1:Int) j.1 then 2^j.1 else 0:=by decide+kernel
theorem jJ (a:Int)(j:Nat)(b:j<7)(c:0<=a)(d:a<128):bits .and .i64 a (2^j)=if nt a j then 2^j else 0:=by
 have h:=QF ⟨a.toNat,by omega⟩ ⟨j,b⟩;rw[show(((⟨a.toNat,by omega⟩:Fin 128).1:Nat):Int)=a from by simp;omega]at h;exact h
theorem rV {a:Int}{j:Nat}(h:nt a j=false):bP a (j+1)=bP a j:=by rw[bP,h];rfl
theorem uo {a:Int}{j:Nat}(h:nt a j=true):bP a (j+1)=bP a j++[dO.getD j []]:=by rw[bP,h];rfl
theorem gc (a:Int): ∀j,(bP a j).length<=j
 |0=>by simp[bP]
 |j+1=>by
  have:=gc a j;rw[bP];split
  ·simp;omega
  ·omega
theorem Of: ∀a:Fin 128,1<=a.1->0<(bP (a.1:Int) 7).length:=by decide+kernel
theorem L2 (a:Int)(b:1<=a)(c:a<128):0<(bP a 7).length:=by
 have h:=Of ⟨a.toNat,by omega⟩ (by show 1<=a.toNat;omega);rw[show(((⟨a.toNat,by omega⟩:Fin 128).1:Nat):Int)=a from by simp;omega]at h;exact h
theorem CD (l:List (List UInt8)):(l.map fun s=>(⟨s.toArray⟩:ByteArray)).map (fun x=>x.data.toList)=l:=by
 induction l with
 |nil=>rfl
 |cons x l a=>rw[cQ,cQ,a]
theorem Og {wr:World}{B:Nat}{v:Value}{l:List (List UInt8)}(h:wr.ownsRow B 9 1 v l.length (l.map fun s=> .string ⟨s.toArray⟩))(n:0<l.length):
  ∃g cap:Nat,v= .slice (some (ae g 0)) l.length cap/\l.length<=cap/\g<wr.heap.size/\ ∀(j:Nat) (x:ByteArray),(l.map fun s=>(⟨s.toArray⟩:ByteArray))[j]? =some x->wr.cell? (ae g j)=some (.string x):=by
 obtain⟨_,⟨_,o⟩|⟨g,cap,b,m,p,c,e,q,i,k⟩⟩:=h
 ·omega
 ·refine⟨g,cap,m,e,(bz.1 c).1,fun j x d=> ?_⟩;rw[bf]at d;obtain⟨s,f,rfl⟩:=eU.1 d;have a:(b.toList.take (l.length*1))[j]? =some (.string ⟨s.toArray⟩):=(by rw[k,bf,f];rfl);rw[gC]at a;split at a
  ·simp[World.cell?,c];simpa using a
  ·cases a
theorem EW (a:Int)(L:1<=a)(r:a<128)(w:World)(G:oA w):
  Calls prog 96 #[ag a] w fun e V=>e= .returned (.string ⟨(daysL a).toArray⟩)/\ao w V:=by
 have t0:=G 0 (by omega);have t1:=G 1 (by omega);have t2:=G 2 (by omega);have Q:=G 3 (by omega);have R:=G 4 (by omega);have S:=G 5 (by omega);have T:=G 6 (by omega);simp only[dO,List.getD_cons_zero,List.getD_cons_succ]at t0 t1 t2 Q R S T;obtain⟨H,hi,A,B,C⟩:=iV (show(prog.info? 9).map (fun i=>(i.zero,i.size,i.bytes))=some (some (.string ⟨#[]⟩),1,16) by kernel_rfl);go_enter func96,ntmps96;go_wp2_with fail;clear t0 t1 t2 Q R S T G;go_loopw [3,4,5,7] (fun v _ _ q wr=> ∃j:Nat,q=ag (j:Int)/\j<=7/\wr.ownsRow w.heap.size 9 1 v (bP a j).length ((bP a j).map fun s=> .string ⟨s.toArray⟩)/\ao w wr) (fun _ _ _ q _=>7-(intOf q).toNat);case atStart=>exact⟨0,rfl,by omega,df _ _ _ _,aF _ _⟩
 case round=>
  obtain⟨j,rfl,p,d,c⟩:=hrel;by_cases P:j<7
  ·have N:j=0\/j=1\/j=2\/j=3\/j=4\/j=5\/j=6:=(by omega);rcases N with rfl|rfl|rfl|rfl|rfl|rfl|rfl
   ·cases hon:nt a 0 with
    |false=>
     have b:=jJ a 0 (by omega) (by omega) r;rw[hon]at b;have t:T4 (bP a (0+1)=bP a 0):=rV hon;clear hon;simp at b;go_wp2_with fail;go_roundw;case rel=>exact⟨0+1,by first|rfl|go_num,by omega,by rw[t.o];exact d,c⟩
     case measure=>simp[intOf]
    |true=>
     have b:=jJ a 0 (by omega) (by omega) r;rw[hon]at b;have t:T4 (bP a (0+1)=bP a 0++[dO.getD 0 []]):=uo hon;clear hon;simp at b;go_wp2_with(at_builtin;refine eC _ rfl _ _ 103 rfl w.heap.size 9 H (.string ⟨#[]⟩) 1 16 nU hi A B C rfl (by decide) u3 (bP a 0).length ((bP a 0).map fun s=> .string ⟨s.toArray⟩) rfl (d.alloc _) ⟨wr.heap.size,0,none⟩ 1 1 [.string ⟨#[109,111,110]⟩] rfl rfl ?c1 ?c2 ?c3 ?c4 ?c5 ?_)
     case c1=>
      intro j u p;match j,p with
      |0,p=>simp at p;subst p;simp[Addr.add]
     case c2=>intro u y;simp at y;rcases y with rfl;rfl
     case c3=>unfold maxLen;have:=gc a 0;omega
     case c4=>have:=gc a 0;omega
     case c5=>have:=c.size;simp;omega
     ·intro F z f m _
      have n:z.ownsRow w.heap.size 9 1 F (bP a (0+1)).length ((bP a (0+1)).map fun s=> .string ⟨s.toArray⟩):=by
       rw[t.o];simpa[dO] using f
      have l:ao w z:=(c.alloc c.size _).grown m (by have:=c.size;simp;omega) (fun k E=>(d.lt k E).1);clear d f;go_wp2_with fail;go_roundw;case rel=>exact⟨0+1,by first|rfl|go_num,by omega,n,l⟩
      case measure=>simp[intOf]
   ·cases hon:nt a 1 with
    |false=>
     have b:=jJ a 1 (by omega) (by omega) r;rw[hon]at b;have t:T4 (bP a (1+1)=bP a 1):=rV hon;clear hon;simp at b;go_wp2_with fail;go_roundw;case rel=>exact⟨1+1,by first|rfl|go_num,by omega,by rw[t.o];exact d,c⟩
     case measure=>simp[intOf]
    |true=>
     have b:=jJ a 1 (by omega) (by omega) r;rw[hon]at b;have t:T4 (bP a (1+1)=bP a 1++[dO.getD 1 []]):=uo hon;clear hon;simp at b;go_wp2_with(at_builtin;refine eC _ rfl _ _ 103 rfl w.heap.size 9 H (.string ⟨#[]⟩) 1 16 nU hi A B C rfl (by decide) u3 (bP a 1).length ((bP a 1).map fun s=> .string ⟨s.toArray⟩) rfl (d.alloc _) ⟨wr.heap.size,0,none⟩ 1 1 [.string ⟨#[116,117,101]⟩] rfl rfl ?c1 ?c2 ?c3 ?c4 ?c5 ?_)
     case c1=>
      intro j u p;match j,p with
      |0,p=>simp at p;subst p;simp[Addr.add]
     case c2=>intro u y;simp at y;rcases y with rfl;rfl
     case c3=>unfold maxLen;have:=gc a 1;omega
     case c4=>have:=gc a 1;omega
     case c5=>have:=c.size;simp;omega
     ·intro F z f m _
      have n:z.ownsRow w.heap.size 9 1 F (bP a (1+1)).length ((bP a (1+1)).map fun s=> .string ⟨s.toArray⟩):=by
       rw[t.o];simpa[dO] using f
      have l:ao w z:=(c.alloc c.size _).grown m (by have:=c.size;simp;omega) (fun k E=>(d.lt k E).1);clear d f;go_wp2_with fail;go_roundw;case rel=>exact⟨1+1,by first|rfl|go_num,by omega,n,l⟩
      case measure=>simp[intOf]
   ·cases hon:nt a 2 with
    |false=>
     have b:=jJ a 2 (by omega) (by omega) r;rw[hon]at b;have t:T4 (bP a (2+1)=bP a 2):=rV hon;clear hon;simp at b;go_wp2_with fail;go_roundw;case rel=>exact⟨2+1,by first|rfl|go_num,by omega,by rw[t.o];exact d,c⟩
     case measure=>simp[intOf]
    |true=>
     have b:=jJ a 2 (by omega) (by omega) r;rw[hon]at b;have t:T4 (bP a (2+1)=bP a 2++[dO.getD 2 []]):=uo hon;clear hon;simp at b;go_wp2_with(at_builtin;refine eC _ rfl _ _ 103 rfl w.heap.size 9 H (.string ⟨#[]⟩) 1 16 nU hi A B C rfl (by decide) u3 (bP a 2).length ((bP a 2).map fun s=> .string ⟨s.toArray⟩) rfl (d.alloc _) ⟨wr.heap.size,0,none⟩ 1 1 [.string ⟨#[119,101,100]⟩] rfl rfl ?c1 ?c2 ?c3 ?c4 ?c5 ?_)
     case c1=>
      intro j u p;match j,p with
      |0,p=>simp at p;subst p;simp[Addr.add]
     case c2=>intro u y;simp at y;rcases y with rfl;rfl
     case c3=>unfold maxLen;have:=gc a 2;omega
     case c4=>have:=gc a 2;omega
     case c5=>have:=c.size;simp;omega
     ·intro F z f m _
      have n:z.ownsRow w.heap.size 9 1 F (bP a (2+1)).length ((bP a (2+1)).map fun s=> .string ⟨s.toArray⟩):=by
       rw[t.o];simpa[dO] using f
      have l:ao w z:=(c.alloc c.size _).grown m (by have:=c.size;simp;omega) (fun k E=>(d.lt k E).1);clear d f;go_wp2_with fail;go_roundw;case rel=>exact⟨2+1,by first|rfl|go_num,by omega,n,l⟩
      case measure=>simp[intOf]
   ·cases hon:nt a 3 with
    |false=>
     have b:=jJ a 3 (by omega) (by omega) r;rw[hon]at b;have t:T4 (bP a (3+1)=bP a 3):=rV hon;clear hon;simp at b;go_wp2_with fail;go_roundw;case rel=>exact⟨3+1,by first|rfl|go_num,by omega,by rw[t.o];exact d,c⟩
     case measure=>simp[intOf]
    |true=>
     have b:=jJ a 3 (by omega) (by omega) r;rw[hon]at b;have t:T4 (bP a (3+1)=bP a 3++[dO.getD 3 []]):=uo hon;clear hon;simp at b;go_wp2_with(at_builtin;refine eC _ rfl _ _ 103 rfl w.heap.size 9 H (.string ⟨#[]⟩) 1 16 nU hi A B C rfl (by decide) u3 (bP a 3).length ((bP a 3).map fun s=> .string ⟨s.toArray⟩) rfl (d.alloc _) ⟨wr.heap.size,0,none⟩ 1 1 [.string ⟨#[116,104,117]⟩] rfl rfl ?c1 ?c2 ?c3 ?c4 ?c5 ?_)
     case c1=>
      intro j u p;match j,p with
      |0,p=>simp at p;subst p;simp[Addr.add]
     case c2=>intro u y;simp at y;rcases y with rfl;rfl
     case c3=>unfold maxLen;have:=gc a 3;omega
     case c4=>have:=gc a 3;omega
     case c5=>have:=c.size;simp;omega
     ·intro F z f m _
      have n:z.ownsRow w.heap.size 9 1 F (bP a (3+1)).length ((bP a (3+1)).map fun s=> .string ⟨s.toArray⟩):=by
       rw[t.o];simpa[dO] using f
      have l:ao w z:=(c.alloc c.size _).grown m (by have:=c.size;simp;omega) (fun k E=>(d.lt k E).1);clear d f;go_wp2_with fail;go_roundw;case rel=>exact⟨3+1,by first|rfl|go_num,by omega,n,l⟩
      case measure=>simp[intOf]
   ·cases hon:nt a 4 with
    |false=>
     have b:=jJ a 4 (by omega) (by omega) r;rw[hon]at b;have t:T4 (bP a (4+1)=bP a 4):=rV hon;clear hon;simp at b;go_wp2_with fail;go_roundw;case rel=>exact⟨4+1,by first|rfl|go_num,by omega,by rw[t.o];exact d,c⟩
     case measure=>simp[intOf]
    |true=>
     have b:=jJ a 4 (by omega) (by omega) r;rw[hon]at b;have t:T4 (bP a (4+1)=bP a 4++[dO.getD 4 []]):=uo hon;clear hon;simp at b;go_wp2_with(at_builtin;refine eC _ rfl _ _ 103 rfl w.heap.size 9 H (.string ⟨#[]⟩) 1 16 nU hi A B C rfl (by decide) u3 (bP a 4).length ((bP a 4).map fun s=> .string ⟨s.toArray⟩) rfl (d.alloc _) ⟨wr.heap.size,0,none⟩ 1 1 [.string ⟨#[102,114,105]⟩] rfl rfl ?c1 ?c2 ?c3 ?c4 ?c5 ?_)
     case c1=>
      intro j u p;match j,p with
      |0,p=>simp at p;subst p;simp[Addr.add]
     case c2=>intro u y;simp at y;rcases y with rfl;rfl
     case c3=>unfold maxLen;have:=gc a 4;omega
     case c4=>have:=gc a 4;omega
     case c5=>have:=c.size;simp;omega
     ·intro F z f m _
      have n:z.ownsRow w.heap.size 9 1 F (bP a (4+1)).length ((bP a (4+1)).map fun s=> .string ⟨s.toArray⟩):=by
       rw[t.o];simpa[dO] using f
      have l:ao w z:=(c.alloc c.size _).grown m (by have:=c.size;simp;omega) (fun k E=>(d.lt k E).1);clear d f;go_wp2_with fail;go_roundw;case rel=>exact⟨4+1,by first|rfl|go_num,by omega,n,l⟩
      case measure=>simp[intOf]
   ·cases hon:nt a 5 with
    |false=>
     have b:=jJ a 5 (by omega) (by omega) r;rw[hon]at b;have t:T4 (bP a (5+1)=bP a 5):=rV hon;clear hon;simp at b;go_wp2_with fail;go_roundw;case rel=>exact⟨5+1,by first|rfl|go_num,by omega,by rw[t.o];exact d,c⟩
     case measure=>simp[intOf]
    |true=>
     have b:=jJ a 5 (by omega) (by omega) r;rw[hon]at b;have t:T4 (bP a (5+1)=bP a 5++[dO.getD 5 []]):=uo hon;clear hon;simp at b;go_wp2_with(at_builtin;refine eC _ rfl _ _ 103 rfl w.heap.size 9 H (.string ⟨#[]⟩) 1 16 nU hi A B C rfl (by decide) u3 (bP a 5).length ((bP a 5).map fun s=> .string ⟨s.toArray⟩) rfl (d.alloc _) ⟨wr.heap.size,0,none⟩ 1 1 [.string ⟨#[115,97,116]⟩] rfl rfl ?c1 ?c2 ?c3 ?c4 ?c5 ?_)
     case c1=>
      intro j u p;match j,p with
      |0,p=>simp at p;subst p;simp[Addr.add]
     case c2=>intro u y;simp at y;rcases y with rfl;rfl
     case c3=>unfold maxLen;have:=gc a 5;omega
     case c4=>have:=gc a 5;omega
     case c5=>have:=c.size;simp;omega
     ·intro F z f m _
      have n:z.ownsRow w.heap.size 9 1 F (bP a (5+1)).length ((bP a (5+1)).map fun s=> .string ⟨s.toArray⟩):=by
       rw[t.o];simpa[dO] using f
      have l:ao w z:=(c.alloc c.size _).grown m (by have:=c.size;simp;omega) (fun k E=>(d.lt k E).1);clear d f;go_wp2_with fail;go_roundw;case rel=>exact⟨5+1,by first|rfl|go_num,by omega,n,l⟩
      case measure=>simp[intOf]
   ·cases hon:nt a 6 with
    |false=>
     have b:=jJ a 6 (by omega) (by omega) r;rw[hon]at b;have t:T4 (bP a (6+1)=bP a 6):=rV hon;clear hon;simp at b;go_wp2_with fail;go_roundw;case rel=>exact⟨6+1,by first|rfl|go_num,by omega,by rw[t.o];exact d,c⟩
     case measure=>simp[intOf]
    |true=>
     have b:=jJ a 6 (by omega) (by omega) r;rw[hon]at b;have t:T4 (bP a (6+1)=bP a 6++[dO.getD 6 []]):=uo hon;clear hon;simp at b;go_wp2_with(at_builtin;refine eC _ rfl _ _ 103 rfl w.heap.size 9 H (.string ⟨#[]⟩) 1 16 nU hi A B C rfl (by decide) u3 (bP a 6).length ((bP a 6).map fun s=> .string ⟨s.toArray⟩) rfl (d.alloc _) ⟨wr.heap.size,0,none⟩ 1 1 [.string ⟨#[115,117,110]⟩] rfl rfl ?c1 ?c2 ?c3 ?c4 ?c5 ?_)
     case c1=>
      intro j u p;match j,p with
      |0,p=>simp at p;subst p;simp[Addr.add]
     case c2=>intro u y;simp at y;rcases y with rfl;rfl
     case c3=>unfold maxLen;have:=gc a 6;omega
     case c4=>have:=gc a 6;omega
     case c5=>have:=c.size;simp;omega
     ·intro F z f m _
      have n:z.ownsRow w.heap.size 9 1 F (bP a (6+1)).length ((bP a (6+1)).map fun s=> .string ⟨s.toArray⟩):=by
       rw[t.o];simpa[dO] using f
      have l:ao w z:=(c.alloc c.size _).grown m (by have:=c.size;simp;omega) (fun k E=>(d.lt k E).1);clear d f;go_wp2_with fail;go_roundw;case rel=>exact⟨6+1,by first|rfl|go_num,by omega,n,l⟩
      case measure=>simp[intOf]
  ·obtain rfl:j=7:=(by omega);obtain⟨g,cap,rfl,I,J,D⟩:=Og d (L2 a L r);have O:=gc a 7;have K:=L1 g 0 cap ((bP a 7).map fun s=>⟨s.toArray⟩) ⟨#[44]⟩ wr (fun j x U=>by rw[bN];exact D j x U) J (by simp;omega) (by simpa using I) (by rw[CD];have:=yx (a:=a) (by omega) r;exact bh this (by decide));rw[CD,bm]at K;clear D d P p;go_wp2_with fail;refine K.mono ?_;rintro e W ⟨rfl,M⟩;clear K;go_wp2_with fail;go_ret;exact⟨rfl,au c M⟩
theorem CL (a b:Int)(l:0<=a)(m:a<146097)(n:0<=b)(o:b<146097)(w:World)(g: ∀d,ao w d->fL d/\yD d):
  Calls prog 97 #[ag a,ag b] w fun e d=>e= .returned (.string ⟨(datesL a b).toArray⟩)/\ao w d:=by
 have i:=vN a l m w (g w (aF _ _)).1 (fun d h=>(g d h).2);have j:=fun(W:World) (h:ao w W)=>vN b n o W (g W h).1 (fun d q=>(g d (au h q)).2);have s:=um a;have t:=um b;unfold datesL;clear g l m n o;by_cases e:a=b
 ·subst e;rw[ax rfl];clear j;go_enter func97,ntmps97;go_wp2_with fail;refine i.mono ?_;rintro e p ⟨rfl,c⟩;go_wp2_with fail;go_ret;exact⟨rfl,c⟩
 ·rw[aw e];generalize dateL a=A at*;generalize dateL b=B at*;have r:(a==b)=false:=(by simpa using e);clear e;go_enter func97,ntmps97;go_wp2_with fail;refine i.mono ?_;rintro e p ⟨rfl,c⟩;have f:=j p c;clear i j;have u: ¬9223372036854775807<A.length+2:=(by omega);have v: ¬9223372036854775807<A.length+2+B.length:=(by omega);go_wp2_with fail;refine f.mono ?_;rintro e x ⟨rfl,k⟩;clear f;go_wp2_with fail;go_ret;exact⟨congrArg Ending.returned (l3 (by simp)),au c k⟩
end
def BSt (B b:Nat)(l:List UInt8)(w:World):Prop:=Lib.IsBuilderF 75 5 B b (Lib.byteCells l) w
structure BK (B b:Nat)(w w':World):Prop where
 below:Below B w w'
 others:Lib.OthersKept 5 (some b) w w'
theorem BK.refl (B b:Nat)(w:World):BK B b w w:=⟨aF _ _,Lib.OthersKept.refl _ _ _⟩
theorem BK.trans {B b:Nat}{w a c:World}(h:BK B b w a)(k:BK B b a c):BK B b w c:=⟨h.below.trans k.below,h.others.trans k.others⟩
theorem BK.of_below {B b:Nat}{w c:World}(h:ao w c)(d:B<=w.heap.size):BK B b w c:=
 ⟨h.mono d,fun k _ a _ _=>(h.block k (bz.1 a).1).trans a⟩
theorem FR {w f:World}{a:Nat}{e:TypeId}{size:Nat}{v:Value}{n:Nat}{xs:List Value}(h:w.ownsRowF a e size v n xs)(k:ao w f):f.ownsRowF a e size v n xs:=by
 obtain⟨j,c⟩:=h;refine⟨j,?_⟩;rcases c with c|⟨g,cap,b,i,m,l,d,r⟩
 ·exact .inl c
 ·exact .inr ⟨g,cap,b,i,m,l,(k.block _ (bz.1 d).1).trans d,r⟩
theorem AA {B b:Nat}{p:Value}{a:List Value}{w e:World}(h:Lib.BuilderAtF 75 5 B b p a w)(d:ao w e):Lib.BuilderAtF 75 5 B b p a e:=by
 obtain⟨f,v,c,g,i⟩:=h;exact⟨f,v,(d.block _ (bz.1 c).1).trans c,FR g d,i⟩
theorem BSt.below {B b:Nat}{l:List UInt8}{w c:World}(h:BSt B b l w)(a:ao w c):BSt B b l c:=by
 rcases h with h|h
 ·exact .inl (AA h a)
 ·exact .inr (AA h a)
theorem BSt.lt {B b:Nat}{l:List UInt8}{w:World}(h:BSt B b l w):B<=b/\b<w.heap.size:=by
 rcases h with h|h
 ·exact⟨h.1,h.lt⟩
 ·exact⟨h.1,h.lt⟩
theorem BSt.le {B b:Nat}{l:List UInt8}{w:World}(h:BSt B b l w):B<=w.heap.size:=by have:=h.lt;omega
def nV (B b:Nat)(l t:List UInt8)(w:World)(e:Ending)(a:World):Prop:=e= .returned (.tuple #[])/\BSt B b (l++t) a/\BK B b w a
theorem jS {B b:Nat}{l:List UInt8}{w:World}(x:List UInt8)(h:BSt B b l w)(a:l.length+x.length<=140737488355328):
  Calls prog 20 #[ab b 0,.string ⟨x.toArray⟩] w fun e c=>e= .returned (.tuple #[ag (⟨x.toArray⟩:ByteArray).size,.nilIface])/\BSt B b (l++x) c/\BK B b w c:=by
 have i:(⟨x.toArray⟩:ByteArray).size=x.length:=by simp[ByteArray.size]
 refine(TO B b (Lib.byteCells l) ⟨x.toArray⟩ w h (by rw[Lib.byteCells_length,i];exact a) h.le).mono ?_;rintro e c ⟨rfl,d,f,g⟩;refine⟨rfl,.inr ?_,f,g⟩;have:Lib.byteCells (l++x)=Lib.byteCells l++Lib.strCells ⟨x.toArray⟩:=by simp[Lib.byteCells,Lib.strCells]
 rw[this];exact d
def PTb (B:Nat)(w:World):Prop:= ∀a,Below B w a->fL a/\oA a/\yD a
theorem PTb.on {B:Nat}{w a:World}(h:PTb B w)(c:Below B w a):PTb B a:=fun _ b=>h _ (c.trans b)
theorem vO (k:Int)(w:World):Calls prog 48 #[ag k] w fun e i=>e= .returned (ag (Lx.holdP k:Int))/\i=w:=by
 have H:T4 (Lx.holdP k=if k=6\/k=7 then 0 else if k=8 then 1 else if k=4\/k=5 then 2 else 3):=rfl;by_cases c:k=6
 ·subst c;go_enter func48,ntmps48;go_wp2_with fail;go_ret;exact⟨rfl,rfl⟩
 by_cases d:k=7
 ·subst d;go_enter func48,ntmps48;go_wp2_with fail;go_ret;exact⟨rfl,rfl⟩
 by_cases f:k=8
 ·subst f;go_enter func48,ntmps48;go_wp2_with fail;go_ret;exact⟨rfl,rfl⟩
 by_cases a:k=4
 ·subst a;go_enter func48,ntmps48;go_wp2_with fail;go_ret;exact⟨rfl,rfl⟩
 by_cases b:k=5
 ·subst b;go_enter func48,ntmps48;go_wp2_with fail;go_ret;exact⟨rfl,rfl⟩
 have g:T4 (Lx.holdP k=3):=by
  show _=_;rw[H.o,aw (by omega),aw (by omega),aw (by omega)]
 have l:(k==6)=false:=by simpa using c
 have m:(k==7)=false:=by simpa using d
 have n:(k==8)=false:=by simpa using f
 have j:(k==4)=false:=by simpa using a
 have b5:(k==5)=false:=by simpa using b
 clear H a b c d f;go_enter func48,ntmps48;go_wp2_with fail;go_ret;rw[g.o];exact⟨rfl,rfl⟩
end Go.Proofs.YtpdoienkhgnceaaGreatDoor
