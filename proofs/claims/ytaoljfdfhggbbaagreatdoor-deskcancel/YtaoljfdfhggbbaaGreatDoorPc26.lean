/- Texts of the proof. -/
import Derived.Test.YtaoljfdfhggbbaaGreatDoorPc25
import Derived.Shelf.Sort.Plain
import Derived.Shelf.Slices.CompactI
import Derived.Shelf.Slices.In.SortNone
import Derived.Test.YtaoljfdfhggbbaaGreatDoorChecked
set_option maxRecDepth 100000
set_option maxHeartbeats 8000000
namespace Go.Proofs.YtaoljfdfhggbbaaGreatDoor
open Go.Proofs.Tryz Go.RowKit Lx Vx Mx Msk
namespace Lx
def frF (p:Nat->Bool):Nat->Nat->Option Nat
 |_,0=>none
 |i,k+1=>if p i=true then some i else frF p (i+1) k
theorem sw {p:Nat->Bool}{j:Nat}(f:p j=true): ∀(k i:Nat),i<=j->j<i+k->(∀c,i<=c->c<j->p c=false)->frF p i k=some j
 |0,i,g,l,_=>by omega
 |k+1,i,g,l,d=>by
  rw[frF];by_cases e:i=j
  ·subst e;rw[aD f]
  ·rw[ax (by rw[d i (aB _) (by omega)];decide)];exact sw f k (i+1) (by omega) (by omega) fun c a b=>d c (by omega) b
theorem mC {p:Nat->Bool}: ∀(k i:Nat),(∀c,i<=c->c<i+k->p c=false)->frF p i k=none
 |0,_,_=>rfl
 |k+1,i,h=>by
  rw[frF,ax (by rw[h i (aB _) (by omega)];decide)];exact mC k (i+1) fun c a b=>h c (by omega) (by omega)
end Lx
def lk1 (l:List Ru)(i:Nat):Bool:=match l[i]? with|some u=>atP5 l u.1 !=(i:Int)|none=>false
def lk2 (l:List Ru)(i:Nat):Bool:=match l[i]? with|some u=>decide (-1∈fW l u)|none=>false
def lk3 (l:List Ru)(i:Nat):Bool:=fol (iK l) (l.length+1) (fun _=>false) i i
def dq (l:List Ru):Int×Nat:=if(fV l).1≠0 then fV l else match frF (lk1 l) 0 l.length with
 |some i=>(7,i)
 |none=>match frF (lk2 l) 0 l.length with
  |some i=>(6,i)
  |none=>match frF (lk3 l) 0 l.length with
   |some i=>(9,i)
   |none=>(0,0)
theorem OB {l:List Ru}{i:Nat}(c:(fV l).1=0)(hi:i<l.length)(d:lk1 l i=true)(a: ∀b,b<i->lk1 l b=false):dq l=(7,i):=by
 unfold dq;rw[ax (by simpa using c),sw d l.length 0 (by omega) (by omega) fun b _ h=>a b h]
theorem OC {l:List Ru}{i:Nat}(c:(fV l).1=0)(d: ∀a,a<l.length->lk1 l a=false)(hi:i<l.length)(e:lk2 l i=true)(b: ∀a,a<i->lk2 l a=false):dq l=(6,i):=by
 unfold dq;rw[ax (by simpa using c),mC l.length 0 fun a _ h=>d a (by omega),sw e l.length 0 (by omega) (by omega) fun a _ h=>b a h]
theorem OD {l:List Ru}{i:Nat}(c:(fV l).1=0)(d: ∀a,a<l.length->lk1 l a=false)(e: ∀a,a<l.length->lk2 l a=false)(hi:i<l.length)(f:lk3 l i=true)(b: ∀a,a<i->lk3 l a=false):dq l=(9,i):=by
 unfold dq;rw[ax (by simpa using c),mC l.length 0 fun a _ h=>d a (by omega),mC l.length 0 fun a _ h=>e a (by omega),sw f l.length 0 (by omega) (by omega) fun a _ h=>b a h]
theorem ET {l:List Ru}(b:(fV l).1=0)(c: ∀a,a<l.length->lk1 l a=false)(d: ∀a,a<l.length->lk2 l a=false)(e: ∀a,a<l.length->lk3 l a=false):dq l=(0,0):=by
 unfold dq;rw[ax (by simpa using b),mC l.length 0 fun a _ h=>c a (by omega),mC l.length 0 fun a _ h=>d a (by omega),mC l.length 0 fun a _ h=>e a (by omega)]
def Jz (n:Nat)(p:Nat->Bool)(b c:World)(t:Value)(wr:World):Prop:= ∃i:Nat,t=ag (i:Int)/\i<=n/\(∀a,a<i->p a=false)/\aq b wr/\aq c wr
def EU (l:List Ru)(n:Nat)(b:World)(t:Value)(wr:World):Prop:= ∃k:Nat,t=ag (k:Int)/\k<=3/\((0<k-> ∀a,a<n->lk1 l a=false)/\(1<k-> ∀a,a<n->lk2 l a=false)/\(2<k-> ∀a,a<n->lk3 l a=false))/\aq b wr
theorem zE {l:List Ru}(h:(fV l).1=0):l.length<=40/\ ∀u∈l,(nms u.2).length<=600:=by
 unfold fV at h;split at h
 ·cases h
 ·refine⟨by omega,?_⟩
  have c: ∀(l:List Ru) (i:Nat),(jJ l i).1=0-> ∀u∈l,ruleP u=0:=by
   intro l;induction l with
   |nil=>intro _ _ u a;cases a
   |cons x l e=>
    intro i h u a;rw[jJ]at h;split at h
    ·rename_i d;exact absurd h d
    ·rename_i d;rcases bv.1 a with rfl|a
     ·simpa using d
     ·exact e _ h u a
  intro u a;have b:=c l 0 h u a;unfold ruleP at b;split at b
  ·cases b
  ·have f:=zD _ u.2 1 0 (aB _) b;have g:=zo b;omega
theorem uH (f:List (Ru×Value))(v:Value)(w:World)(h:InR w v f):Calls prog 38 #[v] w fun r w'=>r= .returned (.agg #[ag (dq (f.map (fun p=>p.1))).1,ag ((dq (f.map (fun p=>p.1))).2:Int)])/\aq w w':=by
 obtain⟨l,hl⟩:=au (f.map (fun p=>p.1));have a7:l.length=f.length:=by rw[<-hl,ba]
 obtain⟨pv,cv,rfl⟩:=h.form;have bA:=am w (.cells #[.slice pv f.length cv] 32);have bB:=bA.alloc bA.size (.cells #[ag 0,ag 0] 93);have s1:(w.alloc (.cells #[.slice pv f.length cv] 32)).heap.size=w.heap.size+1:=by simp
 have n1:=(dL _ (.cells #[ag 0,ag 0] 93) _ (aH (aE w (.cells #[.slice pv f.length cv] 32)))).trans (aE w (.cells #[.slice pv f.length cv] 32));have n2:=aE (w.alloc (.cells #[.slice pv f.length cv] 32)) (.cells #[ag 0,ag 0] 93);rw[s1]at n2;generalize an:(w.alloc (.cells #[.slice pv f.length cv] 32)).alloc (.cells #[ag 0,ag 0] 93)=wB at*;have cW:=GP f _ wB (h.below bB);have k1:=ak 0 n1;rw[hl]at cW⊢;go_enter func38,ntmps38;go_wp2_with fail;refine cW.mono ?_;rintro r w1 ⟨rfl,ae⟩;have m1:=ai ae n1;have m2:=ai ae n2;have aa:=aw bB ae;by_cases P:(fV l).1=0
 ·obtain⟨aO,aK⟩:=zE P;rw[P];generalize (((fV l).2:Nat):Int)=B at*;have bC:=am w1 (.cells #[ag 0,ag B] 93);have K:=aw aa bC;have ao:=ai bC m1;have T:=ai bC m2;have k1:=ak 0 ao;have cN:=oR f _ _ (h.below K);have m3:=aE w1 (.cells #[ag 0,ag B] 93);generalize aM:w1.alloc (.cells #[ag 0,ag B] 93)=w2 at*;have z0:=ak 0 m3;go_wp2_with fail;refine cN.mono ?_;rintro r w3 ⟨mb,rfl,aS,hM,af⟩;have m1:=(af.block _ (aH ao)).trans ao;have m2:=(af.block _ (aH T)).trans T;have a2:=aw K af;have bD:=am w3 (.cells #[.map (some mb)] 128);have ac:=aw a2 bD;have ad:jk (w3.alloc (.cells #[.map (some mb)] 128)) mb (f.map (fun p=>p.1)):=hM.later (bD.block _ (gW hM));have q1:=ai bD m1;have q2:=ai bD m2;have q4:=aE w3 (.cells #[.map (some mb)] 128)
  have cS:=xq f _ mb _ (h.below ac) ad (by omega) (fun p H=>by
   have:=aK p.1 (by rw[<-hl];exact dV.2 ⟨p,H,rfl⟩);omega)
  generalize aV:w3.alloc (.cells #[.map (some mb)] 128)=w4 at*;have k1:=ak 0 q1;have k4:=ak 0 q4;go_wp2_with fail;refine cS.mono ?_;rintro r w5 ⟨so,rfl,hZ,z⟩;rw[hl]at hZ;obtain⟨pz,cz,a8,_⟩:=(show mU w5 so (l.map (fW l)) from hZ)
  rw[ba,a7]at a8;obtain⟨X,ah⟩:=au w3.heap.size;have p1:=ai z q1;have p2:=ai z q2;have p4:=ai z q4;have av:=ad.later (z.block _ (gW ad));have a3:=aw ac z;have bE:=am w5 (.cells #[so] 27);have a4:=aw a3 bE;have x5:=aE w5 (.cells #[so] 27);have x1:=ai bE p1;have x2:=ai bE p2;have x4:=ai bE p4;have ax:=av.later (bE.block _ (gW av));have aJ:=mU.below hZ bE;generalize aW:w5.alloc (.cells #[so] 27)=w6 at*;rw[ah]at x4;obtain⟨b5,z⟩:=au w5.heap.size;rw[z]at x5;have bF:=am w6 (.cells #[ag 7,.func (.func 62) #[] #[ab X 0,ab w.heap.size 0],ag 6,.func (.func 63) #[] #[ab b5 0],ag 9,.func (.func 64) #[] #[ab b5 0]] 131);have M:=aE w6 (.cells #[ag 7,.func (.func 62) #[] #[ab X 0,ab w.heap.size 0],ag 6,.func (.func 63) #[] #[ab b5 0],ag 9,.func (.func 64) #[] #[ab b5 0]] 131);have HbW:=aF (aw a4 bF);have y1:=ai bF x1;have y2:=ai bF x2;have y4:=ai bF x4;have y5:=ai bF x5;have a0:=ax.later (bF.block _ (gW ax));have a1:=mU.below aJ bF;have a6:=h.below HbW.o;have I:=aF a7;have H0:=aF P;have aT: ∀(fn:Fn) (first cap:Array Value) (w:World),(Instr.makeFunc fn first cap).run prog w= .ok (.func fn first cap) w:=fun _ _ _ _=>rfl;subst a8;try simp only[ah]
  try simp only[z]
  go_wp2_with fail;try simp only[ah]
  try simp only[z]
  generalize aP:w6.alloc (.cells #[ag 7,.func (.func 62) #[] #[ab X 0,ab w.heap.size 0],ag 6,.func (.func 63) #[] #[ab b5 0],ag 9,.func (.func 64) #[] #[ab b5 0]] 131)=U at*;have kl:=ak 0 y1;have g0:=ak 0 M;have g1:=ak 1 M;have g2:=ak 2 M;have g3:=ak 3 M;have g4:=ak 4 M;have g5:=ak 5 M;have L:=y2
  have aA:PN (∀(i:Nat),i<f.length-> ∀W,aq U W->Calls prog 62 #[ag (i:Int),ab X 0,ab w.heap.size 0] W fun r w'=>r= .returned (.bool (lk1 l i))/\aq W w'):=fun i hi W N=>by
   obtain⟨u,hu⟩: ∃u,l[i]? =some u:=⟨l[i]'(by omega),az _⟩
   have e:lk1 l i=(atP5 l u.1 !=(i:Int)):=(by unfold lk1;rw[hu]);rw[e];have:=GW f pv cv mb X w.heap.size i u W (a6.below N) (a0.later (N.block _ (gW a0))) (ai N y1) (ai N y4) (by rw[hl];exact hu);rw[hl]at this;exact this
  have aB:PN (∀(i:Nat),i<f.length-> ∀W,aq U W->Calls prog 63 #[ag (i:Int),ab b5 0] W fun r w'=>r= .returned (.bool (lk2 l i))/\aq W w'):=fun i hi W N=>by
   obtain⟨u,hu⟩: ∃u,l[i]? =some u:=⟨l[i]'(by omega),az _⟩
   have e:lk2 l i=decide (-1∈fW l u):=(by unfold lk2;rw[hu]);rw[e];exact GX l _ b5 i u W (a1.below N) (ai N y5) hu
  have aC:PN ((∀y,y<f.length->lk2 l y=false)-> ∀(i:Nat),i<f.length-> ∀W,aq U W->Calls prog 64 #[ag (i:Int),ab b5 0] W fun r w'=>r= .returned (.bool (lk3 l i))/\aq W w'):=fun d i hi W N=>by
   refine GY l _ b5 i W (BC (a1.below N) fun u hu hm=> ?_) (by omega) (ai N y5) (by omega);obtain⟨j,hj⟩:=List.getElem?_of_mem hu;have aQ:j<l.length:=(aG.1 hj).1;have:=d j (by omega);unfold lk2 at this;rw[hj]at this;dsimp only at this;rw[bm hm]at this;cases this
  have aN:(f.length:Int)<=40:=(by omega);go_loopw [8,9,30] (fun _ _ t wr=>EU l f.length U t wr) (fun _ _ t _=>3-(intOf t).toNat);case atStart=>exact⟨0,rfl,by omega,⟨fun h=>absurd h (by omega),fun h=>absurd h (by omega),fun h=>absurd h (by omega)⟩,aI _ _⟩
  case round=>
   obtain⟨k,rfl,al,d,n⟩:=hrel;match k,al with
   |0,_=>
    have d0:=aj n g0;have d1:=aj n g1;have D:=n.alloc n.size (.cells #[ag 7,.func (.func 62) #[] #[ab X 0,ab w.heap.size 0]] 131);have G:=aE wr (.cells #[ag 7,.func (.func 62) #[] #[ab X 0,ab w.heap.size 0]] 131);have cL:=aA.o;generalize an:wr.alloc (.cells #[ag 7,.func (.func 62) #[] #[ab X 0,ab w.heap.size 0]] 131)=wB at*;have e0:=ak 0 G;have Z:=ak 1 G;have a9:=aj D kl;have Hno:=aF d;go_wp2_with fail;obtain⟨b8,Q⟩:=au wr.heap.size;simp only[Q]at e0 Z⊢;go_loopw [9,36] (fun _ t wr=>Jz f.length (lk1 l) U wB t wr) (fun _ t _=>f.length-(intOf t).toNat);case atStart=>exact⟨0,rfl,by omega,fun y R=>by omega,D,aI _ _⟩
    case round=>
     obtain⟨i,rfl,hi,c,m,x⟩:=hrel;have a5:(0:Int)<=(i:Int):=(by omega);have C:=aj x e0;have ap:=aj x Z;have Hall:=aF c;by_cases s:i<f.length
     ·have F:(i:Int)<(f.length:Int):=(by omega);have J:=cL i s wr m;cases H:lk1 l i with
      |true=>
       rw[H]at J
       have V:PN (dq l=(7,i)):=by
        have c:=Hall.o;have d:=Hno.o;have P:=H0.o;have s:i<l.length:=(by rw[I.o];exact s);have ar:=I.o;exact OB P s H c
       go_wp2_with fail;refine J.mono ?_;rintro r w2 ⟨rfl,g⟩;have Y:=(g.cell (bP C)).trans C;have q:=aw m g;have S:=ai q L;have A:=below_setRow ((HbW.o).trans (q.mono (HbW.o).size)) (show w.heap.size<=w.heap.size+1 by omega) #[ag 7,ag (i:Int)]
       go_wp2_with(first
        |(refine ay rfl 93 _ _ rfl _ _ rfl rfl _ _ S (by kernel_rfl) (by simp) (by simp[Value.oneCell']) ?_))
       refine mM 2 (by kernel_rfl) (w.heap.size+1) _ _ rfl rfl (aL _ _ _ _ _ _ S) ?_;rw[V.o];exact⟨rfl,A⟩
      |false=>
       rw[H]at J
       have O:PN (∀y,y<i+1->lk1 l y=false):=fun y R=>by
        by_cases e:y=i
        ·rw[e];exact H
        ·exact Hall.o y (by omega)
       go_wp2_with fail;refine J.mono ?_;rintro r w2 ⟨rfl,g⟩;have q:=aw m g;have E:=aw x g;go_wp2_with fail;go_roundw
       case rel=>
        (repeat apply iP);refine⟨?_,rfl⟩;exact⟨i+1,by go_num,by omega,O.o,q,E⟩
       case measure=>simp[intOf];omega
     ·have F: ¬(i:Int)<(f.length:Int):=(by omega);have ei:i=f.length:=(by omega)
      have O:PN (EU l f.length U (ag 1) wr):=by
       have d:=Hno.o;have c:=Hall.o;rw[ei]at c;exact⟨1,rfl,by omega,⟨fun _=>c,fun h=>absurd h (by omega),fun h=>absurd h (by omega)⟩,m⟩
      go_wp2_with fail;go_roundw;case rel=>exact O.o
      case measure=>simp[intOf]
   |1,_=>
    have d0:=aj n g2;have d1:=aj n g3;have D:=n.alloc n.size (.cells #[ag 6,.func (.func 63) #[] #[ab b5 0]] 131);have G:=aE wr (.cells #[ag 6,.func (.func 63) #[] #[ab b5 0]] 131);have cL:=aB.o;generalize an:wr.alloc (.cells #[ag 6,.func (.func 63) #[] #[ab b5 0]] 131)=wB at*;have e0:=ak 0 G;have Z:=ak 1 G;have a9:=aj D kl;have Hno:=aF d;go_wp2_with fail;obtain⟨b8,Q⟩:=au wr.heap.size;simp only[Q]at e0 Z⊢;go_loopw [9,36] (fun _ t wr=>Jz f.length (lk2 l) U wB t wr) (fun _ t _=>f.length-(intOf t).toNat);case atStart=>exact⟨0,rfl,by omega,fun y R=>by omega,D,aI _ _⟩
    case round=>
     obtain⟨i,rfl,hi,c,m,x⟩:=hrel;have a5:(0:Int)<=(i:Int):=(by omega);have C:=aj x e0;have ap:=aj x Z;have Hall:=aF c;by_cases s:i<f.length
     ·have F:(i:Int)<(f.length:Int):=(by omega);have J:=cL i s wr m;cases H:lk2 l i with
      |true=>
       rw[H]at J
       have V:PN (dq l=(6,i)):=by
        have c:=Hall.o;have d:=Hno.o;have P:=H0.o;have s:i<l.length:=(by rw[I.o];exact s);have ar:=I.o;exact OC P (fun a b=>d.1 (by omega) a (by omega)) s H c
       go_wp2_with fail;refine J.mono ?_;rintro r w2 ⟨rfl,g⟩;have Y:=(g.cell (bP C)).trans C;have q:=aw m g;have S:=ai q L;have A:=below_setRow ((HbW.o).trans (q.mono (HbW.o).size)) (show w.heap.size<=w.heap.size+1 by omega) #[ag 6,ag (i:Int)]
       go_wp2_with(first
        |(refine ay rfl 93 _ _ rfl _ _ rfl rfl _ _ S (by kernel_rfl) (by simp) (by simp[Value.oneCell']) ?_))
       refine mM 2 (by kernel_rfl) (w.heap.size+1) _ _ rfl rfl (aL _ _ _ _ _ _ S) ?_;rw[V.o];exact⟨rfl,A⟩
      |false=>
       rw[H]at J
       have O:PN (∀y,y<i+1->lk2 l y=false):=fun y R=>by
        by_cases e:y=i
        ·rw[e];exact H
        ·exact Hall.o y (by omega)
       go_wp2_with fail;refine J.mono ?_;rintro r w2 ⟨rfl,g⟩;have q:=aw m g;have E:=aw x g;go_wp2_with fail;go_roundw
       case rel=>
        (repeat apply iP);refine⟨?_,rfl⟩;exact⟨i+1,by go_num,by omega,O.o,q,E⟩
       case measure=>simp[intOf];omega
     ·have F: ¬(i:Int)<(f.length:Int):=(by omega);have ei:i=f.length:=(by omega)
      have O:PN (EU l f.length U (ag 2) wr):=by
       have d:=Hno.o;have c:=Hall.o;rw[ei]at c;exact⟨2,rfl,by omega,⟨fun _=>d.1 (by omega),fun _=>c,fun h=>absurd h (by omega)⟩,m⟩
      go_wp2_with fail;go_roundw;case rel=>exact O.o
      case measure=>simp[intOf]
   |2,_=>
    have d0:=aj n g4;have d1:=aj n g5;have D:=n.alloc n.size (.cells #[ag 9,.func (.func 64) #[] #[ab b5 0]] 131);have G:=aE wr (.cells #[ag 9,.func (.func 64) #[] #[ab b5 0]] 131);have cL:=aC.o (d.2.1 (by omega));generalize an:wr.alloc (.cells #[ag 9,.func (.func 64) #[] #[ab b5 0]] 131)=wB at*;have e0:=ak 0 G;have Z:=ak 1 G;have a9:=aj D kl;have Hno:=aF d;go_wp2_with fail;obtain⟨b8,Q⟩:=au wr.heap.size;simp only[Q]at e0 Z⊢;go_loopw [9,36] (fun _ t wr=>Jz f.length (lk3 l) U wB t wr) (fun _ t _=>f.length-(intOf t).toNat);case atStart=>exact⟨0,rfl,by omega,fun y R=>by omega,D,aI _ _⟩
    case round=>
     obtain⟨i,rfl,hi,c,m,x⟩:=hrel;have a5:(0:Int)<=(i:Int):=(by omega);have C:=aj x e0;have ap:=aj x Z;have Hall:=aF c;by_cases s:i<f.length
     ·have F:(i:Int)<(f.length:Int):=(by omega);have J:=cL i s wr m;cases H:lk3 l i with
      |true=>
       rw[H]at J
       have V:PN (dq l=(9,i)):=by
        have c:=Hall.o;have d:=Hno.o;have P:=H0.o;have s:i<l.length:=(by rw[I.o];exact s);have ar:=I.o;exact OD P (fun a b=>d.1 (by omega) a (by omega)) (fun a b=>d.2.1 (by omega) a (by omega)) s H c
       go_wp2_with fail;refine J.mono ?_;rintro r w2 ⟨rfl,g⟩;have Y:=(g.cell (bP C)).trans C;have q:=aw m g;have S:=ai q L;have A:=below_setRow ((HbW.o).trans (q.mono (HbW.o).size)) (show w.heap.size<=w.heap.size+1 by omega) #[ag 9,ag (i:Int)]
       go_wp2_with(first
        |(refine ay rfl 93 _ _ rfl _ _ rfl rfl _ _ S (by kernel_rfl) (by simp) (by simp[Value.oneCell']) ?_))
       refine mM 2 (by kernel_rfl) (w.heap.size+1) _ _ rfl rfl (aL _ _ _ _ _ _ S) ?_;rw[V.o];exact⟨rfl,A⟩
      |false=>
       rw[H]at J
       have O:PN (∀y,y<i+1->lk3 l y=false):=fun y R=>by
        by_cases e:y=i
        ·rw[e];exact H
        ·exact Hall.o y (by omega)
       go_wp2_with fail;refine J.mono ?_;rintro r w2 ⟨rfl,g⟩;have q:=aw m g;have E:=aw x g;go_wp2_with fail;go_roundw
       case rel=>
        (repeat apply iP);refine⟨?_,rfl⟩;exact⟨i+1,by go_num,by omega,O.o,q,E⟩
       case measure=>simp[intOf];omega
     ·have F: ¬(i:Int)<(f.length:Int):=(by omega);have ei:i=f.length:=(by omega)
      have O:PN (EU l f.length U (ag 3) wr):=by
       have d:=Hno.o;have c:=Hall.o;rw[ei]at c;exact⟨3,rfl,by omega,⟨fun _=>d.1 (by omega),fun _=>d.2.1 (by omega),fun _=>c⟩,m⟩
      go_wp2_with fail;go_roundw;case rel=>exact O.o
      case measure=>simp[intOf]
   |3,_=>
    have S:=ai n L;have A:=below_setRow ((HbW.o).trans (n.mono (HbW.o).size)) (show w.heap.size<=w.heap.size+1 by omega) #[ag 0,ag 0]
    have V:PN (dq l=(0,0)):=by
     have e:=I.o;exact ET H0.o (by rw[e];exact d.1 (by omega)) (by rw[e];exact d.2.1 (by omega)) (by rw[e];exact d.2.2 (by omega))
    go_wp2_with(first
     |(refine ay rfl 93 _ _ rfl _ _ rfl rfl _ _ S (by kernel_rfl) (by simp) (by simp[Value.oneCell']) ?_))
    refine mM 2 (by kernel_rfl) (w.heap.size+1) _ _ rfl rfl (aL _ _ _ _ _ _ S) ?_;rw[V.o];exact⟨rfl,A⟩
   |k+4,al=>exact absurd al (by omega)
 ·have V:PN (dq l=fV l):=by
   show _=_;unfold dq;rw[aD P]
  have aU:((fV l).1 !=0)=true:=(by simpa using P);have HR:PN (∀W,aq w W->(fun(r:Ending) (w':World)=>r= .returned (.agg #[ag (dq l).1,ag ((dq l).2:Int)])/\aq w w') (.returned (.agg #[ag (fV l).1,ag ((fV l).2:Int)])) W):=fun W N=>⟨by rw[V.o],N⟩
  generalize (fV l).1=er at*;generalize (((fV l).2:Nat):Int)=B at*;have bC:=am w1 (.cells #[ag er,ag B] 93);have K:=aw aa bC;have T:=ai bC m2;have m3:=aE w1 (.cells #[ag er,ag B] 93);have A:=below_setRow K (show w.heap.size<=w.heap.size+1 by omega) #[ag er,ag B];generalize aM:w1.alloc (.cells #[ag er,ag B] 93)=w2 at*;have z0:=ak 0 m3
  go_wp2_with(first
   |(refine aR rfl 93 _ rfl _ rfl _ _ _ _ m3 oX rfl (by kernel_rfl) ?_)
   |(refine ay rfl 93 _ _ rfl _ _ rfl rfl _ _ T (by kernel_rfl) (by simp) (by simp[Value.oneCell']) ?_))
  refine mM 2 (by kernel_rfl) (w.heap.size+1) _ _ rfl rfl (aL _ _ _ _ _ _ T) ?_;exact HR.o _ A
def mkL (m:Nat->Bool)(j:Nat):List Int:=((List.range j).filter m).map fun k:Nat=>(k:Int)
theorem JA (m:Nat->Bool)(j:Nat):mkL m (j+1)=if m j=true then mkL m j++[(j:Int)] else mkL m j:=by
 unfold mkL;rw[List.range_succ,List.filter_append,dN];by_cases h:m j=true
 ·simp[h]
 ·simp[h]
theorem DG (m:Nat->Bool)(j:Nat):(mkL m j).length<=j:=by
 unfold mkL;rw[ba];have:=List.length_filter_le m (List.range j);simpa using this
def gg (l:List Ru)(r:Int):List Int:=if r<0\/(l.length:Int)<=r\/(dq l).1≠0 then [] else mkL (fol (iK l) (l.length+1) (fun _=>false) r.toNat) l.length
theorem lD {l:List Ru}(h:(dq l).1=0):(fV l).1=0/\ ∀u∈l,-1∉fW l u:=by
 unfold dq at h;split at h
 ·rename_i c;exact absurd h c
 ·rename_i c;refine⟨by simpa using c,fun u p m=> ?_⟩;split at h
  ·cases h
  ·split at h
   ·cases h
   ·rename_i f;obtain⟨j,d⟩:=List.getElem?_of_mem p;have g:j<l.length:=(aG.1 d).1
    have o:lk2 l j=true:=by
     unfold lk2;rw[d];exact bm m
    have: ∀(k i:Nat),i<=j->j<i+k->frF (lk2 l) i k≠none:=by
     intro k;induction k with
     |zero=>intro i a b;omega
     |succ k q=>
      intro i a b;rw[frF];split
      ·simp
      ·rename_i n;have:i≠j:=fun e=>n (by rw[e];exact o);exact q (i+1) (by omega) (by omega)
    exact this l.length 0 (by omega) (by omega) f
theorem CV (a:List Int)(n:Int):jK (a++[n])=jK a++[ag n]:=by simp[jK]
def JB (a:List Int)(w:World)(e:Ending)(w':World):Prop:= ∃v,e= .returned v/\dS w' v a/\aq w w'
def JC (m:Nat->Bool)(n:Nat)(_ a:World)(q t:Value)(wr:World):Prop:= ∃j:Nat,t=ag (j:Int)/\j<=n/\wr.ownsRow a.heap.size 3 1 q (mkL m j).length (jK (mkL m j))/\aq a wr
theorem GZ (c0 c1:Value)(w:World):(Instr.field 93 (.agg #[c0,c1]) 0).run prog w= .ok c0 w:=by
 unfold Instr.field;simp[go_sem,asAgg]
attribute [go_sem] GZ
theorem JD (a:List (Ru×Value))(v:Value)(r:Int)(w:World)(h:InR w v a):Calls prog 42 #[v,ag r] w (JB (gg (a.map (fun p=>p.1)) r) w):=by
 obtain⟨l,Z⟩:=au (a.map (fun p=>p.1));have aa:l.length=a.length:=by rw[<-Z,ba]
 obtain⟨pv,cv,rfl⟩:=h.form;have ay:=h.len;have N:=uH a _ w h;rw[Z]at N⊢;have f:PN (∀W,aq w W->JB [] w (.returned (af)) W):=fun W R=>⟨_,rfl,⟨none,0,rfl,by decide,fun j n hj=>by simp at hj⟩,R⟩
 have d:=aF aa;have F:=aF Z;by_cases h1:r<0
 ·have x:PN (gg l r=[]):=aD (.inl h1);go_enter func42,ntmps42;go_wp2_with fail;go_ret;rw[x.o];exact f.o _ (aI _ _)
 by_cases h2:(a.length:Int)<=r
 ·have x:PN (gg l r=[]):=aD (.inr (.inl (by rw[d.o];exact h2)));go_enter func42,ntmps42;go_wp2_with fail;go_ret;rw[x.o];exact f.o _ (aI _ _)
 by_cases O:(dq l).1=0
 ·have x:PN (gg l r=mkL (fol (iK l) (l.length+1) (fun _=>false) r.toNat) l.length):=ax (by rw[d.o];omega);obtain⟨h0,ae⟩:=lD O;obtain⟨H,ad⟩:=zE h0;rw[O]at N;generalize (((dq l).2:Nat):Int)=Q at*;obtain⟨C,ak⟩: ∃C:Nat,r=(C:Int):=⟨r.toNat,by omega⟩
  subst ak;have al:((C:Int)).toNat=C:=(by omega);rw[al]at x;have aj:C<l.length:=(by rw[d.o];omega);have cN:=fun W (R:aq w W)=>oR a _ W (h.below R);obtain⟨i0,hi,ao,ap,ar⟩:=jp Bz;have av:(a.length:Int)<=40:=(by rw[d.o]at H;omega);have Hrl:=aF aj;have P:=aF H;have Hno:=aF ae;have Hnm:=aF ad;have HI:=aF h;go_enter func42,ntmps42;go_wp2_with fail;refine N.mono ?_;rintro e w1 ⟨rfl,y⟩;have d1:=cN w1 y;go_wp2_with fail;refine d1.mono ?_;rintro e w2 ⟨mb,rfl,_,hM,T⟩;have B:=aw y T
  have d2:=xq a _ mb w2 (HI.o.below B) hM (by omega) (fun p hp=>by
   have:=Hnm.o p.1 (by rw[<-F.o];exact dV.2 ⟨p,hp,rfl⟩);omega)
  go_wp2_with fail;refine d2.mono ?_;rintro e w3 ⟨so,rfl,S,U⟩;rw[F.o]at S;have I:=aw B U;have d3:=vn so l.length (iK l) C w3 (BC S Hno.o) (by have:=P.o;omega) Hrl.o;obtain⟨pz,cz,L,_⟩:=(show mU w3 so (l.map (fW l)) from S)
  rw[d.o]at d3;rw[ba,d.o]at L;subst L;go_wp2_with fail;refine d3.mono ?_;rintro e M ⟨g,rfl,hg,V⟩;have J:=aw I V;rw[d.o]at x;generalize fol (iK l) (a.length+1) (fun _=>false) C=m at*;have Hbw:=aF J;have Hg:=aF hg;go_wp2_with fail;go_loopw [5,6,7,29] (fun q _ _ t wr=>JC m a.length w M q t wr) (fun _ _ _ t _=>a.length-(intOf t).toNat);case atStart=>exact⟨0,rfl,by omega,dc _ _ _ _,aI _ _⟩
  case round=>
   obtain⟨j,rfl,hj,c,i⟩:=hrel;have az:(0:Int)<=(j:Int):=(by omega);have a0:=DG m j;by_cases ac:j<a.length
   ·have K:(j:Int)<(a.length:Int):=(by omega);have km:=(aZ _ _ j _ _ _ (ai i Hg.o)).trans (mN ac);have A:=JA m j;cases hmj:m j with
    |true=>
     rw[hmj]at km;rw[aD hmj]at A;obtain⟨pq,cq,ah⟩:=df c;have bA:=am wr (.cells #[ag (j:Int)] 3);have an:=aE wr (.cells #[ag (j:Int)] 3);have s:=br (w':=wr.alloc (.cells #[ag (j:Int)] 3)) c fun b hb=>bA.block b (c.lt b hb).2;have Y:=aw i bA;have a3:=i.size;have a2:(wr.alloc (.cells #[ag (j:Int)] 3)).heap.size=wr.heap.size+1:=(by simp);have Hst:=aF A;subst ah;generalize mkL m j=ns at*;generalize a4:wr.alloc (.cells #[ag (j:Int)] 3)=wA at*;go_wp2_with(at_builtin;refine iZ _ rfl _ _ 23 rfl M.heap.size 3 i0 (ag 0) 1 8 zy hi ao ap ar rfl (by decide) (.slice pq ns.length cq) ns.length (jK ns) rfl s ⟨wr.heap.size,0,none⟩ 1 1 [ag (j:Int)] rfl rfl ?c1 ?c2 ?c3 ?c4 ?c5 ?_)
     case c1=>
      intro k u' z;match k,z with
      |0,z=>simp at z;subst z;exact(aZ _ _ _ _ _ _ an).trans rfl
     case c2=>intro u hu;simp at hu;subst hu;rfl
     case c3=>unfold maxLen;omega
     case c4=>omega
     case c5=>omega
     intro v' w5 E D _;have ab:=s.lt;have X:aq M w5:=Y.grown D (by omega) (fun q hq=>(ab q hq).1)
     have G:PN (JC m a.length w M v' (ag ((j+1:Nat):Int)) w5):=by
      refine⟨j+1,rfl,by omega,?_,X⟩;rw[Hst.o,CV];simpa using E
     go_wp2_with fail;go_roundw
     case rel=>first
      |exact G.o
      |exact⟨_,_,_,_,G.o,rfl,rfl,rfl,rfl⟩
     case measure=>simp[intOf];omega
    |false=>
     rw[hmj]at km;rw[ax (by rw[hmj];decide)]at A;have G:PN (JC m a.length w M u5 (ag ((j+1:Nat):Int)) wr):=⟨j+1,rfl,by omega,by rw[A];exact c,i⟩
     go_wp2_with fail;go_roundw
     case rel=>first
      |exact G.o
      |exact⟨_,_,_,_,G.o,rfl,rfl,rfl,rfl⟩
     case measure=>simp[intOf];omega
   ·have K: ¬(j:Int)<(a.length:Int):=(by omega);have ej:j=a.length:=(by omega)
    have HO:PN (JB (gg l (C:Int)) w (.returned u5) wr):=by
     rw[x.o,<-ej];exact⟨_,rfl,qu c (by omega),(Hbw.o).trans (i.mono (Hbw.o).size)⟩
    go_wp2_with fail;go_ret;exact HO.o
 ·have x:PN (gg l r=[]):=aD (.inr (.inr O));have a1:((dq l).1 !=0)=true:=(by simpa using O);have Hn:=f;generalize (dq l).1=er at*;generalize (((dq l).2:Nat):Int)=Q at*;go_enter func42,ntmps42;go_wp2_with fail;refine N.mono ?_;rintro e w1 ⟨rfl,y⟩;go_wp2_with fail;go_ret;rw[x.o];exact Hn.o _ y
section
open Go.Shelf
def C3:Go.Shelf.Ren:=⟨fun|189=>102|125=>132|257=>131|128=>164|129=>165|294=>155|295=>156|296=>157|297=>158|298=>159|299=>160|216=>161|300=>162|301=>163|328=>189|329=>190|330=>191|331=>192|332=>193|215=>194|343=>212|n=>n,fun|28=>23|3=>3|46=>214|0=>0|51=>246|53=>82|4=>4|183=>240|182=>239|131=>168|5=>5|9=>9|218=>261|222=>202|228=>277|229=>275|n=>n,fun|n=>n⟩
theorem DR:Go.Proofs.Lays.n189 prog C3:={
 mixed:=by kernel_rfl
 f125:=func132.trans (congrArg some (by kernel_rfl))
 f128:=func164.trans (congrArg some (by kernel_rfl))
 f129:=func165.trans (congrArg some (by kernel_rfl))
 f189:=func102.trans (congrArg some (by kernel_rfl))
 f215:=func194.trans (congrArg some (by kernel_rfl))
 f216:=func161.trans (congrArg some (by kernel_rfl))
 f257:=func131.trans (congrArg some (by kernel_rfl))
 f294:=func155.trans (congrArg some (by kernel_rfl))
 f295:=func156.trans (congrArg some (by kernel_rfl))
 f296:=func157.trans (congrArg some (by kernel_rfl))
 f297:=func158.trans (congrArg some (by kernel_rfl))
 f298:=func159.trans (congrArg some (by kernel_rfl))
 f299:=func160.trans (congrArg some (by kernel_rfl))
 f300:=func162.trans (congrArg some (by kernel_rfl))
 f301:=func163.trans (congrArg some (by kernel_rfl))
 f328:=func189.trans (congrArg some (by kernel_rfl))
 f329:=func190.trans (congrArg some (by kernel_rfl))
 f330:=func191.trans (congrArg some (by kernel_rfl))
 f331:=func192.trans (congrArg some (by kernel_rfl))
 f332:=func193.trans (congrArg some (by kernel_rfl))
 f343:=func212.trans (congrArg some (by kernel_rfl))
 t0:=underlying0
 a0:=isAgg0
 z0:=sizeOf0
 v0:=zeroValue0
 t3:=underlying3
 a3:=isAgg3
 z3:=sizeOf3
 v3:=zeroValue3
 t4:=underlying4
 a4:=isAgg4
 z4:=sizeOf4
 v4:=zeroValue4
 t5:=underlying5
 a5:=isAgg5
 z5:=sizeOf5
 v5:=zeroValue5
 t9:=underlying9
 a9:=isAgg9
 z9:=sizeOf9
 v9:=zeroValue9
 t28:=underlying23
 a28:=isAgg23
 z28:=sizeOf23
 v28:=zeroValue23
 t46:=underlying214
 a46:=isAgg214
 z46:=sizeOf214
 v46:=zeroValue214
 t51:=underlying246
 a51:=isAgg246
 z51:=sizeOf246
 v51:=zeroValue246
 t53:=underlying82
 a53:=isAgg82
 z53:=sizeOf82
 v53:=zeroValue82
 t131:=underlying168
 a131:=isAgg168
 z131:=sizeOf168
 v131:=zeroValue168
 t182:=underlying239
 a182:=isAgg239
 z182:=sizeOf239
 v182:=zeroValue239
 t183:=underlying240
 a183:=isAgg240
 z183:=sizeOf240
 v183:=zeroValue240
 t218:=underlying261
 a218:=isAgg261
 z218:=sizeOf261
 v218:=zeroValue261
 t222:=underlying202
 a222:=isAgg202
 z222:=sizeOf202
 v222:=zeroValue202
 t228:=underlying277
 a228:=isAgg277
 z228:=sizeOf277
 v228:=zeroValue277
 t229:=underlying275
 a229:=isAgg275
 z229:=sizeOf275
 v229:=zeroValue275}
def AE:Go.Shelf.Ren:=⟨fun|20=>103|n=>n,fun|22=>23|3=>3|4=>4|0=>0|n=>n,fun|n=>n⟩
theorem zW:Go.Proofs.Lays2.n20 prog AE:={
 mixed:=by kernel_rfl
 f20:=func103.trans (congrArg some (by kernel_rfl))
 t0:=underlying0
 a0:=isAgg0
 z0:=sizeOf0
 v0:=zeroValue0
 t3:=underlying3
 a3:=isAgg3
 z3:=sizeOf3
 v3:=zeroValue3
 t4:=underlying4
 a4:=isAgg4
 z4:=sizeOf4
 v4:=zeroValue4
 t22:=underlying23
 a22:=isAgg23
 z22:=sizeOf23
 v22:=zeroValue23
 i3:=by kernel_rfl}
theorem Hq (blk a cap:Nat)(c:List Int)(w:World)(f:Go.Sort.Holds (Value.int .i64) w blk a c.toArray)(b:blk<w.heap.size)(d:c.length<4611686018427387904):
 Calls prog 102 #[.slice (some (ae blk a)) c.length cap] w fun e w'=>e= .returned (.tuple #[])/\ ∃n os,w'=Go.Sort.grow (Go.Sort.putRow (Value.int .i64) (Go.Sort.ahead w n) blk a (c.mergeSort fun x y=>decide (x<=y)).toArray) os:=Any.slices_Sort_int DR blk a cap c w f b d
theorem Hr (p:Option Addr)(cap:Nat)(w:World):Calls prog 102 #[.slice p 0 cap] w fun e w'=>e= .returned (.tuple #[])/\w'=w:=Any.slices_Sort_int_none DR p cap w
theorem BW (blk a cap:Nat)(b:List Int)(w:World)(f:Go.Sort.Holds (Value.int .i64) w blk a b.toArray)(d:b.length<=9223372036854775807)(c:b.length<=cap):
 Calls prog 103 #[.slice (some (ae blk a)) b.length cap] w fun e w'=>e= .returned (.slice (some (ae blk a)) (Go.Lib.compact b).length cap)/\ ∃q,w'=Go.Sort.putRow (Value.int .i64) (Go.Sort.ahead w q) blk a (Go.Lib.compact b++List.replicate (b.length-(Go.Lib.compact b).length) 0).toArray:=Any.slices_Compact_int zW blk a cap b w f d c
theorem BX (a:Option Addr)(cap:Nat)(w:World):Calls prog 103 #[.slice a 0 cap] w fun e w'=>e= .returned (.slice a 0 cap)/\w'=w:=Any.slices_Compact_int_empty zW a cap w
end
end Go.Proofs.YtaoljfdfhggbbaaGreatDoor
