/- Texts of the proof. -/
import Derived.Test.YtlkehieagdkgiaaGreatDoorPe19
import Derived.Shelf.Sort.Plain
import Derived.Shelf.Slices.CompactI
import Derived.Shelf.Slices.In.SortNone
import Derived.Test.YtlkehieagdkgiaaGreatDoorChecked
import Derived.Test.YtlkehieagdkgiaaGreatDoorPe12
import Derived.Sort.OwnSortedInts
set_option maxRecDepth 100000
set_option maxHeartbeats 8000000
namespace Go.Proofs.YtlkehieagdkgiaaGreatDoor
open Go.Proofs.Tryz Go.RowKit Lx Vx Mx Msk
namespace Lx
def frF (p:Nat->Bool):Nat->Nat->Option Nat
 |_,0=>none
 |i,k+1=>if p i=true then some i else frF p (i+1) k
theorem tq {p:Nat->Bool}{j:Nat}(f:p j=true): ∀(k i:Nat),i<=j->j<i+k->(∀c,i<=c->c<j->p c=false)->frF p i k=some j
 |0,i,g,l,_=>by omega
 |k+1,i,g,l,d=>by
  rw[frF];by_cases e:i=j
  ·subst e;rw[aB f]
  ·rw[ax (by rw[d i (aD _) (by omega)];decide)];exact tq f k (i+1) (by omega) (by omega) fun c a b=>d c (by omega) b
theorem mT {p:Nat->Bool}: ∀(k i:Nat),(∀c,i<=c->c<i+k->p c=false)->frF p i k=none
 |0,_,_=>rfl
 |k+1,i,h=>by
  rw[frF,ax (by rw[h i (aD _) (by omega)];decide)];exact mT k (i+1) fun c a b=>h c (by omega) (by omega)
end Lx
def lk1 (l:List Ru)(i:Nat):Bool:=match l[i]? with|some u=>atP5 l u.1 !=(i:Int)|none=>false
def lk2 (l:List Ru)(i:Nat):Bool:=match l[i]? with|some u=>decide (-1∈gF l u)|none=>false
def lk3 (l:List Ru)(i:Nat):Bool:=fol (iT l) (l.length+1) (fun _=>false) i i
def dC (l:List Ru):Int×Nat:=if(gC l).1≠0 then gC l else match frF (lk1 l) 0 l.length with
 |some i=>(7,i)
 |none=>match frF (lk2 l) 0 l.length with
  |some i=>(6,i)
  |none=>match frF (lk3 l) 0 l.length with
   |some i=>(9,i)
   |none=>(0,0)
theorem PZ {l:List Ru}{i:Nat}(c:(gC l).1=0)(hi:i<l.length)(d:lk1 l i=true)(a: ∀b,b<i->lk1 l b=false):dC l=(7,i):=by
 unfold dC;rw[ax (by simpa using c),tq d l.length 0 (by omega) (by omega) fun b _ h=>a b h]
theorem P0 {l:List Ru}{i:Nat}(c:(gC l).1=0)(d: ∀a,a<l.length->lk1 l a=false)(hi:i<l.length)(e:lk2 l i=true)(b: ∀a,a<i->lk2 l a=false):dC l=(6,i):=by
 unfold dC;rw[ax (by simpa using c),mT l.length 0 fun a _ h=>d a (by omega),tq e l.length 0 (by omega) (by omega) fun a _ h=>b a h]
theorem P1 {l:List Ru}{i:Nat}(c:(gC l).1=0)(d: ∀a,a<l.length->lk1 l a=false)(e: ∀a,a<l.length->lk2 l a=false)(hi:i<l.length)(f:lk3 l i=true)(b: ∀a,a<i->lk3 l a=false):dC l=(9,i):=by
 unfold dC;rw[ax (by simpa using c),mT l.length 0 fun a _ h=>d a (by omega),mT l.length 0 fun a _ h=>e a (by omega),tq f l.length 0 (by omega) (by omega) fun a _ h=>b a h]
theorem FT {l:List Ru}(b:(gC l).1=0)(c: ∀a,a<l.length->lk1 l a=false)(d: ∀a,a<l.length->lk2 l a=false)(e: ∀a,a<l.length->lk3 l a=false):dC l=(0,0):=by
 unfold dC;rw[ax (by simpa using b),mT l.length 0 fun a _ h=>c a (by omega),mT l.length 0 fun a _ h=>d a (by omega),mT l.length 0 fun a _ h=>e a (by omega)]
def KE (n:Nat)(p:Nat->Bool)(b c:World)(t:Value)(wr:World):Prop:= ∃i:Nat,t=ag (i:Int)/\i<=n/\(∀a,a<i->p a=false)/\aq b wr/\aq c wr
def FU (l:List Ru)(n:Nat)(b:World)(t:Value)(wr:World):Prop:= ∃k:Nat,t=ag (k:Int)/\k<=3/\((0<k-> ∀a,a<n->lk1 l a=false)/\(1<k-> ∀a,a<n->lk2 l a=false)/\(2<k-> ∀a,a<n->lk3 l a=false))/\aq b wr
theorem AL {l:List Ru}(h:(gC l).1=0):l.length<=40/\ ∀u∈l,(nms u.2).length<=600:=by
 unfold gC at h;split at h
 ·cases h
 ·refine⟨by omega,?_⟩
  have c: ∀(l:List Ru) (i:Nat),(jR l i).1=0-> ∀u∈l,ruleP u=0:=by
   intro l;induction l with
   |nil=>intro _ _ u a;cases a
   |cons x l e=>
    intro i h u a;rw[jR]at h;split at h
    ·rename_i d;exact absurd h d
    ·rename_i d;rcases bO.1 a with rfl|a
     ·simpa using d
     ·exact e _ h u a
  intro u a;have b:=c l 0 h u a;unfold ruleP at b;split at b
  ·cases b
  ·have f:=AK _ u.2 1 0 (aD _) b;have g:=AD b;omega
theorem vw (f:List (Ru×Value))(v:Value)(w:World)(h:InR w v f):Calls prog 20 #[v] w fun r w'=>r= .returned (.agg #[ag (dC (f.map (fun p=>p.1))).1,ag ((dC (f.map (fun p=>p.1))).2:Int)])/\aq w w':=by
 obtain⟨l,hl⟩:=au (f.map (fun p=>p.1));have a7:l.length=f.length:=by rw[<-hl,bc]
 obtain⟨pv,cv,rfl⟩:=h.form;have bA:=am w (.cells #[.slice pv f.length cv] 24);have bB:=bA.alloc bA.size (.cells #[ag 0,ag 0] 48);have s1:(w.alloc (.cells #[.slice pv f.length cv] 24)).heap.size=w.heap.size+1:=by simp
 have n1:=(dQ _ (.cells #[ag 0,ag 0] 48) _ (aI (aG w (.cells #[.slice pv f.length cv] 24)))).trans (aG w (.cells #[.slice pv f.length cv] 24));have n2:=aG (w.alloc (.cells #[.slice pv f.length cv] 24)) (.cells #[ag 0,ag 0] 48);rw[s1]at n2;generalize an:(w.alloc (.cells #[.slice pv f.length cv] 24)).alloc (.cells #[ag 0,ag 0] 48)=wB at*;have cW:=Il f _ wB (h.below bB);have k1:=ak 0 n1;rw[hl]at cW⊢;go_enter func20,ntmps20;go_wp2_with fail;refine cW.mono ?_;rintro r w1 ⟨rfl,ae⟩;have m1:=ai ae n1;have m2:=ai ae n2;have aa:=aw bB ae;by_cases P:(gC l).1=0
 ·obtain⟨aO,aK⟩:=AL P;rw[P];generalize (((gC l).2:Nat):Int)=B at*;have bC:=am w1 (.cells #[ag 0,ag B] 48);have K:=aw aa bC;have ao:=ai bC m1;have T:=ai bC m2;have k1:=ak 0 ao;have cN:=pJ f _ _ (h.below K);have m3:=aG w1 (.cells #[ag 0,ag B] 48);generalize aM:w1.alloc (.cells #[ag 0,ag B] 48)=w2 at*;have z0:=ak 0 m3;go_wp2_with fail;refine cN.mono ?_;rintro r w3 ⟨mb,rfl,aS,hM,af⟩;have m1:=(af.block _ (aI ao)).trans ao;have m2:=(af.block _ (aI T)).trans T;have a2:=aw K af;have bD:=am w3 (.cells #[.map (some mb)] 76);have ac:=aw a2 bD;have ad:jr (w3.alloc (.cells #[.map (some mb)] 76)) mb (f.map (fun p=>p.1)):=hM.later (bD.block _ (ik hM));have q1:=ai bD m1;have q2:=ai bD m2;have q4:=aG w3 (.cells #[.map (some mb)] 76)
  have cS:=yA f _ mb _ (h.below ac) ad (by omega) (fun p H=>by
   have:=aK p.1 (by rw[<-hl];exact dR.2 ⟨p,H,rfl⟩);omega)
  generalize aV:w3.alloc (.cells #[.map (some mb)] 76)=w4 at*;have k1:=ak 0 q1;have k4:=ak 0 q4;go_wp2_with fail;refine cS.mono ?_;rintro r w5 ⟨so,rfl,hZ,z⟩;rw[hl]at hZ;obtain⟨pz,cz,a8,_⟩:=(show oe w5 so (l.map (gF l)) from hZ)
  rw[bc,a7]at a8;obtain⟨X,ah⟩:=au w3.heap.size;have p1:=ai z q1;have p2:=ai z q2;have p4:=ai z q4;have av:=ad.later (z.block _ (ik ad));have a3:=aw ac z;have bE:=am w5 (.cells #[so] 34);have a4:=aw a3 bE;have x5:=aG w5 (.cells #[so] 34);have x1:=ai bE p1;have x2:=ai bE p2;have x4:=ai bE p4;have ax:=av.later (bE.block _ (ik av));have aJ:=oe.below hZ bE;generalize aW:w5.alloc (.cells #[so] 34)=w6 at*;rw[ah]at x4;obtain⟨b5,z⟩:=au w5.heap.size;rw[z]at x5;have bF:=am w6 (.cells #[ag 7,.func (.func 44) #[] #[ab X 0,ab w.heap.size 0],ag 6,.func (.func 45) #[] #[ab b5 0],ag 9,.func (.func 47) #[] #[ab b5 0]] 113);have M:=aG w6 (.cells #[ag 7,.func (.func 44) #[] #[ab X 0,ab w.heap.size 0],ag 6,.func (.func 45) #[] #[ab b5 0],ag 9,.func (.func 47) #[] #[ab b5 0]] 113);have HbW:=aE (aw a4 bF);have y1:=ai bF x1;have y2:=ai bF x2;have y4:=ai bF x4;have y5:=ai bF x5;have a0:=ax.later (bF.block _ (ik ax));have a1:=oe.below aJ bF;have a6:=h.below HbW.o;have I:=aE a7;have H0:=aE P;have aT: ∀(fn:Fn) (first cap:Array Value) (w:World),(Instr.makeFunc fn first cap).run prog w= .ok (.func fn first cap) w:=fun _ _ _ _=>rfl;subst a8;try simp only[ah]
  try simp only[z]
  go_wp2_with fail;try simp only[ah]
  try simp only[z]
  generalize aP:w6.alloc (.cells #[ag 7,.func (.func 44) #[] #[ab X 0,ab w.heap.size 0],ag 6,.func (.func 45) #[] #[ab b5 0],ag 9,.func (.func 47) #[] #[ab b5 0]] 113)=U at*;have kl:=ak 0 y1;have g0:=ak 0 M;have g1:=ak 1 M;have g2:=ak 2 M;have g3:=ak 3 M;have g4:=ak 4 M;have g5:=ak 5 M;have L:=y2
  have aA:Rb (∀(i:Nat),i<f.length-> ∀W,aq U W->Calls prog 44 #[ag (i:Int),ab X 0,ab w.heap.size 0] W fun r w'=>r= .returned (.bool (lk1 l i))/\aq W w'):=fun i hi W N=>by
   obtain⟨u,hu⟩: ∃u,l[i]? =some u:=⟨l[i]'(by omega),ay _⟩
   have e:lk1 l i=(atP5 l u.1 !=(i:Int)):=(by unfold lk1;rw[hu]);rw[e];have:=Is f pv cv mb X w.heap.size i u W (a6.below N) (a0.later (N.block _ (ik a0))) (ai N y1) (ai N y4) (by rw[hl];exact hu);rw[hl]at this;exact this
  have aC:Rb (∀(i:Nat),i<f.length-> ∀W,aq U W->Calls prog 45 #[ag (i:Int),ab b5 0] W fun r w'=>r= .returned (.bool (lk2 l i))/\aq W w'):=fun i hi W N=>by
   obtain⟨u,hu⟩: ∃u,l[i]? =some u:=⟨l[i]'(by omega),ay _⟩
   have e:lk2 l i=decide (-1∈gF l u):=(by unfold lk2;rw[hu]);rw[e];exact It l _ b5 i u W (a1.below N) (ai N y5) hu
  have aD:Rb ((∀y,y<f.length->lk2 l y=false)-> ∀(i:Nat),i<f.length-> ∀W,aq U W->Calls prog 47 #[ag (i:Int),ab b5 0] W fun r w'=>r= .returned (.bool (lk3 l i))/\aq W w'):=fun d i hi W N=>by
   refine Iu l _ b5 i W (Ct (a1.below N) fun u hu hm=> ?_) (by omega) (ai N y5) (by omega);obtain⟨j,hj⟩:=List.getElem?_of_mem hu;have aQ:j<l.length:=(aF.1 hj).1;have:=d j (by omega);unfold lk2 at this;rw[hj]at this;dsimp only at this;rw[bh hm]at this;cases this
  have aN:(f.length:Int)<=40:=(by omega);go_loopw [8,9,30] (fun _ _ t wr=>FU l f.length U t wr) (fun _ _ t _=>3-(intOf t).toNat);case atStart=>exact⟨0,rfl,by omega,⟨fun h=>absurd h (by omega),fun h=>absurd h (by omega),fun h=>absurd h (by omega)⟩,aH _ _⟩
  case round=>
   obtain⟨k,rfl,al,d,n⟩:=hrel;match k,al with
   |0,_=>
    have d0:=aj n g0;have d1:=aj n g1;have D:=n.alloc n.size (.cells #[ag 7,.func (.func 44) #[] #[ab X 0,ab w.heap.size 0]] 113);have G:=aG wr (.cells #[ag 7,.func (.func 44) #[] #[ab X 0,ab w.heap.size 0]] 113);have cL:=aA.o;generalize an:wr.alloc (.cells #[ag 7,.func (.func 44) #[] #[ab X 0,ab w.heap.size 0]] 113)=wB at*;have Y:=ak 0 G;have e1:=ak 1 G;have a9:=aj D kl;have Hno:=aE d;go_wp2_with fail;obtain⟨b8,Q⟩:=au wr.heap.size;simp only[Q]at Y e1⊢;go_loopw [9,36] (fun _ t wr=>KE f.length (lk1 l) U wB t wr) (fun _ t _=>f.length-(intOf t).toNat);case atStart=>exact⟨0,rfl,by omega,fun y R=>by omega,D,aH _ _⟩
    case round=>
     obtain⟨i,rfl,hi,c,m,x⟩:=hrel;have a5:(0:Int)<=(i:Int):=(by omega);have C:=aj x Y;have ap:=aj x e1;have Hall:=aE c;by_cases s:i<f.length
     ·have F:(i:Int)<(f.length:Int):=(by omega);have J:=cL i s wr m;cases H:lk1 l i with
      |true=>
       rw[H]at J
       have V:Rb (dC l=(7,i)):=by
        have c:=Hall.o;have d:=Hno.o;have P:=H0.o;have s:i<l.length:=(by rw[I.o];exact s);have ar:=I.o;exact PZ P s H c
       go_wp2_with fail;refine J.mono ?_;rintro r w2 ⟨rfl,g⟩;have Z:=(g.cell (cZ C)).trans C;have q:=aw m g;have S:=ai q L;have A:=below_setRow ((HbW.o).trans (q.mono (HbW.o).size)) (show w.heap.size<=w.heap.size+1 by omega) #[ag 7,ag (i:Int)]
       go_wp2_with(first
        |(refine az rfl 48 _ _ rfl _ _ rfl rfl _ _ S (by kernel_rfl) (by simp) (by simp[Value.oneCell']) ?_))
       refine nt 2 (by kernel_rfl) (w.heap.size+1) _ _ rfl rfl (aL _ _ _ _ _ _ S) ?_;rw[V.o];exact⟨rfl,A⟩
      |false=>
       rw[H]at J
       have O:Rb (∀y,y<i+1->lk1 l y=false):=fun y R=>by
        by_cases e:y=i
        ·rw[e];exact H
        ·exact Hall.o y (by omega)
       go_wp2_with fail;refine J.mono ?_;rintro r w2 ⟨rfl,g⟩;have q:=aw m g;have E:=aw x g;go_wp2_with fail;go_roundw
       case rel=>
        (repeat apply iX);refine⟨?_,rfl⟩;exact⟨i+1,by go_num,by omega,O.o,q,E⟩
       case measure=>simp[intOf];omega
     ·have F: ¬(i:Int)<(f.length:Int):=(by omega);have ei:i=f.length:=(by omega)
      have O:Rb (FU l f.length U (ag 1) wr):=by
       have d:=Hno.o;have c:=Hall.o;rw[ei]at c;exact⟨1,rfl,by omega,⟨fun _=>c,fun h=>absurd h (by omega),fun h=>absurd h (by omega)⟩,m⟩
      go_wp2_with fail;go_roundw;case rel=>exact O.o
      case measure=>simp[intOf]
   |1,_=>
    have d0:=aj n g2;have d1:=aj n g3;have D:=n.alloc n.size (.cells #[ag 6,.func (.func 45) #[] #[ab b5 0]] 113);have G:=aG wr (.cells #[ag 6,.func (.func 45) #[] #[ab b5 0]] 113);have cL:=aC.o;generalize an:wr.alloc (.cells #[ag 6,.func (.func 45) #[] #[ab b5 0]] 113)=wB at*;have Y:=ak 0 G;have e1:=ak 1 G;have a9:=aj D kl;have Hno:=aE d;go_wp2_with fail;obtain⟨b8,Q⟩:=au wr.heap.size;simp only[Q]at Y e1⊢;go_loopw [9,36] (fun _ t wr=>KE f.length (lk2 l) U wB t wr) (fun _ t _=>f.length-(intOf t).toNat);case atStart=>exact⟨0,rfl,by omega,fun y R=>by omega,D,aH _ _⟩
    case round=>
     obtain⟨i,rfl,hi,c,m,x⟩:=hrel;have a5:(0:Int)<=(i:Int):=(by omega);have C:=aj x Y;have ap:=aj x e1;have Hall:=aE c;by_cases s:i<f.length
     ·have F:(i:Int)<(f.length:Int):=(by omega);have J:=cL i s wr m;cases H:lk2 l i with
      |true=>
       rw[H]at J
       have V:Rb (dC l=(6,i)):=by
        have c:=Hall.o;have d:=Hno.o;have P:=H0.o;have s:i<l.length:=(by rw[I.o];exact s);have ar:=I.o;exact P0 P (fun a b=>d.1 (by omega) a (by omega)) s H c
       go_wp2_with fail;refine J.mono ?_;rintro r w2 ⟨rfl,g⟩;have Z:=(g.cell (cZ C)).trans C;have q:=aw m g;have S:=ai q L;have A:=below_setRow ((HbW.o).trans (q.mono (HbW.o).size)) (show w.heap.size<=w.heap.size+1 by omega) #[ag 6,ag (i:Int)]
       go_wp2_with(first
        |(refine az rfl 48 _ _ rfl _ _ rfl rfl _ _ S (by kernel_rfl) (by simp) (by simp[Value.oneCell']) ?_))
       refine nt 2 (by kernel_rfl) (w.heap.size+1) _ _ rfl rfl (aL _ _ _ _ _ _ S) ?_;rw[V.o];exact⟨rfl,A⟩
      |false=>
       rw[H]at J
       have O:Rb (∀y,y<i+1->lk2 l y=false):=fun y R=>by
        by_cases e:y=i
        ·rw[e];exact H
        ·exact Hall.o y (by omega)
       go_wp2_with fail;refine J.mono ?_;rintro r w2 ⟨rfl,g⟩;have q:=aw m g;have E:=aw x g;go_wp2_with fail;go_roundw
       case rel=>
        (repeat apply iX);refine⟨?_,rfl⟩;exact⟨i+1,by go_num,by omega,O.o,q,E⟩
       case measure=>simp[intOf];omega
     ·have F: ¬(i:Int)<(f.length:Int):=(by omega);have ei:i=f.length:=(by omega)
      have O:Rb (FU l f.length U (ag 2) wr):=by
       have d:=Hno.o;have c:=Hall.o;rw[ei]at c;exact⟨2,rfl,by omega,⟨fun _=>d.1 (by omega),fun _=>c,fun h=>absurd h (by omega)⟩,m⟩
      go_wp2_with fail;go_roundw;case rel=>exact O.o
      case measure=>simp[intOf]
   |2,_=>
    have d0:=aj n g4;have d1:=aj n g5;have D:=n.alloc n.size (.cells #[ag 9,.func (.func 47) #[] #[ab b5 0]] 113);have G:=aG wr (.cells #[ag 9,.func (.func 47) #[] #[ab b5 0]] 113);have cL:=aD.o (d.2.1 (by omega));generalize an:wr.alloc (.cells #[ag 9,.func (.func 47) #[] #[ab b5 0]] 113)=wB at*;have Y:=ak 0 G;have e1:=ak 1 G;have a9:=aj D kl;have Hno:=aE d;go_wp2_with fail;obtain⟨b8,Q⟩:=au wr.heap.size;simp only[Q]at Y e1⊢;go_loopw [9,36] (fun _ t wr=>KE f.length (lk3 l) U wB t wr) (fun _ t _=>f.length-(intOf t).toNat);case atStart=>exact⟨0,rfl,by omega,fun y R=>by omega,D,aH _ _⟩
    case round=>
     obtain⟨i,rfl,hi,c,m,x⟩:=hrel;have a5:(0:Int)<=(i:Int):=(by omega);have C:=aj x Y;have ap:=aj x e1;have Hall:=aE c;by_cases s:i<f.length
     ·have F:(i:Int)<(f.length:Int):=(by omega);have J:=cL i s wr m;cases H:lk3 l i with
      |true=>
       rw[H]at J
       have V:Rb (dC l=(9,i)):=by
        have c:=Hall.o;have d:=Hno.o;have P:=H0.o;have s:i<l.length:=(by rw[I.o];exact s);have ar:=I.o;exact P1 P (fun a b=>d.1 (by omega) a (by omega)) (fun a b=>d.2.1 (by omega) a (by omega)) s H c
       go_wp2_with fail;refine J.mono ?_;rintro r w2 ⟨rfl,g⟩;have Z:=(g.cell (cZ C)).trans C;have q:=aw m g;have S:=ai q L;have A:=below_setRow ((HbW.o).trans (q.mono (HbW.o).size)) (show w.heap.size<=w.heap.size+1 by omega) #[ag 9,ag (i:Int)]
       go_wp2_with(first
        |(refine az rfl 48 _ _ rfl _ _ rfl rfl _ _ S (by kernel_rfl) (by simp) (by simp[Value.oneCell']) ?_))
       refine nt 2 (by kernel_rfl) (w.heap.size+1) _ _ rfl rfl (aL _ _ _ _ _ _ S) ?_;rw[V.o];exact⟨rfl,A⟩
      |false=>
       rw[H]at J
       have O:Rb (∀y,y<i+1->lk3 l y=false):=fun y R=>by
        by_cases e:y=i
        ·rw[e];exact H
        ·exact Hall.o y (by omega)
       go_wp2_with fail;refine J.mono ?_;rintro r w2 ⟨rfl,g⟩;have q:=aw m g;have E:=aw x g;go_wp2_with fail;go_roundw
       case rel=>
        (repeat apply iX);refine⟨?_,rfl⟩;exact⟨i+1,by go_num,by omega,O.o,q,E⟩
       case measure=>simp[intOf];omega
     ·have F: ¬(i:Int)<(f.length:Int):=(by omega);have ei:i=f.length:=(by omega)
      have O:Rb (FU l f.length U (ag 3) wr):=by
       have d:=Hno.o;have c:=Hall.o;rw[ei]at c;exact⟨3,rfl,by omega,⟨fun _=>d.1 (by omega),fun _=>d.2.1 (by omega),fun _=>c⟩,m⟩
      go_wp2_with fail;go_roundw;case rel=>exact O.o
      case measure=>simp[intOf]
   |3,_=>
    have S:=ai n L;have A:=below_setRow ((HbW.o).trans (n.mono (HbW.o).size)) (show w.heap.size<=w.heap.size+1 by omega) #[ag 0,ag 0]
    have V:Rb (dC l=(0,0)):=by
     have e:=I.o;exact FT H0.o (by rw[e];exact d.1 (by omega)) (by rw[e];exact d.2.1 (by omega)) (by rw[e];exact d.2.2 (by omega))
    go_wp2_with(first
     |(refine az rfl 48 _ _ rfl _ _ rfl rfl _ _ S (by kernel_rfl) (by simp) (by simp[Value.oneCell']) ?_))
    refine nt 2 (by kernel_rfl) (w.heap.size+1) _ _ rfl rfl (aL _ _ _ _ _ _ S) ?_;rw[V.o];exact⟨rfl,A⟩
   |k+4,al=>exact absurd al (by omega)
 ·have V:Rb (dC l=gC l):=by
   show _=_;unfold dC;rw[aB P]
  have aU:((gC l).1 !=0)=true:=(by simpa using P);have HR:Rb (∀W,aq w W->(fun(r:Ending) (w':World)=>r= .returned (.agg #[ag (dC l).1,ag ((dC l).2:Int)])/\aq w w') (.returned (.agg #[ag (gC l).1,ag ((gC l).2:Int)])) W):=fun W N=>⟨by rw[V.o],N⟩
  generalize (gC l).1=er at*;generalize (((gC l).2:Nat):Int)=B at*;have bC:=am w1 (.cells #[ag er,ag B] 48);have K:=aw aa bC;have T:=ai bC m2;have m3:=aG w1 (.cells #[ag er,ag B] 48);have A:=below_setRow K (show w.heap.size<=w.heap.size+1 by omega) #[ag er,ag B];generalize aM:w1.alloc (.cells #[ag er,ag B] 48)=w2 at*;have z0:=ak 0 m3
  go_wp2_with(first
   |(refine aR rfl 48 _ rfl _ rfl _ _ _ _ m3 pN rfl (by kernel_rfl) ?_)
   |(refine az rfl 48 _ _ rfl _ _ rfl rfl _ _ T (by kernel_rfl) (by simp) (by simp[Value.oneCell']) ?_))
  refine nt 2 (by kernel_rfl) (w.heap.size+1) _ _ rfl rfl (aL _ _ _ _ _ _ T) ?_;exact HR.o _ A
def mkL (m:Nat->Bool)(j:Nat):List Int:=((List.range j).filter m).map fun k:Nat=>(k:Int)
theorem KF (m:Nat->Bool)(j:Nat):mkL m (j+1)=if m j=true then mkL m j++[(j:Int)] else mkL m j:=by
 unfold mkL;rw[List.range_succ,List.filter_append,dZ];by_cases h:m j=true
 ·simp[h]
 ·simp[h]
theorem EF (m:Nat->Bool)(j:Nat):(mkL m j).length<=j:=by
 unfold mkL;rw[bc];have:=List.length_filter_le m (List.range j);simpa using this
def gK (l:List Ru)(r:Int):List Int:=if r<0\/(l.length:Int)<=r\/(dC l).1≠0 then [] else mkL (fol (iT l) (l.length+1) (fun _=>false) r.toNat) l.length
theorem lO {l:List Ru}(h:(dC l).1=0):(gC l).1=0/\ ∀u∈l,-1∉gF l u:=by
 unfold dC at h;split at h
 ·rename_i c;exact absurd h c
 ·rename_i c;refine⟨by simpa using c,fun u p m=> ?_⟩;split at h
  ·cases h
  ·split at h
   ·cases h
   ·rename_i f;obtain⟨j,d⟩:=List.getElem?_of_mem p;have g:j<l.length:=(aF.1 d).1
    have o:lk2 l j=true:=by
     unfold lk2;rw[d];exact bh m
    have: ∀(k i:Nat),i<=j->j<i+k->frF (lk2 l) i k≠none:=by
     intro k;induction k with
     |zero=>intro i a b;omega
     |succ k q=>
      intro i a b;rw[frF];split
      ·simp
      ·rename_i n;have:i≠j:=fun e=>n (by rw[e];exact o);exact q (i+1) (by omega) (by omega)
    exact this l.length 0 (by omega) (by omega) f
theorem DO (a:List Int)(n:Int):jS (a++[n])=jS a++[ag n]:=by simp[jS]
def KG (a:List Int)(w:World)(e:Ending)(w':World):Prop:= ∃v,e= .returned v/\dM w' v a/\aq w w'
def KH (m:Nat->Bool)(n:Nat)(_ a:World)(q t:Value)(wr:World):Prop:= ∃j:Nat,t=ag (j:Int)/\j<=n/\wr.ownsRow a.heap.size 3 1 q (mkL m j).length (jS (mkL m j))/\aq a wr
theorem Iv (c0 c1:Value)(w:World):(Instr.field 48 (.agg #[c0,c1]) 0).run prog w= .ok c0 w:=by
 unfold Instr.field;simp[go_sem,asAgg]
attribute [go_sem] Iv
theorem KI (a:List (Ru×Value))(v:Value)(r:Int)(w:World)(h:InR w v a):Calls prog 104 #[v,ag r] w (KG (gK (a.map (fun p=>p.1)) r) w):=by
 obtain⟨l,Z⟩:=au (a.map (fun p=>p.1));have aa:l.length=a.length:=by rw[<-Z,bc]
 obtain⟨pv,cv,rfl⟩:=h.form;have ay:=h.len;have N:=vw a _ w h;rw[Z]at N⊢;have f:Rb (∀W,aq w W->KG [] w (.returned (af)) W):=fun W R=>⟨_,rfl,⟨none,0,rfl,by decide,fun j n hj=>by simp at hj⟩,R⟩
 have d:=aE aa;have F:=aE Z;by_cases h1:r<0
 ·have x:Rb (gK l r=[]):=aB (.inl h1);go_enter func104,ntmps104;go_wp2_with fail;go_ret;rw[x.o];exact f.o _ (aH _ _)
 by_cases h2:(a.length:Int)<=r
 ·have x:Rb (gK l r=[]):=aB (.inr (.inl (by rw[d.o];exact h2)));go_enter func104,ntmps104;go_wp2_with fail;go_ret;rw[x.o];exact f.o _ (aH _ _)
 by_cases O:(dC l).1=0
 ·have x:Rb (gK l r=mkL (fol (iT l) (l.length+1) (fun _=>false) r.toNat) l.length):=ax (by rw[d.o];omega);obtain⟨h0,ae⟩:=lO O;obtain⟨H,ad⟩:=AL h0;rw[O]at N;generalize (((dC l).2:Nat):Int)=Q at*;obtain⟨C,ak⟩: ∃C:Nat,r=(C:Int):=⟨r.toNat,by omega⟩
  subst ak;have al:((C:Int)).toNat=C:=(by omega);rw[al]at x;have aj:C<l.length:=(by rw[d.o];omega);have cN:=fun W (R:aq w W)=>pJ a _ W (h.below R);obtain⟨i0,hi,ao,ap,ar⟩:=jw Cq;have av:(a.length:Int)<=40:=(by rw[d.o]at H;omega);have Hrl:=aE aj;have P:=aE H;have Hno:=aE ae;have Hnm:=aE ad;have HI:=aE h;go_enter func104,ntmps104;go_wp2_with fail;refine N.mono ?_;rintro e w1 ⟨rfl,y⟩;have d1:=cN w1 y;go_wp2_with fail;refine d1.mono ?_;rintro e w2 ⟨mb,rfl,_,hM,T⟩;have B:=aw y T
  have d2:=yA a _ mb w2 (HI.o.below B) hM (by omega) (fun p hp=>by
   have:=Hnm.o p.1 (by rw[<-F.o];exact dR.2 ⟨p,hp,rfl⟩);omega)
  go_wp2_with fail;refine d2.mono ?_;rintro e w3 ⟨so,rfl,S,U⟩;rw[F.o]at S;have I:=aw B U;have d3:=vY so l.length (iT l) C w3 (Ct S Hno.o) (by have:=P.o;omega) Hrl.o;obtain⟨pz,cz,L,_⟩:=(show oe w3 so (l.map (gF l)) from S)
  rw[d.o]at d3;rw[bc,d.o]at L;subst L;go_wp2_with fail;refine d3.mono ?_;rintro e M ⟨g,rfl,hg,V⟩;have J:=aw I V;rw[d.o]at x;generalize fol (iT l) (a.length+1) (fun _=>false) C=m at*;have Hbw:=aE J;have Hg:=aE hg;go_wp2_with fail;go_loopw [5,6,7,29] (fun q _ _ t wr=>KH m a.length w M q t wr) (fun _ _ _ t _=>a.length-(intOf t).toNat);case atStart=>exact⟨0,rfl,by omega,dp _ _ _ _,aH _ _⟩
  case round=>
   obtain⟨j,rfl,hj,c,i⟩:=hrel;have az:(0:Int)<=(j:Int):=(by omega);have a0:=EF m j;by_cases ac:j<a.length
   ·have K:(j:Int)<(a.length:Int):=(by omega);have km:=(aZ _ _ j _ _ _ (ai i Hg.o)).trans (nz ac);have A:=KF m j;cases hmj:m j with
    |true=>
     rw[hmj]at km;rw[aB hmj]at A;obtain⟨pq,cq,ah⟩:=cg c;have bA:=am wr (.cells #[ag (j:Int)] 3);have an:=aG wr (.cells #[ag (j:Int)] 3);have s:=br (w':=wr.alloc (.cells #[ag (j:Int)] 3)) c fun b hb=>bA.block b (c.lt b hb).2;have Y:=aw i bA;have a3:=i.size;have a2:(wr.alloc (.cells #[ag (j:Int)] 3)).heap.size=wr.heap.size+1:=(by simp);have Hst:=aE A;subst ah;generalize mkL m j=ns at*;generalize a4:wr.alloc (.cells #[ag (j:Int)] 3)=wA at*;go_wp2_with(at_builtin;refine jf _ rfl _ _ 37 rfl M.heap.size 3 i0 (ag 0) 1 8 AH hi ao ap ar rfl (by decide) (.slice pq ns.length cq) ns.length (jS ns) rfl s ⟨wr.heap.size,0,none⟩ 1 1 [ag (j:Int)] rfl rfl ?c1 ?c2 ?c3 ?c4 ?c5 ?_)
     case c1=>
      intro k u' z;match k,z with
      |0,z=>simp at z;subst z;exact(aZ _ _ _ _ _ _ an).trans rfl
     case c2=>intro u hu;simp at hu;subst hu;rfl
     case c3=>unfold maxLen;omega
     case c4=>omega
     case c5=>omega
     intro v' w5 E D _;have ab:=s.lt;have X:aq M w5:=Y.grown D (by omega) (fun q hq=>(ab q hq).1)
     have G:Rb (KH m a.length w M v' (ag ((j+1:Nat):Int)) w5):=by
      refine⟨j+1,rfl,by omega,?_,X⟩;rw[Hst.o,DO];simpa using E
     go_wp2_with fail;go_roundw
     case rel=>first
      |exact G.o
      |exact⟨_,_,_,_,G.o,rfl,rfl,rfl,rfl⟩
     case measure=>simp[intOf];omega
    |false=>
     rw[hmj]at km;rw[ax (by rw[hmj];decide)]at A;have G:Rb (KH m a.length w M u5 (ag ((j+1:Nat):Int)) wr):=⟨j+1,rfl,by omega,by rw[A];exact c,i⟩
     go_wp2_with fail;go_roundw
     case rel=>first
      |exact G.o
      |exact⟨_,_,_,_,G.o,rfl,rfl,rfl,rfl⟩
     case measure=>simp[intOf];omega
   ·have K: ¬(j:Int)<(a.length:Int):=(by omega);have ej:j=a.length:=(by omega)
    have HO:Rb (KG (gK l (C:Int)) w (.returned u5) wr):=by
     rw[x.o,<-ej];exact⟨_,rfl,qZ c (by omega),(Hbw.o).trans (i.mono (Hbw.o).size)⟩
    go_wp2_with fail;go_ret;exact HO.o
 ·have x:Rb (gK l r=[]):=aB (.inr (.inr O));have a1:((dC l).1 !=0)=true:=(by simpa using O);have Hn:=f;generalize (dC l).1=er at*;generalize (((dC l).2:Nat):Int)=Q at*;go_enter func104,ntmps104;go_wp2_with fail;refine N.mono ?_;rintro e w1 ⟨rfl,y⟩;go_wp2_with fail;go_ret;rw[x.o];exact Hn.o _ y
section
open Go.Shelf
def DW:Go.Shelf.Ren:=⟨fun|189=>167|125=>184|257=>183|128=>208|129=>209|294=>199|295=>200|296=>201|297=>202|298=>203|299=>204|216=>205|300=>206|301=>207|328=>219|329=>220|330=>221|331=>222|332=>223|215=>224|343=>230|n=>n,fun|28=>37|3=>3|46=>244|0=>0|51=>267|53=>53|4=>4|183=>261|182=>260|131=>117|5=>5|9=>9|218=>277|222=>182|228=>289|229=>287|n=>n,fun|n=>n⟩
theorem EO:Go.Proofs.Lays.n189 prog DW:={
 mixed:=by kernel_rfl
 f125:=func184.trans (congrArg some (by kernel_rfl))
 f128:=func208.trans (congrArg some (by kernel_rfl))
 f129:=func209.trans (congrArg some (by kernel_rfl))
 f189:=func167.trans (congrArg some (by kernel_rfl))
 f215:=func224.trans (congrArg some (by kernel_rfl))
 f216:=func205.trans (congrArg some (by kernel_rfl))
 f257:=func183.trans (congrArg some (by kernel_rfl))
 f294:=func199.trans (congrArg some (by kernel_rfl))
 f295:=func200.trans (congrArg some (by kernel_rfl))
 f296:=func201.trans (congrArg some (by kernel_rfl))
 f297:=func202.trans (congrArg some (by kernel_rfl))
 f298:=func203.trans (congrArg some (by kernel_rfl))
 f299:=func204.trans (congrArg some (by kernel_rfl))
 f300:=func206.trans (congrArg some (by kernel_rfl))
 f301:=func207.trans (congrArg some (by kernel_rfl))
 f328:=func219.trans (congrArg some (by kernel_rfl))
 f329:=func220.trans (congrArg some (by kernel_rfl))
 f330:=func221.trans (congrArg some (by kernel_rfl))
 f331:=func222.trans (congrArg some (by kernel_rfl))
 f332:=func223.trans (congrArg some (by kernel_rfl))
 f343:=func230.trans (congrArg some (by kernel_rfl))
 t0:=underlying0
 a0:=isAgg0
 z0:=sizeOf0
 v0:=zeroValue0
 t3:=underlying3
 a3:=isAgg3
 z3:=sizeOf3
 v3:=zeroValue3
 t4:=underlying4
 a4:=isAgg4
 z4:=sizeOf4
 v4:=zeroValue4
 t5:=underlying5
 a5:=isAgg5
 z5:=sizeOf5
 v5:=zeroValue5
 t9:=underlying9
 a9:=isAgg9
 z9:=sizeOf9
 v9:=zeroValue9
 t28:=underlying37
 a28:=isAgg37
 z28:=sizeOf37
 v28:=zeroValue37
 t46:=underlying244
 a46:=isAgg244
 z46:=sizeOf244
 v46:=zeroValue244
 t51:=underlying267
 a51:=isAgg267
 z51:=sizeOf267
 v51:=zeroValue267
 t53:=underlying53
 a53:=isAgg53
 z53:=sizeOf53
 v53:=zeroValue53
 t131:=underlying117
 a131:=isAgg117
 z131:=sizeOf117
 v131:=zeroValue117
 t182:=underlying260
 a182:=isAgg260
 z182:=sizeOf260
 v182:=zeroValue260
 t183:=underlying261
 a183:=isAgg261
 z183:=sizeOf261
 v183:=zeroValue261
 t218:=underlying277
 a218:=isAgg277
 z218:=sizeOf277
 v218:=zeroValue277
 t222:=underlying182
 a222:=isAgg182
 z222:=sizeOf182
 v222:=zeroValue182
 t228:=underlying289
 a228:=isAgg289
 z228:=sizeOf289
 v228:=zeroValue289
 t229:=underlying287
 a229:=isAgg287
 z229:=sizeOf287
 v229:=zeroValue287}
def By:Go.Shelf.Ren:=⟨fun|20=>168|n=>n,fun|22=>37|3=>3|4=>4|0=>0|n=>n,fun|n=>n⟩
theorem AX:Go.Proofs.Lays2.n20 prog By:={
 mixed:=by kernel_rfl
 f20:=func168.trans (congrArg some (by kernel_rfl))
 t0:=underlying0
 a0:=isAgg0
 z0:=sizeOf0
 v0:=zeroValue0
 t3:=underlying3
 a3:=isAgg3
 z3:=sizeOf3
 v3:=zeroValue3
 t4:=underlying4
 a4:=isAgg4
 z4:=sizeOf4
 v4:=zeroValue4
 t22:=underlying37
 a22:=isAgg37
 z22:=sizeOf37
 v22:=zeroValue37
 i3:=by kernel_rfl}
theorem IU (blk a cap:Nat)(c:List Int)(w:World)(f:Go.Sort.Holds (Value.int .i64) w blk a c.toArray)(b:blk<w.heap.size)(d:c.length<4611686018427387904):
 Calls prog 167 #[.slice (some (ae blk a)) c.length cap] w fun e w'=>e= .returned (.tuple #[])/\ ∃n os,w'=Go.Sort.grow (Go.Sort.putRow (Value.int .i64) (Go.Sort.ahead w n) blk a (c.mergeSort fun x y=>decide (x<=y)).toArray) os:=Any.slices_Sort_int EO blk a cap c w f b d
theorem IV (p:Option Addr)(cap:Nat)(w:World):Calls prog 167 #[.slice p 0 cap] w fun e w'=>e= .returned (.tuple #[])/\w'=w:=Any.slices_Sort_int_none EO p cap w
theorem CO (blk a cap:Nat)(b:List Int)(w:World)(f:Go.Sort.Holds (Value.int .i64) w blk a b.toArray)(d:b.length<=9223372036854775807)(c:b.length<=cap):
 Calls prog 168 #[.slice (some (ae blk a)) b.length cap] w fun e w'=>e= .returned (.slice (some (ae blk a)) (Go.Lib.compact b).length cap)/\ ∃q,w'=Go.Sort.putRow (Value.int .i64) (Go.Sort.ahead w q) blk a (Go.Lib.compact b++List.replicate (b.length-(Go.Lib.compact b).length) 0).toArray:=Any.slices_Compact_int AX blk a cap b w f d c
theorem CP (a:Option Addr)(cap:Nat)(w:World):Calls prog 168 #[.slice a 0 cap] w fun e w'=>e= .returned (.slice a 0 cap)/\w'=w:=Any.slices_Compact_int_empty AX a cap w
end
theorem AY (l:List Int):dz l=l.map (Value.int .i64):=rfl
theorem La {w:World}{B:Nat}{v:Value}{a:List Int}(h:w.ownsRow B 3 1 v a.length (dz a))(q:a.length<=1000000):
  Calls prog 167 #[v] w fun e w'=>e= .returned (.tuple #[])/\w'.ownsRow B 3 1 v a.length (dz (a.mergeSort fun x y=>decide (x<=y)))/\w.grownBy w' v.ownBlock:=by
 rcases h.2 with⟨rfl,e⟩|⟨g,cap,i,rfl,k,d,m,l,o,f⟩
 ·have p:a=[]:=gZ e;subst p;refine(IV none 0 w).mono fun e w' ⟨c,b⟩=>⟨c,by rw[b,List.mergeSort_nil];exact dp _ _ _ _,by rw[b];exact jA _ _⟩
 ·rw[Nat.mul_one]at f;have j:=Go.holds_of_blockI (ss:=a) d f;refine(IU g 0 cap a w j (aI d) (by omega)).mono fun e w' ⟨c,n,os,b⟩=>⟨c,?_,?_⟩
  ·rw[b,AY];exact Go.ownsRow_sortedI (List.length_mergeSort a) k d m l o
  ·rw[b];exact Go.grownBy_sortedI _
theorem yQ (a:List Int):(Go.Lib.compact a).length<=a.length:=by
 unfold Go.Lib.compact Go.Lib.compactUpTo;rw[bc];refine bg (List.length_filter_le _ _) ?_;simp
theorem DX {w:World}{B:Nat}{v:Value}{a:List Int}(h:w.ownsRow B 3 1 v a.length (dz a))(K:a.length<=1000000):
  Calls prog 168 #[v] w fun e w'=> ∃z,e= .returned z/\w'.ownsRow B 3 1 z (Go.Lib.compact a).length (dz (Go.Lib.compact a))/\w.grownBy w' v.ownBlock:=by
 rcases h.2 with⟨rfl,e⟩|⟨g,cap,A,rfl,E,u,x,F,H,y⟩
 ·have I:a=[]:=gZ e;subst I;refine(CP none 0 w).mono fun e w' ⟨j,d⟩=>⟨_,j,by rw[d];exact dp _ _ _ _,by rw[d];exact jA _ _⟩
 ·rw[Nat.mul_one]at y;have D:=Go.holds_of_blockI (ss:=a) u y;have i:=yQ a;refine(CO g 0 cap a w D (by omega) x).mono fun e w' ⟨j,q,d⟩=>⟨_,j,?_,?_⟩
  ·have l:(Go.Lib.compact a++List.replicate (a.length-(Go.Lib.compact a).length) (0:Int)).length=a.length:=(by simp;omega);have s:=Go.ownsRow_sortedI (n:=q) (os:= #[]) l E u x F H;rw[Go.Sort.grow_empty,<-d]at s;refine⟨by rw[kQ];simp,.inr ?_⟩;rcases s.2 with⟨e,_⟩|⟨J,r,b,e,f,k,G,m,o,p⟩
   ·cases e
   ·injection e with c _ C;injection c with c;injection c with c;subst c C;refine⟨g,cap,b,rfl,f,k,by omega,m,o,?_⟩;have t:=congrArg (List.take (Go.Lib.compact a).length) p;rw[List.take_take,Nat.mul_one,fg i,dZ,List.take_append_of_le_length (by simp)]at t;rw[Nat.mul_one,t,AY];exact dh (by simp)
  ·rw[d,<-Go.Sort.grow_empty (Go.Sort.putRow _ _ _ _ _)];exact Go.grownBy_sortedI _
theorem EP:prog.underlying 36=some (.struct (prog.fieldsOf 36)):=by kernel_rfl
theorem Bz {d:Array Oper}{c:List Oper}{o:Oper}{a:Act}{w:World}{Q:Exit->Act->World->Prop}(e:o.guard=none)(x:Operand)(j:o.op= .load 55 x)(b q:Nat)(k:a.eval x=ab b q)(f:Nat->Bool)(i:w.rangeAt b q (mv f).toList)(h:wpList prog d Q c (a.put o.dst (.agg (mv f))) w):wpList prog d Q (o::c) a w:=
 wpList_plain e fun _ g=>uE x j b q k f i (g _ _ h)
theorem AZ {w:World}{v:Value}{l:List (Int×Int)}(h:Row w v l): ∃(q:Option Addr) (c:Nat),v= .slice q l.length c/\l.length<9223372036854775808/\ ∀j s,l[j]? =some s-> ∃g o:Nat,q=some ⟨g,o,none⟩/\w.cell? (ae g (o+j*2))=some (ag s.1)/\w.cell? (ae g (o+j*2+1))=some (ag s.2):=by
 rcases h with⟨c,rfl,rfl⟩|⟨g,o,c,rfl,d,b⟩
 ·exact⟨none,c,rfl,by simp,fun j s a=>by simp at a⟩
 ·refine⟨_,c,rfl,d,fun j s a=>⟨g,o,rfl,?_⟩⟩;have:=b j (aF.1 a).1;rwa[show l.getD j (0,0)=s by simp[List.getD,a]]at this
theorem Ab {n:Int}: ∀{l:List (Int×Int)} {last:Int},good last n l-> ∀s∈l,last<s.1/\s.1<s.2/\s.2<=n
 |[],_,_,s,a=>by cases a
 |t::l,last,h,s,a=>by
  obtain⟨b,c,d,e⟩:=h;rcases bO.1 a with rfl|a
  ·exact⟨b,c,d⟩
  ·obtain⟨i,f,g⟩:=Ab e s a;exact⟨by omega,f,g⟩
theorem Gh (l b a:Int)(roles:List (List Int))(rv:Value)(D:List (Nat->Bool))(fv:Value)(w:World)(hT:Tab w)(hR:fu w rv roles)(hF:tC w fv D)(bt: ∀p∈roles,p.length<=8/\ ∀r∈p,0<=r/\r<(D.length:Int))(bP:roles.length<=4)(bw:kO l b a=true):
  Calls prog 140 #[.agg #[ag l,ag b,ag a,rv],fv] w fun e w'=> ∃v,e= .returned v/\dM w' v (iS (b+l+a) D roles)/\aq w w':=by
 obtain⟨pr,cr,rfl,bO,aR⟩:=id hR;have bA:=am w (.cells #[ag l,ag b,ag a,.slice pr roles.length cr] 36);have nA:=aG w (.cells #[ag l,ag b,ag a,.slice pr roles.length cr] 36);generalize bR:w.alloc (.cells #[ag l,ag b,ag a,.slice pr roles.length cr] 36)=wA at*;have HR:=cj (hR.below bA);have HF:=cj (hF.below bA);have HT:=cj (kR hT bA);have HB:=cj bA;have bb:=cj bt;have bd:=cj bw;have z3:=ak 3 nA;obtain⟨pf,cf,rfl,bN,_⟩:=hF;go_enter func140,ntmps140
 go_wp2_with fail;go_loopw [5,15] (fun q t wr=> ∃(j:Nat) (A:List Int) (qa:Option Addr) (ca:Nat),q= .slice qa A.length ca/\t=ag (j:Int)/\j<=roles.length/\Rb (A=(roles.take j).flatMap (BH (b+l+a) D))/\A.length<=j*11520/\Rb (wr.ownsRow wA.heap.size 3 1 (.slice qa A.length ca) A.length (dz A))/\Rb (aq wA wr)) (fun _ t _=>roles.length-(intOf t).toNat);case atStart=>exact⟨0,[],none,0,rfl,rfl,by omega,rfl,by simp,dp _ _ _ _,aH _ _⟩
 case round=>
  obtain⟨j,A,qa,ca,rfl,rfl,hj,ap,bI,HO,Q⟩:=hrel;have bL:(0:Int)<=(j:Int):=(by omega);by_cases bv:j<roles.length
  ·have aL:(j:Int)<(roles.length:Int):=(by omega);obtain⟨c,ad⟩: ∃r,roles[j]? =some r:=⟨roles[j],ay bv⟩
   obtain⟨_,_,e1,_,a9⟩:=HR.o;cases e1;obtain⟨gr,or,sv,b2,bm,an⟩:=a9 j _ ad;subst b2;have hc:=aj Q.o bm;obtain⟨ar,ac,rfl,aS,L⟩:=an;have HC:=cj L;have bc:=cj ad;have a2:=cj (bb.o c (aM ad));have b7:c.length<=8:=a2.o.1;go_wp2_with fail;go_loopw [5,21] (fun q t W=> ∃(i:Nat) (d:List Int) (H:Option Addr) (G:Nat),q= .slice H d.length G/\t=ag (i:Int)/\i<=c.length/\Rb (d=A++(c.take i).flatMap fun r=>yM (b+l+a) (D.getD r.toNat fun _=>false))/\d.length<=j*11520+i*1440/\Rb (W.ownsRow wA.heap.size 3 1 (.slice H d.length G) d.length (dz d))/\Rb (aq wA W)) (fun _ t _=>c.length-(intOf t).toNat);case atStart=>exact⟨0,A,qa,ca,rfl,rfl,by omega,by show _=_;simp,by omega,HO,Q⟩
   case round=>
    obtain⟨i,d,H,G,rfl,rfl,hi,O,bC,U,g⟩:=hrel;have bK:(0:Int)<=(i:Int):=(by omega);by_cases aN:i<c.length
    ·have ah:(i:Int)<(c.length:Int):=(by omega);obtain⟨r,aa⟩: ∃r,c[i]? =some r:=⟨c[i],ay aN⟩
     obtain⟨h1,Y⟩:=a2.o.2 r (aM aa);obtain⟨rn,b6⟩: ∃rn:Nat,r=(rn:Int):=⟨r.toNat,by omega⟩
     subst b6;obtain⟨f,hf⟩: ∃f,D[rn]? =some f:=⟨D[rn]'(by omega),ay (by omega)⟩
     obtain⟨ga,oa,b1,bj⟩:=HC.o i _ aa;subst b1;have bH:=aj g.o bj;obtain⟨_,_,e3,_,Z⟩:=HF.o;cases e3;obtain⟨gf,of,b3,aP⟩:=Z rn f hf;subst b3;have b9:=eB aP g.o;have a3:=cj aa;have c1:=AV f wr (kR HT.o g.o);have bp:D.getD rn (fun _=>false)=f:=(by simp[List.getD,hf]);have aY:=cj bp
     go_wp2_with(first
      |(refine Bz rfl _ rfl gf (of+rn*23) rfl f b9 ?_))
     refine c1.mono ?_;rintro e w4 ⟨⟨vs,rfl,m⟩,n,b4⟩;have ao:=v8 m (by have:=n.few;omega)
     have bh:Rb (∀W:World,w4.grownBy W (Value.slice H d.length G).ownBlock->W.ownsRow wr.heap.size 57 2 vs (rs f 1440).length (jb (rs f 1440))):=fun W hW=>m.kept hW (by
      cases hz:vs.ownBlock with
      |none=>exact .inl rfl
      |some q=>
       refine .inr fun e=> ?_;have h1:=(m.lt q hz).1;have Y:=(U.o.lt q e.symm).2;omega)
     have bg:=cj (ir U.o b4);have aW:=cj (aw g.o b4);obtain⟨qs,cs,rfl,bu,_⟩:=AZ ao;have HG:=cj (Ab n.good);have bD:(rs f 1440).length<=1440:=n.few;have hN:(rs f 1440).length<9223372036854775808:=bu;go_wp2_with fail;go_loopw [5,31] (fun q t W=> ∃(k:Nat) (C:List Int) (qc:Option Addr) (V:Nat),q= .slice qc C.length V/\t=ag (k:Int)/\k<=(rs f 1440).length/\Rb (C=d++(((rs f 1440).take k).filter fun s=>decide (b+l+a<=s.2-s.1)).map fun s=>s.1)/\C.length<=j*11520+i*1440+k/\Rb (W.ownsRow wA.heap.size 3 1 (.slice qc C.length V) C.length (dz C))/\Rb (w4.grownBy W (Value.slice H d.length G).ownBlock)/\Rb (aq wA W)/\Rb (∀B:World,W.grownBy B (Value.slice qc C.length V).ownBlock->w4.grownBy B (Value.slice H d.length G).ownBlock)) (fun _ t _=>(rs f 1440).length-(intOf t).toNat);case atStart=>exact⟨0,d,H,G,rfl,rfl,by omega,by show _=_;simp,by omega,bg,jA _ _,aW,fun _ h=>h⟩
     case round=>
      obtain⟨k,C,qc,V,rfl,rfl,hk,R,bJ,a7,ba,a0,z⟩:=hrel;have bk:=v8 (bh.o wr ba.o) hN;obtain⟨_,_,e9,_,bn⟩:=AZ bk;cases e9;have aX:=cj bn;have bM:(0:Int)<=(k:Int):=(by omega);by_cases aO:k<(rs f 1440).length
      ·have al:(k:Int)<((rs f 1440).length:Int):=(by omega);obtain⟨s,af⟩: ∃s,(rs f 1440)[k]? =some s:=⟨_,ay aO⟩
       obtain⟨X,g2,g3⟩:=HG.o s (aM af);obtain⟨go,oo,b5,p0,p1⟩:=aX.o k s af;subst b5;obtain⟨x,y⟩:=s;dsimp only at X g2 g3 p0 p1;have bW:IntKind.i64.wrap (y-x)=y-x:=(by rw[bU];omega);have aE:=cj af;have bS:=am wr (.cells #[ag x,ag y] 57);have nS:=aG wr (.cells #[ag x,ag y] 57);have a4:=cj (ir a7.o bS);have az:=cj (aw a0.o bS);have aZ:=cj (js bS (Value.slice qc C.length V).ownBlock);obtain⟨gs,bs⟩:=au wr.heap.size;rw[bs]at nS;generalize bV:wr.alloc (.cells #[ag x,ag y] 57)=wS at*;have q0:=ak 0 nS;have q1:=ak 1 nS;have n2:=ai az.o nA;go_wp2_with fail;refine dl (fun _ _ W=>aq wS W) [kn 35 (ab gs 1),kn 36 (ag y),kn 37 (ab gs 0),kn 38 (ag x),kn 39 (ag (y-x)),kn 40 (.agg #[ag l,ag b,ag a,.slice (some (ae gr or)) roles.length cr]),kn 41 (ag (b+l+a)),kn 42 (.bool (decide (b+l+a<=y-x)))] (fun _=>(aH _ _).drew) (fun _ _ _ _ hb h=>aw h hb) (by kernel_rfl) (fun M φ B P bo FF ll aI a8=> ?_) (fun M φ W5 hM P=> ?_)
       ·simp only[kn,dX,aQ,aT,Act.put,aA,aK,aJ]at aI;subst aI;simp only[dn,Nat.reduceAdd]at a8;have bE:=aj P q1;have bF:=aj P q0;dsimp only[kn,dy,eJ,dY,Act.put];and_intros;all_goals first|exact trivial|intro qw qn qm K hK
        all_goals try (go_simp;with_reducible exact hK _ _ ⟨rfl,aH _ _⟩)
        ·refine eN 36 _ rfl _ (by simp[Act.eval,a8]) _ _ _ _ (ai P n2) EP rfl (by kernel_rfl) ?_;exact hK _ _ ⟨rfl,aH _ _⟩
        ·go_simp;refine(uA l b a _ B (.inl bd.o)).mono ?_;rintro r' W' ⟨rfl,bl⟩;exact hK _ _ ⟨rfl,bl⟩
       ·simp only[kn,d8,aQ,aT,Act.put,aA,aK,aJ];have a5:=cj (ir a4.o P);have av:=cj (aw az.o P);have T:=cj (aZ.o.trans (js P _));have bX:=aj P q0;by_cases aC:b+l+a<=y-x
        ·have bB:=am W5 (.cells #[ag x] 3);have nB:=aG W5 (.cells #[ag x] 3);generalize bT:W5.alloc (.cells #[ag x] 3)=wB at*;have zB:=ak 0 nB;have a6:=cj (ir a5.o bB);have I:=cj (aw av.o bB);have J:=cj (T.o.trans (js bB _))
         have S:Rb (C++[x]=d++(((rs f 1440).take (k+1)).filter fun s=>decide (b+l+a<=s.2-s.1)).map fun s=>s.1):=by
          show _=_;rw[R.o,ml aE.o,List.filter_append,dZ,List.filter_cons,aB (by simpa using aC),<-ef];rfl
         go_wp2_with(first
          |(refine mj rfl _ _ rfl wA.heap.size _ C x rfl ?ho W5.heap.size 1 rfl zB ?hl ?hb ?_
            case ho=>exact a6.o
            case hl=>omega
            case hb=>exact I.o.size
            intro v' w3 b0 F))
         have aV:=cj (yP I.o a6.o F);have bf:=cj b0
         have a1:Rb (w4.grownBy w3 (Value.slice H d.length G).ownBlock/\ ∀B:World,w3.grownBy B v'.ownBlock->w4.grownBy B (Value.slice H d.length G).ownBlock):=by
          rcases F with⟨e,X,_⟩|⟨X,q,e,hq⟩
          ·exact⟨z.o w3 (J.o.trans X),fun B Y=>z.o B ((J.o.trans X).trans (e▸Y))⟩
          ·refine⟨z.o w3 (J.o.trans (uD X _)),fun B Y=>z.o B (J.o.trans (uD (yO X Y (fun j hj=> ?_)) _))⟩;rw[e]at hj;cases hj;exact .inl hq
         go_wp2_with fail;go_roundw
         case rel=>
          have h3:=bf.o;have aF:=AU (l:=C) (x:=x) rfl;rw[<-aF]at h3;obtain⟨q',c',b8⟩:=oz h3;subst b8;exact⟨k+1,C++[x],q',c',rfl,by go_num,by omega,S,by rw[aF];omega,h3,a1.o.1,aV,a1.o.2⟩
         case measure=>simp[intOf];omega
        ·have S:Rb (C=d++(((rs f 1440).take (k+1)).filter fun s=>decide (b+l+a<=s.2-s.1)).map fun s=>s.1):=by
          show _=_;rw[R.o,ml aE.o,List.filter_append,dZ,List.filter_cons,ax (by simpa using aC)];simp
         go_wp2_with fail;go_roundw;case rel=>exact⟨k+1,C,qc,V,rfl,by go_num,by omega,S,by omega,a5,z.o _ T.o,av,fun B Y=>z.o B (T.o.trans Y)⟩
         case measure=>simp[intOf];omega
      ·have al: ¬(k:Int)<((rs f 1440).length:Int):=(by omega)
       have E:Rb (C=A++(c.take (i+1)).flatMap fun r=>yM (b+l+a) (D.getD r.toNat fun _=>false)):=by
        show _=_;rw[R.o,show k=(rs f 1440).length by omega,dh (aD _),ml a3.o,fG,<-ef,<-O.o];congr 1;rw[List.flatMap_singleton,dj,aY.o];rfl
       go_wp2_with fail;go_roundw;case rel=>exact⟨i+1,C,qc,V,rfl,by go_num,by omega,E,by omega,a7,a0⟩
       case measure=>simp[intOf];omega
    ·have ah: ¬(i:Int)<(c.length:Int):=(by omega)
     have E:Rb (d=(roles.take (j+1)).flatMap (BH (b+l+a) D)):=by
      show _=_;rw[O.o,show i=c.length by omega,dh (aD _),ml bc.o,fG,<-ap.o,List.flatMap_singleton];rfl
     go_wp2_with fail;go_roundw;case rel=>exact⟨j+1,d,H,G,rfl,by go_num,by omega,E,by omega,U,g⟩
     case measure=>simp[intOf];omega
  ·have aL: ¬(j:Int)<(roles.length:Int):=(by omega)
   have E:Rb (A=sT (b+l+a) D roles):=by
    show _=_;rw[ap.o,show j=roles.length by omega,dh (aD _)];rfl
   have c1:=La HO.o (by omega);go_wp2_with fail;refine c1.mono ?_;rintro e w1 ⟨rfl,bx,bq⟩;have aU:=cj (fT Q.o bq (aD _) (fun k hk=>(HO.o.lt k hk).1));have N:(A.mergeSort fun x y=>decide (x<=y)).length=A.length:=List.length_mergeSort A;have u:=bx;rw[<-N]at u;obtain⟨q1,bG,bQ⟩:=oz u;have c2:=DX u (by rw[N];omega);have be:=cj u;rw[N]at c2;go_wp2_with fail;refine c2.mono ?_;rintro e w2 ⟨v2,rfl,bz,br⟩;have g:=cj (fT aU.o br (aD _) (fun k hk=>(be.o.lt k (by rw[N];exact hk)).1))
   have bi:Rb (dM w2 v2 (iS (b+l+a) D roles)):=by
    have bo:=yQ (A.mergeSort fun x y=>decide (x<=y));have h:=rq bz (by omega);rw[E.o]at h;exact h
   have I:=cj (aw HB.o g.o);go_wp2_with fail;go_ret;exact⟨v2,rfl,bi.o,I.o⟩
end Go.Proofs.YtlkehieagdkgiaaGreatDoor
