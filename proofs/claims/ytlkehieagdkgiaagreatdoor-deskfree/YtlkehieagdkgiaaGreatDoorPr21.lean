/- Texts of the proof. -/
import Derived.Test.YtlkehieagdkgiaaGreatDoorPr20
import Derived.Shelf.Sort.Plain
import Derived.Shelf.Slices.CompactI
import Derived.Shelf.Slices.In.SortNone
import Derived.Test.YtlkehieagdkgiaaGreatDoorChecked
import Derived.Test.YtlkehieagdkgiaaGreatDoorPr12
import Derived.Sort.OwnSortedInts
set_option maxRecDepth 100000
set_option maxHeartbeats 8000000
namespace Go.Proofs.YtlkehieagdkgiaaGreatDoor
open Go.Proofs.Tryz Go.RowKit Lx Vx Mx Msk
namespace Lx
def frF (p:Nat->Bool):Nat->Nat->Option Nat
 |_,0=>none
 |i,k+1=>if p i=true then some i else frF p (i+1) k
theorem ti {p:Nat->Bool}{j:Nat}(f:p j=true): ∀(k i:Nat),i<=j->j<i+k->(∀c,i<=c->c<j->p c=false)->frF p i k=some j
 |0,i,g,l,_=>by omega
 |k+1,i,g,l,d=>by
  rw[frF];by_cases e:i=j
  ·subst e;rw[aB f]
  ·rw[ax (by rw[d i (aE _) (by omega)];decide)];exact ti f k (i+1) (by omega) (by omega) fun c a b=>d c (by omega) b
theorem mN {p:Nat->Bool}: ∀(k i:Nat),(∀c,i<=c->c<i+k->p c=false)->frF p i k=none
 |0,_,_=>rfl
 |k+1,i,h=>by
  rw[frF,ax (by rw[h i (aE _) (by omega)];decide)];exact mN k (i+1) fun c a b=>h c (by omega) (by omega)
end Lx
def lk1 (l:List Ru)(i:Nat):Bool:=match l[i]? with|some u=>atP5 l u.1 !=(i:Int)|none=>false
def lk2 (l:List Ru)(i:Nat):Bool:=match l[i]? with|some u=>decide (-1∈gh l u)|none=>false
def lk3 (l:List Ru)(i:Nat):Bool:=fol (iO l) (l.length+1) (fun _=>false) i i
def dx (l:List Ru):Int×Nat:=if(gg l).1≠0 then gg l else match frF (lk1 l) 0 l.length with
 |some i=>(7,i)
 |none=>match frF (lk2 l) 0 l.length with
  |some i=>(6,i)
  |none=>match frF (lk3 l) 0 l.length with
   |some i=>(9,i)
   |none=>(0,0)
theorem PG {l:List Ru}{i:Nat}(c:(gg l).1=0)(hi:i<l.length)(d:lk1 l i=true)(a: ∀b,b<i->lk1 l b=false):dx l=(7,i):=by
 unfold dx;rw[ax (by simpa using c),ti d l.length 0 (by omega) (by omega) fun b _ h=>a b h]
theorem PH {l:List Ru}{i:Nat}(c:(gg l).1=0)(d: ∀a,a<l.length->lk1 l a=false)(hi:i<l.length)(e:lk2 l i=true)(b: ∀a,a<i->lk2 l a=false):dx l=(6,i):=by
 unfold dx;rw[ax (by simpa using c),mN l.length 0 fun a _ h=>d a (by omega),ti e l.length 0 (by omega) (by omega) fun a _ h=>b a h]
theorem PI {l:List Ru}{i:Nat}(c:(gg l).1=0)(d: ∀a,a<l.length->lk1 l a=false)(e: ∀a,a<l.length->lk2 l a=false)(hi:i<l.length)(f:lk3 l i=true)(b: ∀a,a<i->lk3 l a=false):dx l=(9,i):=by
 unfold dx;rw[ax (by simpa using c),mN l.length 0 fun a _ h=>d a (by omega),mN l.length 0 fun a _ h=>e a (by omega),ti f l.length 0 (by omega) (by omega) fun a _ h=>b a h]
theorem FM {l:List Ru}(b:(gg l).1=0)(c: ∀a,a<l.length->lk1 l a=false)(d: ∀a,a<l.length->lk2 l a=false)(e: ∀a,a<l.length->lk3 l a=false):dx l=(0,0):=by
 unfold dx;rw[ax (by simpa using b),mN l.length 0 fun a _ h=>c a (by omega),mN l.length 0 fun a _ h=>d a (by omega),mN l.length 0 fun a _ h=>e a (by omega)]
def KC (n:Nat)(p:Nat->Bool)(b c:World)(t:Value)(wr:World):Prop:= ∃i:Nat,t=ag (i:Int)/\i<=n/\(∀a,a<i->p a=false)/\aq b wr/\aq c wr
def FN (l:List Ru)(n:Nat)(b:World)(t:Value)(wr:World):Prop:= ∃k:Nat,t=ag (k:Int)/\k<=3/\((0<k-> ∀a,a<n->lk1 l a=false)/\(1<k-> ∀a,a<n->lk2 l a=false)/\(2<k-> ∀a,a<n->lk3 l a=false))/\aq b wr
theorem AC {l:List Ru}(h:(gg l).1=0):l.length<=40/\ ∀u∈l,(nms u.2).length<=600:=by
 unfold gg at h;split at h
 ·cases h
 ·refine⟨by omega,?_⟩
  have c: ∀(l:List Ru) (i:Nat),(jO l i).1=0-> ∀u∈l,ruleP u=0:=by
   intro l;induction l with
   |nil=>intro _ _ u a;cases a
   |cons x l e=>
    intro i h u a;rw[jO]at h;split at h
    ·rename_i d;exact absurd h d
    ·rename_i d;rcases bz.1 a with rfl|a
     ·simpa using d
     ·exact e _ h u a
  intro u a;have b:=c l 0 h u a;unfold ruleP at b;split at b
  ·cases b
  ·have f:=AB _ u.2 1 0 (aE _) b;have g:=Av b;omega
theorem vu (f:List (Ru×Value))(v:Value)(w:World)(h:InR w v f):Calls prog 20 #[v] w fun r w'=>r= .returned (.agg #[ag (dx (f.map (fun p=>p.1))).1,ag ((dx (f.map (fun p=>p.1))).2:Int)])/\aq w w':=by
 obtain⟨l,hl⟩:=au (f.map (fun p=>p.1));have a7:l.length=f.length:=by rw[<-hl,ba]
 obtain⟨pv,cv,rfl⟩:=h.form;have bA:=am w (.cells #[.slice pv f.length cv] 24);have bB:=bA.alloc bA.size (.cells #[ag 0,ag 0] 48);have s1:(w.alloc (.cells #[.slice pv f.length cv] 24)).heap.size=w.heap.size+1:=by simp
 have n1:=(dM _ (.cells #[ag 0,ag 0] 48) _ (aI (aG w (.cells #[.slice pv f.length cv] 24)))).trans (aG w (.cells #[.slice pv f.length cv] 24));have n2:=aG (w.alloc (.cells #[.slice pv f.length cv] 24)) (.cells #[ag 0,ag 0] 48);rw[s1]at n2;generalize an:(w.alloc (.cells #[.slice pv f.length cv] 24)).alloc (.cells #[ag 0,ag 0] 48)=wB at*;have cW:=Ik f _ wB (h.below bB);have k1:=ak 0 n1;rw[hl]at cW⊢;go_enter func20,ntmps20;go_wp2_with fail;refine cW.mono ?_;rintro r w1 ⟨rfl,ae⟩;have m1:=ai ae n1;have m2:=ai ae n2;have aa:=aw bB ae;by_cases P:(gg l).1=0
 ·obtain⟨aO,aK⟩:=AC P;rw[P];generalize (((gg l).2:Nat):Int)=B at*;have bC:=am w1 (.cells #[ag 0,ag B] 48);have K:=aw aa bC;have ao:=ai bC m1;have T:=ai bC m2;have k1:=ak 0 ao;have cN:=pE f _ _ (h.below K);have m3:=aG w1 (.cells #[ag 0,ag B] 48);generalize aM:w1.alloc (.cells #[ag 0,ag B] 48)=w2 at*;have z0:=ak 0 m3;go_wp2_with fail;refine cN.mono ?_;rintro r w3 ⟨mb,rfl,aS,hM,af⟩;have m1:=(af.block _ (aI ao)).trans ao;have m2:=(af.block _ (aI T)).trans T;have a2:=aw K af;have bD:=am w3 (.cells #[.map (some mb)] 76);have ac:=aw a2 bD;have ad:jo (w3.alloc (.cells #[.map (some mb)] 76)) mb (f.map (fun p=>p.1)):=hM.later (bD.block _ (ib hM));have q1:=ai bD m1;have q2:=ai bD m2;have q4:=aG w3 (.cells #[.map (some mb)] 76)
  have cS:=ym f _ mb _ (h.below ac) ad (by omega) (fun p H=>by
   have:=aK p.1 (by rw[<-hl];exact dQ.2 ⟨p,H,rfl⟩);omega)
  generalize aV:w3.alloc (.cells #[.map (some mb)] 76)=w4 at*;have k1:=ak 0 q1;have k4:=ak 0 q4;go_wp2_with fail;refine cS.mono ?_;rintro r w5 ⟨so,rfl,hZ,z⟩;rw[hl]at hZ;obtain⟨pz,cz,a8,_⟩:=(show nK w5 so (l.map (gh l)) from hZ)
  rw[ba,a7]at a8;obtain⟨X,ah⟩:=au w3.heap.size;have p1:=ai z q1;have p2:=ai z q2;have p4:=ai z q4;have av:=ad.later (z.block _ (ib ad));have a3:=aw ac z;have bE:=am w5 (.cells #[so] 34);have a4:=aw a3 bE;have x5:=aG w5 (.cells #[so] 34);have x1:=ai bE p1;have x2:=ai bE p2;have x4:=ai bE p4;have ax:=av.later (bE.block _ (ib av));have aJ:=nK.below hZ bE;generalize aW:w5.alloc (.cells #[so] 34)=w6 at*;rw[ah]at x4;obtain⟨b5,z⟩:=au w5.heap.size;rw[z]at x5;have bF:=am w6 (.cells #[ag 7,.func (.func 44) #[] #[ab X 0,ab w.heap.size 0],ag 6,.func (.func 45) #[] #[ab b5 0],ag 9,.func (.func 47) #[] #[ab b5 0]] 113);have M:=aG w6 (.cells #[ag 7,.func (.func 44) #[] #[ab X 0,ab w.heap.size 0],ag 6,.func (.func 45) #[] #[ab b5 0],ag 9,.func (.func 47) #[] #[ab b5 0]] 113);have HbW:=aD (aw a4 bF);have y1:=ai bF x1;have y2:=ai bF x2;have y4:=ai bF x4;have y5:=ai bF x5;have a0:=ax.later (bF.block _ (ib ax));have a1:=nK.below aJ bF;have a6:=h.below HbW.o;have I:=aD a7;have H0:=aD P;have aT: ∀(fn:Fn) (first cap:Array Value) (w:World),(Instr.makeFunc fn first cap).run prog w= .ok (.func fn first cap) w:=fun _ _ _ _=>rfl;subst a8;try simp only[ah]
  try simp only[z]
  go_wp2_with fail;try simp only[ah]
  try simp only[z]
  generalize aP:w6.alloc (.cells #[ag 7,.func (.func 44) #[] #[ab X 0,ab w.heap.size 0],ag 6,.func (.func 45) #[] #[ab b5 0],ag 9,.func (.func 47) #[] #[ab b5 0]] 113)=U at*;have kl:=ak 0 y1;have g0:=ak 0 M;have g1:=ak 1 M;have g2:=ak 2 M;have g3:=ak 3 M;have g4:=ak 4 M;have g5:=ak 5 M;have L:=y2
  have aA:QR (∀(i:Nat),i<f.length-> ∀W,aq U W->Calls prog 44 #[ag (i:Int),ab X 0,ab w.heap.size 0] W fun r w'=>r= .returned (.bool (lk1 l i))/\aq W w'):=fun i hi W N=>by
   obtain⟨u,hu⟩: ∃u,l[i]? =some u:=⟨l[i]'(by omega),ay _⟩
   have e:lk1 l i=(atP5 l u.1 !=(i:Int)):=(by unfold lk1;rw[hu]);rw[e];have:=Ir f pv cv mb X w.heap.size i u W (a6.below N) (a0.later (N.block _ (ib a0))) (ai N y1) (ai N y4) (by rw[hl];exact hu);rw[hl]at this;exact this
  have aC:QR (∀(i:Nat),i<f.length-> ∀W,aq U W->Calls prog 45 #[ag (i:Int),ab b5 0] W fun r w'=>r= .returned (.bool (lk2 l i))/\aq W w'):=fun i hi W N=>by
   obtain⟨u,hu⟩: ∃u,l[i]? =some u:=⟨l[i]'(by omega),ay _⟩
   have e:lk2 l i=decide (-1∈gh l u):=(by unfold lk2;rw[hu]);rw[e];exact Is l _ b5 i u W (a1.below N) (ai N y5) hu
  have aE:QR ((∀y,y<f.length->lk2 l y=false)-> ∀(i:Nat),i<f.length-> ∀W,aq U W->Calls prog 47 #[ag (i:Int),ab b5 0] W fun r w'=>r= .returned (.bool (lk3 l i))/\aq W w'):=fun d i hi W N=>by
   refine It l _ b5 i W (Cl (a1.below N) fun u hu hm=> ?_) (by omega) (ai N y5) (by omega);obtain⟨j,hj⟩:=List.getElem?_of_mem hu;have aQ:j<l.length:=(aF.1 hj).1;have:=d j (by omega);unfold lk2 at this;rw[hj]at this;dsimp only at this;rw[bj hm]at this;cases this
  have aN:(f.length:Int)<=40:=(by omega);go_loopw [8,9,30] (fun _ _ t wr=>FN l f.length U t wr) (fun _ _ t _=>3-(intOf t).toNat);case atStart=>exact⟨0,rfl,by omega,⟨fun h=>absurd h (by omega),fun h=>absurd h (by omega),fun h=>absurd h (by omega)⟩,aH _ _⟩
  case round=>
   obtain⟨k,rfl,al,d,n⟩:=hrel;match k,al with
   |0,_=>
    have d0:=aj n g0;have d1:=aj n g1;have D:=n.alloc n.size (.cells #[ag 7,.func (.func 44) #[] #[ab X 0,ab w.heap.size 0]] 113);have G:=aG wr (.cells #[ag 7,.func (.func 44) #[] #[ab X 0,ab w.heap.size 0]] 113);have cL:=aA.o;generalize an:wr.alloc (.cells #[ag 7,.func (.func 44) #[] #[ab X 0,ab w.heap.size 0]] 113)=wB at*;have Y:=ak 0 G;have e1:=ak 1 G;have a9:=aj D kl;have Hno:=aD d;go_wp2_with fail;obtain⟨b8,Q⟩:=au wr.heap.size;simp only[Q]at Y e1⊢;go_loopw [9,36] (fun _ t wr=>KC f.length (lk1 l) U wB t wr) (fun _ t _=>f.length-(intOf t).toNat);case atStart=>exact⟨0,rfl,by omega,fun y R=>by omega,D,aH _ _⟩
    case round=>
     obtain⟨i,rfl,hi,c,m,x⟩:=hrel;have a5:(0:Int)<=(i:Int):=(by omega);have C:=aj x Y;have ap:=aj x e1;have Hall:=aD c;by_cases s:i<f.length
     ·have F:(i:Int)<(f.length:Int):=(by omega);have J:=cL i s wr m;cases H:lk1 l i with
      |true=>
       rw[H]at J
       have V:QR (dx l=(7,i)):=by
        have c:=Hall.o;have d:=Hno.o;have P:=H0.o;have s:i<l.length:=(by rw[I.o];exact s);have ar:=I.o;exact PG P s H c
       go_wp2_with fail;refine J.mono ?_;rintro r w2 ⟨rfl,g⟩;have Z:=(g.cell (bN C)).trans C;have q:=aw m g;have S:=ai q L;have A:=below_setRow ((HbW.o).trans (q.mono (HbW.o).size)) (show w.heap.size<=w.heap.size+1 by omega) #[ag 7,ag (i:Int)]
       go_wp2_with(first
        |(refine az rfl 48 _ _ rfl _ _ rfl rfl _ _ S (by kernel_rfl) (by simp) (by simp[Value.oneCell']) ?_))
       refine mZ 2 (by kernel_rfl) (w.heap.size+1) _ _ rfl rfl (aL _ _ _ _ _ _ S) ?_;rw[V.o];exact⟨rfl,A⟩
      |false=>
       rw[H]at J
       have O:QR (∀y,y<i+1->lk1 l y=false):=fun y R=>by
        by_cases e:y=i
        ·rw[e];exact H
        ·exact Hall.o y (by omega)
       go_wp2_with fail;refine J.mono ?_;rintro r w2 ⟨rfl,g⟩;have q:=aw m g;have E:=aw x g;go_wp2_with fail;go_roundw
       case rel=>
        (repeat apply iT);refine⟨?_,rfl⟩;exact⟨i+1,by go_num,by omega,O.o,q,E⟩
       case measure=>simp[intOf];omega
     ·have F: ¬(i:Int)<(f.length:Int):=(by omega);have ei:i=f.length:=(by omega)
      have O:QR (FN l f.length U (ag 1) wr):=by
       have d:=Hno.o;have c:=Hall.o;rw[ei]at c;exact⟨1,rfl,by omega,⟨fun _=>c,fun h=>absurd h (by omega),fun h=>absurd h (by omega)⟩,m⟩
      go_wp2_with fail;go_roundw;case rel=>exact O.o
      case measure=>simp[intOf]
   |1,_=>
    have d0:=aj n g2;have d1:=aj n g3;have D:=n.alloc n.size (.cells #[ag 6,.func (.func 45) #[] #[ab b5 0]] 113);have G:=aG wr (.cells #[ag 6,.func (.func 45) #[] #[ab b5 0]] 113);have cL:=aC.o;generalize an:wr.alloc (.cells #[ag 6,.func (.func 45) #[] #[ab b5 0]] 113)=wB at*;have Y:=ak 0 G;have e1:=ak 1 G;have a9:=aj D kl;have Hno:=aD d;go_wp2_with fail;obtain⟨b8,Q⟩:=au wr.heap.size;simp only[Q]at Y e1⊢;go_loopw [9,36] (fun _ t wr=>KC f.length (lk2 l) U wB t wr) (fun _ t _=>f.length-(intOf t).toNat);case atStart=>exact⟨0,rfl,by omega,fun y R=>by omega,D,aH _ _⟩
    case round=>
     obtain⟨i,rfl,hi,c,m,x⟩:=hrel;have a5:(0:Int)<=(i:Int):=(by omega);have C:=aj x Y;have ap:=aj x e1;have Hall:=aD c;by_cases s:i<f.length
     ·have F:(i:Int)<(f.length:Int):=(by omega);have J:=cL i s wr m;cases H:lk2 l i with
      |true=>
       rw[H]at J
       have V:QR (dx l=(6,i)):=by
        have c:=Hall.o;have d:=Hno.o;have P:=H0.o;have s:i<l.length:=(by rw[I.o];exact s);have ar:=I.o;exact PH P (fun a b=>d.1 (by omega) a (by omega)) s H c
       go_wp2_with fail;refine J.mono ?_;rintro r w2 ⟨rfl,g⟩;have Z:=(g.cell (bN C)).trans C;have q:=aw m g;have S:=ai q L;have A:=below_setRow ((HbW.o).trans (q.mono (HbW.o).size)) (show w.heap.size<=w.heap.size+1 by omega) #[ag 6,ag (i:Int)]
       go_wp2_with(first
        |(refine az rfl 48 _ _ rfl _ _ rfl rfl _ _ S (by kernel_rfl) (by simp) (by simp[Value.oneCell']) ?_))
       refine mZ 2 (by kernel_rfl) (w.heap.size+1) _ _ rfl rfl (aL _ _ _ _ _ _ S) ?_;rw[V.o];exact⟨rfl,A⟩
      |false=>
       rw[H]at J
       have O:QR (∀y,y<i+1->lk2 l y=false):=fun y R=>by
        by_cases e:y=i
        ·rw[e];exact H
        ·exact Hall.o y (by omega)
       go_wp2_with fail;refine J.mono ?_;rintro r w2 ⟨rfl,g⟩;have q:=aw m g;have E:=aw x g;go_wp2_with fail;go_roundw
       case rel=>
        (repeat apply iT);refine⟨?_,rfl⟩;exact⟨i+1,by go_num,by omega,O.o,q,E⟩
       case measure=>simp[intOf];omega
     ·have F: ¬(i:Int)<(f.length:Int):=(by omega);have ei:i=f.length:=(by omega)
      have O:QR (FN l f.length U (ag 2) wr):=by
       have d:=Hno.o;have c:=Hall.o;rw[ei]at c;exact⟨2,rfl,by omega,⟨fun _=>d.1 (by omega),fun _=>c,fun h=>absurd h (by omega)⟩,m⟩
      go_wp2_with fail;go_roundw;case rel=>exact O.o
      case measure=>simp[intOf]
   |2,_=>
    have d0:=aj n g4;have d1:=aj n g5;have D:=n.alloc n.size (.cells #[ag 9,.func (.func 47) #[] #[ab b5 0]] 113);have G:=aG wr (.cells #[ag 9,.func (.func 47) #[] #[ab b5 0]] 113);have cL:=aE.o (d.2.1 (by omega));generalize an:wr.alloc (.cells #[ag 9,.func (.func 47) #[] #[ab b5 0]] 113)=wB at*;have Y:=ak 0 G;have e1:=ak 1 G;have a9:=aj D kl;have Hno:=aD d;go_wp2_with fail;obtain⟨b8,Q⟩:=au wr.heap.size;simp only[Q]at Y e1⊢;go_loopw [9,36] (fun _ t wr=>KC f.length (lk3 l) U wB t wr) (fun _ t _=>f.length-(intOf t).toNat);case atStart=>exact⟨0,rfl,by omega,fun y R=>by omega,D,aH _ _⟩
    case round=>
     obtain⟨i,rfl,hi,c,m,x⟩:=hrel;have a5:(0:Int)<=(i:Int):=(by omega);have C:=aj x Y;have ap:=aj x e1;have Hall:=aD c;by_cases s:i<f.length
     ·have F:(i:Int)<(f.length:Int):=(by omega);have J:=cL i s wr m;cases H:lk3 l i with
      |true=>
       rw[H]at J
       have V:QR (dx l=(9,i)):=by
        have c:=Hall.o;have d:=Hno.o;have P:=H0.o;have s:i<l.length:=(by rw[I.o];exact s);have ar:=I.o;exact PI P (fun a b=>d.1 (by omega) a (by omega)) (fun a b=>d.2.1 (by omega) a (by omega)) s H c
       go_wp2_with fail;refine J.mono ?_;rintro r w2 ⟨rfl,g⟩;have Z:=(g.cell (bN C)).trans C;have q:=aw m g;have S:=ai q L;have A:=below_setRow ((HbW.o).trans (q.mono (HbW.o).size)) (show w.heap.size<=w.heap.size+1 by omega) #[ag 9,ag (i:Int)]
       go_wp2_with(first
        |(refine az rfl 48 _ _ rfl _ _ rfl rfl _ _ S (by kernel_rfl) (by simp) (by simp[Value.oneCell']) ?_))
       refine mZ 2 (by kernel_rfl) (w.heap.size+1) _ _ rfl rfl (aL _ _ _ _ _ _ S) ?_;rw[V.o];exact⟨rfl,A⟩
      |false=>
       rw[H]at J
       have O:QR (∀y,y<i+1->lk3 l y=false):=fun y R=>by
        by_cases e:y=i
        ·rw[e];exact H
        ·exact Hall.o y (by omega)
       go_wp2_with fail;refine J.mono ?_;rintro r w2 ⟨rfl,g⟩;have q:=aw m g;have E:=aw x g;go_wp2_with fail;go_roundw
       case rel=>
        (repeat apply iT);refine⟨?_,rfl⟩;exact⟨i+1,by go_num,by omega,O.o,q,E⟩
       case measure=>simp[intOf];omega
     ·have F: ¬(i:Int)<(f.length:Int):=(by omega);have ei:i=f.length:=(by omega)
      have O:QR (FN l f.length U (ag 3) wr):=by
       have d:=Hno.o;have c:=Hall.o;rw[ei]at c;exact⟨3,rfl,by omega,⟨fun _=>d.1 (by omega),fun _=>d.2.1 (by omega),fun _=>c⟩,m⟩
      go_wp2_with fail;go_roundw;case rel=>exact O.o
      case measure=>simp[intOf]
   |3,_=>
    have S:=ai n L;have A:=below_setRow ((HbW.o).trans (n.mono (HbW.o).size)) (show w.heap.size<=w.heap.size+1 by omega) #[ag 0,ag 0]
    have V:QR (dx l=(0,0)):=by
     have e:=I.o;exact FM H0.o (by rw[e];exact d.1 (by omega)) (by rw[e];exact d.2.1 (by omega)) (by rw[e];exact d.2.2 (by omega))
    go_wp2_with(first
     |(refine az rfl 48 _ _ rfl _ _ rfl rfl _ _ S (by kernel_rfl) (by simp) (by simp[Value.oneCell']) ?_))
    refine mZ 2 (by kernel_rfl) (w.heap.size+1) _ _ rfl rfl (aL _ _ _ _ _ _ S) ?_;rw[V.o];exact⟨rfl,A⟩
   |k+4,al=>exact absurd al (by omega)
 ·have V:QR (dx l=gg l):=by
   show _=_;unfold dx;rw[aB P]
  have aU:((gg l).1 !=0)=true:=(by simpa using P);have HR:QR (∀W,aq w W->(fun(r:Ending) (w':World)=>r= .returned (.agg #[ag (dx l).1,ag ((dx l).2:Int)])/\aq w w') (.returned (.agg #[ag (gg l).1,ag ((gg l).2:Int)])) W):=fun W N=>⟨by rw[V.o],N⟩
  generalize (gg l).1=er at*;generalize (((gg l).2:Nat):Int)=B at*;have bC:=am w1 (.cells #[ag er,ag B] 48);have K:=aw aa bC;have T:=ai bC m2;have m3:=aG w1 (.cells #[ag er,ag B] 48);have A:=below_setRow K (show w.heap.size<=w.heap.size+1 by omega) #[ag er,ag B];generalize aM:w1.alloc (.cells #[ag er,ag B] 48)=w2 at*;have z0:=ak 0 m3
  go_wp2_with(first
   |(refine aR rfl 48 _ rfl _ rfl _ _ _ _ m3 pI rfl (by kernel_rfl) ?_)
   |(refine az rfl 48 _ _ rfl _ _ rfl rfl _ _ T (by kernel_rfl) (by simp) (by simp[Value.oneCell']) ?_))
  refine mZ 2 (by kernel_rfl) (w.heap.size+1) _ _ rfl rfl (aL _ _ _ _ _ _ T) ?_;exact HR.o _ A
def mkL (m:Nat->Bool)(j:Nat):List Int:=((List.range j).filter m).map fun k:Nat=>(k:Int)
theorem KD (m:Nat->Bool)(j:Nat):mkL m (j+1)=if m j=true then mkL m j++[(j:Int)] else mkL m j:=by
 unfold mkL;rw[List.range_succ,List.filter_append,dW];by_cases h:m j=true
 ·simp[h]
 ·simp[h]
theorem Et (m:Nat->Bool)(j:Nat):(mkL m j).length<=j:=by
 unfold mkL;rw[ba];have:=List.length_filter_le m (List.range j);simpa using this
def gF (l:List Ru)(r:Int):List Int:=if r<0\/(l.length:Int)<=r\/(dx l).1≠0 then [] else mkL (fol (iO l) (l.length+1) (fun _=>false) r.toNat) l.length
theorem lK {l:List Ru}(h:(dx l).1=0):(gg l).1=0/\ ∀u∈l,-1∉gh l u:=by
 unfold dx at h;split at h
 ·rename_i c;exact absurd h c
 ·rename_i c;refine⟨by simpa using c,fun u p m=> ?_⟩;split at h
  ·cases h
  ·split at h
   ·cases h
   ·rename_i f;obtain⟨j,d⟩:=List.getElem?_of_mem p;have g:j<l.length:=(aF.1 d).1
    have o:lk2 l j=true:=by
     unfold lk2;rw[d];exact bj m
    have: ∀(k i:Nat),i<=j->j<i+k->frF (lk2 l) i k≠none:=by
     intro k;induction k with
     |zero=>intro i a b;omega
     |succ k q=>
      intro i a b;rw[frF];split
      ·simp
      ·rename_i n;have:i≠j:=fun e=>n (by rw[e];exact o);exact q (i+1) (by omega) (by omega)
    exact this l.length 0 (by omega) (by omega) f
theorem DK (a:List Int)(n:Int):jP (a++[n])=jP a++[ag n]:=by simp[jP]
def KE (a:List Int)(w:World)(e:Ending)(w':World):Prop:= ∃v,e= .returned v/\dH w' v a/\aq w w'
def KF (m:Nat->Bool)(n:Nat)(_ a:World)(q t:Value)(wr:World):Prop:= ∃j:Nat,t=ag (j:Int)/\j<=n/\wr.ownsRow a.heap.size 3 1 q (mkL m j).length (jP (mkL m j))/\aq a wr
theorem Iu (c0 c1:Value)(w:World):(Instr.field 48 (.agg #[c0,c1]) 0).run prog w= .ok c0 w:=by
 unfold Instr.field;simp[go_sem,asAgg]
attribute [go_sem] Iu
theorem KG (a:List (Ru×Value))(v:Value)(r:Int)(w:World)(h:InR w v a):Calls prog 104 #[v,ag r] w (KE (gF (a.map (fun p=>p.1)) r) w):=by
 obtain⟨l,Z⟩:=au (a.map (fun p=>p.1));have aa:l.length=a.length:=by rw[<-Z,ba]
 obtain⟨pv,cv,rfl⟩:=h.form;have ay:=h.len;have N:=vu a _ w h;rw[Z]at N⊢;have f:QR (∀W,aq w W->KE [] w (.returned (af)) W):=fun W R=>⟨_,rfl,⟨none,0,rfl,by decide,fun j n hj=>by simp at hj⟩,R⟩
 have d:=aD aa;have F:=aD Z;by_cases h1:r<0
 ·have x:QR (gF l r=[]):=aB (.inl h1);go_enter func104,ntmps104;go_wp2_with fail;go_ret;rw[x.o];exact f.o _ (aH _ _)
 by_cases h2:(a.length:Int)<=r
 ·have x:QR (gF l r=[]):=aB (.inr (.inl (by rw[d.o];exact h2)));go_enter func104,ntmps104;go_wp2_with fail;go_ret;rw[x.o];exact f.o _ (aH _ _)
 by_cases O:(dx l).1=0
 ·have x:QR (gF l r=mkL (fol (iO l) (l.length+1) (fun _=>false) r.toNat) l.length):=ax (by rw[d.o];omega);obtain⟨h0,ae⟩:=lK O;obtain⟨H,ad⟩:=AC h0;rw[O]at N;generalize (((dx l).2:Nat):Int)=Q at*;obtain⟨C,ak⟩: ∃C:Nat,r=(C:Int):=⟨r.toNat,by omega⟩
  subst ak;have al:((C:Int)).toNat=C:=(by omega);rw[al]at x;have aj:C<l.length:=(by rw[d.o];omega);have cN:=fun W (R:aq w W)=>pE a _ W (h.below R);obtain⟨i0,hi,ao,ap,ar⟩:=jt Ci;have av:(a.length:Int)<=40:=(by rw[d.o]at H;omega);have Hrl:=aD aj;have P:=aD H;have Hno:=aD ae;have Hnm:=aD ad;have HI:=aD h;go_enter func104,ntmps104;go_wp2_with fail;refine N.mono ?_;rintro e w1 ⟨rfl,y⟩;have d1:=cN w1 y;go_wp2_with fail;refine d1.mono ?_;rintro e w2 ⟨mb,rfl,_,hM,T⟩;have B:=aw y T
  have d2:=ym a _ mb w2 (HI.o.below B) hM (by omega) (fun p hp=>by
   have:=Hnm.o p.1 (by rw[<-F.o];exact dQ.2 ⟨p,hp,rfl⟩);omega)
  go_wp2_with fail;refine d2.mono ?_;rintro e w3 ⟨so,rfl,S,U⟩;rw[F.o]at S;have I:=aw B U;have d3:=vU so l.length (iO l) C w3 (Cl S Hno.o) (by have:=P.o;omega) Hrl.o;obtain⟨pz,cz,L,_⟩:=(show nK w3 so (l.map (gh l)) from S)
  rw[d.o]at d3;rw[ba,d.o]at L;subst L;go_wp2_with fail;refine d3.mono ?_;rintro e M ⟨g,rfl,hg,V⟩;have J:=aw I V;rw[d.o]at x;generalize fol (iO l) (a.length+1) (fun _=>false) C=m at*;have Hbw:=aD J;have Hg:=aD hg;go_wp2_with fail;go_loopw [5,6,7,29] (fun q _ _ t wr=>KF m a.length w M q t wr) (fun _ _ _ t _=>a.length-(intOf t).toNat);case atStart=>exact⟨0,rfl,by omega,dl _ _ _ _,aH _ _⟩
  case round=>
   obtain⟨j,rfl,hj,c,i⟩:=hrel;have az:(0:Int)<=(j:Int):=(by omega);have a0:=Et m j;by_cases ac:j<a.length
   ·have K:(j:Int)<(a.length:Int):=(by omega);have km:=(a8 _ _ j _ _ _ (ai i Hg.o)).trans (nh ac);have A:=KD m j;cases hmj:m j with
    |true=>
     rw[hmj]at km;rw[aB hmj]at A;obtain⟨pq,cq,ah⟩:=bK c;have bA:=am wr (.cells #[ag (j:Int)] 3);have an:=aG wr (.cells #[ag (j:Int)] 3);have s:=br (w':=wr.alloc (.cells #[ag (j:Int)] 3)) c fun b hb=>bA.block b (c.lt b hb).2;have Y:=aw i bA;have a3:=i.size;have a2:(wr.alloc (.cells #[ag (j:Int)] 3)).heap.size=wr.heap.size+1:=(by simp);have Hst:=aD A;subst ah;generalize mkL m j=ns at*;generalize a4:wr.alloc (.cells #[ag (j:Int)] 3)=wA at*;go_wp2_with(at_builtin;refine jb _ rfl _ _ 37 rfl M.heap.size 3 i0 (ag 0) 1 8 Az hi ao ap ar rfl (by decide) (.slice pq ns.length cq) ns.length (jP ns) rfl s ⟨wr.heap.size,0,none⟩ 1 1 [ag (j:Int)] rfl rfl ?c1 ?c2 ?c3 ?c4 ?c5 ?_)
     case c1=>
      intro k u' z;match k,z with
      |0,z=>simp at z;subst z;exact(a8 _ _ _ _ _ _ an).trans rfl
     case c2=>intro u hu;simp at hu;subst hu;rfl
     case c3=>unfold maxLen;omega
     case c4=>omega
     case c5=>omega
     intro v' w5 E D _;have ab:=s.lt;have X:aq M w5:=Y.grown D (by omega) (fun q hq=>(ab q hq).1)
     have G:QR (KF m a.length w M v' (ag ((j+1:Nat):Int)) w5):=by
      refine⟨j+1,rfl,by omega,?_,X⟩;rw[Hst.o,DK];simpa using E
     go_wp2_with fail;go_roundw
     case rel=>first
      |exact G.o
      |exact⟨_,_,_,_,G.o,rfl,rfl,rfl,rfl⟩
     case measure=>simp[intOf];omega
    |false=>
     rw[hmj]at km;rw[ax (by rw[hmj];decide)]at A;have G:QR (KF m a.length w M u5 (ag ((j+1:Nat):Int)) wr):=⟨j+1,rfl,by omega,by rw[A];exact c,i⟩
     go_wp2_with fail;go_roundw
     case rel=>first
      |exact G.o
      |exact⟨_,_,_,_,G.o,rfl,rfl,rfl,rfl⟩
     case measure=>simp[intOf];omega
   ·have K: ¬(j:Int)<(a.length:Int):=(by omega);have ej:j=a.length:=(by omega)
    have HO:QR (KE (gF l (C:Int)) w (.returned u5) wr):=by
     rw[x.o,<-ej];exact⟨_,rfl,qT c (by omega),(Hbw.o).trans (i.mono (Hbw.o).size)⟩
    go_wp2_with fail;go_ret;exact HO.o
 ·have x:QR (gF l r=[]):=aB (.inr (.inr O));have a1:((dx l).1 !=0)=true:=(by simpa using O);have Hn:=f;generalize (dx l).1=er at*;generalize (((dx l).2:Nat):Int)=Q at*;go_enter func104,ntmps104;go_wp2_with fail;refine N.mono ?_;rintro e w1 ⟨rfl,y⟩;go_wp2_with fail;go_ret;rw[x.o];exact Hn.o _ y
section
open Go.Shelf
def DS:Go.Shelf.Ren:=⟨fun|189=>167|125=>184|257=>183|128=>208|129=>209|294=>199|295=>200|296=>201|297=>202|298=>203|299=>204|216=>205|300=>206|301=>207|328=>219|329=>220|330=>221|331=>222|332=>223|215=>224|343=>230|n=>n,fun|28=>37|3=>3|46=>244|0=>0|51=>267|53=>53|4=>4|183=>261|182=>260|131=>117|5=>5|9=>9|218=>277|222=>182|228=>289|229=>287|n=>n,fun|n=>n⟩
theorem EH:Go.Proofs.Lays.n189 prog DS:={
 mixed:=by kernel_rfl
 f125:=func184.trans (congrArg some (by kernel_rfl))
 f128:=func208.trans (congrArg some (by kernel_rfl))
 f129:=func209.trans (congrArg some (by kernel_rfl))
 f189:=func167.trans (congrArg some (by kernel_rfl))
 f215:=func224.trans (congrArg some (by kernel_rfl))
 f216:=func205.trans (congrArg some (by kernel_rfl))
 f257:=func183.trans (congrArg some (by kernel_rfl))
 f294:=func199.trans (congrArg some (by kernel_rfl))
 f295:=func200.trans (congrArg some (by kernel_rfl))
 f296:=func201.trans (congrArg some (by kernel_rfl))
 f297:=func202.trans (congrArg some (by kernel_rfl))
 f298:=func203.trans (congrArg some (by kernel_rfl))
 f299:=func204.trans (congrArg some (by kernel_rfl))
 f300:=func206.trans (congrArg some (by kernel_rfl))
 f301:=func207.trans (congrArg some (by kernel_rfl))
 f328:=func219.trans (congrArg some (by kernel_rfl))
 f329:=func220.trans (congrArg some (by kernel_rfl))
 f330:=func221.trans (congrArg some (by kernel_rfl))
 f331:=func222.trans (congrArg some (by kernel_rfl))
 f332:=func223.trans (congrArg some (by kernel_rfl))
 f343:=func230.trans (congrArg some (by kernel_rfl))
 t0:=underlying0
 a0:=isAgg0
 z0:=sizeOf0
 v0:=zeroValue0
 t3:=underlying3
 a3:=isAgg3
 z3:=sizeOf3
 v3:=zeroValue3
 t4:=underlying4
 a4:=isAgg4
 z4:=sizeOf4
 v4:=zeroValue4
 t5:=underlying5
 a5:=isAgg5
 z5:=sizeOf5
 v5:=zeroValue5
 t9:=underlying9
 a9:=isAgg9
 z9:=sizeOf9
 v9:=zeroValue9
 t28:=underlying37
 a28:=isAgg37
 z28:=sizeOf37
 v28:=zeroValue37
 t46:=underlying244
 a46:=isAgg244
 z46:=sizeOf244
 v46:=zeroValue244
 t51:=underlying267
 a51:=isAgg267
 z51:=sizeOf267
 v51:=zeroValue267
 t53:=underlying53
 a53:=isAgg53
 z53:=sizeOf53
 v53:=zeroValue53
 t131:=underlying117
 a131:=isAgg117
 z131:=sizeOf117
 v131:=zeroValue117
 t182:=underlying260
 a182:=isAgg260
 z182:=sizeOf260
 v182:=zeroValue260
 t183:=underlying261
 a183:=isAgg261
 z183:=sizeOf261
 v183:=zeroValue261
 t218:=underlying277
 a218:=isAgg277
 z218:=sizeOf277
 v218:=zeroValue277
 t222:=underlying182
 a222:=isAgg182
 z222:=sizeOf182
 v222:=zeroValue182
 t228:=underlying289
 a228:=isAgg289
 z228:=sizeOf289
 v228:=zeroValue289
 t229:=underlying287
 a229:=isAgg287
 z229:=sizeOf287
 v229:=zeroValue287}
def Bp:Go.Shelf.Ren:=⟨fun|20=>168|n=>n,fun|22=>37|3=>3|4=>4|0=>0|n=>n,fun|n=>n⟩
theorem AO:Go.Proofs.Lays2.n20 prog Bp:={
 mixed:=by kernel_rfl
 f20:=func168.trans (congrArg some (by kernel_rfl))
 t0:=underlying0
 a0:=isAgg0
 z0:=sizeOf0
 v0:=zeroValue0
 t3:=underlying3
 a3:=isAgg3
 z3:=sizeOf3
 v3:=zeroValue3
 t4:=underlying4
 a4:=isAgg4
 z4:=sizeOf4
 v4:=zeroValue4
 t22:=underlying37
 a22:=isAgg37
 z22:=sizeOf37
 v22:=zeroValue37
 i3:=by kernel_rfl}
theorem IT (blk a cap:Nat)(c:List Int)(w:World)(f:Go.Sort.Holds (Value.int .i64) w blk a c.toArray)(b:blk<w.heap.size)(d:c.length<4611686018427387904):
 Calls prog 167 #[.slice (some (ae blk a)) c.length cap] w fun e w'=>e= .returned (.tuple #[])/\ ∃n os,w'=Go.Sort.grow (Go.Sort.putRow (Value.int .i64) (Go.Sort.ahead w n) blk a (c.mergeSort fun x y=>decide (x<=y)).toArray) os:=Any.slices_Sort_int EH blk a cap c w f b d
theorem IU (p:Option Addr)(cap:Nat)(w:World):Calls prog 167 #[.slice p 0 cap] w fun e w'=>e= .returned (.tuple #[])/\w'=w:=Any.slices_Sort_int_none EH p cap w
theorem CH (blk a cap:Nat)(b:List Int)(w:World)(f:Go.Sort.Holds (Value.int .i64) w blk a b.toArray)(d:b.length<=9223372036854775807)(c:b.length<=cap):
 Calls prog 168 #[.slice (some (ae blk a)) b.length cap] w fun e w'=>e= .returned (.slice (some (ae blk a)) (Go.Lib.compact b).length cap)/\ ∃q,w'=Go.Sort.putRow (Value.int .i64) (Go.Sort.ahead w q) blk a (Go.Lib.compact b++List.replicate (b.length-(Go.Lib.compact b).length) 0).toArray:=Any.slices_Compact_int AO blk a cap b w f d c
theorem CJ (a:Option Addr)(cap:Nat)(w:World):Calls prog 168 #[.slice a 0 cap] w fun e w'=>e= .returned (.slice a 0 cap)/\w'=w:=Any.slices_Compact_int_empty AO a cap w
end
theorem AP (l:List Int):dw l=l.map (Value.int .i64):=rfl
theorem K8 {w:World}{B:Nat}{v:Value}{a:List Int}(h:w.ownsRow B 3 1 v a.length (dw a))(q:a.length<=1000000):
  Calls prog 167 #[v] w fun e w'=>e= .returned (.tuple #[])/\w'.ownsRow B 3 1 v a.length (dw (a.mergeSort fun x y=>decide (x<=y)))/\w.grownBy w' v.ownBlock:=by
 rcases h.2 with⟨rfl,e⟩|⟨g,cap,i,rfl,k,d,m,l,o,f⟩
 ·have p:a=[]:=gV e;subst p;refine(IU none 0 w).mono fun e w' ⟨c,b⟩=>⟨c,by rw[b,List.mergeSort_nil];exact dl _ _ _ _,by rw[b];exact jw _ _⟩
 ·rw[Nat.mul_one]at f;have j:=Go.holds_of_blockI (ss:=a) d f;refine(IT g 0 cap a w j (aI d) (by omega)).mono fun e w' ⟨c,n,os,b⟩=>⟨c,?_,?_⟩
  ·rw[b,AP];exact Go.ownsRow_sortedI (List.length_mergeSort a) k d m l o
  ·rw[b];exact Go.grownBy_sortedI _
theorem yG (a:List Int):(Go.Lib.compact a).length<=a.length:=by
 unfold Go.Lib.compact Go.Lib.compactUpTo;rw[ba];refine bg (List.length_filter_le _ _) ?_;simp
theorem DT {w:World}{B:Nat}{v:Value}{a:List Int}(h:w.ownsRow B 3 1 v a.length (dw a))(K:a.length<=1000000):
  Calls prog 168 #[v] w fun e w'=> ∃z,e= .returned z/\w'.ownsRow B 3 1 z (Go.Lib.compact a).length (dw (Go.Lib.compact a))/\w.grownBy w' v.ownBlock:=by
 rcases h.2 with⟨rfl,e⟩|⟨g,cap,A,rfl,E,u,x,F,H,y⟩
 ·have I:a=[]:=gV e;subst I;refine(CJ none 0 w).mono fun e w' ⟨j,d⟩=>⟨_,j,by rw[d];exact dl _ _ _ _,by rw[d];exact jw _ _⟩
 ·rw[Nat.mul_one]at y;have D:=Go.holds_of_blockI (ss:=a) u y;have i:=yG a;refine(CH g 0 cap a w D (by omega) x).mono fun e w' ⟨j,q,d⟩=>⟨_,j,?_,?_⟩
  ·have l:(Go.Lib.compact a++List.replicate (a.length-(Go.Lib.compact a).length) (0:Int)).length=a.length:=(by simp;omega);have s:=Go.ownsRow_sortedI (n:=q) (os:= #[]) l E u x F H;rw[Go.Sort.grow_empty,<-d]at s;refine⟨by rw[kL];simp,.inr ?_⟩;rcases s.2 with⟨e,_⟩|⟨J,r,b,e,f,k,G,m,o,p⟩
   ·cases e
   ·injection e with c _ C;injection c with c;injection c with c;subst c C;refine⟨g,cap,b,rfl,f,k,by omega,m,o,?_⟩;have t:=congrArg (List.take (Go.Lib.compact a).length) p;rw[List.take_take,Nat.mul_one,fb i,dW,List.take_append_of_le_length (by simp)]at t;rw[Nat.mul_one,t,AP];exact dg (by simp)
  ·rw[d,<-Go.Sort.grow_empty (Go.Sort.putRow _ _ _ _ _)];exact Go.grownBy_sortedI _
theorem EI:prog.underlying 36=some (.struct (prog.fieldsOf 36)):=by kernel_rfl
theorem Bq {d:Array Oper}{c:List Oper}{o:Oper}{a:Act}{w:World}{Q:Exit->Act->World->Prop}(e:o.guard=none)(x:Operand)(j:o.op= .load 55 x)(b q:Nat)(k:a.eval x=ab b q)(f:Nat->Bool)(i:w.rangeAt b q (mv f).toList)(h:wpList prog d Q c (a.put o.dst (.agg (mv f))) w):wpList prog d Q (o::c) a w:=
 wpList_plain e fun _ g=>uy x j b q k f i (g _ _ h)
theorem AQ {w:World}{v:Value}{l:List (Int×Int)}(h:Row w v l): ∃(q:Option Addr) (c:Nat),v= .slice q l.length c/\l.length<9223372036854775808/\ ∀j s,l[j]? =some s-> ∃g o:Nat,q=some ⟨g,o,none⟩/\w.cell? (ae g (o+j*2))=some (ag s.1)/\w.cell? (ae g (o+j*2+1))=some (ag s.2):=by
 rcases h with⟨c,rfl,rfl⟩|⟨g,o,c,rfl,d,b⟩
 ·exact⟨none,c,rfl,by simp,fun j s a=>by simp at a⟩
 ·refine⟨_,c,rfl,d,fun j s a=>⟨g,o,rfl,?_⟩⟩;have:=b j (aF.1 a).1;rwa[show l.getD j (0,0)=s by simp[List.getD,a]]at this
theorem zS {n:Int}: ∀{l:List (Int×Int)} {last:Int},good last n l-> ∀s∈l,last<s.1/\s.1<s.2/\s.2<=n
 |[],_,_,s,a=>by cases a
 |t::l,last,h,s,a=>by
  obtain⟨b,c,d,e⟩:=h;rcases bz.1 a with rfl|a
  ·exact⟨b,c,d⟩
  ·obtain⟨i,f,g⟩:=zS e s a;exact⟨by omega,f,g⟩
theorem Ga (l b a:Int)(roles:List (List Int))(rv:Value)(D:List (Nat->Bool))(fv:Value)(w:World)(hT:Tab w)(hR:fj w rv roles)(hF:tu w fv D)(bt: ∀p∈roles,p.length<=8/\ ∀r∈p,0<=r/\r<(D.length:Int))(bQ:roles.length<=4)(bw:kJ l b a=true):
  Calls prog 140 #[.agg #[ag l,ag b,ag a,rv],fv] w fun e w'=> ∃v,e= .returned v/\dH w' v (iN (b+l+a) D roles)/\aq w w':=by
 obtain⟨pr,cr,rfl,bP,aR⟩:=id hR;have bA:=am w (.cells #[ag l,ag b,ag a,.slice pr roles.length cr] 36);have nA:=aG w (.cells #[ag l,ag b,ag a,.slice pr roles.length cr] 36);generalize bU:w.alloc (.cells #[ag l,ag b,ag a,.slice pr roles.length cr] 36)=wA at*;have HR:=bT (hR.below bA);have HF:=bT (hF.below bA);have HT:=bT (kM hT bA);have HB:=bT bA;have bb:=bT bt;have bd:=bT bw;have z3:=ak 3 nA;obtain⟨pf,cf,rfl,bN,_⟩:=hF;go_enter func140,ntmps140
 go_wp2_with fail;go_loopw [5,15] (fun q t wr=> ∃(j:Nat) (A:List Int) (qa:Option Addr) (ca:Nat),q= .slice qa A.length ca/\t=ag (j:Int)/\j<=roles.length/\QR (A=(roles.take j).flatMap (Bz (b+l+a) D))/\A.length<=j*11520/\QR (wr.ownsRow wA.heap.size 3 1 (.slice qa A.length ca) A.length (dw A))/\QR (aq wA wr)) (fun _ t _=>roles.length-(intOf t).toNat);case atStart=>exact⟨0,[],none,0,rfl,rfl,by omega,rfl,by simp,dl _ _ _ _,aH _ _⟩
 case round=>
  obtain⟨j,A,qa,ca,rfl,rfl,hj,ap,bI,HO,Q⟩:=hrel;have bL:(0:Int)<=(j:Int):=(by omega);by_cases bv:j<roles.length
  ·have aL:(j:Int)<(roles.length:Int):=(by omega);obtain⟨c,ad⟩: ∃r,roles[j]? =some r:=⟨roles[j],ay bv⟩
   obtain⟨_,_,e1,_,a9⟩:=HR.o;cases e1;obtain⟨gr,or,sv,b2,bm,an⟩:=a9 j _ ad;subst b2;have hc:=aj Q.o bm;obtain⟨ar,ac,rfl,aS,L⟩:=an;have HC:=bT L;have bc:=bT ad;have a2:=bT (bb.o c (aM ad));have b7:c.length<=8:=a2.o.1;go_wp2_with fail;go_loopw [5,21] (fun q t W=> ∃(i:Nat) (d:List Int) (H:Option Addr) (G:Nat),q= .slice H d.length G/\t=ag (i:Int)/\i<=c.length/\QR (d=A++(c.take i).flatMap fun r=>yC (b+l+a) (D.getD r.toNat fun _=>false))/\d.length<=j*11520+i*1440/\QR (W.ownsRow wA.heap.size 3 1 (.slice H d.length G) d.length (dw d))/\QR (aq wA W)) (fun _ t _=>c.length-(intOf t).toNat);case atStart=>exact⟨0,A,qa,ca,rfl,rfl,by omega,by show _=_;simp,by omega,HO,Q⟩
   case round=>
    obtain⟨i,d,H,G,rfl,rfl,hi,O,bC,U,g⟩:=hrel;have bK:(0:Int)<=(i:Int):=(by omega);by_cases aN:i<c.length
    ·have ah:(i:Int)<(c.length:Int):=(by omega);obtain⟨r,aa⟩: ∃r,c[i]? =some r:=⟨c[i],ay aN⟩
     obtain⟨h1,Y⟩:=a2.o.2 r (aM aa);obtain⟨rn,b6⟩: ∃rn:Nat,r=(rn:Int):=⟨r.toNat,by omega⟩
     subst b6;obtain⟨f,hf⟩: ∃f,D[rn]? =some f:=⟨D[rn]'(by omega),ay (by omega)⟩
     obtain⟨ga,oa,b1,bj⟩:=HC.o i _ aa;subst b1;have bH:=aj g.o bj;obtain⟨_,_,e3,_,Z⟩:=HF.o;cases e3;obtain⟨gf,of,b3,aQ⟩:=Z rn f hf;subst b3;have b9:=dS aQ g.o;have a3:=bT aa;have c1:=AN f wr (kM HT.o g.o);have bp:D.getD rn (fun _=>false)=f:=(by simp[List.getD,hf]);have aY:=bT bp
     go_wp2_with(first
      |(refine Bq rfl _ rfl gf (of+rn*23) rfl f b9 ?_))
     refine c1.mono ?_;rintro e w4 ⟨⟨vs,rfl,m⟩,n,b4⟩;have ao:=vY m (by have:=n.few;omega)
     have bh:QR (∀W:World,w4.grownBy W (Value.slice H d.length G).ownBlock->W.ownsRow wr.heap.size 57 2 vs (rs f 1440).length (iX (rs f 1440))):=fun W hW=>m.kept hW (by
      cases hz:vs.ownBlock with
      |none=>exact .inl rfl
      |some q=>
       refine .inr fun e=> ?_;have h1:=(m.lt q hz).1;have Y:=(U.o.lt q e.symm).2;omega)
     have bg:=bT (ij U.o b4);have aW:=bT (aw g.o b4);obtain⟨qs,cs,rfl,bu,_⟩:=AQ ao;have HG:=bT (zS n.good);have bD:(rs f 1440).length<=1440:=n.few;have hN:(rs f 1440).length<9223372036854775808:=bu;go_wp2_with fail;go_loopw [5,31] (fun q t W=> ∃(k:Nat) (C:List Int) (qc:Option Addr) (V:Nat),q= .slice qc C.length V/\t=ag (k:Int)/\k<=(rs f 1440).length/\QR (C=d++(((rs f 1440).take k).filter fun s=>decide (b+l+a<=s.2-s.1)).map fun s=>s.1)/\C.length<=j*11520+i*1440+k/\QR (W.ownsRow wA.heap.size 3 1 (.slice qc C.length V) C.length (dw C))/\QR (w4.grownBy W (Value.slice H d.length G).ownBlock)/\QR (aq wA W)/\QR (∀B:World,W.grownBy B (Value.slice qc C.length V).ownBlock->w4.grownBy B (Value.slice H d.length G).ownBlock)) (fun _ t _=>(rs f 1440).length-(intOf t).toNat);case atStart=>exact⟨0,d,H,G,rfl,rfl,by omega,by show _=_;simp,by omega,bg,jw _ _,aW,fun _ h=>h⟩
     case round=>
      obtain⟨k,C,qc,V,rfl,rfl,hk,R,bJ,a7,ba,a0,z⟩:=hrel;have bk:=vY (bh.o wr ba.o) hN;obtain⟨_,_,e9,_,bn⟩:=AQ bk;cases e9;have aX:=bT bn;have bM:(0:Int)<=(k:Int):=(by omega);by_cases aO:k<(rs f 1440).length
      ·have al:(k:Int)<((rs f 1440).length:Int):=(by omega);obtain⟨s,af⟩: ∃s,(rs f 1440)[k]? =some s:=⟨_,ay aO⟩
       obtain⟨X,g2,g3⟩:=HG.o s (aM af);obtain⟨go,oo,b5,p0,p1⟩:=aX.o k s af;subst b5;obtain⟨x,y⟩:=s;dsimp only at X g2 g3 p0 p1;have bX:IntKind.i64.wrap (y-x)=y-x:=(by rw[bO];omega);have aD:=bT af;have bS:=am wr (.cells #[ag x,ag y] 57);have nS:=aG wr (.cells #[ag x,ag y] 57);have a4:=bT (ij a7.o bS);have az:=bT (aw a0.o bS);have aZ:=bT (jp bS (Value.slice qc C.length V).ownBlock);obtain⟨gs,bs⟩:=au wr.heap.size;rw[bs]at nS;generalize bW:wr.alloc (.cells #[ag x,ag y] 57)=wS at*;have q0:=ak 0 nS;have q1:=ak 1 nS;have n2:=ai az.o nA;go_wp2_with fail;refine dh (fun _ _ W=>aq wS W) [kn 35 (ab gs 1),kn 36 (ag y),kn 37 (ab gs 0),kn 38 (ag x),kn 39 (ag (y-x)),kn 40 (.agg #[ag l,ag b,ag a,.slice (some (ae gr or)) roles.length cr]),kn 41 (ag (b+l+a)),kn 42 (.bool (decide (b+l+a<=y-x)))] (fun _=>(aH _ _).drew) (fun _ _ _ _ hb h=>aw h hb) (by kernel_rfl) (fun M φ B P bo FF ll aI a8=> ?_) (fun M φ W5 hM P=> ?_)
       ·simp only[kn,dV,aP,aT,Act.put,aA,aK,aJ]at aI;subst aI;simp only[di,Nat.reduceAdd]at a8;have bE:=aj P q1;have bF:=aj P q0;dsimp only[kn,du,eG,dY,Act.put];and_intros;all_goals first|exact trivial|intro qw qn qm K hK
        all_goals try (go_simp;with_reducible exact hK _ _ ⟨rfl,aH _ _⟩)
        ·refine eI 36 _ rfl _ (by simp[Act.eval,a8]) _ _ _ _ (ai P n2) EI rfl (by kernel_rfl) ?_;exact hK _ _ ⟨rfl,aH _ _⟩
        ·go_simp;refine(ut l b a _ B (.inl bd.o)).mono ?_;rintro r' W' ⟨rfl,bl⟩;exact hK _ _ ⟨rfl,bl⟩
       ·simp only[kn,d7,aP,aT,Act.put,aA,aK,aJ];have a5:=bT (ij a4.o P);have av:=bT (aw az.o P);have T:=bT (aZ.o.trans (jp P _));have bY:=aj P q0;by_cases aC:b+l+a<=y-x
        ·have bB:=am W5 (.cells #[ag x] 3);have nB:=aG W5 (.cells #[ag x] 3);generalize bV:W5.alloc (.cells #[ag x] 3)=wB at*;have zB:=ak 0 nB;have a6:=bT (ij a5.o bB);have I:=bT (aw av.o bB);have J:=bT (T.o.trans (jp bB _))
         have S:QR (C++[x]=d++(((rs f 1440).take (k+1)).filter fun s=>decide (b+l+a<=s.2-s.1)).map fun s=>s.1):=by
          show _=_;rw[R.o,me aD.o,List.filter_append,dW,List.filter_cons,aB (by simpa using aC),<-d8];rfl
         go_wp2_with(first
          |(refine md rfl _ _ rfl wA.heap.size _ C x rfl ?ho W5.heap.size 1 rfl zB ?hl ?hb ?_
            case ho=>exact a6.o
            case hl=>omega
            case hb=>exact I.o.size
            intro v' w3 b0 F))
         have aV:=bT (yF I.o a6.o F);have bf:=bT b0
         have a1:QR (w4.grownBy w3 (Value.slice H d.length G).ownBlock/\ ∀B:World,w3.grownBy B v'.ownBlock->w4.grownBy B (Value.slice H d.length G).ownBlock):=by
          rcases F with⟨e,X,_⟩|⟨X,q,e,hq⟩
          ·exact⟨z.o w3 (J.o.trans X),fun B Y=>z.o B ((J.o.trans X).trans (e▸Y))⟩
          ·refine⟨z.o w3 (J.o.trans (ux X _)),fun B Y=>z.o B (J.o.trans (ux (yE X Y (fun j hj=> ?_)) _))⟩;rw[e]at hj;cases hj;exact .inl hq
         go_wp2_with fail;go_roundw
         case rel=>
          have h3:=bf.o;have aF:=AM (l:=C) (x:=x) rfl;rw[<-aF]at h3;obtain⟨q',c',b8⟩:=og h3;subst b8;exact⟨k+1,C++[x],q',c',rfl,by go_num,by omega,S,by rw[aF];omega,h3,a1.o.1,aV,a1.o.2⟩
         case measure=>simp[intOf];omega
        ·have S:QR (C=d++(((rs f 1440).take (k+1)).filter fun s=>decide (b+l+a<=s.2-s.1)).map fun s=>s.1):=by
          show _=_;rw[R.o,me aD.o,List.filter_append,dW,List.filter_cons,ax (by simpa using aC)];simp
         go_wp2_with fail;go_roundw;case rel=>exact⟨k+1,C,qc,V,rfl,by go_num,by omega,S,by omega,a5,z.o _ T.o,av,fun B Y=>z.o B (T.o.trans Y)⟩
         case measure=>simp[intOf];omega
      ·have al: ¬(k:Int)<((rs f 1440).length:Int):=(by omega)
       have E:QR (C=A++(c.take (i+1)).flatMap fun r=>yC (b+l+a) (D.getD r.toNat fun _=>false)):=by
        show _=_;rw[R.o,show k=(rs f 1440).length by omega,dg (aE _),me a3.o,fC,<-d8,<-O.o];congr 1;rw[List.flatMap_singleton,cY,aY.o];rfl
       go_wp2_with fail;go_roundw;case rel=>exact⟨i+1,C,qc,V,rfl,by go_num,by omega,E,by omega,a7,a0⟩
       case measure=>simp[intOf];omega
    ·have ah: ¬(i:Int)<(c.length:Int):=(by omega)
     have E:QR (d=(roles.take (j+1)).flatMap (Bz (b+l+a) D)):=by
      show _=_;rw[O.o,show i=c.length by omega,dg (aE _),me bc.o,fC,<-ap.o,List.flatMap_singleton];rfl
     go_wp2_with fail;go_roundw;case rel=>exact⟨j+1,d,H,G,rfl,by go_num,by omega,E,by omega,U,g⟩
     case measure=>simp[intOf];omega
  ·have aL: ¬(j:Int)<(roles.length:Int):=(by omega)
   have E:QR (A=sP (b+l+a) D roles):=by
    show _=_;rw[ap.o,show j=roles.length by omega,dg (aE _)];rfl
   have c1:=K8 HO.o (by omega);go_wp2_with fail;refine c1.mono ?_;rintro e w1 ⟨rfl,bx,bq⟩;have aU:=bT (gK Q.o bq (aE _) (fun k hk=>(HO.o.lt k hk).1));have N:(A.mergeSort fun x y=>decide (x<=y)).length=A.length:=List.length_mergeSort A;have u:=bx;rw[<-N]at u;obtain⟨q1,bG,bR⟩:=og u;have c2:=DT u (by rw[N];omega);have be:=bT u;rw[N]at c2;go_wp2_with fail;refine c2.mono ?_;rintro e w2 ⟨v2,rfl,bz,br⟩;have g:=bT (gK aU.o br (aE _) (fun k hk=>(be.o.lt k (by rw[N];exact hk)).1))
   have bi:QR (dH w2 v2 (iN (b+l+a) D roles)):=by
    have bo:=yG (A.mergeSort fun x y=>decide (x<=y));have h:=qZ bz (by omega);rw[E.o]at h;exact h
   have I:=bT (aw HB.o g.o);go_wp2_with fail;go_ret;exact⟨v2,rfl,bi.o,I.o⟩
end Go.Proofs.YtlkehieagdkgiaaGreatDoor
