/- Texts of the proof. -/
import Derived.Test.YtkfidffapdhbhaaGreatDoorPh19
import Derived.Shelf.Sort.Plain
import Derived.Shelf.Slices.CompactI
import Derived.Shelf.Slices.In.SortNone
import Derived.Test.YtkfidffapdhbhaaGreatDoorChecked
set_option maxRecDepth 100000
set_option maxHeartbeats 8000000
namespace Go.Proofs.YtkfidffapdhbhaaGreatDoor
open Go.Proofs.Tryz Go.RowKit Lx Vx Mx Msk
def oY (ns:List Int):List Nat:=ns.map Int.toNat
def iJ (l:List Ru)(i:Nat):List Nat:=match l[i]? with|some u=>oY (fX l u)|none=>[]
theorem qr {l:List Ru}{i:Nat}{u:Ru}(h:l[i]? =some u):iJ l i=oY (fX l u):=by unfold iJ;rw[h]
theorem Bt {w:World}{so:Value}{l:List Ru}(h:mR w so (l.map (fX l)))(hk: ∀u∈l,-1∉fX l u):sd w so l.length (iJ l):=by
 have hb: ∀u∈l,∀m∈fX l u,0<=m/\m<l.length:=fun u hu m hm=>by
  have h1:=(sb (l:=l) (nms u.2) [] List.nodup_nil (fun m hm=>by cases hm)).2 m hm;have h2:m≠ -1:=fun e=>hk u hu (e▸hm);omega
 obtain⟨p,c,h1,h2⟩:=h;refine⟨⟨p,c,by rw[h1,ba],fun i hi=> ?_⟩,fun i k hk'=> ?_⟩
 ·obtain⟨u,hu⟩: ∃u,l[i]? =some u:=⟨l[i],az hi⟩
  obtain⟨g,o,v,e,hc,hr⟩:=h2 i (fX l u) (by rw[bg,hu];rfl);refine⟨g,o,v,e,hc,?_⟩;rw[qr hu]
  have:(oY (fX l u)).map (fun k:Nat=>(k:Int))=fX l u:=by
   unfold oY;rw[jT]
   have hh: ∀ns:List Int,(∀m∈ns,0<=m)->ns.map ((fun k:Nat=>(k:Int))∘Int.toNat)=ns:=by
    intro ns;induction ns with
    |nil=>intro _;rfl
    |cons m ns ih=>
     intro hm;rw[dH,ih fun q hq=>hm q (bH _ hq)];have:=hm m bq;show((m.toNat:Nat):Int)::ns=_;rw[Int.toNat_of_nonneg this]
   exact hh _ fun m hm=>(hb u (aM hu) m hm).1
  rw[this];exact hr
 ·unfold iJ at hk';split at hk'
  ·rename_i u hu;unfold oY at hk';obtain⟨m,hm,rfl⟩:=dU.1 hk';have:=hb u (aM hu) m hm;omega
  ·cases hk'
theorem GM {l:List Ru}{i:Nat}{u:Ru}(h:l[i]? =some u):0<=atP5 l u.1:=by
 have aux: ∀(l:List Ru) (k i:Nat),l[i]? =some u->0<=atF l k u.1:=by
  intro l;induction l with
  |nil=>intro k i h;simp at h
  |cons v l ih=>
   intro k i h;simp only[atF];split
   ·omega
   ·rename_i hv;cases i with
    |zero=>simp at h;exact absurd (by rw[h]) hv
    |succ i=>exact ih (k+1) i (by simpa using h)
 exact aux l 0 i h
theorem GN (us:List (Ru×Value))(pv:Option Addr)(cv:Nat)(mb b4 b1 i:Nat)(u:Ru)(w:World)(h:InR w (.slice pv us.length cv) us)(hM:jl w mb (us.map (fun p=>p.1)))(h1:w.heap[b1]? =ah #[.slice pv us.length cv] 24)(h4:w.heap[b4]? =ah #[.map (some mb)] 130)(hu:(us.map (fun p=>p.1))[i]? =some u):
  Calls prog 65 #[ag (i:Int),ab b4 0,ab b1 0] w fun r w'=>r= .returned (.bool (atP5 (us.map (fun p=>p.1)) u.1 !=(i:Int)))/\aq w w':=by
 have hlk:=fun W (hW:w.heap=W.heap)=>EF (w:=W) (hM.later (by rw[hW])) u.1 (GM hu)
 obtain⟨⟨u',sk⟩,hp,hpu⟩: ∃p,us[i]? =some p/\p.1=u:=by
  rw[bg]at hu;exact dL.1 hu
 dsimp only at hpu;subst hpu;have hi:i<us.length:=(aF.1 hp).1;obtain⟨g,o,rfl,c0,_⟩:=h.cells i _ hp;dsimp only at c0;have k1:=ak 0 h1;have k4:=ak 0 h4;have hi0:(0:Int)<=(i:Int):=by omega
 have hiI:(i:Int)<(us.length:Int):=by omega
 have hlk0:=fun n=>hlk (w.drewN n) rfl;have hlk1:=hlk w rfl;generalize atP5 (us.map (fun p=>p.1)) u'.1=N at*;clear hlk h hM hu hp h1 h4;go_enter func65,ntmps65;go_wp2_with fail;go_quiet (fail);have hbq:aq w (w.drewN nq):=dB (aI _ _) nq;go_wp2_with fail;go_ret;exact⟨rfl,hbq⟩
theorem GO (l:List Ru)(so:Value)(b5 i:Nat)(u:Ru)(w:World)(hZ:mR w so (l.map (fX l)))(h5:w.heap[b5]? =ah #[so] 39)(hu:l[i]? =some u):
  Calls prog 66 #[ag (i:Int),ab b5 0] w fun r w'=>r= .returned (.bool (decide (-1∈fX l u)))/\aq w w':=by
 obtain⟨p,c,rfl,hrows⟩:=hZ;obtain⟨g,o,v,rfl,hc,hr⟩:=hrows i (fX l u) (by rw[bg,hu];rfl);have hi:i<l.length:=(aF.1 hu).1;have cC:=jG (fX l u) v (-1) w hr;obtain⟨pv,cv,rfl,_,_⟩:=hr;have k5:=ak 0 h5;rw[ba]at k5;have hi0:(0:Int)<=(i:Int):=by omega
 have hiI:(i:Int)<(l.length:Int):=by omega
 clear hrows h5 hu;generalize decide (-1∈fX l u)=b at*;generalize (fX l u).length=nn at*;go_enter func66,ntmps66;go_wp2_with fail;refine cC.mono ?_;rintro r w1 ⟨rfl,hb⟩;clear cC;go_wp2_with fail;go_ret;exact⟨rfl,hb⟩
theorem GP (l:List Ru)(so:Value)(b5 i:Nat)(w:World)(hS:sd w so l.length (iJ l))(hl:l.length<=1000)(h5:w.heap[b5]? =ah #[so] 39)(hi:i<l.length):
  Calls prog 67 #[ag (i:Int),ab b5 0] w fun r w'=>r= .returned (.bool (fol (iJ l) (l.length+1) (fun _=>false) i i))/\aq w w':=by
 have cR:=ve so l.length (iJ l) i w hS (by omega) hi;obtain⟨p,c,rfl,_⟩:=hS.form;have k5:=ak 0 h5;have hi0:(0:Int)<=(i:Int):=by omega
 have hiI:(i:Int)<(l.length:Int):=by omega
 generalize fol (iJ l) (l.length+1) (fun _=>false) i=m at*;clear h5 hS;go_enter func67,ntmps67;go_wp2_with fail;refine cR.mono ?_;rintro r w1 ⟨g,rfl,hg,hb⟩;have km:=(aZ _ _ i _ _ _ hg).trans (mL hi);clear cR hg;go_wp2_with fail;go_ret;exact⟨rfl,hb⟩
namespace Lx
def frF (p:Nat->Bool):Nat->Nat->Option Nat
 |_,0=>none
 |i,k+1=>if p i=true then some i else frF p (i+1) k
theorem sf {p:Nat->Bool}{j:Nat}(hp:p j=true): ∀(k i:Nat),i<=j->j<i+k->(∀i',i<=i'->i'<j->p i'=false)->frF p i k=some j
 |0,i,h1,h2,_=>by omega
 |k+1,i,h1,h2,h3=>by
  rw[frF];by_cases e:i=j
  ·subst e;rw[aD hp]
  ·rw[ax (by rw[h3 i (aB _) (by omega)];decide)];exact sf hp k (i+1) (by omega) (by omega) fun i' a b=>h3 i' (by omega) b
theorem mz {p:Nat->Bool}: ∀(k i:Nat),(∀i',i<=i'->i'<i+k->p i'=false)->frF p i k=none
 |0,_,_=>rfl
 |k+1,i,h=>by
  rw[frF,ax (by rw[h i (aB _) (by omega)];decide)];exact mz k (i+1) fun i' a b=>h i' (by omega) (by omega)
end Lx
def lk1 (l:List Ru)(i:Nat):Bool:=match l[i]? with|some u=>atP5 l u.1 !=(i:Int)|none=>false
def lk2 (l:List Ru)(i:Nat):Bool:=match l[i]? with|some u=>decide (-1∈fX l u)|none=>false
def lk3 (l:List Ru)(i:Nat):Bool:=fol (iJ l) (l.length+1) (fun _=>false) i i
def dq (l:List Ru):Int×Nat:=if(fW l).1≠0 then fW l else match frF (lk1 l) 0 l.length with
 |some i=>(7,i)
 |none=>match frF (lk2 l) 0 l.length with
  |some i=>(6,i)
  |none=>match frF (lk3 l) 0 l.length with
   |some i=>(9,i)
   |none=>(0,0)
theorem Ow {l:List Ru}{i:Nat}(h0:(fW l).1=0)(hi:i<l.length)(hp:lk1 l i=true)(hall: ∀i',i'<i->lk1 l i'=false):dq l=(7,i):=by
 unfold dq;rw[ax (by simpa using h0),sf hp l.length 0 (by omega) (by omega) fun i' _ h=>hall i' h]
theorem Ox {l:List Ru}{i:Nat}(h0:(fW l).1=0)(h1: ∀i',i'<l.length->lk1 l i'=false)(hi:i<l.length)(hp:lk2 l i=true)(hall: ∀i',i'<i->lk2 l i'=false):dq l=(6,i):=by
 unfold dq;rw[ax (by simpa using h0),mz l.length 0 fun i' _ h=>h1 i' (by omega),sf hp l.length 0 (by omega) (by omega) fun i' _ h=>hall i' h]
theorem Oy {l:List Ru}{i:Nat}(h0:(fW l).1=0)(h1: ∀i',i'<l.length->lk1 l i'=false)(h2: ∀i',i'<l.length->lk2 l i'=false)(hi:i<l.length)(hp:lk3 l i=true)(hall: ∀i',i'<i->lk3 l i'=false):dq l=(9,i):=by
 unfold dq;rw[ax (by simpa using h0),mz l.length 0 fun i' _ h=>h1 i' (by omega),mz l.length 0 fun i' _ h=>h2 i' (by omega),sf hp l.length 0 (by omega) (by omega) fun i' _ h=>hall i' h]
theorem EJ {l:List Ru}(h0:(fW l).1=0)(h1: ∀i',i'<l.length->lk1 l i'=false)(h2: ∀i',i'<l.length->lk2 l i'=false)(h3: ∀i',i'<l.length->lk3 l i'=false):dq l=(0,0):=by
 unfold dq;rw[ax (by simpa using h0),mz l.length 0 fun i' _ h=>h1 i' (by omega),mz l.length 0 fun i' _ h=>h2 i' (by omega),mz l.length 0 fun i' _ h=>h3 i' (by omega)]
def Ju (n:Nat)(p:Nat->Bool)(W0 wB:World)(t:Value)(wr:World):Prop:= ∃i:Nat,t=ag (i:Int)/\i<=n/\(∀i',i'<i->p i'=false)/\aq W0 wr/\aq wB wr
def EK (l:List Ru)(n:Nat)(W0:World)(t:Value)(wr:World):Prop:= ∃k:Nat,t=ag (k:Int)/\k<=3/\((0<k-> ∀i',i'<n->lk1 l i'=false)/\(1<k-> ∀i',i'<n->lk2 l i'=false)/\(2<k-> ∀i',i'<n->lk3 l i'=false))/\aq W0 wr
theorem zl {l:List Ru}(h:(fW l).1=0):l.length<=40/\ ∀u∈l,(nms u.2).length<=600:=by
 unfold fW at h;split at h
 ·cases h
 ·refine⟨by omega,?_⟩
  have aux: ∀(l:List Ru) (i:Nat),(jK l i).1=0-> ∀u∈l,ruleP u=0:=by
   intro l;induction l with
   |nil=>intro _ _ u hu;cases hu
   |cons x l ih=>
    intro i h u hu;rw[jK]at h;split at h
    ·rename_i hx;exact absurd h hx
    ·rename_i hx;rcases bz.1 hu with rfl|hu
     ·simpa using hx
     ·exact ih _ h u hu
  intro u hu;have hr:=aux l 0 h u hu;unfold ruleP at hr;split at hr
  ·cases hr
  ·have h1:=zk _ u.2 1 0 (aB _) hr;have h2:=zb hr;omega
theorem uC (us:List (Ru×Value))(v:Value)(w:World)(h:InR w v us):Calls prog 41 #[v] w fun r w'=>r= .returned (.agg #[ag (dq (us.map (fun p=>p.1))).1,ag ((dq (us.map (fun p=>p.1))).2:Int)])/\aq w w':=by
 obtain⟨l,hl⟩:=au (us.map (fun p=>p.1));have hll:l.length=us.length:=by rw[<-hl,ba]
 obtain⟨pv,cv,rfl⟩:=h.form;have bA:=am w (.cells #[.slice pv us.length cv] 24);have bB:=bA.alloc bA.size (.cells #[ag 0,ag 0] 95);have s1:(w.alloc (.cells #[.slice pv us.length cv] 24)).heap.size=w.heap.size+1:=by simp
 have n1:=(dJ _ (.cells #[ag 0,ag 0] 95) _ (aH (aE w (.cells #[.slice pv us.length cv] 24)))).trans (aE w (.cells #[.slice pv us.length cv] 24));have n2:=aE (w.alloc (.cells #[.slice pv us.length cv] 24)) (.cells #[ag 0,ag 0] 95);rw[s1]at n2;generalize hwB:(w.alloc (.cells #[.slice pv us.length cv] 24)).alloc (.cells #[ag 0,ag 0] 95)=wB at*;have cW:=GG us _ wB (h.below bB);have k1:=ak 0 n1;rw[hl]at cW⊢;go_enter func41,ntmps41;go_wp2_with fail;refine cW.mono ?_;rintro r w1 ⟨rfl,hb1⟩;have m1:=ai hb1 n1;have m2:=ai hb1 n2;have hb1w:=aw bB hb1;by_cases h0:(fW l).1=0
 ·obtain⟨h40,hnm⟩:=zl h0;rw[h0];generalize (((fW l).2:Nat):Int)=at0 at*;have bC:=am w1 (.cells #[ag 0,ag at0] 95);have hb2w:=aw hb1w bC;have m1':=ai bC m1;have m2':=ai bC m2;have k1:=ak 0 m1';have cN:=oQ us _ _ (h.below hb2w);have m3:=aE w1 (.cells #[ag 0,ag at0] 95);generalize hw2:w1.alloc (.cells #[ag 0,ag at0] 95)=w2 at*;have z0:=ak 0 m3;go_wp2_with fail;refine cN.mono ?_;rintro r w3 ⟨mb,rfl,hmb,hM,hb3⟩;have m1:=(hb3.block _ (aH m1')).trans m1';have m2:=(hb3.block _ (aH m2')).trans m2';have hb3w:=aw hb2w hb3;have bD:=am w3 (.cells #[.map (some mb)] 130);have hb4w:=aw hb3w bD;have hM4:jl (w3.alloc (.cells #[.map (some mb)] 130)) mb (us.map (fun p=>p.1)):=hM.later (bD.block _ (gV hM));have q1:=ai bD m1;have q2:=ai bD m2;have q4:=aE w3 (.cells #[.map (some mb)] 130)
  have cS:=xj us _ mb _ (h.below hb4w) hM4 (by omega) (fun p hp=>by
   have:=hnm p.1 (by rw[<-hl];exact dU.2 ⟨p,hp,rfl⟩);omega)
  generalize hw4:w3.alloc (.cells #[.map (some mb)] 130)=w4 at*;have k1:=ak 0 q1;have k4:=ak 0 q4;go_wp2_with fail;refine cS.mono ?_;rintro r w5 ⟨so,rfl,hZ,hb5⟩;rw[hl]at hZ;obtain⟨pz,cz,hso,_⟩:=(show mR w5 so (l.map (fX l)) from hZ)
  rw[ba,hll]at hso;obtain⟨b4,hb4⟩:=au w3.heap.size;have p1:=ai hb5 q1;have p2:=ai hb5 q2;have p4:=ai hb5 q4;have hM5:=hM4.later (hb5.block _ (gV hM4));have hb5w:=aw hb4w hb5;have bE:=am w5 (.cells #[so] 39);have hb6w:=aw hb5w bE;have x5:=aE w5 (.cells #[so] 39);have x1:=ai bE p1;have x2:=ai bE p2;have x4:=ai bE p4;have hM6:=hM5.later (bE.block _ (gV hM5));have hZ6:=mR.below hZ bE;generalize hw6:w5.alloc (.cells #[so] 39)=w6 at*;rw[hb4]at x4;obtain⟨b5,hb5⟩:=au w5.heap.size;rw[hb5]at x5;have bF:=am w6 (.cells #[ag 7,.func (.func 65) #[] #[ab b4 0,ab w.heap.size 0],ag 6,.func (.func 66) #[] #[ab b5 0],ag 9,.func (.func 67) #[] #[ab b5 0]] 133);have hlo:=aE w6 (.cells #[ag 7,.func (.func 65) #[] #[ab b4 0,ab w.heap.size 0],ag 6,.func (.func 66) #[] #[ab b5 0],ag 9,.func (.func 67) #[] #[ab b5 0]] 133);have HbW:=aG (aw hb6w bF);have y1:=ai bF x1;have y2:=ai bF x2;have y4:=ai bF x4;have y5:=ai bF x5;have hM7:=hM6.later (bF.block _ (gV hM6));have hZ7:=mR.below hZ6 bF;have hin7:=h.below HbW.o;have HLL:=aG hll;have H0:=aG h0;have hmf: ∀(fn:Fn) (first cap:Array Value) (w:World),(Instr.makeFunc fn first cap).run prog w= .ok (.func fn first cap) w:=fun _ _ _ _=>rfl;subst hso;try simp only[hb4]
  try simp only[hb5]
  go_wp2_with fail;try simp only[hb4]
  try simp only[hb5]
  generalize hW0:w6.alloc (.cells #[ag 7,.func (.func 65) #[] #[ab b4 0,ab w.heap.size 0],ag 6,.func (.func 66) #[] #[ab b5 0],ag 9,.func (.func 67) #[] #[ab b5 0]] 133)=W0 at*;have kl:=ak 0 y1;have g0:=ak 0 hlo;have g1:=ak 1 hlo;have g2:=ak 2 hlo;have g3:=ak 3 hlo;have g4:=ak 4 hlo;have g5:=ak 5 hlo;have hres:=y2
  have HC1:PH (∀(i:Nat),i<us.length-> ∀W,aq W0 W->Calls prog 65 #[ag (i:Int),ab b4 0,ab w.heap.size 0] W fun r w'=>r= .returned (.bool (lk1 l i))/\aq W w'):=fun i hi W hW=>by
   obtain⟨u,hu⟩: ∃u,l[i]? =some u:=⟨l[i]'(by omega),az _⟩
   have e:lk1 l i=(atP5 l u.1 !=(i:Int)):=(by unfold lk1;rw[hu]);rw[e];have:=GN us pv cv mb b4 w.heap.size i u W (hin7.below hW) (hM7.later (hW.block _ (gV hM7))) (ai hW y1) (ai hW y4) (by rw[hl];exact hu);rw[hl]at this;exact this
  have HC2:PH (∀(i:Nat),i<us.length-> ∀W,aq W0 W->Calls prog 66 #[ag (i:Int),ab b5 0] W fun r w'=>r= .returned (.bool (lk2 l i))/\aq W w'):=fun i hi W hW=>by
   obtain⟨u,hu⟩: ∃u,l[i]? =some u:=⟨l[i]'(by omega),az _⟩
   have e:lk2 l i=decide (-1∈fX l u):=(by unfold lk2;rw[hu]);rw[e];exact GO l _ b5 i u W (hZ7.below hW) (ai hW y5) hu
  have HC3:PH ((∀i',i'<us.length->lk2 l i'=false)-> ∀(i:Nat),i<us.length-> ∀W,aq W0 W->Calls prog 67 #[ag (i:Int),ab b5 0] W fun r w'=>r= .returned (.bool (lk3 l i))/\aq W w'):=fun hno i hi W hW=>by
   refine GP l _ b5 i W (Bt (hZ7.below hW) fun u hu hm=> ?_) (by omega) (ai hW y5) (by omega);obtain⟨j,hj⟩:=List.getElem?_of_mem hu;have hj':j<l.length:=(aF.1 hj).1;have:=hno j (by omega);unfold lk2 at this;rw[hj]at this;dsimp only at this;rw[bm hm]at this;cases this
  have hI40:(us.length:Int)<=40:=(by omega);go_loopw [8,9,30] (fun _ _ t wr=>EK l us.length W0 t wr) (fun _ _ t _=>3-(intOf t).toNat);case atStart=>exact⟨0,rfl,by omega,⟨fun h=>absurd h (by omega),fun h=>absurd h (by omega),fun h=>absurd h (by omega)⟩,aI _ _⟩
  case round=>
   obtain⟨k,rfl,hk3,hno,hbr⟩:=hrel;match k,hk3 with
   |0,_=>
    have d0:=aj hbr g0;have d1:=aj hbr g1;have hbA:=hbr.alloc hbr.size (.cells #[ag 7,.func (.func 65) #[] #[ab b4 0,ab w.heap.size 0]] 133);have hxB:=aE wr (.cells #[ag 7,.func (.func 65) #[] #[ab b4 0,ab w.heap.size 0]] 133);have cL:=HC1.o;generalize hwB:wr.alloc (.cells #[ag 7,.func (.func 65) #[] #[ab b4 0,ab w.heap.size 0]] 133)=wB at*;have e0:=ak 0 hxB;have e1:=ak 1 hxB;have kl':=aj hbA kl;have Hno:=aG hno;go_wp2_with fail;obtain⟨b8,hb8⟩:=au wr.heap.size;simp only[hb8]at e0 e1⊢;go_loopw [9,36] (fun _ t wr=>Ju us.length (lk1 l) W0 wB t wr) (fun _ t _=>us.length-(intOf t).toNat);case atStart=>exact⟨0,rfl,by omega,fun i' hi'=>by omega,hbA,aI _ _⟩
    case round=>
     obtain⟨i,rfl,hi,hall,hbi,hbB⟩:=hrel;have hi0:(0:Int)<=(i:Int):=(by omega);have e0':=aj hbB e0;have e1':=aj hbB e1;have Hall:=aG hall;by_cases hlt:i<us.length
     ·have hlt':(i:Int)<(us.length:Int):=(by omega);have cC:=cL i hlt wr hbi;cases hp:lk1 l i with
      |true=>
       rw[hp]at cC
       have HX:PH (dq l=(7,i)):=by
        have hall:=Hall.o;have hno:=Hno.o;have h0:=H0.o;have hlt:i<l.length:=(by rw[HLL.o];exact hlt);have hLL:=HLL.o;exact Ow h0 hlt hp hall
       go_wp2_with fail;refine cC.mono ?_;rintro r w2 ⟨rfl,hb2⟩;have e0'':=(hb2.cell (bP e0')).trans e0';have hbw:=aw hbi hb2;have hz:=ai hbw hres;have hbF:=below_setRow ((HbW.o).trans (hbw.mono (HbW.o).size)) (show w.heap.size<=w.heap.size+1 by omega) #[ag 7,ag (i:Int)]
       go_wp2_with(first
        |(refine ay rfl 95 _ _ rfl _ _ rfl rfl _ _ hz (by kernel_rfl) (by simp) (by simp[Value.oneCell']) ?_))
       refine mK 2 (by kernel_rfl) (w.heap.size+1) _ _ rfl rfl (aL _ _ _ _ _ _ hz) ?_;rw[HX.o];exact⟨rfl,hbF⟩
      |false=>
       rw[hp]at cC
       have HN:PH (∀i',i'<i+1->lk1 l i'=false):=fun i' hi'=>by
        by_cases e:i'=i
        ·rw[e];exact hp
        ·exact Hall.o i' (by omega)
       go_wp2_with fail;refine cC.mono ?_;rintro r w2 ⟨rfl,hb2⟩;have hbw:=aw hbi hb2;have hbw2:=aw hbB hb2;go_wp2_with fail;go_roundw
       case rel=>
        (repeat apply iO);refine⟨?_,rfl⟩;exact⟨i+1,by go_num,by omega,HN.o,hbw,hbw2⟩
       case measure=>simp[intOf];omega
     ·have hlt': ¬(i:Int)<(us.length:Int):=(by omega);have ei:i=us.length:=(by omega)
      have HN:PH (EK l us.length W0 (ag 1) wr):=by
       have hno:=Hno.o;have hall:=Hall.o;rw[ei]at hall;exact⟨1,rfl,by omega,⟨fun _=>hall,fun h=>absurd h (by omega),fun h=>absurd h (by omega)⟩,hbi⟩
      go_wp2_with fail;go_roundw;case rel=>exact HN.o
      case measure=>simp[intOf]
   |1,_=>
    have d0:=aj hbr g2;have d1:=aj hbr g3;have hbA:=hbr.alloc hbr.size (.cells #[ag 6,.func (.func 66) #[] #[ab b5 0]] 133);have hxB:=aE wr (.cells #[ag 6,.func (.func 66) #[] #[ab b5 0]] 133);have cL:=HC2.o;generalize hwB:wr.alloc (.cells #[ag 6,.func (.func 66) #[] #[ab b5 0]] 133)=wB at*;have e0:=ak 0 hxB;have e1:=ak 1 hxB;have kl':=aj hbA kl;have Hno:=aG hno;go_wp2_with fail;obtain⟨b8,hb8⟩:=au wr.heap.size;simp only[hb8]at e0 e1⊢;go_loopw [9,36] (fun _ t wr=>Ju us.length (lk2 l) W0 wB t wr) (fun _ t _=>us.length-(intOf t).toNat);case atStart=>exact⟨0,rfl,by omega,fun i' hi'=>by omega,hbA,aI _ _⟩
    case round=>
     obtain⟨i,rfl,hi,hall,hbi,hbB⟩:=hrel;have hi0:(0:Int)<=(i:Int):=(by omega);have e0':=aj hbB e0;have e1':=aj hbB e1;have Hall:=aG hall;by_cases hlt:i<us.length
     ·have hlt':(i:Int)<(us.length:Int):=(by omega);have cC:=cL i hlt wr hbi;cases hp:lk2 l i with
      |true=>
       rw[hp]at cC
       have HX:PH (dq l=(6,i)):=by
        have hall:=Hall.o;have hno:=Hno.o;have h0:=H0.o;have hlt:i<l.length:=(by rw[HLL.o];exact hlt);have hLL:=HLL.o;exact Ox h0 (fun a b=>hno.1 (by omega) a (by omega)) hlt hp hall
       go_wp2_with fail;refine cC.mono ?_;rintro r w2 ⟨rfl,hb2⟩;have e0'':=(hb2.cell (bP e0')).trans e0';have hbw:=aw hbi hb2;have hz:=ai hbw hres;have hbF:=below_setRow ((HbW.o).trans (hbw.mono (HbW.o).size)) (show w.heap.size<=w.heap.size+1 by omega) #[ag 6,ag (i:Int)]
       go_wp2_with(first
        |(refine ay rfl 95 _ _ rfl _ _ rfl rfl _ _ hz (by kernel_rfl) (by simp) (by simp[Value.oneCell']) ?_))
       refine mK 2 (by kernel_rfl) (w.heap.size+1) _ _ rfl rfl (aL _ _ _ _ _ _ hz) ?_;rw[HX.o];exact⟨rfl,hbF⟩
      |false=>
       rw[hp]at cC
       have HN:PH (∀i',i'<i+1->lk2 l i'=false):=fun i' hi'=>by
        by_cases e:i'=i
        ·rw[e];exact hp
        ·exact Hall.o i' (by omega)
       go_wp2_with fail;refine cC.mono ?_;rintro r w2 ⟨rfl,hb2⟩;have hbw:=aw hbi hb2;have hbw2:=aw hbB hb2;go_wp2_with fail;go_roundw
       case rel=>
        (repeat apply iO);refine⟨?_,rfl⟩;exact⟨i+1,by go_num,by omega,HN.o,hbw,hbw2⟩
       case measure=>simp[intOf];omega
     ·have hlt': ¬(i:Int)<(us.length:Int):=(by omega);have ei:i=us.length:=(by omega)
      have HN:PH (EK l us.length W0 (ag 2) wr):=by
       have hno:=Hno.o;have hall:=Hall.o;rw[ei]at hall;exact⟨2,rfl,by omega,⟨fun _=>hno.1 (by omega),fun _=>hall,fun h=>absurd h (by omega)⟩,hbi⟩
      go_wp2_with fail;go_roundw;case rel=>exact HN.o
      case measure=>simp[intOf]
   |2,_=>
    have d0:=aj hbr g4;have d1:=aj hbr g5;have hbA:=hbr.alloc hbr.size (.cells #[ag 9,.func (.func 67) #[] #[ab b5 0]] 133);have hxB:=aE wr (.cells #[ag 9,.func (.func 67) #[] #[ab b5 0]] 133);have cL:=HC3.o (hno.2.1 (by omega));generalize hwB:wr.alloc (.cells #[ag 9,.func (.func 67) #[] #[ab b5 0]] 133)=wB at*;have e0:=ak 0 hxB;have e1:=ak 1 hxB;have kl':=aj hbA kl;have Hno:=aG hno;go_wp2_with fail;obtain⟨b8,hb8⟩:=au wr.heap.size;simp only[hb8]at e0 e1⊢;go_loopw [9,36] (fun _ t wr=>Ju us.length (lk3 l) W0 wB t wr) (fun _ t _=>us.length-(intOf t).toNat);case atStart=>exact⟨0,rfl,by omega,fun i' hi'=>by omega,hbA,aI _ _⟩
    case round=>
     obtain⟨i,rfl,hi,hall,hbi,hbB⟩:=hrel;have hi0:(0:Int)<=(i:Int):=(by omega);have e0':=aj hbB e0;have e1':=aj hbB e1;have Hall:=aG hall;by_cases hlt:i<us.length
     ·have hlt':(i:Int)<(us.length:Int):=(by omega);have cC:=cL i hlt wr hbi;cases hp:lk3 l i with
      |true=>
       rw[hp]at cC
       have HX:PH (dq l=(9,i)):=by
        have hall:=Hall.o;have hno:=Hno.o;have h0:=H0.o;have hlt:i<l.length:=(by rw[HLL.o];exact hlt);have hLL:=HLL.o;exact Oy h0 (fun a b=>hno.1 (by omega) a (by omega)) (fun a b=>hno.2.1 (by omega) a (by omega)) hlt hp hall
       go_wp2_with fail;refine cC.mono ?_;rintro r w2 ⟨rfl,hb2⟩;have e0'':=(hb2.cell (bP e0')).trans e0';have hbw:=aw hbi hb2;have hz:=ai hbw hres;have hbF:=below_setRow ((HbW.o).trans (hbw.mono (HbW.o).size)) (show w.heap.size<=w.heap.size+1 by omega) #[ag 9,ag (i:Int)]
       go_wp2_with(first
        |(refine ay rfl 95 _ _ rfl _ _ rfl rfl _ _ hz (by kernel_rfl) (by simp) (by simp[Value.oneCell']) ?_))
       refine mK 2 (by kernel_rfl) (w.heap.size+1) _ _ rfl rfl (aL _ _ _ _ _ _ hz) ?_;rw[HX.o];exact⟨rfl,hbF⟩
      |false=>
       rw[hp]at cC
       have HN:PH (∀i',i'<i+1->lk3 l i'=false):=fun i' hi'=>by
        by_cases e:i'=i
        ·rw[e];exact hp
        ·exact Hall.o i' (by omega)
       go_wp2_with fail;refine cC.mono ?_;rintro r w2 ⟨rfl,hb2⟩;have hbw:=aw hbi hb2;have hbw2:=aw hbB hb2;go_wp2_with fail;go_roundw
       case rel=>
        (repeat apply iO);refine⟨?_,rfl⟩;exact⟨i+1,by go_num,by omega,HN.o,hbw,hbw2⟩
       case measure=>simp[intOf];omega
     ·have hlt': ¬(i:Int)<(us.length:Int):=(by omega);have ei:i=us.length:=(by omega)
      have HN:PH (EK l us.length W0 (ag 3) wr):=by
       have hno:=Hno.o;have hall:=Hall.o;rw[ei]at hall;exact⟨3,rfl,by omega,⟨fun _=>hno.1 (by omega),fun _=>hno.2.1 (by omega),fun _=>hall⟩,hbi⟩
      go_wp2_with fail;go_roundw;case rel=>exact HN.o
      case measure=>simp[intOf]
   |3,_=>
    have hz:=ai hbr hres;have hbF:=below_setRow ((HbW.o).trans (hbr.mono (HbW.o).size)) (show w.heap.size<=w.heap.size+1 by omega) #[ag 0,ag 0]
    have HX:PH (dq l=(0,0)):=by
     have e:=HLL.o;exact EJ H0.o (by rw[e];exact hno.1 (by omega)) (by rw[e];exact hno.2.1 (by omega)) (by rw[e];exact hno.2.2 (by omega))
    go_wp2_with(first
     |(refine ay rfl 95 _ _ rfl _ _ rfl rfl _ _ hz (by kernel_rfl) (by simp) (by simp[Value.oneCell']) ?_))
    refine mK 2 (by kernel_rfl) (w.heap.size+1) _ _ rfl rfl (aL _ _ _ _ _ _ hz) ?_;rw[HX.o];exact⟨rfl,hbF⟩
   |k+4,hk3=>exact absurd hk3 (by omega)
 ·have HX:PH (dq l=fW l):=by
   show _=_;unfold dq;rw[aD h0]
  have hne:((fW l).1 !=0)=true:=(by simpa using h0);have HR:PH (∀W,aq w W->(fun(r:Ending) (w':World)=>r= .returned (.agg #[ag (dq l).1,ag ((dq l).2:Int)])/\aq w w') (.returned (.agg #[ag (fW l).1,ag ((fW l).2:Int)])) W):=fun W hW=>⟨by rw[HX.o],hW⟩
  generalize (fW l).1=er at*;generalize (((fW l).2:Nat):Int)=at0 at*;have bC:=am w1 (.cells #[ag er,ag at0] 95);have hb2w:=aw hb1w bC;have m2':=ai bC m2;have m3:=aE w1 (.cells #[ag er,ag at0] 95);have hbF:=below_setRow hb2w (show w.heap.size<=w.heap.size+1 by omega) #[ag er,ag at0];generalize hw2:w1.alloc (.cells #[ag er,ag at0] 95)=w2 at*;have z0:=ak 0 m3
  go_wp2_with(first
   |(refine aQ rfl 95 _ rfl _ rfl _ _ _ _ m3 oV rfl (by kernel_rfl) ?_)
   |(refine ay rfl 95 _ _ rfl _ _ rfl rfl _ _ m2' (by kernel_rfl) (by simp) (by simp[Value.oneCell']) ?_))
  refine mK 2 (by kernel_rfl) (w.heap.size+1) _ _ rfl rfl (aL _ _ _ _ _ _ m2') ?_;exact HR.o _ hbF
def mkL (m:Nat->Bool)(j:Nat):List Int:=((List.range j).filter m).map fun k:Nat=>(k:Int)
theorem Jv (m:Nat->Bool)(j:Nat):mkL m (j+1)=if m j=true then mkL m j++[(j:Int)] else mkL m j:=by
 unfold mkL;rw[List.range_succ,List.filter_append,dT];by_cases h:m j=true
 ·simp[h]
 ·simp[h]
theorem Dv (m:Nat->Bool)(j:Nat):(mkL m j).length<=j:=by
 unfold mkL;rw[ba];have:=List.length_filter_le m (List.range j);simpa using this
def gh (l:List Ru)(r:Int):List Int:=if r<0\/(l.length:Int)<=r\/(dq l).1≠0 then [] else mkL (fol (iJ l) (l.length+1) (fun _=>false) r.toNat) l.length
theorem lB {l:List Ru}(h:(dq l).1=0):(fW l).1=0/\ ∀u∈l,-1∉fX l u:=by
 unfold dq at h;split at h
 ·rename_i h0;exact absurd h h0
 ·rename_i h0;refine⟨by simpa using h0,fun u hu hm=> ?_⟩;split at h
  ·cases h
  ·split at h
   ·cases h
   ·rename_i h2;obtain⟨j,hj⟩:=List.getElem?_of_mem hu;have hj':j<l.length:=(aF.1 hj).1
    have hp:lk2 l j=true:=by
     unfold lk2;rw[hj];exact bm hm
    have: ∀(k i:Nat),i<=j->j<i+k->frF (lk2 l) i k≠none:=by
     intro k;induction k with
     |zero=>intro i a b;omega
     |succ k ih=>
      intro i a b;rw[frF];split
      ·simp
      ·rename_i hn;have:i≠j:=fun e=>hn (by rw[e];exact hp);exact ih (i+1) (by omega) (by omega)
    exact this l.length 0 (by omega) (by omega) h2
theorem CM (ns:List Int)(n:Int):jL (ns++[n])=jL ns++[ag n]:=by simp[jL]
def Jw (ns:List Int)(w:World)(e:Ending)(w':World):Prop:= ∃v,e= .returned v/\dS w' v ns/\aq w w'
def Jx (m:Nat->Bool)(n:Nat)(_ W0:World)(q t:Value)(wr:World):Prop:= ∃j:Nat,t=ag (j:Int)/\j<=n/\wr.ownsRow W0.heap.size 3 1 q (mkL m j).length (jL (mkL m j))/\aq W0 wr
theorem GQ (c0 c1:Value)(w:World):(Instr.field 95 (.agg #[c0,c1]) 0).run prog w= .ok c0 w:=by
 unfold Instr.field;simp[go_sem,asAgg]
attribute [go_sem] GQ
theorem Jy (us:List (Ru×Value))(v:Value)(r:Int)(w:World)(h:InR w v us):Calls prog 45 #[v,ag r] w (Jw (gh (us.map (fun p=>p.1)) r) w):=by
 obtain⟨l,hl⟩:=au (us.map (fun p=>p.1));have hll:l.length=us.length:=by rw[<-hl,ba]
 obtain⟨pv,cv,rfl⟩:=h.form;have hlen:=h.len;have cW:=uC us _ w h;rw[hl]at cW⊢;have HNil:PH (∀W,aq w W->Jw [] w (.returned (af)) W):=fun W hW=>⟨_,rfl,⟨none,0,rfl,by decide,fun j n hj=>by simp at hj⟩,hW⟩
 have HLL:=aG hll;have HLe:=aG hl;by_cases h1:r<0
 ·have HU:PH (gh l r=[]):=aD (.inl h1);go_enter func45,ntmps45;go_wp2_with fail;go_ret;rw[HU.o];exact HNil.o _ (aI _ _)
 by_cases h2:(us.length:Int)<=r
 ·have HU:PH (gh l r=[]):=aD (.inr (.inl (by rw[HLL.o];exact h2)));go_enter func45,ntmps45;go_wp2_with fail;go_ret;rw[HU.o];exact HNil.o _ (aI _ _)
 by_cases h3:(dq l).1=0
 ·have HU:PH (gh l r=mkL (fol (iJ l) (l.length+1) (fun _=>false) r.toNat) l.length):=ax (by rw[HLL.o];omega);obtain⟨h0,hno⟩:=lB h3;obtain⟨h40,hnm⟩:=zl h0;rw[h3]at cW;generalize (((dq l).2:Nat):Int)=at0 at*;obtain⟨rn,hrn⟩: ∃rn:Nat,r=(rn:Int):=⟨r.toNat,by omega⟩
  subst hrn;have hrt:((rn:Int)).toNat=rn:=(by omega);rw[hrt]at HU;have hrl:rn<l.length:=(by rw[HLL.o];omega);have cN:=fun W (hW:aq w W)=>oQ us _ W (h.below hW);obtain⟨i0,hi,hz0,hz1,hz2⟩:=jp Bq;have hI40:(us.length:Int)<=40:=(by rw[HLL.o]at h40;omega);have Hrl:=aG hrl;have H40:=aG h40;have Hno:=aG hno;have Hnm:=aG hnm;have HI:=aG h;go_enter func45,ntmps45;go_wp2_with fail;refine cW.mono ?_;rintro e w1 ⟨rfl,hb1⟩;have d1:=cN w1 hb1;go_wp2_with fail;refine d1.mono ?_;rintro e w2 ⟨mb,rfl,_,hM,hb2⟩;have hb2w:=aw hb1 hb2
  have d2:=xj us _ mb w2 (HI.o.below hb2w) hM (by omega) (fun p hp=>by
   have:=Hnm.o p.1 (by rw[<-HLe.o];exact dU.2 ⟨p,hp,rfl⟩);omega)
  go_wp2_with fail;refine d2.mono ?_;rintro e w3 ⟨so,rfl,hZ,hb3⟩;rw[HLe.o]at hZ;have hb3w:=aw hb2w hb3;have d3:=ve so l.length (iJ l) rn w3 (Bt hZ Hno.o) (by have:=H40.o;omega) Hrl.o;obtain⟨pz,cz,hso,_⟩:=(show mR w3 so (l.map (fX l)) from hZ)
  rw[HLL.o]at d3;rw[ba,HLL.o]at hso;subst hso;go_wp2_with fail;refine d3.mono ?_;rintro e w4 ⟨g,rfl,hg,hb4⟩;have hb4w:=aw hb3w hb4;rw[HLL.o]at HU;generalize fol (iJ l) (us.length+1) (fun _=>false) rn=m at*;have Hbw:=aG hb4w;have Hg:=aG hg;go_wp2_with fail;go_loopw [5,6,7,29] (fun q _ _ t wr=>Jx m us.length w w4 q t wr) (fun _ _ _ t _=>us.length-(intOf t).toNat);case atStart=>exact⟨0,rfl,by omega,cY _ _ _ _,aI _ _⟩
  case round=>
   obtain⟨j,rfl,hj,hown,hbr⟩:=hrel;have hj0:(0:Int)<=(j:Int):=(by omega);have hml:=Dv m j;by_cases hlt:j<us.length
   ·have hlt':(j:Int)<(us.length:Int):=(by omega);have km:=(aZ _ _ j _ _ _ (ai hbr Hg.o)).trans (mL hlt);have hst:=Jv m j;cases hmj:m j with
    |true=>
     rw[hmj]at km;rw[aD hmj]at hst;obtain⟨pq,cq,hqf⟩:=di hown;have bA:=am wr (.cells #[ag (j:Int)] 3);have hx4:=aE wr (.cells #[ag (j:Int)] 3);have hownA:=br (w':=wr.alloc (.cells #[ag (j:Int)] 3)) hown fun b hb=>bA.block b (hown.lt b hb).2;have hbA:=aw hbr bA;have hsz:=hbr.size;have hsA:(wr.alloc (.cells #[ag (j:Int)] 3)).heap.size=wr.heap.size+1:=(by simp);have Hst:=aG hst;subst hqf;generalize mkL m j=ns at*;generalize hwA:wr.alloc (.cells #[ag (j:Int)] 3)=wA at*;go_wp2_with(at_builtin;refine iZ _ rfl _ _ 34 rfl w4.heap.size 3 i0 (ag 0) 1 8 zi hi hz0 hz1 hz2 rfl (by decide) (.slice pq ns.length cq) ns.length (jL ns) rfl hownA ⟨wr.heap.size,0,none⟩ 1 1 [ag (j:Int)] rfl rfl ?c1 ?c2 ?c3 ?c4 ?c5 ?_)
     case c1=>
      intro k u' hk';match k,hk' with
      |0,hk'=>simp at hk';subst hk';exact(aZ _ _ _ _ _ _ hx4).trans rfl
     case c2=>intro u hu;simp at hu;subst hu;rfl
     case c3=>unfold maxLen;omega
     case c4=>omega
     case c5=>omega
     intro v' w5 hown' hgrow _;have hlo:=hownA.lt;have hb5:aq w4 w5:=hbA.grown hgrow (by omega) (fun q hq=>(hlo q hq).1)
     have HN:PH (Jx m us.length w w4 v' (ag ((j+1:Nat):Int)) w5):=by
      refine⟨j+1,rfl,by omega,?_,hb5⟩;rw[Hst.o,CM];simpa using hown'
     go_wp2_with fail;go_roundw
     case rel=>first
      |exact HN.o
      |exact⟨_,_,_,_,HN.o,rfl,rfl,rfl,rfl⟩
     case measure=>simp[intOf];omega
    |false=>
     rw[hmj]at km;rw[ax (by rw[hmj];decide)]at hst;have HN:PH (Jx m us.length w w4 u5 (ag ((j+1:Nat):Int)) wr):=⟨j+1,rfl,by omega,by rw[hst];exact hown,hbr⟩
     go_wp2_with fail;go_roundw
     case rel=>first
      |exact HN.o
      |exact⟨_,_,_,_,HN.o,rfl,rfl,rfl,rfl⟩
     case measure=>simp[intOf];omega
   ·have hlt': ¬(j:Int)<(us.length:Int):=(by omega);have ej:j=us.length:=(by omega)
    have HO:PH (Jw (gh l (rn:Int)) w (.returned u5) wr):=by
     rw[HU.o,<-ej];exact⟨_,rfl,qq hown (by omega),(Hbw.o).trans (hbr.mono (Hbw.o).size)⟩
    go_wp2_with fail;go_ret;exact HO.o
 ·have HU:PH (gh l r=[]):=aD (.inr (.inr h3));have hne:((dq l).1 !=0)=true:=(by simpa using h3);have Hn:=HNil;generalize (dq l).1=er at*;generalize (((dq l).2:Nat):Int)=at0 at*;go_enter func45,ntmps45;go_wp2_with fail;refine cW.mono ?_;rintro e w1 ⟨rfl,hb1⟩;go_wp2_with fail;go_ret;rw[HU.o];exact Hn.o _ hb1
section
open Go.Shelf
def CU:Go.Shelf.Ren:=⟨fun|189=>105|125=>135|257=>134|128=>167|129=>168|294=>158|295=>159|296=>160|297=>161|298=>162|299=>163|216=>164|300=>165|301=>166|328=>192|329=>193|330=>194|331=>195|332=>196|215=>197|343=>215|n=>n,fun|28=>34|3=>3|46=>216|0=>0|51=>248|53=>84|4=>4|183=>242|182=>241|131=>170|5=>5|9=>9|218=>263|222=>204|228=>279|229=>277|n=>n,fun|n=>n⟩
theorem DE:Go.Proofs.Lays.n189 prog CU:={
 mixed:=by kernel_rfl
 f125:=func135.trans (congrArg some (by kernel_rfl))
 f128:=func167.trans (congrArg some (by kernel_rfl))
 f129:=func168.trans (congrArg some (by kernel_rfl))
 f189:=func105.trans (congrArg some (by kernel_rfl))
 f215:=func197.trans (congrArg some (by kernel_rfl))
 f216:=func164.trans (congrArg some (by kernel_rfl))
 f257:=func134.trans (congrArg some (by kernel_rfl))
 f294:=func158.trans (congrArg some (by kernel_rfl))
 f295:=func159.trans (congrArg some (by kernel_rfl))
 f296:=func160.trans (congrArg some (by kernel_rfl))
 f297:=func161.trans (congrArg some (by kernel_rfl))
 f298:=func162.trans (congrArg some (by kernel_rfl))
 f299:=func163.trans (congrArg some (by kernel_rfl))
 f300:=func165.trans (congrArg some (by kernel_rfl))
 f301:=func166.trans (congrArg some (by kernel_rfl))
 f328:=func192.trans (congrArg some (by kernel_rfl))
 f329:=func193.trans (congrArg some (by kernel_rfl))
 f330:=func194.trans (congrArg some (by kernel_rfl))
 f331:=func195.trans (congrArg some (by kernel_rfl))
 f332:=func196.trans (congrArg some (by kernel_rfl))
 f343:=func215.trans (congrArg some (by kernel_rfl))
 t0:=underlying0
 a0:=isAgg0
 z0:=sizeOf0
 v0:=zeroValue0
 t3:=underlying3
 a3:=isAgg3
 z3:=sizeOf3
 v3:=zeroValue3
 t4:=underlying4
 a4:=isAgg4
 z4:=sizeOf4
 v4:=zeroValue4
 t5:=underlying5
 a5:=isAgg5
 z5:=sizeOf5
 v5:=zeroValue5
 t9:=underlying9
 a9:=isAgg9
 z9:=sizeOf9
 v9:=zeroValue9
 t28:=underlying34
 a28:=isAgg34
 z28:=sizeOf34
 v28:=zeroValue34
 t46:=underlying216
 a46:=isAgg216
 z46:=sizeOf216
 v46:=zeroValue216
 t51:=underlying248
 a51:=isAgg248
 z51:=sizeOf248
 v51:=zeroValue248
 t53:=underlying84
 a53:=isAgg84
 z53:=sizeOf84
 v53:=zeroValue84
 t131:=underlying170
 a131:=isAgg170
 z131:=sizeOf170
 v131:=zeroValue170
 t182:=underlying241
 a182:=isAgg241
 z182:=sizeOf241
 v182:=zeroValue241
 t183:=underlying242
 a183:=isAgg242
 z183:=sizeOf242
 v183:=zeroValue242
 t218:=underlying263
 a218:=isAgg263
 z218:=sizeOf263
 v218:=zeroValue263
 t222:=underlying204
 a222:=isAgg204
 z222:=sizeOf204
 v222:=zeroValue204
 t228:=underlying279
 a228:=isAgg279
 z228:=sizeOf279
 v228:=zeroValue279
 t229:=underlying277
 a229:=isAgg277
 z229:=sizeOf277
 v229:=zeroValue277}
def Av:Go.Shelf.Ren:=⟨fun|20=>106|n=>n,fun|22=>34|3=>3|4=>4|0=>0|n=>n,fun|n=>n⟩
theorem zK:Go.Proofs.Lays2.n20 prog Av:={
 mixed:=by kernel_rfl
 f20:=func106.trans (congrArg some (by kernel_rfl))
 t0:=underlying0
 a0:=isAgg0
 z0:=sizeOf0
 v0:=zeroValue0
 t3:=underlying3
 a3:=isAgg3
 z3:=sizeOf3
 v3:=zeroValue3
 t4:=underlying4
 a4:=isAgg4
 z4:=sizeOf4
 v4:=zeroValue4
 t22:=underlying34
 a22:=isAgg34
 z22:=sizeOf34
 v22:=zeroValue34
 i3:=by kernel_rfl}
theorem Hh (blk off cap:Nat)(zs:List Int)(w:World)(hH:Go.Sort.Holds (Value.int .i64) w blk off zs.toArray)(hblk:blk<w.heap.size)(hsz:zs.length<4611686018427387904):
 Calls prog 105 #[.slice (some (ae blk off)) zs.length cap] w fun e w'=>e= .returned (.tuple #[])/\ ∃n os,w'=Go.Sort.grow (Go.Sort.putRow (Value.int .i64) (Go.Sort.ahead w n) blk off (zs.mergeSort fun x y=>decide (x<=y)).toArray) os:=Any.slices_Sort_int DE blk off cap zs w hH hblk hsz
theorem Hi (p:Option Addr)(cap:Nat)(w:World):Calls prog 105 #[.slice p 0 cap] w fun e w'=>e= .returned (.tuple #[])/\w'=w:=Any.slices_Sort_int_none DE p cap w
theorem BN (blk off cap:Nat)(zs:List Int)(w:World)(hH:Go.Sort.Holds (Value.int .i64) w blk off zs.toArray)(hsz:zs.length<=9223372036854775807)(hcap:zs.length<=cap):
 Calls prog 106 #[.slice (some (ae blk off)) zs.length cap] w fun e w'=>e= .returned (.slice (some (ae blk off)) (Go.Lib.compact zs).length cap)/\ ∃q,w'=Go.Sort.putRow (Value.int .i64) (Go.Sort.ahead w q) blk off (Go.Lib.compact zs++List.replicate (zs.length-(Go.Lib.compact zs).length) 0).toArray:=Any.slices_Compact_int zK blk off cap zs w hH hsz hcap
theorem BO (a:Option Addr)(cap:Nat)(w:World):Calls prog 106 #[.slice a 0 cap] w fun e w'=>e= .returned (.slice a 0 cap)/\w'=w:=Any.slices_Compact_int_empty zK a cap w
end
end Go.Proofs.YtkfidffapdhbhaaGreatDoor
