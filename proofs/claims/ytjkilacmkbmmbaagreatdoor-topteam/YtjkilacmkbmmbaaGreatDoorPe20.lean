/- Texts of the proof. -/
import Derived.Test.YtjkilacmkbmmbaaGreatDoorPe19
import Derived.Shelf.Sort.Plain
import Derived.Shelf.Slices.CompactI
import Derived.Shelf.Slices.In.SortNone
import Derived.Test.YtjkilacmkbmmbaaGreatDoorChecked
set_option maxRecDepth 100000
set_option maxHeartbeats 8000000
namespace Go.Proofs.YtjkilacmkbmmbaaGreatDoor
open Go.Proofs.Tryz Go.RowKit Lx Vx Mx Msk
def oN (ns:List Int):List Nat:=ns.map Int.toNat
def iy (l:List Ru)(i:Nat):List Nat:=match l[i]? with|some u=>oN (fz l u)|none=>[]
theorem qi {l:List Ru}{i:Nat}{u:Ru}(h:l[i]? =some u):iy l i=oN (fz l u):=by unfold iy;rw[h]
theorem BB {w:World}{so:Value}{l:List Ru}(h:mJ w so (l.map (fz l)))(hk: ∀u∈l,-1∉fz l u):sb w so l.length (iy l):=by
 have hb: ∀u∈l,∀m∈fz l u,0<=m/\m<l.length:=fun u hu m hm=>by
  have h1:=(r9 (l:=l) (nms u.2) [] List.nodup_nil (fun m hm=>by cases hm)).2 m hm;have h2:m≠ -1:=fun e=>hk u hu (e▸hm);omega
 obtain⟨p,c,h1,h2⟩:=h;refine⟨⟨p,c,by rw[h1,aZ],fun i hi=> ?_⟩,fun i k hk'=> ?_⟩
 ·obtain⟨u,hu⟩: ∃u,l[i]? =some u:=⟨l[i],ax hi⟩
  obtain⟨g,o,v,e,hc,hr⟩:=h2 i (fz l u) (by rw[bg,hu];rfl);refine⟨g,o,v,e,hc,?_⟩;rw[qi hu]
  have:(oN (fz l u)).map (fun k:Nat=>(k:Int))=fz l u:=by
   unfold oN;rw[jE]
   have hh: ∀ns:List Int,(∀m∈ns,0<=m)->ns.map ((fun k:Nat=>(k:Int))∘Int.toNat)=ns:=by
    intro ns;induction ns with
    |nil=>intro _;rfl
    |cons m ns ih=>
     intro hm;rw[dl,ih fun q hq=>hm q (bn _ hq)];have:=hm m bc;show((m.toNat:Nat):Int)::ns=_;rw[Int.toNat_of_nonneg this]
   exact hh _ fun m hm=>(hb u (aM hu) m hm).1
  rw[this];exact hr
 ·unfold iy at hk';split at hk'
  ·rename_i u hu;unfold oN at hk';obtain⟨m,hm,rfl⟩:=dw.1 hk';have:=hb u (aM hu) m hm;omega
  ·cases hk'
theorem GS {l:List Ru}{i:Nat}{u:Ru}(h:l[i]? =some u):0<=atP5 l u.1:=by
 have aux: ∀(l:List Ru) (k i:Nat),l[i]? =some u->0<=atF l k u.1:=by
  intro l;induction l with
  |nil=>intro k i h;simp at h
  |cons v l ih=>
   intro k i h;simp only[atF];split
   ·omega
   ·rename_i hv;cases i with
    |zero=>simp at h;exact absurd (by rw[h]) hv
    |succ i=>exact ih (k+1) i (by simpa using h)
 exact aux l 0 i h
theorem GU (us:List (Ru×Value))(pv:Option Addr)(cv:Nat)(mb b4 b1 i:Nat)(u:Ru)(w:World)(h:InR w (.slice pv us.length cv) us)(hM:iT w mb (us.map (fun p=>p.1)))(h1:w.heap[b1]? =ah #[.slice pv us.length cv] 45)(h4:w.heap[b4]? =ah #[.map (some mb)] 82)(hu:(us.map (fun p=>p.1))[i]? =some u):
  Calls prog 41 #[ag (i:Int),ab b4 0,ab b1 0] w fun r w'=>r= .returned (.bool (atP5 (us.map (fun p=>p.1)) u.1 !=(i:Int)))/\ao w w':=by
 have hlk:=fun W (hW:w.heap=W.heap)=>EM (w:=W) (hM.later (by rw[hW])) u.1 (GS hu)
 obtain⟨⟨u',sk⟩,hp,hpu⟩: ∃p,us[i]? =some p/\p.1=u:=by
  rw[bg]at hu;exact eI.1 hu
 dsimp only at hpu;subst hpu;have hi:i<us.length:=(aE.1 hp).1;obtain⟨g,o,rfl,c0,_⟩:=h.cells i _ hp;dsimp only at c0;have k1:=ak 0 h1;have k4:=ak 0 h4;have hi0:(0:Int)<=(i:Int):=by omega
 have hiI:(i:Int)<(us.length:Int):=by omega
 have hlk0:=fun n=>hlk (w.drewN n) rfl;have hlk1:=hlk w rfl;generalize atP5 (us.map (fun p=>p.1)) u'.1=N at*;clear hlk h hM hu hp h1 h4;go_enter func41,ntmps41;go_wp2_with fail;go_quiet (fail);have hbq:ao w (w.drewN nq):=dr (aG _ _) nq;go_wp2_with fail;go_ret;exact⟨rfl,hbq⟩
theorem GV (l:List Ru)(so:Value)(b5 i:Nat)(u:Ru)(w:World)(hZ:mJ w so (l.map (fz l)))(h5:w.heap[b5]? =ah #[so] 33)(hu:l[i]? =some u):
  Calls prog 42 #[ag (i:Int),ab b5 0] w fun r w'=>r= .returned (.bool (decide (-1∈fz l u)))/\ao w w':=by
 obtain⟨p,c,rfl,hrows⟩:=hZ;obtain⟨g,o,v,rfl,hc,hr⟩:=hrows i (fz l u) (by rw[bg,hu];rfl);have hi:i<l.length:=(aE.1 hu).1;have cC:=jo (fz l u) v (-1) w hr;obtain⟨pv,cv,rfl,_,_⟩:=hr;have k5:=ak 0 h5;rw[aZ]at k5;have hi0:(0:Int)<=(i:Int):=by omega
 have hiI:(i:Int)<(l.length:Int):=by omega
 clear hrows h5 hu;generalize decide (-1∈fz l u)=b at*;generalize (fz l u).length=nn at*;go_enter func42,ntmps42;go_wp2_with fail;refine cC.mono ?_;rintro r w1 ⟨rfl,hb⟩;clear cC;go_wp2_with fail;go_ret;exact⟨rfl,hb⟩
theorem GW (l:List Ru)(so:Value)(b5 i:Nat)(w:World)(hS:sb w so l.length (iy l))(hl:l.length<=1000)(h5:w.heap[b5]? =ah #[so] 33)(hi:i<l.length):
  Calls prog 44 #[ag (i:Int),ab b5 0] w fun r w'=>r= .returned (.bool (fol (iy l) (l.length+1) (fun _=>false) i i))/\ao w w':=by
 have cR:=ve so l.length (iy l) i w hS (by omega) hi;obtain⟨p,c,rfl,_⟩:=hS.form;have k5:=ak 0 h5;have hi0:(0:Int)<=(i:Int):=by omega
 have hiI:(i:Int)<(l.length:Int):=by omega
 generalize fol (iy l) (l.length+1) (fun _=>false) i=m at*;clear h5 hS;go_enter func44,ntmps44;go_wp2_with fail;refine cR.mono ?_;rintro r w1 ⟨g,rfl,hg,hb⟩;have km:=(aV _ _ i _ _ _ hg).trans (mA hi);clear cR hg;go_wp2_with fail;go_ret;exact⟨rfl,hb⟩
namespace Lx
def frF (p:Nat->Bool):Nat->Nat->Option Nat
 |_,0=>none
 |i,k+1=>if p i=true then some i else frF p (i+1) k
theorem sd {p:Nat->Bool}{j:Nat}(hp:p j=true): ∀(k i:Nat),i<=j->j<i+k->(∀i',i<=i'->i'<j->p i'=false)->frF p i k=some j
 |0,i,h1,h2,_=>by omega
 |k+1,i,h1,h2,h3=>by
  rw[frF];by_cases e:i=j
  ·subst e;rw[ay hp]
  ·rw[aw (by rw[h3 i (aA _) (by omega)];decide)];exact sd hp k (i+1) (by omega) (by omega) fun i' a b=>h3 i' (by omega) b
theorem mg {p:Nat->Bool}: ∀(k i:Nat),(∀i',i<=i'->i'<i+k->p i'=false)->frF p i k=none
 |0,_,_=>rfl
 |k+1,i,h=>by
  rw[frF,aw (by rw[h i (aA _) (by omega)];decide)];exact mg k (i+1) fun i' a b=>h i' (by omega) (by omega)
end Lx
def lk1 (l:List Ru)(i:Nat):Bool:=match l[i]? with|some u=>atP5 l u.1 !=(i:Int)|none=>false
def lk2 (l:List Ru)(i:Nat):Bool:=match l[i]? with|some u=>decide (-1∈fz l u)|none=>false
def lk3 (l:List Ru)(i:Nat):Bool:=fol (iy l) (l.length+1) (fun _=>false) i i
def di (l:List Ru):Int×Nat:=if(fy l).1≠0 then fy l else match frF (lk1 l) 0 l.length with
 |some i=>(7,i)
 |none=>match frF (lk2 l) 0 l.length with
  |some i=>(6,i)
  |none=>match frF (lk3 l) 0 l.length with
   |some i=>(9,i)
   |none=>(0,0)
theorem OU {l:List Ru}{i:Nat}(h0:(fy l).1=0)(hi:i<l.length)(hp:lk1 l i=true)(hall: ∀i',i'<i->lk1 l i'=false):di l=(7,i):=by
 unfold di;rw[aw (by simpa using h0),sd hp l.length 0 (by omega) (by omega) fun i' _ h=>hall i' h]
theorem OV {l:List Ru}{i:Nat}(h0:(fy l).1=0)(h1: ∀i',i'<l.length->lk1 l i'=false)(hi:i<l.length)(hp:lk2 l i=true)(hall: ∀i',i'<i->lk2 l i'=false):di l=(6,i):=by
 unfold di;rw[aw (by simpa using h0),mg l.length 0 fun i' _ h=>h1 i' (by omega),sd hp l.length 0 (by omega) (by omega) fun i' _ h=>hall i' h]
theorem OW {l:List Ru}{i:Nat}(h0:(fy l).1=0)(h1: ∀i',i'<l.length->lk1 l i'=false)(h2: ∀i',i'<l.length->lk2 l i'=false)(hi:i<l.length)(hp:lk3 l i=true)(hall: ∀i',i'<i->lk3 l i'=false):di l=(9,i):=by
 unfold di;rw[aw (by simpa using h0),mg l.length 0 fun i' _ h=>h1 i' (by omega),mg l.length 0 fun i' _ h=>h2 i' (by omega),sd hp l.length 0 (by omega) (by omega) fun i' _ h=>hall i' h]
theorem EQ {l:List Ru}(h0:(fy l).1=0)(h1: ∀i',i'<l.length->lk1 l i'=false)(h2: ∀i',i'<l.length->lk2 l i'=false)(h3: ∀i',i'<l.length->lk3 l i'=false):di l=(0,0):=by
 unfold di;rw[aw (by simpa using h0),mg l.length 0 fun i' _ h=>h1 i' (by omega),mg l.length 0 fun i' _ h=>h2 i' (by omega),mg l.length 0 fun i' _ h=>h3 i' (by omega)]
def JH (n:Nat)(p:Nat->Bool)(W0 wB:World)(t:Value)(wr:World):Prop:= ∃i:Nat,t=ag (i:Int)/\i<=n/\(∀i',i'<i->p i'=false)/\ao W0 wr/\ao wB wr
def ER (l:List Ru)(n:Nat)(W0:World)(t:Value)(wr:World):Prop:= ∃k:Nat,t=ag (k:Int)/\k<=3/\((0<k-> ∀i',i'<n->lk1 l i'=false)/\(1<k-> ∀i',i'<n->lk2 l i'=false)/\(2<k-> ∀i',i'<n->lk3 l i'=false))/\ao W0 wr
theorem zu {l:List Ru}(h:(fy l).1=0):l.length<=40/\ ∀u∈l,(nms u.2).length<=600:=by
 unfold fy at h;split at h
 ·cases h
 ·refine⟨by omega,?_⟩
  have aux: ∀(l:List Ru) (i:Nat),(ju l i).1=0-> ∀u∈l,ruleP u=0:=by
   intro l;induction l with
   |nil=>intro _ _ u hu;cases hu
   |cons x l ih=>
    intro i h u hu;rw[ju]at h;split at h
    ·rename_i hx;exact absurd h hx
    ·rename_i hx;rcases bh.1 hu with rfl|hu
     ·simpa using hx
     ·exact ih _ h u hu
  intro u hu;have hr:=aux l 0 h u hu;unfold ruleP at hr;split at hr
  ·cases hr
  ·have h1:=zp _ u.2 1 0 (aA _) hr;have h2:=tg hr;omega
theorem uw (us:List (Ru×Value))(v:Value)(w:World)(h:InR w v us):Calls prog 27 #[v] w fun r w'=>r= .returned (.agg #[ag (di (us.map (fun p=>p.1))).1,ag ((di (us.map (fun p=>p.1))).2:Int)])/\ao w w':=by
 obtain⟨l,hl⟩:=aq (us.map (fun p=>p.1));have hll:l.length=us.length:=by rw[<-hl,aZ]
 obtain⟨pv,cv,rfl⟩:=h.form;have bA:=am w (.cells #[.slice pv us.length cv] 45);have bB:=bA.alloc bA.size (.cells #[ag 0,ag 0] 47);have s1:(w.alloc (.cells #[.slice pv us.length cv] 45)).heap.size=w.heap.size+1:=by simp
 have n1:=(dB _ (.cells #[ag 0,ag 0] 47) _ (aF (aC w (.cells #[.slice pv us.length cv] 45)))).trans (aC w (.cells #[.slice pv us.length cv] 45));have n2:=aC (w.alloc (.cells #[.slice pv us.length cv] 45)) (.cells #[ag 0,ag 0] 47);rw[s1]at n2;clear s1 bA;generalize hwB:(w.alloc (.cells #[.slice pv us.length cv] 45)).alloc (.cells #[ag 0,ag 0] 47)=wB at*;have cW:=GN us _ wB (h.below bB);have k1:=ak 0 n1;rw[hl]at cW⊢;go_enter func27,ntmps27;go_wp2_with fail;refine cW.mono ?_;rintro r w1 ⟨rfl,hb1⟩;have m1:=ai hb1 n1;have m2:=ai hb1 n2;have hb1w:=au bB hb1;clear cW hb1 n1 n2 bB k1 hwB;by_cases h0:(fy l).1=0
 ·obtain⟨h40,hnm⟩:=zu h0;rw[h0];generalize (((fy l).2:Nat):Int)=at0 at*;have bC:=am w1 (.cells #[ag 0,ag at0] 47);have hb2w:=au hb1w bC;have m1':=ai bC m1;have m2':=ai bC m2;have k1:=ak 0 m1';have cN:=oD us _ _ (h.below hb2w);have m3:=aC w1 (.cells #[ag 0,ag at0] 47);clear m1 m2 bC hb1w;generalize hw2:w1.alloc (.cells #[ag 0,ag at0] 47)=w2 at*;have z0:=ak 0 m3;go_wp2_with fail;clear z0 m3;refine cN.mono ?_;rintro r w3 ⟨mb,rfl,hmb,hM,hb3⟩;have m1:=(hb3.block _ (aF m1')).trans m1';have m2:=(hb3.block _ (aF m2')).trans m2';have hb3w:=au hb2w hb3;have bD:=am w3 (.cells #[.map (some mb)] 82);have hb4w:=au hb3w bD;have hM4:iT (w3.alloc (.cells #[.map (some mb)] 82)) mb (us.map (fun p=>p.1)):=hM.later (bD.block _ (gN hM));have q1:=ai bD m1;have q2:=ai bD m2;have q4:=aC w3 (.cells #[.map (some mb)] 82)
  have cS:=xk us _ mb _ (h.below hb4w) hM4 (by omega) (fun p hp=>by
   have:=hnm p.1 (by rw[<-hl];exact dw.2 ⟨p,hp,rfl⟩);omega)
  clear cN hb3 hb3w m1 m2 m1' m2' hM hb2w k1 hw2 hmb bD;generalize hw4:w3.alloc (.cells #[.map (some mb)] 82)=w4 at*;have k1:=ak 0 q1;have k4:=ak 0 q4;go_wp2_with fail;refine cS.mono ?_;rintro r w5 ⟨so,rfl,hZ,hb5⟩;rw[hl]at hZ;obtain⟨pz,cz,hso,_⟩:=(show mJ w5 so (l.map (fz l)) from hZ)
  rw[aZ,hll]at hso;obtain⟨b4,hb4⟩:=aq w3.heap.size;have p1:=ai hb5 q1;have p2:=ai hb5 q2;have p4:=ai hb5 q4;have hM5:=hM4.later (hb5.block _ (gN hM4));have hb5w:=au hb4w hb5;have bE:=am w5 (.cells #[so] 33);have hb6w:=au hb5w bE;have x5:=aC w5 (.cells #[so] 33);have x1:=ai bE p1;have x2:=ai bE p2;have x4:=ai bE p4;have hM6:=hM5.later (bE.block _ (gN hM5));have hZ6:=mJ.below hZ bE;clear cS hb5 q1 q2 q4 hM4 hb4w hb5w p1 p2 p4 hM5 hZ bE k1 k4 hw4;generalize hw6:w5.alloc (.cells #[so] 33)=w6 at*;rw[hb4]at x4;obtain⟨b5,hb5⟩:=aq w5.heap.size;rw[hb5]at x5;have bF:=am w6 (.cells #[ag 7,.func (.func 41) #[] #[ab b4 0,ab w.heap.size 0],ag 6,.func (.func 42) #[] #[ab b5 0],ag 9,.func (.func 44) #[] #[ab b5 0]] 107);have hlo:=aC w6 (.cells #[ag 7,.func (.func 41) #[] #[ab b4 0,ab w.heap.size 0],ag 6,.func (.func 42) #[] #[ab b5 0],ag 9,.func (.func 44) #[] #[ab b5 0]] 107);have HbW:=aD (au hb6w bF);have y1:=ai bF x1;have y2:=ai bF x2;have y4:=ai bF x4;have y5:=ai bF x5;have hM7:=hM6.later (bF.block _ (gN hM6));have hZ7:=mJ.below hZ6 bF;have hin7:=h.below HbW.o;have HLL:=aD hll;have H0:=aD h0;have hmf: ∀(fn:Fn) (first cap:Array Value) (w:World),(Instr.makeFunc fn first cap).run prog w= .ok (.func fn first cap) w:=fun _ _ _ _=>rfl;subst hso;clear hb6w bF x1 x2 x4 x5 hM6 hZ6;try simp only[hb4]
  try simp only[hb5]
  go_wp2_with fail;try simp only[hb4]
  try simp only[hb5]
  generalize hW0:w6.alloc (.cells #[ag 7,.func (.func 41) #[] #[ab b4 0,ab w.heap.size 0],ag 6,.func (.func 42) #[] #[ab b5 0],ag 9,.func (.func 44) #[] #[ab b5 0]] 107)=W0 at*;clear hW0 hw6 hb4 hb5;have kl:=ak 0 y1;have g0:=ak 0 hlo;have g1:=ak 1 hlo;have g2:=ak 2 hlo;have g3:=ak 3 hlo;have g4:=ak 4 hlo;have g5:=ak 5 hlo;have hres:=y2
  have HC1:P3 (∀(i:Nat),i<us.length-> ∀W,ao W0 W->Calls prog 41 #[ag (i:Int),ab b4 0,ab w.heap.size 0] W fun r w'=>r= .returned (.bool (lk1 l i))/\ao W w'):=fun i hi W hW=>by
   obtain⟨u,hu⟩: ∃u,l[i]? =some u:=⟨l[i]'(by omega),ax _⟩
   have e:lk1 l i=(atP5 l u.1 !=(i:Int)):=(by unfold lk1;rw[hu]);rw[e];have:=GU us pv cv mb b4 w.heap.size i u W (hin7.below hW) (hM7.later (hW.block _ (gN hM7))) (ai hW y1) (ai hW y4) (by rw[hl];exact hu);rw[hl]at this;exact this
  have HC2:P3 (∀(i:Nat),i<us.length-> ∀W,ao W0 W->Calls prog 42 #[ag (i:Int),ab b5 0] W fun r w'=>r= .returned (.bool (lk2 l i))/\ao W w'):=fun i hi W hW=>by
   obtain⟨u,hu⟩: ∃u,l[i]? =some u:=⟨l[i]'(by omega),ax _⟩
   have e:lk2 l i=decide (-1∈fz l u):=(by unfold lk2;rw[hu]);rw[e];exact GV l _ b5 i u W (hZ7.below hW) (ai hW y5) hu
  have HC3:P3 ((∀i',i'<us.length->lk2 l i'=false)-> ∀(i:Nat),i<us.length-> ∀W,ao W0 W->Calls prog 44 #[ag (i:Int),ab b5 0] W fun r w'=>r= .returned (.bool (lk3 l i))/\ao W w'):=fun hno i hi W hW=>by
   refine GW l _ b5 i W (BB (hZ7.below hW) fun u hu hm=> ?_) (by omega) (ai hW y5) (by omega);obtain⟨j,hj⟩:=List.getElem?_of_mem hu;have hj':j<l.length:=(aE.1 hj).1;have:=hno j (by omega);unfold lk2 at this;rw[hj]at this;dsimp only at this;rw[a7 hm]at this;cases this
  have hI40:(us.length:Int)<=40:=(by omega);clear y1 y2 y4 y5 hM7 hZ7 hin7 hlo h hnm h40 hll h0;go_loopw [8,9,30] (fun _ _ t wr=>ER l us.length W0 t wr) (fun _ _ t _=>3-(intOf t).toNat);case atStart=>exact⟨0,rfl,by omega,⟨fun h=>absurd h (by omega),fun h=>absurd h (by omega),fun h=>absurd h (by omega)⟩,aG _ _⟩
  case round=>
   obtain⟨k,rfl,hk3,hno,hbr⟩:=hrel;match k,hk3 with
   |0,_=>
    have d0:=aj hbr g0;have d1:=aj hbr g1;have hbA:=hbr.alloc hbr.size (.cells #[ag 7,.func (.func 41) #[] #[ab b4 0,ab w.heap.size 0]] 107);have hxB:=aC wr (.cells #[ag 7,.func (.func 41) #[] #[ab b4 0,ab w.heap.size 0]] 107);have cL:=HC1.o;generalize hwB:wr.alloc (.cells #[ag 7,.func (.func 41) #[] #[ab b4 0,ab w.heap.size 0]] 107)=wB at*;have e0:=ak 0 hxB;have e1:=ak 1 hxB;have kl':=aj hbA kl;have Hno:=aD hno;clear hbr hno hxB g0 g1 g2 g3 g4 g5;go_wp2_with fail;clear d0 d1 kl' hwB;obtain⟨b8,hb8⟩:=aq wr.heap.size;simp only[hb8]at e0 e1⊢;clear hb8;go_loopw [9,36] (fun _ t wr=>JH us.length (lk1 l) W0 wB t wr) (fun _ t _=>us.length-(intOf t).toNat);case atStart=>exact⟨0,rfl,by omega,fun i' hi'=>by omega,hbA,aG _ _⟩
    case round=>
     obtain⟨i,rfl,hi,hall,hbi,hbB⟩:=hrel;have hi0:(0:Int)<=(i:Int):=(by omega);have e0':=aj hbB e0;have e1':=aj hbB e1;have Hall:=aD hall;by_cases hlt:i<us.length
     ·have hlt':(i:Int)<(us.length:Int):=(by omega);have cC:=cL i hlt wr hbi;clear hbA e0 e1 cL hall;cases hp:lk1 l i with
      |true=>
       rw[hp]at cC
       have HX:P3 (di l=(7,i)):=by
        have hall:=Hall.o;have hno:=Hno.o;have h0:=H0.o;have hlt:i<l.length:=(by rw[HLL.o];exact hlt);have hLL:=HLL.o;exact OU h0 hlt hp hall
       clear Hall Hno hp;go_wp2_with fail;refine cC.mono ?_;rintro r w2 ⟨rfl,hb2⟩;have e0'':=(hb2.cell (bT e0')).trans e0';have hbw:=au hbi hb2;have hz:=ai hbw hres;have hbF:=below_setRow ((HbW.o).trans (hbw.mono (HbW.o).size)) (show w.heap.size<=w.heap.size+1 by omega) #[ag 7,ag (i:Int)];clear cC hb2 e0' e1' hbi hbB hbw
       go_wp2_with(first
        |(refine az rfl 47 _ _ rfl _ _ rfl rfl _ _ hz (by kernel_rfl) (by simp) (by simp[Value.oneCell']) ?_))
       refine mz 2 (by kernel_rfl) (w.heap.size+1) _ _ rfl rfl (aJ _ _ _ _ _ _ hz) ?_;rw[HX.o];exact⟨rfl,hbF⟩
      |false=>
       rw[hp]at cC
       have HN:P3 (∀i',i'<i+1->lk1 l i'=false):=fun i' hi'=>by
        by_cases e:i'=i
        ·rw[e];exact hp
        ·exact Hall.o i' (by omega)
       clear Hall hp;go_wp2_with fail;refine cC.mono ?_;rintro r w2 ⟨rfl,hb2⟩;have hbw:=au hbi hb2;have hbw2:=au hbB hb2;clear cC hb2 e0' e1' hbi hbB;go_wp2_with fail;go_roundw
       case rel=>
        (repeat apply iC);refine⟨?_,rfl⟩;exact⟨i+1,by go_num,by omega,HN.o,hbw,hbw2⟩
       case measure=>simp[intOf];omega
     ·have hlt': ¬(i:Int)<(us.length:Int):=(by omega);have ei:i=us.length:=(by omega)
      have HN:P3 (ER l us.length W0 (ag 1) wr):=by
       have hno:=Hno.o;have hall:=Hall.o;rw[ei]at hall;exact⟨1,rfl,by omega,⟨fun _=>hall,fun h=>absurd h (by omega),fun h=>absurd h (by omega)⟩,hbi⟩
      clear hbA e0 e1 e0' e1' hbB Hall Hno hall cL ei hbi;go_wp2_with fail;go_roundw;case rel=>exact HN.o
      case measure=>simp[intOf]
   |1,_=>
    have d0:=aj hbr g2;have d1:=aj hbr g3;have hbA:=hbr.alloc hbr.size (.cells #[ag 6,.func (.func 42) #[] #[ab b5 0]] 107);have hxB:=aC wr (.cells #[ag 6,.func (.func 42) #[] #[ab b5 0]] 107);have cL:=HC2.o;generalize hwB:wr.alloc (.cells #[ag 6,.func (.func 42) #[] #[ab b5 0]] 107)=wB at*;have e0:=ak 0 hxB;have e1:=ak 1 hxB;have kl':=aj hbA kl;have Hno:=aD hno;clear hbr hno hxB g0 g1 g2 g3 g4 g5;go_wp2_with fail;clear d0 d1 kl' hwB;obtain⟨b8,hb8⟩:=aq wr.heap.size;simp only[hb8]at e0 e1⊢;clear hb8;go_loopw [9,36] (fun _ t wr=>JH us.length (lk2 l) W0 wB t wr) (fun _ t _=>us.length-(intOf t).toNat);case atStart=>exact⟨0,rfl,by omega,fun i' hi'=>by omega,hbA,aG _ _⟩
    case round=>
     obtain⟨i,rfl,hi,hall,hbi,hbB⟩:=hrel;have hi0:(0:Int)<=(i:Int):=(by omega);have e0':=aj hbB e0;have e1':=aj hbB e1;have Hall:=aD hall;by_cases hlt:i<us.length
     ·have hlt':(i:Int)<(us.length:Int):=(by omega);have cC:=cL i hlt wr hbi;clear hbA e0 e1 cL hall;cases hp:lk2 l i with
      |true=>
       rw[hp]at cC
       have HX:P3 (di l=(6,i)):=by
        have hall:=Hall.o;have hno:=Hno.o;have h0:=H0.o;have hlt:i<l.length:=(by rw[HLL.o];exact hlt);have hLL:=HLL.o;exact OV h0 (fun a b=>hno.1 (by omega) a (by omega)) hlt hp hall
       clear Hall Hno hp;go_wp2_with fail;refine cC.mono ?_;rintro r w2 ⟨rfl,hb2⟩;have e0'':=(hb2.cell (bT e0')).trans e0';have hbw:=au hbi hb2;have hz:=ai hbw hres;have hbF:=below_setRow ((HbW.o).trans (hbw.mono (HbW.o).size)) (show w.heap.size<=w.heap.size+1 by omega) #[ag 6,ag (i:Int)];clear cC hb2 e0' e1' hbi hbB hbw
       go_wp2_with(first
        |(refine az rfl 47 _ _ rfl _ _ rfl rfl _ _ hz (by kernel_rfl) (by simp) (by simp[Value.oneCell']) ?_))
       refine mz 2 (by kernel_rfl) (w.heap.size+1) _ _ rfl rfl (aJ _ _ _ _ _ _ hz) ?_;rw[HX.o];exact⟨rfl,hbF⟩
      |false=>
       rw[hp]at cC
       have HN:P3 (∀i',i'<i+1->lk2 l i'=false):=fun i' hi'=>by
        by_cases e:i'=i
        ·rw[e];exact hp
        ·exact Hall.o i' (by omega)
       clear Hall hp;go_wp2_with fail;refine cC.mono ?_;rintro r w2 ⟨rfl,hb2⟩;have hbw:=au hbi hb2;have hbw2:=au hbB hb2;clear cC hb2 e0' e1' hbi hbB;go_wp2_with fail;go_roundw
       case rel=>
        (repeat apply iC);refine⟨?_,rfl⟩;exact⟨i+1,by go_num,by omega,HN.o,hbw,hbw2⟩
       case measure=>simp[intOf];omega
     ·have hlt': ¬(i:Int)<(us.length:Int):=(by omega);have ei:i=us.length:=(by omega)
      have HN:P3 (ER l us.length W0 (ag 2) wr):=by
       have hno:=Hno.o;have hall:=Hall.o;rw[ei]at hall;exact⟨2,rfl,by omega,⟨fun _=>hno.1 (by omega),fun _=>hall,fun h=>absurd h (by omega)⟩,hbi⟩
      clear hbA e0 e1 e0' e1' hbB Hall Hno hall cL ei hbi;go_wp2_with fail;go_roundw;case rel=>exact HN.o
      case measure=>simp[intOf]
   |2,_=>
    have d0:=aj hbr g4;have d1:=aj hbr g5;have hbA:=hbr.alloc hbr.size (.cells #[ag 9,.func (.func 44) #[] #[ab b5 0]] 107);have hxB:=aC wr (.cells #[ag 9,.func (.func 44) #[] #[ab b5 0]] 107);have cL:=HC3.o (hno.2.1 (by omega));generalize hwB:wr.alloc (.cells #[ag 9,.func (.func 44) #[] #[ab b5 0]] 107)=wB at*;have e0:=ak 0 hxB;have e1:=ak 1 hxB;have kl':=aj hbA kl;have Hno:=aD hno;clear hbr hno hxB g0 g1 g2 g3 g4 g5;go_wp2_with fail;clear d0 d1 kl' hwB;obtain⟨b8,hb8⟩:=aq wr.heap.size;simp only[hb8]at e0 e1⊢;clear hb8;go_loopw [9,36] (fun _ t wr=>JH us.length (lk3 l) W0 wB t wr) (fun _ t _=>us.length-(intOf t).toNat);case atStart=>exact⟨0,rfl,by omega,fun i' hi'=>by omega,hbA,aG _ _⟩
    case round=>
     obtain⟨i,rfl,hi,hall,hbi,hbB⟩:=hrel;have hi0:(0:Int)<=(i:Int):=(by omega);have e0':=aj hbB e0;have e1':=aj hbB e1;have Hall:=aD hall;by_cases hlt:i<us.length
     ·have hlt':(i:Int)<(us.length:Int):=(by omega);have cC:=cL i hlt wr hbi;clear hbA e0 e1 cL hall;cases hp:lk3 l i with
      |true=>
       rw[hp]at cC
       have HX:P3 (di l=(9,i)):=by
        have hall:=Hall.o;have hno:=Hno.o;have h0:=H0.o;have hlt:i<l.length:=(by rw[HLL.o];exact hlt);have hLL:=HLL.o;exact OW h0 (fun a b=>hno.1 (by omega) a (by omega)) (fun a b=>hno.2.1 (by omega) a (by omega)) hlt hp hall
       clear Hall Hno hp;go_wp2_with fail;refine cC.mono ?_;rintro r w2 ⟨rfl,hb2⟩;have e0'':=(hb2.cell (bT e0')).trans e0';have hbw:=au hbi hb2;have hz:=ai hbw hres;have hbF:=below_setRow ((HbW.o).trans (hbw.mono (HbW.o).size)) (show w.heap.size<=w.heap.size+1 by omega) #[ag 9,ag (i:Int)];clear cC hb2 e0' e1' hbi hbB hbw
       go_wp2_with(first
        |(refine az rfl 47 _ _ rfl _ _ rfl rfl _ _ hz (by kernel_rfl) (by simp) (by simp[Value.oneCell']) ?_))
       refine mz 2 (by kernel_rfl) (w.heap.size+1) _ _ rfl rfl (aJ _ _ _ _ _ _ hz) ?_;rw[HX.o];exact⟨rfl,hbF⟩
      |false=>
       rw[hp]at cC
       have HN:P3 (∀i',i'<i+1->lk3 l i'=false):=fun i' hi'=>by
        by_cases e:i'=i
        ·rw[e];exact hp
        ·exact Hall.o i' (by omega)
       clear Hall hp;go_wp2_with fail;refine cC.mono ?_;rintro r w2 ⟨rfl,hb2⟩;have hbw:=au hbi hb2;have hbw2:=au hbB hb2;clear cC hb2 e0' e1' hbi hbB;go_wp2_with fail;go_roundw
       case rel=>
        (repeat apply iC);refine⟨?_,rfl⟩;exact⟨i+1,by go_num,by omega,HN.o,hbw,hbw2⟩
       case measure=>simp[intOf];omega
     ·have hlt': ¬(i:Int)<(us.length:Int):=(by omega);have ei:i=us.length:=(by omega)
      have HN:P3 (ER l us.length W0 (ag 3) wr):=by
       have hno:=Hno.o;have hall:=Hall.o;rw[ei]at hall;exact⟨3,rfl,by omega,⟨fun _=>hno.1 (by omega),fun _=>hno.2.1 (by omega),fun _=>hall⟩,hbi⟩
      clear hbA e0 e1 e0' e1' hbB Hall Hno hall cL ei hbi;go_wp2_with fail;go_roundw;case rel=>exact HN.o
      case measure=>simp[intOf]
   |3,_=>
    have hz:=ai hbr hres;have hbF:=below_setRow ((HbW.o).trans (hbr.mono (HbW.o).size)) (show w.heap.size<=w.heap.size+1 by omega) #[ag 0,ag 0]
    have HX:P3 (di l=(0,0)):=by
     have e:=HLL.o;exact EQ H0.o (by rw[e];exact hno.1 (by omega)) (by rw[e];exact hno.2.1 (by omega)) (by rw[e];exact hno.2.2 (by omega))
    clear hno HC1 HC2 HC3 g0 g1 g2 g3 g4 g5 hbr
    go_wp2_with(first
     |(refine az rfl 47 _ _ rfl _ _ rfl rfl _ _ hz (by kernel_rfl) (by simp) (by simp[Value.oneCell']) ?_))
    refine mz 2 (by kernel_rfl) (w.heap.size+1) _ _ rfl rfl (aJ _ _ _ _ _ _ hz) ?_;rw[HX.o];exact⟨rfl,hbF⟩
   |k+4,hk3=>exact absurd hk3 (by omega)
 ·have HX:P3 (di l=fy l):=by
   show _=_;unfold di;rw[ay h0]
  have hne:((fy l).1 !=0)=true:=(by simpa using h0);have HR:P3 (∀W,ao w W->(fun(r:Ending) (w':World)=>r= .returned (.agg #[ag (di l).1,ag ((di l).2:Int)])/\ao w w') (.returned (.agg #[ag (fy l).1,ag ((fy l).2:Int)])) W):=fun W hW=>⟨by rw[HX.o],hW⟩
  generalize (fy l).1=er at*;generalize (((fy l).2:Nat):Int)=at0 at*;have bC:=am w1 (.cells #[ag er,ag at0] 47);have hb2w:=au hb1w bC;have m2':=ai bC m2;have m3:=aC w1 (.cells #[ag er,ag at0] 47);have hbF:=below_setRow hb2w (show w.heap.size<=w.heap.size+1 by omega) #[ag er,ag at0];clear m1 m2 bC hb1w h hl hll h0;generalize hw2:w1.alloc (.cells #[ag er,ag at0] 47)=w2 at*;have z0:=ak 0 m3
  go_wp2_with(first
   |(refine aR rfl 47 _ rfl _ rfl _ _ _ _ m3 oJ rfl (by kernel_rfl) ?_)
   |(refine az rfl 47 _ _ rfl _ _ rfl rfl _ _ m2' (by kernel_rfl) (by simp) (by simp[Value.oneCell']) ?_))
  refine mz 2 (by kernel_rfl) (w.heap.size+1) _ _ rfl rfl (aJ _ _ _ _ _ _ m2') ?_;exact HR.o _ hbF
def mkL (m:Nat->Bool)(j:Nat):List Int:=((List.range j).filter m).map fun k:Nat=>(k:Int)
theorem JI (m:Nat->Bool)(j:Nat):mkL m (j+1)=if m j=true then mkL m j++[(j:Int)] else mkL m j:=by
 unfold mkL;rw[List.range_succ,List.filter_append,dh];by_cases h:m j=true
 ·simp[h]
 ·simp[h]
theorem DD (m:Nat->Bool)(j:Nat):(mkL m j).length<=j:=by
 unfold mkL;rw[aZ];have:=List.length_filter_le m (List.range j);simpa using this
def fK (l:List Ru)(r:Int):List Int:=if r<0\/(l.length:Int)<=r\/(di l).1≠0 then [] else mkL (fol (iy l) (l.length+1) (fun _=>false) r.toNat) l.length
theorem li {l:List Ru}(h:(di l).1=0):(fy l).1=0/\ ∀u∈l,-1∉fz l u:=by
 unfold di at h;split at h
 ·rename_i h0;exact absurd h h0
 ·rename_i h0;refine⟨by simpa using h0,fun u hu hm=> ?_⟩;split at h
  ·cases h
  ·split at h
   ·cases h
   ·rename_i h2;obtain⟨j,hj⟩:=List.getElem?_of_mem hu;have hj':j<l.length:=(aE.1 hj).1
    have hp:lk2 l j=true:=by
     unfold lk2;rw[hj];exact a7 hm
    have: ∀(k i:Nat),i<=j->j<i+k->frF (lk2 l) i k≠none:=by
     intro k;induction k with
     |zero=>intro i a b;omega
     |succ k ih=>
      intro i a b;rw[frF];split
      ·simp
      ·rename_i hn;have:i≠j:=fun e=>hn (by rw[e];exact hp);exact ih (i+1) (by omega) (by omega)
    exact this l.length 0 (by omega) (by omega) h2
theorem CW (ns:List Int)(n:Int):jv (ns++[n])=jv ns++[ag n]:=by simp[jv]
def JJ (ns:List Int)(w:World)(e:Ending)(w':World):Prop:= ∃v,e= .returned v/\dQ w' v ns/\ao w w'
def JK (m:Nat->Bool)(n:Nat)(_ W0:World)(q t:Value)(wr:World):Prop:= ∃j:Nat,t=ag (j:Int)/\j<=n/\wr.ownsRow W0.heap.size 3 1 q (mkL m j).length (jv (mkL m j))/\ao W0 wr
theorem GX (c0 c1:Value)(w:World):(Instr.field 47 (.agg #[c0,c1]) 0).run prog w= .ok c0 w:=by
 unfold Instr.field;simp[go_sem,asAgg]
attribute [go_sem] GX
theorem JL (us:List (Ru×Value))(v:Value)(r:Int)(w:World)(h:InR w v us):Calls prog 126 #[v,ag r] w (JJ (fK (us.map (fun p=>p.1)) r) w):=by
 obtain⟨l,hl⟩:=aq (us.map (fun p=>p.1));have hll:l.length=us.length:=by rw[<-hl,aZ]
 obtain⟨pv,cv,rfl⟩:=h.form;have hlen:=h.len;have cW:=uw us _ w h;rw[hl]at cW⊢;have HNil:P3 (∀W,ao w W->JJ [] w (.returned (af)) W):=fun W hW=>⟨_,rfl,⟨none,0,rfl,by decide,fun j n hj=>by simp at hj⟩,hW⟩
 have HLL:=aD hll;have HLe:=aD hl;clear hl hll;by_cases h1:r<0
 ·have HU:P3 (fK l r=[]):=ay (.inl h1);clear cW h;go_enter func126,ntmps126;go_wp2_with fail;go_ret;rw[HU.o];exact HNil.o _ (aG _ _)
 by_cases h2:(us.length:Int)<=r
 ·have HU:P3 (fK l r=[]):=ay (.inr (.inl (by rw[HLL.o];exact h2)));clear cW h;go_enter func126,ntmps126;go_wp2_with fail;go_ret;rw[HU.o];exact HNil.o _ (aG _ _)
 by_cases h3:(di l).1=0
 ·have HU:P3 (fK l r=mkL (fol (iy l) (l.length+1) (fun _=>false) r.toNat) l.length):=aw (by rw[HLL.o];omega);obtain⟨h0,hno⟩:=li h3;obtain⟨h40,hnm⟩:=zu h0;rw[h3]at cW;generalize (((di l).2:Nat):Int)=at0 at*;obtain⟨rn,hrn⟩: ∃rn:Nat,r=(rn:Int):=⟨r.toNat,by omega⟩
  subst hrn;have hrt:((rn:Int)).toNat=rn:=(by omega);rw[hrt]at HU;have hrl:rn<l.length:=(by rw[HLL.o];omega);have cN:=fun W (hW:ao w W)=>oD us _ W (h.below hW);obtain⟨i0,hi,hz0,hz1,hz2⟩:=iW By;have hI40:(us.length:Int)<=40:=(by rw[HLL.o]at h40;omega);have Hrl:=aD hrl;have H40:=aD h40;have Hno:=aD hno;have Hnm:=aD hnm;have HI:=aD h;clear hrl h40 hno hnm h h0 hrt h3;go_enter func126,ntmps126;go_wp2_with fail;refine cW.mono ?_;rintro e w1 ⟨rfl,hb1⟩;have d1:=cN w1 hb1;clear cW cN;go_wp2_with fail;refine d1.mono ?_;rintro e w2 ⟨mb,rfl,_,hM,hb2⟩;have hb2w:=au hb1 hb2
  have d2:=xk us _ mb w2 (HI.o.below hb2w) hM (by omega) (fun p hp=>by
   have:=Hnm.o p.1 (by rw[<-HLe.o];exact dw.2 ⟨p,hp,rfl⟩);omega)
  clear d1 hb2;go_wp2_with fail;refine d2.mono ?_;rintro e w3 ⟨so,rfl,hZ,hb3⟩;rw[HLe.o]at hZ;have hb3w:=au hb2w hb3;have d3:=ve so l.length (iy l) rn w3 (BB hZ Hno.o) (by have:=H40.o;omega) Hrl.o;obtain⟨pz,cz,hso,_⟩:=(show mJ w3 so (l.map (fz l)) from hZ)
  rw[HLL.o]at d3;rw[aZ,HLL.o]at hso;subst hso;clear d2 hb3 hM hZ;go_wp2_with fail;refine d3.mono ?_;rintro e w4 ⟨g,rfl,hg,hb4⟩;have hb4w:=au hb3w hb4;rw[HLL.o]at HU;generalize fol (iy l) (us.length+1) (fun _=>false) rn=m at*;have Hbw:=aD hb4w;have Hg:=aD hg;clear d3 hb4 hb3w hb2w hb1 hg hb4w HNil;go_wp2_with fail;go_loopw [5,6,7,29] (fun q _ _ t wr=>JK m us.length w w4 q t wr) (fun _ _ _ t _=>us.length-(intOf t).toNat);case atStart=>exact⟨0,rfl,by omega,bV _ _ _ _,aG _ _⟩
  case round=>
   obtain⟨j,rfl,hj,hown,hbr⟩:=hrel;have hj0:(0:Int)<=(j:Int):=(by omega);have hml:=DD m j;by_cases hlt:j<us.length
   ·have hlt':(j:Int)<(us.length:Int):=(by omega);have km:=(aV _ _ j _ _ _ (ai hbr Hg.o)).trans (mA hlt);have hst:=JI m j;cases hmj:m j with
    |true=>
     rw[hmj]at km;rw[ay hmj]at hst;obtain⟨pq,cq,hqf⟩:=bU hown;have bA:=am wr (.cells #[ag (j:Int)] 3);have hx4:=aC wr (.cells #[ag (j:Int)] 3);have hownA:=bp (w':=wr.alloc (.cells #[ag (j:Int)] 3)) hown fun b hb=>bA.block b (hown.lt b hb).2;have hbA:=au hbr bA;have hsz:=hbr.size;have hsA:(wr.alloc (.cells #[ag (j:Int)] 3)).heap.size=wr.heap.size+1:=(by simp);have Hst:=aD hst;subst hqf;clear hown hst hmj bA hbr;generalize mkL m j=ns at*;generalize hwA:wr.alloc (.cells #[ag (j:Int)] 3)=wA at*;go_wp2_with(at_builtin;refine iK _ rfl _ _ 24 rfl w4.heap.size 3 i0 (ag 0) 1 8 zn hi hz0 hz1 hz2 rfl (by decide) (.slice pq ns.length cq) ns.length (jv ns) rfl hownA ⟨wr.heap.size,0,none⟩ 1 1 [ag (j:Int)] rfl rfl ?c1 ?c2 ?c3 ?c4 ?c5 ?_)
     case c1=>
      intro k u' hk';match k,hk' with
      |0,hk'=>simp at hk';subst hk';exact(aV _ _ _ _ _ _ hx4).trans rfl
     case c2=>intro u hu;simp at hu;subst hu;rfl
     case c3=>unfold maxLen;omega
     case c4=>omega
     case c5=>omega
     intro v' w5 hown' hgrow _;have hlo:=hownA.lt;have hb5:ao w4 w5:=hbA.grown hgrow (by omega) (fun q hq=>(hlo q hq).1)
     have HN:P3 (JK m us.length w w4 v' (ag ((j+1:Nat):Int)) w5):=by
      refine⟨j+1,rfl,by omega,?_,hb5⟩;rw[Hst.o,CW];simpa using hown'
     clear hown' hgrow hownA hx4 hwA hbA hb5 Hst hlo km;go_wp2_with fail;go_roundw
     case rel=>first
      |exact HN.o
      |exact⟨_,_,_,_,HN.o,rfl,rfl,rfl,rfl⟩
     case measure=>simp[intOf];omega
    |false=>
     rw[hmj]at km;rw[aw (by rw[hmj];decide)]at hst;have HN:P3 (JK m us.length w w4 u5 (ag ((j+1:Nat):Int)) wr):=⟨j+1,rfl,by omega,by rw[hst];exact hown,hbr⟩
     clear hown hst hmj hbr;go_wp2_with fail;go_roundw
     case rel=>first
      |exact HN.o
      |exact⟨_,_,_,_,HN.o,rfl,rfl,rfl,rfl⟩
     case measure=>simp[intOf];omega
   ·have hlt': ¬(j:Int)<(us.length:Int):=(by omega);have ej:j=us.length:=(by omega)
    have HO:P3 (JJ (fK l (rn:Int)) w (.returned u5) wr):=by
     rw[HU.o,<-ej];exact⟨_,rfl,qh hown (by omega),(Hbw.o).trans (hbr.mono (Hbw.o).size)⟩
    clear hown hbr Hg ej hml;go_wp2_with fail;go_ret;exact HO.o
 ·have HU:P3 (fK l r=[]):=ay (.inr (.inr h3));have hne:((di l).1 !=0)=true:=(by simpa using h3);have Hn:=HNil;generalize (di l).1=er at*;generalize (((di l).2:Nat):Int)=at0 at*;clear h h3 HNil;go_enter func126,ntmps126;go_wp2_with fail;refine cW.mono ?_;rintro e w1 ⟨rfl,hb1⟩;clear cW;go_wp2_with fail;go_ret;rw[HU.o];exact Hn.o _ hb1
section
open Go.Shelf
def C4:Go.Shelf.Ren:=⟨fun|189=>189|125=>205|257=>204|128=>227|129=>166|294=>218|295=>219|296=>220|297=>221|298=>222|299=>223|216=>224|300=>225|301=>226|328=>234|329=>235|330=>236|331=>237|332=>238|215=>239|343=>245|n=>n,fun|28=>24|3=>3|46=>114|0=>0|51=>223|53=>59|4=>4|183=>276|182=>275|131=>111|5=>5|9=>9|218=>288|222=>173|228=>298|229=>296|n=>n,fun|n=>n⟩
theorem DO:Go.Proofs.Lays.n189 prog C4:={
 mixed:=by kernel_rfl
 f125:=func205.trans (congrArg some (by kernel_rfl))
 f128:=func227.trans (congrArg some (by kernel_rfl))
 f129:=func166.trans (congrArg some (by kernel_rfl))
 f189:=func189.trans (congrArg some (by kernel_rfl))
 f215:=func239.trans (congrArg some (by kernel_rfl))
 f216:=func224.trans (congrArg some (by kernel_rfl))
 f257:=func204.trans (congrArg some (by kernel_rfl))
 f294:=func218.trans (congrArg some (by kernel_rfl))
 f295:=func219.trans (congrArg some (by kernel_rfl))
 f296:=func220.trans (congrArg some (by kernel_rfl))
 f297:=func221.trans (congrArg some (by kernel_rfl))
 f298:=func222.trans (congrArg some (by kernel_rfl))
 f299:=func223.trans (congrArg some (by kernel_rfl))
 f300:=func225.trans (congrArg some (by kernel_rfl))
 f301:=func226.trans (congrArg some (by kernel_rfl))
 f328:=func234.trans (congrArg some (by kernel_rfl))
 f329:=func235.trans (congrArg some (by kernel_rfl))
 f330:=func236.trans (congrArg some (by kernel_rfl))
 f331:=func237.trans (congrArg some (by kernel_rfl))
 f332:=func238.trans (congrArg some (by kernel_rfl))
 f343:=func245.trans (congrArg some (by kernel_rfl))
 t0:=underlying0
 a0:=isAgg0
 z0:=sizeOf0
 v0:=zeroValue0
 t3:=underlying3
 a3:=isAgg3
 z3:=sizeOf3
 v3:=zeroValue3
 t4:=underlying4
 a4:=isAgg4
 z4:=sizeOf4
 v4:=zeroValue4
 t5:=underlying5
 a5:=isAgg5
 z5:=sizeOf5
 v5:=zeroValue5
 t9:=underlying9
 a9:=isAgg9
 z9:=sizeOf9
 v9:=zeroValue9
 t28:=underlying24
 a28:=isAgg24
 z28:=sizeOf24
 v28:=zeroValue24
 t46:=underlying114
 a46:=isAgg114
 z46:=sizeOf114
 v46:=zeroValue114
 t51:=underlying223
 a51:=isAgg223
 z51:=sizeOf223
 v51:=zeroValue223
 t53:=underlying59
 a53:=isAgg59
 z53:=sizeOf59
 v53:=zeroValue59
 t131:=underlying111
 a131:=isAgg111
 z131:=sizeOf111
 v131:=zeroValue111
 t182:=underlying275
 a182:=isAgg275
 z182:=sizeOf275
 v182:=zeroValue275
 t183:=underlying276
 a183:=isAgg276
 z183:=sizeOf276
 v183:=zeroValue276
 t218:=underlying288
 a218:=isAgg288
 z218:=sizeOf288
 v218:=zeroValue288
 t222:=underlying173
 a222:=isAgg173
 z222:=sizeOf173
 v222:=zeroValue173
 t228:=underlying298
 a228:=isAgg298
 z228:=sizeOf298
 v228:=zeroValue298
 t229:=underlying296
 a229:=isAgg296
 z229:=sizeOf296
 v229:=zeroValue296}
def AG:Go.Shelf.Ren:=⟨fun|20=>190|n=>n,fun|22=>24|3=>3|4=>4|0=>0|n=>n,fun|n=>n⟩
theorem zP:Go.Proofs.Lays2.n20 prog AG:={
 mixed:=by kernel_rfl
 f20:=func190.trans (congrArg some (by kernel_rfl))
 t0:=underlying0
 a0:=isAgg0
 z0:=sizeOf0
 v0:=zeroValue0
 t3:=underlying3
 a3:=isAgg3
 z3:=sizeOf3
 v3:=zeroValue3
 t4:=underlying4
 a4:=isAgg4
 z4:=sizeOf4
 v4:=zeroValue4
 t22:=underlying24
 a22:=isAgg24
 z22:=sizeOf24
 v22:=zeroValue24
 i3:=by kernel_rfl}
theorem Hp (blk off cap:Nat)(zs:List Int)(w:World)(hH:Go.Sort.Holds (Value.int .i64) w blk off zs.toArray)(hblk:blk<w.heap.size)(hsz:zs.length<4611686018427387904):
 Calls prog 189 #[.slice (some (ae blk off)) zs.length cap] w fun e w'=>e= .returned (.tuple #[])/\ ∃n os,w'=Go.Sort.grow (Go.Sort.putRow (Value.int .i64) (Go.Sort.ahead w n) blk off (zs.mergeSort fun x y=>decide (x<=y)).toArray) os:=Any.slices_Sort_int DO blk off cap zs w hH hblk hsz
theorem Hq (p:Option Addr)(cap:Nat)(w:World):Calls prog 189 #[.slice p 0 cap] w fun e w'=>e= .returned (.tuple #[])/\w'=w:=Any.slices_Sort_int_none DO p cap w
theorem BT (blk off cap:Nat)(zs:List Int)(w:World)(hH:Go.Sort.Holds (Value.int .i64) w blk off zs.toArray)(hsz:zs.length<=9223372036854775807)(hcap:zs.length<=cap):
 Calls prog 190 #[.slice (some (ae blk off)) zs.length cap] w fun e w'=>e= .returned (.slice (some (ae blk off)) (Go.Lib.compact zs).length cap)/\ ∃q,w'=Go.Sort.putRow (Value.int .i64) (Go.Sort.ahead w q) blk off (Go.Lib.compact zs++List.replicate (zs.length-(Go.Lib.compact zs).length) 0).toArray:=Any.slices_Compact_int zP blk off cap zs w hH hsz hcap
theorem BU (a:Option Addr)(cap:Nat)(w:World):Calls prog 190 #[.slice a 0 cap] w fun e w'=>e= .returned (.slice a 0 cap)/\w'=w:=Any.slices_Compact_int_empty zP a cap w
end
end Go.Proofs.YtjkilacmkbmmbaaGreatDoor
