/- Texts of the proof. -/
import Derived.Test.YtkfidffapdhbhaaGreatDoorPh35
set_option maxRecDepth 100000
set_option maxHeartbeats 8000000
namespace Go.Proofs.YtkfidffapdhbhaaGreatDoor
open Go.Proofs.Tryz Go.RowKit Lx Vx Mx Msk
section
abbrev DoF (cs:List (Cm×Value×Value)):List Value:=cs.flatMap fun q=>(doC q.1 q.2.1 q.2.2).toList
def DoB (B:Nat)(w:World)(cs:List (Cm×Value×Value)):Prop:= ∀q∈cs,Rob (fun k=>k<B) (fun u=>lu u q.1 q.2.1 q.2.2) w
theorem DoB.below {B:Nat}{w w':World}{cs:List (Cm×Value×Value)}(h:DoB B w cs)(hb:aq w w'):DoB B w' cs:=fun q hq=>(h q hq).below hb
theorem Cs {w u:World}{v:Value}{ns:List (List Int)}(h:fk w v ns)(hu: ∀q,q<w.heap.size->u.heap[q]? =w.heap[q]?):fk u v ns:=by
 obtain⟨p,c,h1,h2,h3⟩:=h;refine⟨p,c,h1,h2,fun j x hj=> ?_⟩;obtain⟨g,o,sv,e,hc,hr⟩:=h3 j x hj;exact⟨g,o,sv,e,(dY (hu g (bP hc))).trans hc,oT hr hu⟩
theorem Oj {w:World}{v:Value}{cs:List (Cm×Value×Value)}(h:kT w v cs):DoB w.heap.size w cs:=fun q hq u _ ha=>by
 obtain⟨_,_,_,_,h3⟩:=h;obtain⟨j,hj⟩:=List.getElem?_of_mem hq;have c:=(h3 j q hj).1;exact⟨Cs c.roles fun k hk=>ha k hk hk,oT c.who fun k hk=>ha k hk hk,c.text,c.name,c.cap⟩
theorem wj (w:World)(ty:TypeId)(base p:Option Addr)(n cap c:Nat)(hle:n<=cap):(Builtin.append_ #[22,22] ty #[.slice base n cap,.slice p 0 c]).run prog w= .ok (.slice base n cap) w:=by
 obtain⟨i0,hi,hz0,hz1,hz2⟩:=oq (t:=45) (z:= .agg (doC ⟨0,0,0,0,[],[],sv0,0,0,[]⟩ (af) (af))) (a:=13) (b:=152) (by kernel_rfl);have hT:prog.underlying 22=some (.slice 45):=by kernel_rfl
 cases base<;>cases p<;>simp[Builtin.append_,fT hT,sizeOf,typeInfo,hi,hle,Builtin.lenOf,Builtin.firstCells,storeCells,loadCells,loadCellsFrom]
theorem vw {ops:Array Oper}{rest:List Oper}{o:Oper}{a:Act}{w:World}{Q:Exit->Act->World->Prop}(hgd:o.guard=none)(s x:Operand)(ho:o.op= .call {callee:= .builtin .append,args:= #[s,x],argTypes:= #[22,22]})
  {B:Nat} {v xv:Value} {cs ds:List (Cm×Value×Value)} (hs:a.eval s=v) (hO:w.ownsRow B 45 13 v cs.length (DoF cs)) (hx:a.eval x=xv) (hX:kT w xv ds) (hC:DoB B w (cs++ds)) (hn:cs.length+ds.length<=100000) (hB:B<=w.heap.size)
  (h: ∀v' w',w'.ownsRow B 45 13 v' (cs++ds).length (DoF (cs++ds))->w.grownBy w' v.ownBlock->wpList prog ops Q rest (a.put o.dst v') w'):wpList prog ops Q (o::rest) a w:=by
 by_cases h0:ds=[]
 ·subst h0;obtain⟨p1,c1,e1,hn1⟩:=xU hO;obtain⟨p,c,e2,_⟩:=hX;subst e1 e2;rw[ik]at h;exact Go.Lib.wpList_append_run w hgd s x _ _ ho _ _ hs hx _ _ (wj w _ p1 p _ c1 c hn1) (h _ _ hO ⟨rfl,rfl,rfl,aB _,fun _ _ _=>rfl⟩)
 ·have rb: ∀q∈cs++ds,Rob (fun k=>some k≠v.ownBlock) (fun u=>lu u q.1 q.2.1 q.2.2) w:=fun q hq=>(hC q hq).move (aB _) (fun _ _ _=>rfl) fun k _ hk e=>by have:=(hO.lt k e.symm).1;omega
  exact uf hgd s x ho hs ⟨hO,fun q hq=>rb q (fK _ hq)⟩ hx hX (List.length_pos_iff.2 h0) (fun q hq=>rb q (eB _ hq)) hn hB fun v' w' h1 _ h3=>h v' w' h1.1 h3
theorem Dg (W:World):(Instr.buildSlice 22 0 #[]).run prog W= .ok (.slice (some (ae W.heap.size 0)) 0 0) (W.alloc (.cells #[] 45)):=by kernel_rfl
theorem ye {o:Oper}{a:Act}{w:World}{K:Act->World->Prop}{Q:Exit->Act->World->Prop}(ho:o.op= .buildSlice 22 0 #[])(h:K (a.put o.dst (.slice (some (ae w.heap.size 0)) 0 0)) (w.alloc (.cells #[] 45))):Oper.wp prog o a w K Q:=by
 unfold Oper.wp execOp;have hb:=Dg w;simp only[ho,iB,ff,ju,jU,gF,hb];exact h
abbrev dZ:Array Value:= #[af,af,af,af]
def VJ (l:List (Nat×Nat×Value))(M:Nat->Bool)(φ:Nat->Value):Prop:= ∀x∈l,M x.1=true->φ x.2.1=x.2.2
def pyL (i t v:Nat)(rv ev sv av asv:Value)(rn:Int):List (Nat×Nat×Value):=[(i+2,t+3+i,.tuple #[.agg #[rv,ev,sv,av],asv,ag rn,ag 0]),(i+3,t,.tuple #[.agg #[rv,ev,sv,av],asv,ag rn,ag 0]),(i+4,t+4+i,.agg #[rv,ev,sv,av]),(i+5,t+5+i,asv),(i+6,t+6+i,ag rn),(i+7,t+7+i,ag 0),(i+10,v+1,asv),(i+11,v+2,ag rn),(i+12,v+3,ag 0)]
def PyB (B i t v:Nat)(l:List Cm)(rv ev sv av asv:Value)(rn:Int)(ss:List (Sv×Value))(aa:List (Ap×Value))(ls:List (An×Value×Value))(M:Nat->Bool)(φ:Nat->Value)(W:World):Prop:=rn=(playP dk0 l).2.runs/\VJ (pyL i t v rv ev sv av asv rn) M φ/\Rob (fun k=>M (i+8)=true->φ v≠ab k 0) (fun u=>rE B u (playP dk0 l) rv ev sv av asv ss aa ls) W/\(M (i+9)=true-> ∃g,φ v=ab g 0/\B<=g/\W.heap[g]? =ah #[rv,ev,sv,av] 29)
def PyR (B i t v:Nat)(l:List Cm)(M:Nat->Bool)(φ:Nat->Value)(W:World):Prop:= ∃(rv ev sv av asv:Value) (rn:Int) (ss:List (Sv×Value)) (aa:List (Ap×Value)) (ls:List (An×Value×Value)),PyB B i t v l rv ev sv av asv rn ss aa ls M φ W
structure PyJ (w0:World)(i t v:Nat)(cs ds:List (Cm×Value×Value))(M:Nat->Bool)(φ:Nat->Value)(W:World):Prop where
 bel:aq w0 W
 cl: ∀x,i+2<x->x≠i+8->M x=true->M (i+2)=true
 cl2:M (i+2)=true->M (i+1)=true
 cl3:M (i+1)=true->M 2=true/\M i=true
 e0:M 0=true->M 2=false-> ∃g,φ (t+1)= .slice (some (ae g 0)) 0 0/\w0.heap.size<=g/\W.heap[g]? =ah #[] 45
 e2:M 2=true->M (i+1)=false->W.ownsRow w0.heap.size 45 13 (φ (t+3)) cs.length (DoF cs)
 e7:M i=true->M (i+1)=false-> ∃g,φ (t+1+i)= .slice (some (ae g 0)) ds.length ds.length/\W.heap[g]? =ah (DoF ds).toArray 45
 e8:M (i+1)=true->M (i+2)=false->W.ownsRow w0.heap.size 45 13 (φ (t+2+i)) (cs++ds).length (DoF (cs++ds))
 ea:M (i+8)=true->M (i+9)=false-> ∃g,φ v=ab g 0/\w0.heap.size<=g/\W.heap[g]? =ah dZ 29
 e9:M (i+2)=true->PyR w0.heap.size i t v ((cs++ds).map fun q=>q.1) M φ W
section
variable {w0 W W':World} {i t v:Nat} {cs ds:List (Cm×Value×Value)} {M:Nat->Bool} {φ:Nat->Value} {l:List Cm} {B:Nat} {rv ev sv av asv:Value} {rn:Int} {ss:List (Sv×Value)} {aa:List (Ap×Value)} {ls:List (An×Value×Value)} {k s p:Nat} {u:Value}
theorem PyR.below (h:PyR B i t v l M φ W)(hb:aq W W'):PyR B i t v l M φ W':=by
 obtain⟨rv,ev,sv,av,asv,rn,ss,aa,ls,h0,h1,h2,h3⟩:=h;refine⟨rv,ev,sv,av,asv,rn,ss,aa,ls,h0,h1,h2.below hb,fun c=> ?_⟩;obtain⟨g,e,h4,hg⟩:=h3 c;exact⟨g,e,h4,bt hb hg⟩
theorem PyJ.below (h:PyJ w0 i t v cs ds M φ W)(hb:aq W W'):PyJ w0 i t v cs ds M φ W' where
 bel:=aw h.bel hb
 cl:=h.cl
 cl2:=h.cl2
 cl3:=h.cl3
 e0 c d:=by obtain⟨g,e,h1,h2⟩:=h.e0 c d;exact⟨g,e,h1,bt hb h2⟩
 e2 c d:=br (h.e2 c d) fun b hq=>hb.block b ((h.e2 c d).lt b hq).2
 e7 c d:=by obtain⟨g,e,h2⟩:=h.e7 c d;exact⟨g,e,bt hb h2⟩
 e8 c d:=br (h.e8 c d) fun b hq=>hb.block b ((h.e8 c d).lt b hq).2
 ea c d:=by obtain⟨g,e,h1,h2⟩:=h.ea c d;exact⟨g,e,h1,bt hb h2⟩
 e9 c:=(h.e9 c).below hb
theorem PyJ.start (h:aq w0 W):PyJ w0 i t v cs ds (fun _=>false) φ W:=⟨h,fun _ _ _ h=>h,fun h=>h,(fun h=>by cases h),(fun h=>by cases h),(fun h=>by cases h),(fun h=>by cases h),(fun h=>by cases h),(fun h=>by cases h),fun h=>by cases h⟩
theorem orF {a:Nat}(h:(decide (k=a)||M a)=false):M a=false:=((Bool.or_eq_false_iff).1 h).2
theorem orT {a:Nat}(h:M a=true):(decide (k=a)||M a)=true:=by rw[h,Bool.or_true]
theorem VJ.at_ {L:List (Nat×Nat×Value)}(hd:(L.map fun x=>x.1).Nodup)(hs:(L.map fun x=>x.2.1).Nodup)(hp:L[p]? =some (k,s,u))(h:VJ L M φ):VJ L (fun x=>decide (k=x)||M x) (jj φ (some s) u):=fun x hx c=>by
 dsimp only at c;obtain⟨q,hq⟩:=List.getElem?_of_mem hx
 have nd: ∀f:Nat×Nat×Value->Nat,(L.map f).Nodup->f (k,s,u)=f x->q=p:=fun f hf e=>by
  have l1:=(aF.1 hq).1;exact(List.getElem?_inj (by simpa using l1) hf).1 (by rw[bg,bg,hq,hp];exact congrArg some e.symm)
 by_cases e:q=p
 ·subst e;rw[hp]at hq;cases hq;exact dD
 ·have n1:k≠x.1:=fun g=>e (nd (fun x=>x.1) hd g);have n2:s≠x.2.1:=fun g=>e (nd (fun x=>x.2.1) hs g);rw[cQ n2];exact h x hx (by rwa[orZ n1]at c)
theorem PyJ.next (h:PyJ w0 i t v cs ds M φ W)(hb:aq W W')(hk:k≠2/\k≠i+1/\k≠i+9)(hc:i+2<k/\k≠i+8->M (i+2)=true)(hc2:k=i+2->M (i+1)=true)
  (hs:s≠t+3/\s≠t+2+i/\(k=0↔s=t+1)/\(k=i↔s=t+1+i)/\(k=i+8↔s=v))
  (n0:k=0-> ∃g,u= .slice (some (ae g 0)) 0 0/\w0.heap.size<=g/\W'.heap[g]? =ah #[] 45)
  (n7:k=i-> ∃g,u= .slice (some (ae g 0)) ds.length ds.length/\W'.heap[g]? =ah (DoF ds).toArray 45)
  (na:k=i+8-> ∃g,u=ab g 0/\w0.heap.size<=g/\W'.heap[g]? =ah dZ 29)
  (n9:k=i+2\/M (i+2)=true->PyR w0.heap.size i t v ((cs++ds).map fun q=>q.1) (fun x=>decide (k=x)||M x) (jj φ (some s) u) W'):PyJ w0 i t v cs ds (fun x=>decide (k=x)||M x) (jj φ (some s) u) W' where
 bel:=(h.below hb).bel
 cl x h1 h2 c:=by
  by_cases e:k=x
  ·subst e;exact orT (hc ⟨h1,h2⟩)
  ·rw[orZ e]at c;exact orT (h.cl x h1 h2 c)
 cl2 c:=by
  by_cases e:k=i+2
  ·exact orT (hc2 e)
  ·rw[orZ e]at c;exact orT (h.cl2 c)
 cl3 c:=by
  rw[orZ hk.2.1]at c;exact⟨orT (h.cl3 c).1,orT (h.cl3 c).2⟩
 e0 c d:=by
  by_cases e:k=0
  ·rw[hs.2.2.1.1 e,dD];exact n0 e
  ·rw[orZ e]at c;rw[cQ fun g=>e (hs.2.2.1.2 g)];exact(h.below hb).e0 c (orF d)
 e2 c d:=by
  rw[orZ hk.1]at c;rw[cQ hs.1];exact(h.below hb).e2 c (orF d)
 e7 c d:=by
  by_cases e:k=i
  ·rw[hs.2.2.2.1.1 e,dD];exact n7 e
  ·rw[orZ e]at c;rw[cQ fun g=>e (hs.2.2.2.1.2 g)];exact(h.below hb).e7 c (orF d)
 e8 c d:=by
  rw[orZ hk.2.1]at c;rw[cQ hs.2.1];exact(h.below hb).e8 c (orF d)
 ea c d:=by
  by_cases e:k=i+8
  ·rw[hs.2.2.2.2.1 e,dD];exact na e
  ·rw[orZ e]at c;rw[cQ fun g=>e (hs.2.2.2.2.2 g)];exact(h.below hb).ea c (orF d)
 e9 c:=n9 (by
  by_cases e:k=i+2
  ·exact .inl e
  ·exact .inr (by rwa[orZ e]at c))
theorem PyJ.d0 (h:PyJ w0 i t v cs ds M φ W)(hv:3<=i/\v+3<t)(h2:M 2=false):PyJ w0 i t v cs ds (fun x=>decide (0=x)||M x) (jj φ (some (t+1)) (.slice (some (ae W.heap.size 0)) 0 0)) (W.alloc (.cells #[] 45)):=
 h.next (am _ _) (by omega) (by omega) (by omega) (by omega) (fun _=>⟨_,rfl,h.bel.size,aE _ _⟩) (by omega) (by omega) fun c=>by
  rcases c with c|c
  ·omega
  ·rw[(h.cl3 (h.cl2 c)).1]at h2;cases h2
theorem PyJ.d7 (h:PyJ w0 i t v cs ds M φ W)(hv:3<=i/\v+3<t)(h2:M (i+1)=false):PyJ w0 i t v cs ds (fun x=>decide (i=x)||M x) (jj φ (some (t+1+i)) (.slice (some (ae W.heap.size 0)) ds.length ds.length)) (W.alloc (.cells (DoF ds).toArray 45)):=
 h.next (am _ _) (by omega) (by omega) (by omega) (by omega) (by omega) (fun _=>⟨_,rfl,aE _ _⟩) (by omega) fun c=>by
  rcases c with c|c
  ·omega
  ·rw[h.cl2 c]at h2;cases h2
theorem PyJ.da (h:PyJ w0 i t v cs ds M φ W)(hv:3<=i/\v+3<t)(hm2:M (i+9)=false):PyJ w0 i t v cs ds (fun x=>decide (i+8=x)||M x) (jj φ (some v) (ab W.heap.size 0)) (W.alloc (.cells dZ 29)):=by
 have hb:=am W (.cells dZ 29);refine h.next hb (by omega) (by omega) (by omega) (by omega) (by omega) (by omega) (fun _=>⟨_,rfl,h.bel.size,aE _ _⟩) fun c=> ?_;obtain⟨rv,ev,sv,av,asv,rn,ss,aa,ls,h0,h1,h2,h3⟩:=h.e9 (c.resolve_left (by omega));refine⟨rv,ev,sv,av,asv,rn,ss,aa,ls,h0,fun x hx c=> ?_,?_,fun c=> ?_⟩
 ·have n1:i+8≠x.1/\v≠x.2.1:=by
   simp only[pyL,bz,List.not_mem_nil,or_false]at hx;rcases hx with rfl|rfl|rfl|rfl|rfl|rfl|rfl|rfl|rfl<;>exact⟨by dsimp only;omega,by dsimp only;omega⟩
  rw[cQ n1.2];dsimp only at c;exact h1 x hx (by rwa[orZ n1.1]at c)
 ·refine h2.move hb.size (fun q _ hl=>hb.block q hl) fun q hl _ _ e=> ?_;rw[dD]at e;injection e with e;injection e with e;injection e with e;omega
 ·dsimp only at c;rw[orZ (by omega),hm2]at c;cases c
theorem PyB.val (h:PyB B i t v l rv ev sv av asv rn ss aa ls M φ W)(hv:3<=i/\v+3<t)(hp:(pyL i t v rv ev sv av asv rn)[p]? =some (k,s,u)):PyB B i t v l rv ev sv av asv rn ss aa ls (fun x=>decide (k=x)||M x) (jj φ (some s) u) W:=by
 obtain⟨h0,h1,h2,h3⟩:=h
 have n1:k≠i+8/\k≠i+9/\s≠v:=by
  have hx:=aM hp;simp only[pyL,bz,List.not_mem_nil,or_false,Prod.mk.injEq]at hx;omega
 refine⟨h0,h1.at_ (by simp[pyL,List.nodup_cons]) (by simp[pyL,List.nodup_cons];omega) hp,h2.move (aB _) (fun _ _ _=>rfl) fun q _ hq c=> ?_,fun c=> ?_⟩
 ·dsimp only at c;rw[orZ n1.1]at c;rw[cQ n1.2.2];exact hq c
 ·dsimp only at c;rw[orZ n1.2.1]at c;rw[cQ n1.2.2];exact h3 c
theorem PyJ.val (h:PyJ w0 i t v cs ds M φ W)(h9:M (i+2)=true)(hP:PyB w0.heap.size i t v ((cs++ds).map fun q=>q.1) rv ev sv av asv rn ss aa ls M φ W)(hv:3<=i/\v+3<t)(hk:k≠i+2)(hp:(pyL i t v rv ev sv av asv rn)[p]? =some (k,s,u)):PyJ w0 i t v cs ds (fun x=>decide (k=x)||M x) (jj φ (some s) u) W:=by
 have hx:=aM hp;simp only[pyL,bz,List.not_mem_nil,or_false,Prod.mk.injEq]at hx;exact h.next (aI _ _) (by omega) (fun _=>h9) (by omega) (by omega) (by omega) (by omega) (by omega) fun _=>⟨rv,ev,sv,av,asv,rn,ss,aa,ls,hP.val hv hp⟩
theorem Ct {a b:Bool}(h:a=true->b=true)(hb:b=false):a=false:=by
 cases a with
 |false=>rfl
 |true=>rw[h rfl]at hb;cases hb
theorem tf {a:Bool}{p:Prop}(h:a=true)(h2:a=false):p:=by rw[h]at h2;cases h2
theorem PyJ.d2 (h:PyJ w0 i t v cs ds M φ W)(hv:3<=i/\v+3<t)(hds:0<ds.length)(h0:M 0=true)(hm:M 2=false)(hz:M (i+1)=false)(hO:W'.ownsRow w0.heap.size 45 13 u cs.length (DoF cs))(hg:W.grownBy W' (φ (t+1)).ownBlock):PyJ w0 i t v cs ds (fun x=>decide (2=x)||M x) (jj φ (some (t+3)) u) W':=by
 obtain⟨g0,e0,hB,hg0⟩:=h.e0 h0 hm;rw[e0]at hg;have hz2:=Ct h.cl2 hz;have kp: ∀g o,W.heap[g]? =some o->g≠g0->W'.heap[g]? =some o:=fun g o h1 h2=>(hg.block g (aH h1) fun e=>h2 (aN e)).trans h1
 exact {
  bel:=h.bel.grown hg h.bel.size fun k hk=>by cases hk;exact hB
  cl:=fun x h1 h2 c=>by rw[orZ (by omega)]at c;exact orT (h.cl x h1 h2 c)
  cl2:=fun c=>by rw[orZ (by omega)]at c;exact tf c hz2
  cl3:=fun c=>by rw[orZ (by omega)]at c;exact tf c hz
  e0:=fun _ d=>by simp at d
  e2:=fun _ _=>by rw[dD];exact hO
  e7:=fun c _=>by
   rw[orZ (by omega)]at c;rw[cQ (by omega)];obtain⟨g,e,h7⟩:=h.e7 c hz;refine⟨g,e,kp _ _ h7 fun q=> ?_⟩;subst q;rw[hg0]at h7;injection h7 with h7;injection h7 with h7;have:0=(DoF ds).length:=(by simpa using congrArg Array.size h7);rw[show(DoF ds).length=ds.length*13 from rY ds]at this;omega
  e8:=fun c _=>by rw[orZ (by omega)]at c;exact tf c hz
  ea:=fun c d=>by
   rw[orZ (by omega)]at c d;rw[cQ (by omega)];obtain⟨g,e,h1,h2⟩:=h.ea c d;refine⟨g,e,h1,kp _ _ h2 fun q=> ?_⟩;subst q;rw[hg0]at h2;injection h2 with h2;injection h2 with _ h2 _;exact absurd h2 (by decide)
  e9:=fun c=>by rw[orZ (by omega)]at c;exact tf c hz2}
theorem PyJ.d8 (h:PyJ w0 i t v cs ds M φ W)(hv:3<=i/\v+3<t)(h2:M 2=true)(h7:M i=true)(hm:M (i+1)=false)(hO:W'.ownsRow w0.heap.size 45 13 u (cs++ds).length (DoF (cs++ds)))(hg:W.grownBy W' (φ (t+3)).ownBlock):PyJ w0 i t v cs ds (fun x=>decide (i+1=x)||M x) (jj φ (some (t+2+i)) u) W':=by
 have hz2:=Ct h.cl2 hm;have hown:=h.e2 h2 hm
 exact {
  bel:=h.bel.grown hg h.bel.size fun k hk=>(hown.lt k hk).1
  cl:=fun x h1 h2 c=>by rw[orZ (by omega)]at c;exact orT (h.cl x h1 h2 c)
  cl2:=fun c=>by rw[orZ (by omega)]at c;exact tf c hz2
  cl3:=fun _=>⟨orT h2,orT h7⟩
  e0:=fun _ d=>tf h2 (orF d)
  e2:=fun _ d=>by simp at d
  e7:=fun _ d=>by simp at d
  e8:=fun _ _=>by rw[dD];exact hO
  ea:=fun c d=>by
   rw[orZ (by omega)]at c d;rw[cQ (by omega)];obtain⟨g,e,h1,h2⟩:=h.ea c d;exact⟨g,e,h1,(hg.block g (aH h2) (kj hown h2 (by decide))).trans h2⟩
  e9:=fun c=>by rw[orZ (by omega)]at c;exact tf c hz2}
theorem PyJ.d9 (h:PyJ w0 i t v cs ds M φ W)(hv:3<=i/\v+3<t)(h8:M (i+1)=true)(hm:M (i+2)=false){ys:List Nat}(hys: ∀q,M (i+8)=true->φ v=ab q 0->q∈ys)(hl:(cs++ds).length<=60){e:Ending}(hP:FE w0.heap.size ys ((cs++ds).map fun q=>q.1) W e W'): ∃u,e= .returned u/\PyJ w0 i t v cs ds (fun x=>decide (i+2=x)||M x) (jj φ (some (t+3+i)) u) W':=by
 obtain⟨hb,⟨h1,_⟩|⟨_,rv,ev,sv,av,asv,ss,aa,ls,rfl,hR⟩⟩:=hP
 ·rw[ba]at h1;omega
 refine⟨_,rfl,h.next hb (by omega) (by omega) (fun _=>h8) (by omega) (by omega) (by omega) (by omega) fun _=>⟨rv,ev,sv,av,asv,_,ss,aa,ls,rfl,fun x hx c=> ?_,?_,fun c=> ?_⟩⟩
 ·dsimp only at c;have hn:i+2<x.1->x.1≠i+8->False:=fun h1 h2=>tf (h.cl _ h1 h2 (by rwa[orZ (by omega)]at c)) hm;simp only[pyL,bz,List.not_mem_nil,or_false]at hx;rcases hx with rfl|rfl|rfl|rfl|rfl|rfl|rfl|rfl|rfl
  ·exact dD
  all_goals exact(hn (by dsimp only;omega) (by dsimp only;omega)).elim
 ·refine hR.move (aB _) (fun _ _ _=>rfl) fun q _ hq c e=>hq (hys q ?_ ?_)
  ·dsimp only at c;rwa[orZ (by omega)]at c
  ·rwa[cQ (by omega)]at e
 ·dsimp only at c;rw[orZ (by omega)]at c;exact tf (h.cl _ (by omega) (by omega) c) hm
theorem rE.one {p:List An×Dk}(h:rE B W p rv ev sv av asv ss aa ls):(#[rv,ev,sv,av]:Array Value).all (·.oneCell')=true:=by
 obtain⟨us,h1,_⟩:=h.rules;obtain⟨_,_,rfl⟩:=h1.form;obtain⟨_,_,rfl⟩:=di h.res;obtain⟨_,_,rfl⟩:=di h.svs;obtain⟨_,_,rfl⟩:=di h.aps;simp[Value.oneCell']
theorem PyJ.d16 (h:PyJ w0 i t v cs ds M φ W)(h9:M (i+2)=true)(h4:M (i+4)=true)(ha:M (i+8)=true)(hm:M (i+9)=false): ∃(c:Array Value) (g:Nat),φ v=ab g 0/\φ (t+4+i)= .agg c/\c.all (·.oneCell')=true/\c.size=4/\W.heap[g]? =ah dZ 29/\PyJ w0 i t v cs ds (fun x=>decide (i+9=x)||M x) φ (W.setRow g c):=by
 obtain⟨rv,ev,sv,av,asv,rn,ss,aa,ls,h0,hV,hR,_⟩:=h.e9 h9;obtain⟨g,e,hB,hg⟩:=h.ea ha hm;have h8:=h.cl2 h9
 refine⟨_,g,e,hV (i+4,t+4+i,.agg #[rv,ev,sv,av]) (by simp[pyL]) h4,hR.here.one,rfl,hg,{
  bel:=below_setRow h.bel hB _
  cl:=fun x h1 h2 _=>orT h9
  cl2:=fun _=>orT h8
  cl3:=fun _=>⟨orT (h.cl3 h8).1,orT (h.cl3 h8).2⟩
  e0:=fun _ d=>tf (h.cl3 h8).1 (orF d)
  e2:=fun _ d=>tf h8 (orF d)
  e7:=fun _ d=>tf h8 (orF d)
  e8:=fun _ d=>tf h9 (orF d)
  ea:=fun _ d=>by simp at d
  e9:=fun _=>⟨rv,ev,sv,av,asv,rn,ss,aa,ls,h0,fun x hx c=>hV x hx ?_,?_,fun _=>⟨g,e,hB,aL _ _ _ _ _ _ hg⟩⟩}⟩
 ·dsimp only at c;rw[orZ ?_]at c
  ·exact c
  simp only[pyL,bz,List.not_mem_nil,or_false]at hx;rcases hx with rfl|rfl|rfl|rfl|rfl|rfl|rfl|rfl|rfl<;>(dsimp only;omega)
 ·refine hR.move (by simp) (fun q hq _=>aV _ _ _ _ fun c=>hq ha (by rw[e,c])) fun q _ hq c=>hq ?_;dsimp only at c;rwa[orZ (by omega)]at c
theorem PyJ.fin (h:PyJ w0 i t v cs ds M φ W)(hM: ∀k,i+2<=k->k<=i+12->M k=true): ∃(rv ev sv av asv:Value) (ss:List (Sv×Value)) (aa:List (Ap×Value)) (ls:List (An×Value×Value)) (g:Nat),φ v=ab g 0/\φ (v+1)=asv/\φ (v+2)=ag (playP dk0 ((cs++ds).map fun q=>q.1)).2.runs/\φ (v+3)=ag 0/\aq w0 W/\W.heap[g]? =ah #[rv,ev,sv,av] 29/\Rob (fun k=>k≠g) (fun u=>rE w0.heap.size u (playP dk0 ((cs++ds).map fun q=>q.1)) rv ev sv av asv ss aa ls) W:=by
 obtain⟨rv,ev,sv,av,asv,rn,ss,aa,ls,rfl,hV,hR,hD⟩:=h.e9 (hM _ (by omega) (by omega));obtain⟨g,e,_,hg⟩:=hD (hM _ (by omega) (by omega));exact⟨rv,ev,sv,av,asv,ss,aa,ls,g,e,hV (i+10,v+1,asv) (by simp[pyL]) (hM _ (by omega) (by omega)),hV (i+11,v+2,_) (by simp[pyL]) (hM _ (by omega) (by omega)),hV (i+12,v+3,_) (by simp[pyL]) (hM _ (by omega) (by omega)),h.bel,hg,hR.move (aB _) (fun _ _ _=>rfl) fun q _ hq c=>hq (hM _ (by omega) (by omega)) (by rw[e,c])⟩
structure PyC (w0:World)(cs ds:List (Cm×Value×Value))(lv:Value):Prop where
 row:kT w0 lv cs
 dob:DoB w0.heap.size w0 (cs++ds)
 len:(cs++ds).length<=60
 pos:0<ds.length
 tb:Tbs w0.heap.size w0
theorem PyB.get (h:PyB B i t v l rv ev sv av asv rn ss aa ls M φ W)(p:Nat)(hp:(pyL i t v rv ev sv av asv rn)[p]? =some (k,s,u))(hk:M k=true):φ s=u:=h.2.1 _ (aM hp) hk
variable {lv:Value} {o:Oper} {F:Act} {K:Act->World->Prop} {X:Exit->Act->World->Prop} {sO xO:Operand}
theorem PyJ.op2 (h:PyJ w0 i t v cs ds M φ W)(c:PyC w0 cs ds lv)(hv:3<=i/\v+3<t)(h0:M 0=true)(hm:M 2=false)(hz:M (i+1)=false)(hgd:o.guard=none)(ho:o.op= .call {callee:= .builtin .append,args:= #[sO,xO],argTypes:= #[22,22]})(hs:F.eval sO=φ (t+1))(hx:F.eval xO=lv)
  (hK: ∀u W',PyJ w0 i t v cs ds (fun x=>decide (2=x)||M x) (jj φ (some (t+3)) u) W'->K (F.put o.dst u) W'):Oper.wp prog o F W K X:=by
 obtain⟨g,e,hB,hg⟩:=h.e0 h0 hm;have hl:=c.len;rw[aP]at hl;have hO:W.ownsRow w0.heap.size 45 13 (φ (t+1)) ([]:List (Cm×Value×Value)).length (DoF []):=by rw[e];exact qX (n:=0) hg hB rfl (dM _)
 exact iP (ops:= #[]) hgd (vw hgd sO xO ho hs hO hx (c.row.below h.bel) (fun q hq=>(c.dob q (fK _ hq)).below h.bel) (by simp;omega) h.bel.size fun u W' h1 h2=>⟨rfl,hK u W' (h.d2 hv c.pos h0 hm hz h1 h2)⟩)
theorem PyJ.op8 (h:PyJ w0 i t v cs ds M φ W)(c:PyC w0 cs ds lv)(hv:3<=i/\v+3<t)(h2:M 2=true)(h7:M i=true)(hm:M (i+1)=false)(hgd:o.guard=none)(ho:o.op= .call {callee:= .builtin .append,args:= #[sO,xO],argTypes:= #[22,22]})(hs:F.eval sO=φ (t+3))(hx:F.eval xO=φ (t+1+i))
  (hK: ∀u W',PyJ w0 i t v cs ds (fun x=>decide (i+1=x)||M x) (jj φ (some (t+2+i)) u) W'->K (F.put o.dst u) W'):Oper.wp prog o F W K X:=by
 obtain⟨g,e,hg⟩:=h.e7 h7 hm;have hl:=c.len;rw[aP]at hl;have hd:=c.dob.below h.bel;have hX:kT W (φ (t+1+i)) ds:=uV (B:=0) (by rw[e];exact qX (n:=ds.length) hg (dM _) (by rw[List.size_toArray];exact rY ds) (by unfold maxLen;omega)) (fun q hq=>(hd q (eB _ hq)).here) (by omega);exact iP (ops:= #[]) hgd (vw hgd sO xO ho hs (h.e2 h2 hm) hx hX hd (by omega) h.bel.size fun u W' h1 h3=>⟨rfl,hK u W' (h.d8 hv h2 h7 hm h1 h3)⟩)
theorem PyJ.play (h:PyJ w0 i t v cs ds M φ W)(c:PyC w0 cs ds lv)(hv:3<=i/\v+3<t)(h8:M (i+1)=true)(hm:M (i+2)=false):Calls prog 7 #[φ (t+2+i)] W fun e W'=> ∃u,e= .returned u/\PyJ w0 i t v cs ds (fun x=>decide (i+2=x)||M x) (jj φ (some (t+3+i)) u) W':=by
 have hd:=c.dob.below h.bel;have hl:=c.len
 have H: ∀ys:List Nat,(∀q∈ys,w0.heap.size<=q/\ ∃c T f,W.heap[q]? =some (.cells c T f)/\ ¬(T=142\/T=179\/T=89))->(∀q,M (i+8)=true->φ v=ab q 0->q∈ys)->Calls prog 7 #[φ (t+2+i)] W fun e W'=> ∃u,e= .returned u/\PyJ w0 i t v cs ds (fun x=>decide (i+2=x)||M x) (jj φ (some (t+3+i)) u) W':=fun ys h1 h2=>
  (Cp w0.heap.size ys (cs++ds) _ W h.bel.size (uV (h.e8 h8 hm) (fun q hq=>(hd q hq).here) (by omega)) (fun W' hW=>c.tb W' (h.bel.trans hW)) (fun q _=>Cr q.1) (fun q hq=>(hd q hq).imp fun u hu=>hu.who) h1).mono fun e W' hP=>h.d9 hv h8 hm h2 hl hP
 cases ha:M (i+8) with
 |false=>exact H [] (fun q hq=>absurd hq List.not_mem_nil) fun q c=>tf c ha
 |true=>
  obtain⟨g,e,hB,hg⟩:=h.ea ha (Ct (h.cl (i+9) (by omega) (by omega)) hm);refine H [g] (fun q hq=> ?_) fun q _ e2=> ?_
  ·rw[bT.1 hq];exact⟨hB,_,_,_,hg,by decide⟩
  ·rw[e]at e2;injection e2 with e2;injection e2 with e2;injection e2 with e2;exact bT.2 e2.symm
theorem PyJ.d7' (h:PyJ w0 i t v cs ds M φ W)(hv:3<=i/\v+3<t)(h2:M (i+1)=false){c:Array Value}{n:Nat}(hc:c=(DoF ds).toArray)(hn:n=ds.length):PyJ w0 i t v cs ds (fun x=>decide (i=x)||M x) (jj φ (some (t+1+i)) (.slice (some (ae W.heap.size 0)) n n)) (W.alloc (.cells c 45)):=by
 subst hc hn;exact h.d7 hv h2
end
end
structure AW (S:List Sv)(a:Ap):Prop where
 lo:0<=a.fr
 hi:a.to<=1440
 fr:a.fr=a.min-a.bef
 to:a.to=a.min+a.len+a.aft
 meas:1<=a.len/\0<=a.bef/\0<=a.aft
 sv:0<=a.sv/\a.sv<S.length
 who:a.who.length=(S.getD a.sv.toNat sv0).roles.length
def NC (a b:Ap):Prop:=a.st=3\/b.st=3\/a.day≠b.day\/a.to<=b.fr\/b.to<=a.fr\/ ∀r∈a.who,r∉b.who
theorem NC.symm {a b:Ap}(h:NC a b):NC b a:=by
 rcases h with h|h|h|h|h|h
 ·exact .inr (.inl h)
 ·exact .inl h
 ·exact .inr (.inr (.inl fun e=>h e.symm))
 ·exact .inr (.inr (.inr (.inr (.inl h))))
 ·exact .inr (.inr (.inr (.inl h)))
 ·exact .inr (.inr (.inr (.inr (.inr fun r hr hr'=>h r hr' hr))))
structure CI (c:Co):Prop where
 svs: ∀s∈c.svs,(1<=s.len/\0<=s.bef/\0<=s.aft)/\1<=s.roles.length
 aps: ∀a∈c.aps,AW c.svs a
 nc: ∀(i j:Nat) (a b:Ap),i≠j->c.aps[i]? =some a->c.aps[j]? =some b->NC a b
theorem Cu {f:Nat->Bool}{x y:Int}(h:fR f x y=true){i:Nat}(h1:x<=(i:Int))(h2:(i:Int)<y):f i=true:=by
 unfold fR at h;simp only[bx,cg]at h;obtain⟨⟨⟨_,hy⟩,_⟩,he⟩:=h;have:=BB he i (by omega);have hi:i<1440:=by omega
 simpa[inl,h1,h2,hi] using this
theorem sN (r day but:Int){b:Ap}(h1:b.st≠3)(h2:b.day=day)(h3:r∈b.who): ∀(l:List Ap) (i j:Nat),l[j]? =some b->((i+j:Nat):Int)≠but->(b.fr,b.to)∈ib r day but l i
 |[],_,_,h,_=>by simp at h
 |a::l,i,0,h,hn=>by
  cases h;unfold ib;rw[aD ⟨by simpa using hn,h1,h2,h3⟩];exact bq
 |a::l,i,j+1,h,hn=>by
  have:=sN r day but h1 h2 h3 l (i+1) j h (by rw[show i+1+j=i+(j+1) by omega];exact hn);unfold ib;split
  ·exact bH _ this
  ·exact this
theorem wm {c:Co}{n:Int}{a:Ap}{day min:Int}{who:List Int}(h:(fN c n a day min who).2=0)(hm:1<=a.len/\0<=a.bef/\0<=a.aft)(hs:0<=a.sv/\a.sv<c.svs.length):
  AW c.svs (fN c n a day min who).1/\ ∀(j:Nat) (b:Ap),(j:Int)≠n->c.aps[j]? =some b->AW c.svs b->NC (fN c n a day min who).1 b:=by
 unfold fN at h⊢;split at h
 ·exact absurd h (by decide)
 split at h
 ·exact absurd h (by decide)
 split at h
 ·rename_i h3;exact absurd h h3
 split at h
 ·exact absurd h (by decide)
 rename_i h1 h2 h3 h4;rw[ax h1,ax h2,ax h3,ax h4]
 have hw:who.length=(c.svs.getD a.sv.toNat sv0).roles.length:=by
  have h3':j6 who (c.svs.getD a.sv.toNat sv0).roles=0:=dN h3;unfold j6 at h3';split at h3'
  ·exact absurd h3' (by decide)
  ·rename_i e;exact dN e
 refine⟨⟨?_,?_,rfl,rfl,hm,hs,hw⟩,fun j b hj hb hB=> ?_⟩
 ·show 0<=min-a.bef;omega
 ·show min+a.len+a.aft<=1440;omega
 by_cases e1:b.st=3
 ·exact .inr (.inl e1)
 by_cases e2:day≠b.day
 ·exact .inr (.inr (.inl e2))
 have e2:b.day=day:=(dN e2:day=b.day).symm;by_cases e3:min+a.len+a.aft<=b.fr
 ·exact .inr (.inr (.inr (.inl e3)))
 by_cases e4:b.to<=min-a.bef
 ·exact .inr (.inr (.inr (.inr (.inl e4))))
 refine .inr (.inr (.inr (.inr (.inr fun r hr hr'=>h4 ?_))));refine List.any_eq_true.2 ⟨r,hr,?_⟩;cases hh:fR (fS c r day n) (min-a.bef) (min+a.len+a.aft) with
 |false=>rfl
 |true=>
  exfalso;have h2': ¬(min-a.bef<0):=fun e=>h2 (.inl e);have q1:=hB.fr;have q2:=hB.to;have q3:=hB.meas;have q4:=hB.lo;have q5:=hB.hi
  obtain⟨x,hx1,hx2,hx3,hx4⟩: ∃x:Nat,min-a.bef<=(x:Int)/\(x:Int)<min+a.len+a.aft/\b.fr<=(x:Int)/\(x:Int)<b.to:=by
   by_cases e:min-a.bef<=b.fr
   ·exact⟨b.fr.toNat,by omega,by omega,by omega,by omega⟩
   ·exact⟨(min-a.bef).toNat,by omega,by omega,by omega,by omega⟩
  have hf:=Cu hh hx1 hx2;unfold fS pN at hf;simp only[bx,Bool.not_eq_true']at hf
  have hin:inl (ib r day n c.aps 0) x=true:=by
   unfold inl;exact List.any_eq_true.2 ⟨_,sN r day n e1 e2 hr' c.aps 0 j hb (by rw[bN];exact hj),by simp[hx3,hx4];omega⟩
  rw[hin]at hf;exact absurd hf.1.2 (by decide)
theorem AW.settle {S:List Sv}{a:Ap}(h:AW S a)(s:Int):AW S (eX a s):=⟨h.lo,h.hi,h.fr,h.to,h.meas,h.sv,h.who⟩
theorem NC.settle {a b:Ap}(h:NC a b)(h3:a.st≠3)(s:Int):NC (eX a s) b:=by
 rcases h with h|h
 ·exact absurd h h3
 ·exact .inr h
theorem AW.tick {S:List Sv}{a:Ap}(h:AW S a)(t:Int):AW S (fg t a):=by
 unfold fg;split
 ·exact h
 split
 ·exact h.settle 3
 ·exact⟨h.lo,h.hi,h.fr,h.to,h.meas,h.sv,h.who⟩
theorem NC.tick {a b:Ap}(h:NC a b)(t:Int):NC (fg t a) b:=by
 unfold fg;split
 ·exact h
 split
 ·exact .inl rfl
 ·exact h
theorem CI.set {c:Co}(h:CI c){n:Nat}{p:Ap}(hp:AW c.svs p)(hn: ∀(j:Nat) (b:Ap),j≠n->c.aps[j]? =some b->NC p b):CI {c with aps:=c.aps.set n p}:=by
 refine⟨h.svs,fun a ha=> ?_,fun i j a b hij hi hj=> ?_⟩
 ·rcases List.mem_or_eq_of_mem_set ha with ha|rfl
  ·exact h.aps a ha
  ·exact hp
 ·replace hi:(c.aps.set n p)[i]? =some a:=hi;replace hj:(c.aps.set n p)[j]? =some b:=hj;rw[List.getElem?_set]at hi hj;by_cases ei:n=i
  ·rw[aD ei]at hi;rw[ax (by omega)]at hj;split at hi
   ·cases hi;exact hn j b (by omega) hj
   ·cases hi
  ·rw[ax ei]at hi;by_cases ej:n=j
   ·rw[aD ej]at hj;split at hj
    ·cases hj;exact(hn i a (by omega) hi).symm
    ·cases hj
   ·rw[ax ej]at hj;exact h.nc i j a b hij hi hj
theorem CI.change {c:Co}(h:CI c)(n:Int)(f:Ap->Ap×Int)(hf: ∀a,c.aps[n.toNat]? =some a->0<=n->a.st≠3->(f a).2=0->AW c.svs (f a).1/\ ∀(j:Nat) (b:Ap),j≠n.toNat->c.aps[j]? =some b->NC (f a).1 b):CI (oH c n f).2:=by
 unfold oH;split
 ·exact h
 split
 ·exact h
 rename_i h1 h2;obtain⟨i0,i1⟩:=ud fun e=>h1 (.inl e);have hl:n.toNat<c.aps.length:=by omega
 have e:c.aps[n.toNat]? =some (c.aps.getD n.toNat ap0):=by rw[dQ,az hl];rfl
 obtain⟨q1,q2⟩:=hf _ e i0 (fun e=>h1 (.inr e)) (dN h2);exact h.set q1 q2
theorem O4 {c:Co}(h:CI c)(x:Cm):CI (doS c x).2:=by
 unfold doS;split
 ·unfold IA;split
  ·exact h
  ·exact⟨h.svs,h.aps,h.nc⟩
 split
 ·unfold N3;split
  ·exact h
  split
  ·exact h
  ·exact⟨h.svs,h.aps,h.nc⟩
 split
 ·unfold N4;split
  ·exact h
  split
  ·exact h
  rename_i _ e;refine⟨fun s hs=> ?_,fun a ha=> ?_,h.nc⟩
  ·rcases bU.1 hs with hs|hs
   ·exact h.svs s hs
   ·cases bT.1 hs;have e':fq x.sv c.res.length=0:=dN e;unfold fq at e';split at e'
    ·exact absurd e' (by decide)
    ·rename_i e2;have:kH x.sv.len x.sv.bef x.sv.aft=true:=(by simpa using e2);unfold kH at this;have:=fE this;split at e'
     ·exact absurd e' (by decide)
     ·omega
  ·have q:=h.aps a ha;have hs:=q.sv;have hl:a.sv.toNat<c.svs.length:=(by omega);refine⟨q.lo,q.hi,q.fr,q.to,q.meas,⟨hs.1,?_⟩,q.who.trans ?_⟩
   ·show a.sv<((c.svs++[x.sv]).length:Nat);rw[aP];omega
   ·show _=((c.svs++[x.sv]).getD a.sv.toNat sv0).roles.length;rw[dQ,dQ,du hl]
 split
 ·unfold KS;split
  ·exact h
  split
  ·exact h
  split
  ·exact h
  ·exact h
 split
 ·unfold iX;split
  ·exact h
  split
  ·exact h
  split
  ·exact h
  rename_i h1 _ h2;obtain⟨i0,i1⟩:=ud h1;have hl:x.n.toNat<c.svs.length:=(by omega);have hv:c.svs.getD x.n.toNat sv0∈c.svs:=(by rw[dQ,az hl];exact List.getElem_mem hl);obtain⟨q1,q2⟩:=wm (dN h2) (h.svs _ hv).1 ⟨i0,i1⟩;generalize (fN c (-1) (jN c x.n) x.sday x.smin x.swho).1=p at q1 q2;have q2': ∀(j:Nat) (b:Ap),c.aps[j]? =some b->NC p b:=fun j b hb=>q2 j b (by omega) hb (h.aps b (aM hb));refine⟨h.svs,fun a ha=> ?_,fun i j a b hij hi hj=> ?_⟩
  ·rcases bU.1 ha with ha|ha
   ·exact h.aps a ha
   ·cases bT.1 ha;exact q1
  ·replace hi:(c.aps++[p])[i]? =some a:=hi;replace hj:(c.aps++[p])[j]? =some b:=hj;by_cases ei:i<c.aps.length
   ·rw[du ei]at hi;by_cases ej:j<c.aps.length
    ·rw[du ej]at hj;exact h.nc i j a b hij hi hj
    ·have:=(aF.1 hj).1;rw[aP,dP]at this;rw[dh (by omega),show j-c.aps.length=0 by omega]at hj;cases hj;exact(q2' i a hi).symm
   ·have:=(aF.1 hi).1;rw[aP,dP]at this;rw[dh (by omega),show i-c.aps.length=0 by omega]at hi;cases hi;by_cases ej:j<c.aps.length
    ·rw[du ej]at hj;exact q2' j b hj
    ·have:=(aF.1 hj).1;rw[aP,dP]at this;omega
 split
 ·exact h.change _ _ fun a ha _ h3 _=>⟨(h.aps a (aM ha)).settle 2,fun j b hj hb=>(h.nc _ _ a b (Ne.symm hj) ha hb).settle h3 2⟩
 split
 ·exact h.change _ _ fun a ha _ h3 _=>⟨(h.aps a (aM ha)).settle 3,fun j b hj hb=>(h.nc _ _ a b (Ne.symm hj) ha hb).settle h3 3⟩
 split
 ·refine h.change _ _ fun a ha hn _ h0=> ?_;have q:=h.aps a (aM ha);obtain⟨q1,q2⟩:=wm h0 q.meas q.sv;exact⟨q1,fun j b hj hb=>q2 j b (by omega) hb (h.aps b (aM hb))⟩
 split
 ·unfold sK;split
  ·exact h
  refine⟨h.svs,fun a ha=> ?_,fun i j a b hij hi hj=> ?_⟩
  ·obtain⟨a',ha',rfl⟩:=dU.1 ha;exact(h.aps a' ha').tick _
  ·replace hi:(c.aps.map (fg x.days))[i]? =some a:=hi;replace hj:(c.aps.map (fg x.days))[j]? =some b:=hj;rw[bg]at hi hj;obtain⟨a',ha',rfl⟩:=dL.1 hi;obtain⟨b',hb',rfl⟩:=dL.1 hj;exact(((h.nc i j a' b' hij ha' hb').tick _).symm.tick _).symm
 ·exact h
theorem D4: ∀(l:List Cm) (c:Co),CI c->CI (iY c l).2
 |[],_,h=>h
 |x::l,_,h=>D4 l _ (O4 h x)
theorem Ok:CI co0:=⟨fun s hs=>absurd hs List.not_mem_nil,fun a ha=>absurd ha List.not_mem_nil,fun i j a b _ hi _=>by simp[co0]at hi⟩
theorem ug: ∀(l m:List Cm) (c:Co),iY c (l++m)=((iY c l).1++(iY (iY c l).2 m).1,(iY (iY c l).2 m).2)
 |[],_,_=>rfl
 |x::l,m,c=>by
  show((doS c x).1::(iY (doS c x).2 (l++m)).1,(iY (doS c x).2 (l++m)).2)=_;rw[ug l m];rfl
theorem qY: ∀(l:List Cm) (c:Co),(iY c l).1.length=l.length
 |[],_=>rfl
 |x::l,c=>congrArg (· +1) (qY l (doS c x).2)
theorem IJ {f g:Nat->Bool}{x y:Int}(h:fR f x y=true)(hg: ∀i,i<1440->f i=true->g i=true):fR g x y=true:=by
 unfold fR at h⊢;simp only[bx]at h⊢;refine⟨h.1,JF fun i hi=> ?_⟩;have:=BB h.2 i hi;by_cases h1:i<1440
 ·cases hf:f i with
  |true=>simp[hg i h1 hf]
  |false=>
   have t:inl [(x,y)] i=false:=(by simpa[hf,h1] using this);simp[t]
 ·simp[h1]
structure Sm (c c2:Co):Prop where
 rules:c2.rules=c.rules
 res:c2.res=c.res
 svs:c2.svs=c.svs
theorem Sm.mean {c c2:Co}(h:Sm c c2)(r day:Int):mS c2 r day=mS c r day:=by unfold mS;rw[h.rules,h.res]
theorem Sm.new {c c2:Co}(h:Sm c c2)(n:Int):jN c2 n=jN c n:=by unfold jN;rw[h.svs]
theorem MG {c c2:Co}(h:Sm c c2){n:Int}{a:Ap}{day min:Int}{who:List Int}(h0:(fN c n a day min who).2=0)(hs: ∀r i,inl (ib r day n c2.aps 0) i=true->inl (ib r day n c.aps 0) i=true):(fN c2 n a day min who).2=0:=by
 unfold fN at h0⊢;rw[h.svs];split at h0
 ·exact absurd h0 (by decide)
 split at h0
 ·exact absurd h0 (by decide)
 split at h0
 ·rename_i h3;exact absurd h0 h3
 split at h0
 ·exact absurd h0 (by decide)
 rename_i h1 h2 h3 h4;rw[ax h1,ax h2,ax h3,ax];intro e;obtain⟨r,hr,e⟩:=List.any_eq_true.1 e;refine h4 (List.any_eq_true.2 ⟨r,hr,?_⟩);cases hh:fR (fS c r day n) (min-a.bef) (min+a.len+a.aft) with
 |false=>rfl
 |true=>
  have:fR (fS c2 r day n) (min-a.bef) (min+a.len+a.aft)=true:=IJ hh fun i hi hf=>by
   unfold fS pN at hf⊢;rw[h.mean];simp only[bx,Bool.not_eq_true']at hf⊢;refine⟨⟨hf.1.1,?_⟩,hf.2⟩;cases hx:inl (ib r day n c2.aps 0) i with
   |false=>rfl
   |true=>rw[hs r i hx]at hf;exact absurd hf.1.2 (by decide)
  rw[this]at e;exact absurd e (by decide)
theorem MH {c2:Co}{n:Int}{a p:Ap}{day min:Int}{who:List Int}{j:Nat}(hj:c2.aps[j]? =some p)(hn:(j:Int)≠n)(h3:p.st≠3)(hp:p.day=day/\p.who=who/\p.fr=min-a.bef/\p.to=min+a.len+a.aft)(hm:1<=a.len/\0<=a.bef/\0<=a.aft)(hw:1<=who.length):(fN c2 n a day min who).2≠0:=by
 intro h0;unfold fN at h0;split at h0
 ·exact absurd h0 (by decide)
 split at h0
 ·exact absurd h0 (by decide)
 split at h0
 ·rename_i h3;exact absurd h0 h3
 split at h0
 ·exact absurd h0 (by decide)
 rename_i h1 h2 _ h4;obtain⟨r,hr⟩:=List.exists_mem_of_length_pos (by omega:0<who.length);refine h4 (List.any_eq_true.2 ⟨r,hr,?_⟩);cases hh:fR (fS c2 r day n) (min-a.bef) (min+a.len+a.aft) with
 |false=>rfl
 |true=>
  exfalso;obtain⟨p1,p2,p3,p4⟩:=hp;have hf:=Cu hh (i:=(min-a.bef).toNat) (by omega) (by omega);unfold fS pN at hf;simp only[bx,Bool.not_eq_true']at hf
  have hin:inl (ib r day n c2.aps 0) (min-a.bef).toNat=true:=by
   unfold inl;refine List.any_eq_true.2 ⟨_,sN r day n h3 p1 (by rw[p2];exact hr) c2.aps 0 j hj (by rw[bN];exact hn),?_⟩;simp only[bx,cg];omega
  rw[hin]at hf;exact absurd hf.1.2 (by decide)
theorem D5 {r day but:Int}{q:Int×Int}: ∀(l:List Ap) (i:Nat),q∈ib r day but l i-> ∃(j:Nat) (b:Ap),l[j]? =some b/\((i+j:Nat):Int)≠but/\b.st≠3/\b.day=day/\r∈b.who/\q=(b.fr,b.to)
 |[],_,h=>absurd h List.not_mem_nil
 |a::l,i,h=>by
  unfold ib at h
  have g:q∈ib r day but l (i+1)-> ∃(j:Nat) (b:Ap),(a::l)[j]? =some b/\((i+j:Nat):Int)≠but/\b.st≠3/\b.day=day/\r∈b.who/\q=(b.fr,b.to):=fun h=>by
   obtain⟨j,b,h1,h2,h3⟩:=D5 l (i+1) h;exact⟨j+1,b,h1,by rw[show i+(j+1)=i+1+j by omega];exact h2,h3⟩
  split at h
  ·rename_i hc;rcases bz.1 h with rfl|h
   ·exact⟨0,a,rfl,hc.1,hc.2.1,hc.2.2.1,hc.2.2.2,rfl⟩
   ·exact g h
  ·exact g h
theorem KB {r day:Int}{l l2:List Ap}(h: ∀(j:Nat) (b:Ap),l2[j]? =some b->b.st≠3-> ∃b',l[j]? =some b'/\b'.st≠3/\b'.day=b.day/\b'.who=b.who/\b'.fr=b.fr/\b'.to=b.to)(i:Nat)(hi:inl (ib r day (-1) l2 0) i=true):inl (ib r day (-1) l 0) i=true:=by
 unfold inl at hi⊢;obtain⟨q,hq,e⟩:=List.any_eq_true.1 hi;obtain⟨j,b,h1,_,h3,h4,h5,rfl⟩:=D5 l2 0 hq;obtain⟨b',g1,g2,g3,g4,g5,g6⟩:=h j b h1 h3;refine List.any_eq_true.2 ⟨(b'.fr,b'.to),sN r day (-1) g2 (g3.trans h4) (by rw[g4];exact h5) l 0 j g1 (by omega),?_⟩;rw[g5,g6];exact e
structure Cv (c:Co)(n day min:Int)(who:List Int)(p:Ap):Prop where
 is:iX c n day min who=(iV c.aps.length,{c with aps:=c.aps++[p]})
 pl:(fN c (-1) (jN c n) day min who).2=0
 nn:isN n c.svs.length=true
 st:p.st=1/\p.left=10
 at_:p.day=day/\p.who=who/\p.fr=min-(jN c n).bef/\p.to=min+(jN c n).len+(jN c n).aft
 meas:1<=(jN c n).len/\0<=(jN c n).bef/\0<=(jN c n).aft
 wl:1<=who.length
theorem Cw {c:Co}{n:Int}{a:Ap}{day min:Int}{who:List Int}(h0:(fN c n a day min who).2=0):(fN c n a day min who).1={a with fr:=min-a.bef,to:=min+a.len+a.aft,day:=day,min:=min,who:=who}:=by
 unfold fN at h0⊢;split at h0
 ·exact absurd h0 (by decide)
 split at h0
 ·exact absurd h0 (by decide)
 split at h0
 ·rename_i h3;exact absurd h0 h3
 split at h0
 ·exact absurd h0 (by decide)
 rename_i h1 h2 h3 h4;rw[ax h1,ax h2,ax h3,ax h4]
theorem MJ {c:Co}(hc:CI c){n day min:Int}{who:List Int}(h:(iX c n day min who).1.err=0): ∃p,Cv c n day min who p:=by
 refine⟨(fN c (-1) (jN c n) day min who).1,?_⟩
 have e: ¬isN n c.svs.length=false/\(fN c (-1) (jN c n) day min who).2=0/\iX c n day min who=(iV c.aps.length,{c with aps:=c.aps++[(fN c (-1) (jN c n) day min who).1]}):=by
  unfold iX at h⊢;split at h
  ·exact absurd (show(6:Int)=0 from h) (by decide)
  split at h
  ·exact absurd (show(5:Int)=0 from h) (by decide)
  split at h
  ·rename_i h3;exact absurd h h3
  rename_i h1 h2 h3;rw[ax h1,ax h2,ax h3];exact⟨h1,dN h3,rfl⟩
 obtain⟨e1,e2,e3⟩:=e;obtain⟨i0,i1⟩:=ud e1;have hl:n.toNat<c.svs.length:=by omega
 have hv:c.svs.getD n.toNat sv0∈c.svs:=by rw[dQ,az hl];exact List.getElem_mem hl
 have hs:=hc.svs _ hv;obtain⟨q1,_⟩:=wm (a:=jN c n) e2 hs.1 ⟨i0,i1⟩;have q:=q1.who;rw[Cw e2]at q⊢;have e4:who.length=(c.svs.getD n.toNat sv0).roles.length:=q;rw[Cw e2]at e3;exact⟨e3,e2,by simpa using e1,⟨rfl,rfl⟩,⟨rfl,rfl,rfl,rfl⟩,hs.1,by rw[e4];exact hs.2⟩
theorem KC {c2:Co}{n day min:Int}{who:List Int}(h:(fN c2 (-1) (jN c2 n) day min who).2≠0):(iX c2 n day min who).1.err≠0:=by
 unfold iX;rw[aD h];split
 ·exact(by decide:(6:Int)≠0)
 split
 ·exact(by decide:(5:Int)≠0)
 ·exact h
theorem FJ {c c2:Co}{n day min:Int}{who:List Int}{p:Ap}(hh:Cv c n day min who p)(hm:Sm c c2)(hs: ∀r i,inl (ib r day (-1) c2.aps 0) i=true->inl (ib r day (-1) c.aps 0) i=true):(iX c2 n day min who).1.err=5\/(iX c2 n day min who).1.err=0:=by
 unfold iX;rw[hm.svs,ax (by rw[hh.nn];decide),hm.new,ax (c:=(fN c2 (-1) (jN c n) day min who).2≠0) fun e=>e (MG hm hh.pl hs)];split
 ·exact .inl rfl
 ·exact .inr rfl
section
theorem KD {c:Co}{n day min:Int}{who:List Int}{j:Nat}{q:Ap}(h:c.aps[j]? =some q):(iX c n day min who).2.aps[j]? =some q:=by
 unfold iX;split
 ·exact h
 split
 ·exact h
 split
 ·exact h
 exact(du (aF.1 h).1).trans h
theorem IK (t:Int)(a:Ap)(h:(fg t a).st≠3):a.st≠3/\a.day=(fg t a).day/\a.who=(fg t a).who/\a.fr=(fg t a).fr/\a.to=(fg t a).to:=by
 unfold fg eX at h⊢;by_cases h1:a.st≠1
 ·rw[aD h1]at h⊢;exact⟨h,rfl,rfl,rfl,rfl⟩
 ·rw[ax h1]at h⊢;have h1':a.st=1:=dN h1;by_cases h2:a.left-t<=0
  ·rw[aD h2]at h;exact absurd rfl h
  ·rw[ax h2];exact⟨by rw[h1'];decide,rfl,rfl,rfl,rfl⟩
theorem Ol {L:List Ap}{q:Ap}{f:Ap->Ap}(hf: ∀a,(f a).st≠3->a.st≠3/\a.day=(f a).day/\a.who=(f a).who/\a.fr=(f a).fr/\a.to=(f a).to)(hq:q.st=3)(j:Nat)(b:Ap)(hb:(L.map f++[q])[j]? =some b)(h3:b.st≠3): ∃b',L[j]? =some b'/\b'.st≠3/\b'.day=b.day/\b'.who=b.who/\b'.fr=b.fr/\b'.to=b.to:=by
 by_cases hj:j<L.length
 ·rw[du (by simpa using hj),bg]at hb;obtain⟨b',e,rfl⟩:=dL.1 hb;exact⟨b',e,hf b' h3⟩
 ·have h:=(aF.1 hb).1;rw[aP,ba,dP]at h;rw[dh (by simp;omega),show j-(L.map f).length=0 by simp;omega]at hb;cases hb;exact absurd hq h3
theorem D6 {α:Type}(l:List α)(q:α){n:Nat}(h:l.length=n):(l++[q])[n]? =some q:=by subst h;simp
section
variable {c:Co} {n day min:Int} {who:List Int} {p:Ap}
theorem FK (hh:Cv c n day min who p){f:Ap->Ap}(hf: ∀a,(f a).st≠3->a.st≠3/\a.day=(f a).day/\a.who=(f a).who/\a.fr=(f a).fr/\a.to=(f a).to){q:Ap}(hq:q.st=3):(iX {c with aps:=c.aps.map f++[q]} n day min who).1.err=5\/(iX {c with aps:=c.aps.map f++[q]} n day min who).1.err=0:=
 FJ hh ⟨rfl,rfl,rfl⟩ fun _ i hi=>KB (fun j b hb h3=>Ol hf hq j b hb h3) i hi
theorem IL (hh:Cv c n day min who p)(L:List Ap){q:Ap}(hL:L.length=c.aps.length)(hq:q.st≠3/\q.day=p.day/\q.who=p.who/\q.fr=p.fr/\q.to=p.to):(iX {c with aps:=L++[q]} n day min who).1.err≠0:=by
 obtain⟨a1,a2,a3,a4⟩:=hh.at_;obtain⟨q1,q2,q3,q4,q5⟩:=hq;exact KC (MH (j:=c.aps.length) (D6 L q hL) (by omega) q1 ⟨q2.trans a1,q3.trans a2,q4.trans a3,q5.trans a4⟩ hh.meas hh.wl)
theorem IM (c:Co)(q:Ap){t:Int}(ht:0<=t/\t<=1000):sK {c with aps:=c.aps++[q]} t=(noA 0,{c with aps:=c.aps.map (fg t)++[fg t q]}):=by
 unfold sK;rw[ax (by omega),dT];rfl
theorem FL (hh:Cv c n day min who p){t:Int}(ht:0<=t/\t<=1000): ∃p',(iX (sK (iX c n day min who).2 t).2 n day min who).2.aps[c.aps.length]? =some p'/\(p'.st=3↔10<=t)/\((iX (sK (iX c n day min who).2 t).2 n day min who).1.err=5\/((iX (sK (iX c n day min who).2 t).2 n day min who).1.err=0↔10<=t)):=by
 rw[hh.is,IM c p ht];have hl:(c.aps.map (fg t)).length=c.aps.length:=ba ..;refine⟨fg t p,KD (D6 _ _ hl),?_⟩
 have e:fg t p=if 10-t<=0 then eX p 3 else {p with left:=10-t}:=by
  unfold fg;rw[ax (by rw[hh.st.1];decide),hh.st.2]
 by_cases h:10<=t
 ·rw[aD (by omega)]at e;refine⟨by rw[e];exact⟨fun _=>h,fun _=>rfl⟩,(FK hh (IK t) (by rw[e];rfl)).imp_right fun g=>⟨fun _=>h,fun _=>g⟩⟩
 ·rw[ax (by omega)]at e;have h1:(fg t p).st=1:=(by rw[e];exact hh.st.1);refine⟨⟨fun g=>by rw[h1]at g;exact absurd g (by decide),fun g=>absurd g h⟩,.inr ⟨fun g=>absurd g (IL hh _ hl ⟨by rw[h1];decide,by rw[e],by rw[e],by rw[e],by rw[e]⟩),fun g=>absurd g h⟩⟩
end
end
def cH (n x y:Int)(who:List Int):Cm:=⟨5,n,0,0,[],[],sv0,x,y,who⟩
def cT (t:Int):Cm:=⟨9,0,0,t,[],[],sv0,0,0,[]⟩
def cX (k n:Int):Cm:=⟨k,n,0,0,[],[],sv0,0,0,[]⟩
theorem IN (l:List Cm):(playP dk0 l).1.length=l.length:=by rw[(Cn l).1,qY]
theorem IP (l:List Cm):(playP dk0 l).2.aps=(iY co0 l).2.aps:=congrArg Co.aps (Cn l).2.1
theorem Cx (l ds:List Cm){j:Nat}{a:An}(h:(iY (iY co0 l).2 ds).1[j]? =some a):(playP dk0 (l++ds)).1[l.length+j]? =some a:=by
 rw[(Cn _).1,ug,dh (by rw[qY];omega),qY,Nat.add_sub_cancel_left];exact h
theorem KE (l ds:List Cm):(playP dk0 (l++ds)).2.aps=(iY (iY co0 l).2 ds).2.aps:=by rw[IP,ug]
theorem FM (l:List Cm)(n x y:Int)(who:List Int){t:Int}(ht:0<=t/\t<=1000): ∃a1 a3:An,(playP dk0 (l++[cH n x y who,cT t,cH n x y who])).1[l.length]? =some a1/\(playP dk0 (l++[cH n x y who,cT t,cH n x y who])).1[l.length+2]? =some a3/\(a1.err=0-> ∃(m:Nat) (p:Ap),a1.num=(m:Int)/\(playP dk0 (l++[cH n x y who,cT t,cH n x y who])).2.aps[m]? =some p/\(p.st=3↔10<=t)/\(a3.err=5\/(a3.err=0↔10<=t))):=by
 obtain⟨c,hc⟩:=au ((iY co0 l).2);have hci:CI c:=by rw[<-hc];exact D4 l co0 Ok
 refine⟨_,_,Cx l _ (j:=0) rfl,Cx l _ (j:=2) rfl,fun h=> ?_⟩;rw[hc]at h⊢;rw[KE,hc];obtain⟨p,hh⟩:=MJ (n:=n) (day:=x) (min:=y) (who:=who) hci h;obtain⟨p',h1,h2,h3⟩:=FL hh ht;exact⟨c.aps.length,p',by show(iX c n x y who).1.num=_;rw[hh.is];rfl,h1,h2,h3⟩
theorem O5 {B:Nat}{w:World}{av:Value}{aa:List (Ap×Value)}(h:w.ownsRow B 38 11 av aa.length (apF aa))(hr: ∀q∈aa,dS w q.2 q.1.who){j:Nat}(hj:j<aa.length): ∃(a:Ap) (p:Option Addr) (c g ca:Nat),aa[j]? =some (a,.slice p a.who.length c)/\av= .slice (some (ae g 0)) aa.length ca/\w.rangeAt g (j*11) (apC (a,.slice p a.who.length c)).toList/\dS w (.slice p a.who.length c) a.who:=by
 obtain⟨⟨a,v⟩,hp⟩: ∃p,aa[j]? =some p:=⟨aa[j],az hj⟩
 have ha:=hr _ (aM hp);obtain⟨p,c,hv,_,_⟩:=id ha;dsimp only at hv ha;subst hv;obtain⟨g,ca,e1,_,e3⟩:=jy sH h rfl hp;exact⟨a,p,c,g,ca,hp,e1,e3,ha⟩
end Go.Proofs.YtkfidffapdhbhaaGreatDoor
