/- Texts of the proof. -/
import Derived.Test.YtlkehieagdkgiaaGreatDoorPf36
set_option maxRecDepth 100000
set_option maxHeartbeats 8000000
namespace Go.Proofs.YtlkehieagdkgiaaGreatDoor
open Go.Proofs.Tryz Go.RowKit Lx Vx Mx Msk
section
abbrev DoF (cs:List (Cm×Value×Value)):List Value:=cs.flatMap fun q=>(doC q.1 q.2.1 q.2.2).toList
def DoB (B:Nat)(w:World)(cs:List (Cm×Value×Value)):Prop:= ∀q∈cs,Rob (fun k=>k<B) (fun u=>lL u q.1 q.2.1 q.2.2) w
theorem DoB.below {B:Nat}{w w':World}{cs:List (Cm×Value×Value)}(h:DoB B w cs)(a:aq w w'):DoB B w' cs:=fun q b=>(h q b).below a
theorem Dt {w u:World}{v:Value}{d:List (List Int)}(h:fG w v d)(b: ∀q,q<w.heap.size->u.heap[q]? =w.heap[q]?):fG u v d:=by
 obtain⟨p,c,f,i,k⟩:=h;refine⟨p,c,f,i,fun j x l=> ?_⟩;obtain⟨g,o,sv,e,a,m⟩:=k j x l;exact⟨g,o,sv,e,(eI (b g (cg a))).trans a,pB m b⟩
theorem zu {w:World}{v:Value}{cs:List (Cm×Value×Value)}(h:k6 w v cs):DoB w.heap.size w cs:=fun q e u _ ha=>by
 obtain⟨_,_,_,_,b⟩:=h;obtain⟨j,d⟩:=List.getElem?_of_mem e;have c:=(b j q d).1;exact⟨Dt c.roles fun k a=>ha k a a,pB c.who fun k a=>ha k a a,c.text,c.name,c.cap⟩
theorem xG (w:World)(k:TypeId)(d p:Option Addr)(n cap c:Nat)(e:n<=cap):(Builtin.append_ #[22,22] k #[.slice d n cap,.slice p 0 c]).run prog w= .ok (.slice d n cap) w:=by
 obtain⟨l,hi,g,i,j⟩:=oR (t:=41) (z:= .agg (doC ⟨0,0,0,0,[],[],sv0,0,0,[]⟩ (af) (af))) (a:=13) (b:=152) (by kernel_rfl);have f:prog.underlying 22=some (.slice 41):=by kernel_rfl
 cases d<;>cases p<;>simp[Builtin.append_,gC f,sizeOf,typeInfo,hi,e,Builtin.lenOf,Builtin.firstCells,storeCells,loadCells,loadCellsFrom]
theorem wo {g:Array Oper}{b:List Oper}{o:Oper}{a:Act}{w:World}{Q:Exit->Act->World->Prop}(d:o.guard=none)(s x:Operand)(r:o.op= .call {callee:= .builtin .append,args:= #[s,x],argTypes:= #[22,22]})
  {B:Nat} {v A:Value} {cs ds:List (Cm×Value×Value)} (t:a.eval s=v) (i:w.ownsRow B 41 13 v cs.length (DoF cs)) (y:a.eval x=A) (n:k6 w A ds) (G:DoB B w (cs++ds)) (H:cs.length+ds.length<=100000) (F:B<=w.heap.size)
  (h: ∀j w',w'.ownsRow B 41 13 j (cs++ds).length (DoF (cs++ds))->w.grownBy w' v.ownBlock->wpList prog g Q b (a.put o.dst j) w'):wpList prog g Q (o::b) a w:=by
 by_cases m:ds=[]
 ·subst m;obtain⟨I,c1,C,l⟩:=zi i;obtain⟨p,c,e2,_⟩:=n;subst C e2;rw[gJ]at h;exact Go.Lib.wpList_append_run w d s x _ _ r _ _ t y _ _ (xG w _ I p _ c1 c l) (h _ _ i ⟨rfl,rfl,rfl,aD _,fun _ _ _=>rfl⟩)
 ·have z: ∀q∈cs++ds,Rob (fun k=>some k≠v.ownBlock) (fun u=>lL u q.1 q.2.1 q.2.2) w:=fun q f=>(G q f).move (aD _) (fun _ _ _=>rfl) fun k _ J e=>by have:=(i.lt k e.symm).1;omega
  exact uS d s x r t ⟨i,fun q f=>z q (dJ _ f)⟩ y n (List.length_pos_iff.2 m) (fun q f=>z q (dm _ f)) H F fun j w' D _ E=>h j w' D.1 E
theorem Ew (W:World):(Instr.buildSlice 22 0 #[]).run prog W= .ok (.slice (some (ae W.heap.size 0)) 0 0) (W.alloc (.cells #[] 41)):=by kernel_rfl
theorem lX {o:Oper}{a:Act}{w:World}{K:Act->World->Prop}{Q:Exit->Act->World->Prop}(c:o.op= .buildSlice 22 0 #[])(h:K (a.put o.dst (.slice (some (ae w.heap.size 0)) 0 0)) (w.alloc (.cells #[] 41))):Oper.wp prog o a w K Q:=by
 unfold Oper.wp execOp;have b:=Ew w;simp only[c,iP,fw,jC,kb,gX,b];exact h
abbrev dZ:Array Value:= #[af,af,af,af]
def VJ (l:List (Nat×Nat×Value))(M:Nat->Bool)(φ:Nat->Value):Prop:= ∀x∈l,M x.1=true->φ x.2.1=x.2.2
def pyL (i t v:Nat)(rv ev sv av asv:Value)(rn:Int):List (Nat×Nat×Value):=[(i+2,t+3+i,.tuple #[.agg #[rv,ev,sv,av],asv,ag rn,ag 0]),(i+3,t,.tuple #[.agg #[rv,ev,sv,av],asv,ag rn,ag 0]),(i+4,t+4+i,.agg #[rv,ev,sv,av]),(i+5,t+5+i,asv),(i+6,t+6+i,ag rn),(i+7,t+7+i,ag 0),(i+10,v+1,asv),(i+11,v+2,ag rn),(i+12,v+3,ag 0)]
def PyB (B i t v:Nat)(l:List Cm)(rv ev sv av asv:Value)(rn:Int)(ss:List (Sv×Value))(aa:List (Ap×Value))(ls:List (An×Value×Value))(M:Nat->Bool)(φ:Nat->Value)(W:World):Prop:=rn=(playP dk0 l).2.runs/\VJ (pyL i t v rv ev sv av asv rn) M φ/\Rob (fun k=>M (i+8)=true->φ v≠ab k 0) (fun u=>o5 B u (playP dk0 l) rv ev sv av asv ss aa ls) W/\(M (i+9)=true-> ∃g,φ v=ab g 0/\B<=g/\W.heap[g]? =ah #[rv,ev,sv,av] 29)
def PyR (B i t v:Nat)(l:List Cm)(M:Nat->Bool)(φ:Nat->Value)(W:World):Prop:= ∃(rv ev sv av asv:Value) (rn:Int) (ss:List (Sv×Value)) (aa:List (Ap×Value)) (ls:List (An×Value×Value)),PyB B i t v l rv ev sv av asv rn ss aa ls M φ W
structure PyJ (w0:World)(i t v:Nat)(cs ds:List (Cm×Value×Value))(M:Nat->Bool)(φ:Nat->Value)(W:World):Prop where
 bel:aq w0 W
 cl: ∀x,i+2<x->x≠i+8->M x=true->M (i+2)=true
 cl2:M (i+2)=true->M (i+1)=true
 cl3:M (i+1)=true->M 2=true/\M i=true
 e0:M 0=true->M 2=false-> ∃g,φ (t+1)= .slice (some (ae g 0)) 0 0/\w0.heap.size<=g/\W.heap[g]? =ah #[] 41
 e2:M 2=true->M (i+1)=false->W.ownsRow w0.heap.size 41 13 (φ (t+3)) cs.length (DoF cs)
 e7:M i=true->M (i+1)=false-> ∃g,φ (t+1+i)= .slice (some (ae g 0)) ds.length ds.length/\W.heap[g]? =ah (DoF ds).toArray 41
 e8:M (i+1)=true->M (i+2)=false->W.ownsRow w0.heap.size 41 13 (φ (t+2+i)) (cs++ds).length (DoF (cs++ds))
 ea:M (i+8)=true->M (i+9)=false-> ∃g,φ v=ab g 0/\w0.heap.size<=g/\W.heap[g]? =ah dZ 29
 e9:M (i+2)=true->PyR w0.heap.size i t v ((cs++ds).map fun q=>q.1) M φ W
section
variable {w0 W W':World} {i t v:Nat} {cs ds:List (Cm×Value×Value)} {M:Nat->Bool} {φ:Nat->Value} {l:List Cm} {B:Nat} {rv ev sv av asv:Value} {rn:Int} {ss:List (Sv×Value)} {aa:List (Ap×Value)} {ls:List (An×Value×Value)} {k s p:Nat} {u:Value}
theorem PyR.below (h:PyR B i t v l M φ W)(a:aq W W'):PyR B i t v l M φ W':=by
 obtain⟨rv,ev,sv,av,asv,rn,ss,aa,ls,b,d,f,j⟩:=h;refine⟨rv,ev,sv,av,asv,rn,ss,aa,ls,b,d,f.below a,fun c=> ?_⟩;obtain⟨g,e,k,m⟩:=j c;exact⟨g,e,k,bt a m⟩
theorem PyJ.below (h:PyJ w0 i t v cs ds M φ W)(a:aq W W'):PyJ w0 i t v cs ds M φ W' where
 bel:=aw h.bel a
 cl:=h.cl
 cl2:=h.cl2
 cl3:=h.cl3
 e0 c d:=by obtain⟨g,e,j,f⟩:=h.e0 c d;exact⟨g,e,j,bt a f⟩
 e2 c d:=bJ (h.e2 c d) fun b k=>a.block b ((h.e2 c d).lt b k).2
 e7 c d:=by obtain⟨g,e,f⟩:=h.e7 c d;exact⟨g,e,bt a f⟩
 e8 c d:=bJ (h.e8 c d) fun b k=>a.block b ((h.e8 c d).lt b k).2
 ea c d:=by obtain⟨g,e,j,f⟩:=h.ea c d;exact⟨g,e,j,bt a f⟩
 e9 c:=(h.e9 c).below a
theorem PyJ.start (h:aq w0 W):PyJ w0 i t v cs ds (fun _=>false) φ W:=⟨h,fun _ _ _ h=>h,fun h=>h,(fun h=>by cases h),(fun h=>by cases h),(fun h=>by cases h),(fun h=>by cases h),(fun h=>by cases h),(fun h=>by cases h),fun h=>by cases h⟩
theorem orF {a:Nat}(h:(decide (k=a)||M a)=false):M a=false:=((Bool.or_eq_false_iff).1 h).2
theorem orT {a:Nat}(h:M a=true):(decide (k=a)||M a)=true:=by rw[h,Bool.or_true]
theorem VJ.at_ {L:List (Nat×Nat×Value)}(i:(L.map fun x=>x.1).Nodup)(l:(L.map fun x=>x.2.1).Nodup)(b:L[p]? =some (k,s,u))(h:VJ L M φ):VJ L (fun x=>decide (k=x)||M x) (jq φ (some s) u):=fun x d c=>by
 dsimp only at c;obtain⟨q,a⟩:=List.getElem?_of_mem d
 have nd: ∀f:Nat×Nat×Value->Nat,(L.map f).Nodup->f (k,s,u)=f x->q=p:=fun f j e=>by
  have m:=(aE.1 a).1;exact(List.getElem?_inj (by simpa using m) j).1 (by rw[bj,bj,a,b];exact congrArg some e.symm)
 by_cases e:q=p
 ·subst e;rw[b]at a;cases a;exact dN
 ·have n:k≠x.1:=fun g=>e (nd (fun x=>x.1) i g);have o:s≠x.2.1:=fun g=>e (nd (fun x=>x.2.1) l g);rw[dh o];exact h x d (by rwa[orZ n]at c)
theorem PyJ.next (h:PyJ w0 i t v cs ds M φ W)(b:aq W W')(j:k≠2/\k≠i+1/\k≠i+9)(l:i+2<k/\k≠i+8->M (i+2)=true)(f:k=i+2->M (i+1)=true)
  (a:s≠t+3/\s≠t+2+i/\(k=0↔s=t+1)/\(k=i↔s=t+1+i)/\(k=i+8↔s=v))
  (m:k=0-> ∃g,u= .slice (some (ae g 0)) 0 0/\w0.heap.size<=g/\W'.heap[g]? =ah #[] 41)
  (n:k=i-> ∃g,u= .slice (some (ae g 0)) ds.length ds.length/\W'.heap[g]? =ah (DoF ds).toArray 41)
  (p:k=i+8-> ∃g,u=ab g 0/\w0.heap.size<=g/\W'.heap[g]? =ah dZ 29)
  (o:k=i+2\/M (i+2)=true->PyR w0.heap.size i t v ((cs++ds).map fun q=>q.1) (fun x=>decide (k=x)||M x) (jq φ (some s) u) W'):PyJ w0 i t v cs ds (fun x=>decide (k=x)||M x) (jq φ (some s) u) W' where
 bel:=(h.below b).bel
 cl x h1 h2 c:=by
  by_cases e:k=x
  ·subst e;exact orT (l ⟨h1,h2⟩)
  ·rw[orZ e]at c;exact orT (h.cl x h1 h2 c)
 cl2 c:=by
  by_cases e:k=i+2
  ·exact orT (f e)
  ·rw[orZ e]at c;exact orT (h.cl2 c)
 cl3 c:=by
  rw[orZ j.2.1]at c;exact⟨orT (h.cl3 c).1,orT (h.cl3 c).2⟩
 e0 c d:=by
  by_cases e:k=0
  ·rw[a.2.2.1.1 e,dN];exact m e
  ·rw[orZ e]at c;rw[dh fun g=>e (a.2.2.1.2 g)];exact(h.below b).e0 c (orF d)
 e2 c d:=by
  rw[orZ j.1]at c;rw[dh a.1];exact(h.below b).e2 c (orF d)
 e7 c d:=by
  by_cases e:k=i
  ·rw[a.2.2.2.1.1 e,dN];exact n e
  ·rw[orZ e]at c;rw[dh fun g=>e (a.2.2.2.1.2 g)];exact(h.below b).e7 c (orF d)
 e8 c d:=by
  rw[orZ j.2.1]at c;rw[dh a.2.1];exact(h.below b).e8 c (orF d)
 ea c d:=by
  by_cases e:k=i+8
  ·rw[a.2.2.2.2.1 e,dN];exact p e
  ·rw[orZ e]at c;rw[dh fun g=>e (a.2.2.2.2.2 g)];exact(h.below b).ea c (orF d)
 e9 c:=o (by
  by_cases e:k=i+2
  ·exact .inl e
  ·exact .inr (by rwa[orZ e]at c))
theorem PyJ.d0 (h:PyJ w0 i t v cs ds M φ W)(b:3<=i/\v+3<t)(a:M 2=false):PyJ w0 i t v cs ds (fun x=>decide (0=x)||M x) (jq φ (some (t+1)) (.slice (some (ae W.heap.size 0)) 0 0)) (W.alloc (.cells #[] 41)):=
 h.next (am _ _) (by omega) (by omega) (by omega) (by omega) (fun _=>⟨_,rfl,h.bel.size,aG _ _⟩) (by omega) (by omega) fun c=>by
  rcases c with c|c
  ·omega
  ·rw[(h.cl3 (h.cl2 c)).1]at a;cases a
theorem PyJ.d7 (h:PyJ w0 i t v cs ds M φ W)(b:3<=i/\v+3<t)(a:M (i+1)=false):PyJ w0 i t v cs ds (fun x=>decide (i=x)||M x) (jq φ (some (t+1+i)) (.slice (some (ae W.heap.size 0)) ds.length ds.length)) (W.alloc (.cells (DoF ds).toArray 41)):=
 h.next (am _ _) (by omega) (by omega) (by omega) (by omega) (by omega) (fun _=>⟨_,rfl,aG _ _⟩) (by omega) fun c=>by
  rcases c with c|c
  ·omega
  ·rw[h.cl2 c]at a;cases a
theorem PyJ.da (h:PyJ w0 i t v cs ds M φ W)(n:3<=i/\v+3<t)(b:M (i+9)=false):PyJ w0 i t v cs ds (fun x=>decide (i+8=x)||M x) (jq φ (some v) (ab W.heap.size 0)) (W.alloc (.cells dZ 29)):=by
 have a:=am W (.cells dZ 29);refine h.next a (by omega) (by omega) (by omega) (by omega) (by omega) (by omega) (fun _=>⟨_,rfl,h.bel.size,aG _ _⟩) fun c=> ?_;obtain⟨rv,ev,sv,av,asv,rn,ss,aa,ls,j,k,l,m⟩:=h.e9 (c.resolve_left (by omega));refine⟨rv,ev,sv,av,asv,rn,ss,aa,ls,j,fun x d c=> ?_,?_,fun c=> ?_⟩
 ·have g:i+8≠x.1/\v≠x.2.1:=by
   simp only[pyL,bo,List.not_mem_nil,or_false]at d;rcases d with rfl|rfl|rfl|rfl|rfl|rfl|rfl|rfl|rfl<;>exact⟨by dsimp only;omega,by dsimp only;omega⟩
  rw[dh g.2];dsimp only at c;exact k x d (by rwa[orZ g.1]at c)
 ·refine l.move a.size (fun q _ f=>a.block q f) fun q f _ _ e=> ?_;rw[dN]at e;injection e with e;injection e with e;injection e with e;omega
 ·dsimp only at c;rw[orZ (by omega),b]at c;cases c
theorem PyB.val (h:PyB B i t v l rv ev sv av asv rn ss aa ls M φ W)(n:3<=i/\v+3<t)(b:(pyL i t v rv ev sv av asv rn)[p]? =some (k,s,u)):PyB B i t v l rv ev sv av asv rn ss aa ls (fun x=>decide (k=x)||M x) (jq φ (some s) u) W:=by
 obtain⟨d,e,f,g⟩:=h
 have a:k≠i+8/\k≠i+9/\s≠v:=by
  have m:=aN b;simp only[pyL,bo,List.not_mem_nil,or_false,Prod.mk.injEq]at m;omega
 refine⟨d,e.at_ (by simp[pyL,List.nodup_cons]) (by simp[pyL,List.nodup_cons];omega) b,f.move (aD _) (fun _ _ _=>rfl) fun q _ j c=> ?_,fun c=> ?_⟩
 ·dsimp only at c;rw[orZ a.1]at c;rw[dh a.2.2];exact j c
 ·dsimp only at c;rw[orZ a.2.1]at c;rw[dh a.2.2];exact g c
theorem PyJ.val (h:PyJ w0 i t v cs ds M φ W)(b:M (i+2)=true)(c:PyB w0.heap.size i t v ((cs++ds).map fun q=>q.1) rv ev sv av asv rn ss aa ls M φ W)(d:3<=i/\v+3<t)(f:k≠i+2)(a:(pyL i t v rv ev sv av asv rn)[p]? =some (k,s,u)):PyJ w0 i t v cs ds (fun x=>decide (k=x)||M x) (jq φ (some s) u) W:=by
 have e:=aN a;simp only[pyL,bo,List.not_mem_nil,or_false,Prod.mk.injEq]at e;exact h.next (aH _ _) (by omega) (fun _=>b) (by omega) (by omega) (by omega) (by omega) (by omega) fun _=>⟨rv,ev,sv,av,asv,rn,ss,aa,ls,c.val d a⟩
theorem Du {a b:Bool}(h:a=true->b=true)(c:b=false):a=false:=by
 cases a with
 |false=>rfl
 |true=>rw[h rfl]at c;cases c
theorem tf {a:Bool}{p:Prop}(h:a=true)(b:a=false):p:=by rw[h]at b;cases b
theorem PyJ.d2 (h:PyJ w0 i t v cs ds M φ W)(B:3<=i/\v+3<t)(y:0<ds.length)(r:M 0=true)(A:M 2=false)(m:M (i+1)=false)(w:W'.ownsRow w0.heap.size 41 13 u cs.length (DoF cs))(n:W.grownBy W' (φ (t+1)).ownBlock):PyJ w0 i t v cs ds (fun x=>decide (2=x)||M x) (jq φ (some (t+3)) u) W':=by
 obtain⟨p,e0,s,j⟩:=h.e0 r A;rw[e0]at n;have l:=Du h.cl2 m;have kp: ∀g o,W.heap[g]? =some o->g≠p->W'.heap[g]? =some o:=fun g o f a=>(n.block g (aI f) fun e=>a (aM e)).trans f
 exact {
  bel:=h.bel.grown n h.bel.size fun k z=>by cases z;exact s
  cl:=fun x f a c=>by rw[orZ (by omega)]at c;exact orT (h.cl x f a c)
  cl2:=fun c=>by rw[orZ (by omega)]at c;exact tf c l
  cl3:=fun c=>by rw[orZ (by omega)]at c;exact tf c m
  e0:=fun _ d=>by simp at d
  e2:=fun _ _=>by rw[dN];exact w
  e7:=fun c _=>by
   rw[orZ (by omega)]at c;rw[dh (by omega)];obtain⟨g,e,b⟩:=h.e7 c m;refine⟨g,e,kp _ _ b fun q=> ?_⟩;subst q;rw[j]at b;injection b with b;injection b with b;have:0=(DoF ds).length:=(by simpa using congrArg Array.size b);rw[show(DoF ds).length=ds.length*13 from sQ ds]at this;omega
  e8:=fun c _=>by rw[orZ (by omega)]at c;exact tf c m
  ea:=fun c d=>by
   rw[orZ (by omega)]at c d;rw[dh (by omega)];obtain⟨g,e,f,a⟩:=h.ea c d;refine⟨g,e,f,kp _ _ a fun q=> ?_⟩;subst q;rw[j]at a;injection a with a;injection a with _ a _;exact absurd a (by decide)
  e9:=fun c=>by rw[orZ (by omega)]at c;exact tf c l}
theorem PyJ.d8 (h:PyJ w0 i t v cs ds M φ W)(q:3<=i/\v+3<t)(a:M 2=true)(n:M i=true)(m:M (i+1)=false)(o:W'.ownsRow w0.heap.size 41 13 u (cs++ds).length (DoF (cs++ds)))(l:W.grownBy W' (φ (t+3)).ownBlock):PyJ w0 i t v cs ds (fun x=>decide (i+1=x)||M x) (jq φ (some (t+2+i)) u) W':=by
 have f:=Du h.cl2 m;have b:=h.e2 a m
 exact {
  bel:=h.bel.grown l h.bel.size fun k p=>(b.lt k p).1
  cl:=fun x j a c=>by rw[orZ (by omega)]at c;exact orT (h.cl x j a c)
  cl2:=fun c=>by rw[orZ (by omega)]at c;exact tf c f
  cl3:=fun _=>⟨orT a,orT n⟩
  e0:=fun _ d=>tf a (orF d)
  e2:=fun _ d=>by simp at d
  e7:=fun _ d=>by simp at d
  e8:=fun _ _=>by rw[dN];exact o
  ea:=fun c d=>by
   rw[orZ (by omega)]at c d;rw[dh (by omega)];obtain⟨g,e,j,a⟩:=h.ea c d;exact⟨g,e,j,(l.block g (aI a) (kM b a (by decide))).trans a⟩
  e9:=fun c=>by rw[orZ (by omega)]at c;exact tf c f}
theorem PyJ.d9 (h:PyJ w0 i t v cs ds M φ W)(r:3<=i/\v+3<t)(j:M (i+1)=true)(d:M (i+2)=false){ys:List Nat}(b: ∀q,M (i+8)=true->φ v=ab q 0->q∈ys)(p:(cs++ds).length<=60){e:Ending}(k:G6 w0.heap.size ys ((cs++ds).map fun q=>q.1) W e W'): ∃u,e= .returned u/\PyJ w0 i t v cs ds (fun x=>decide (i+2=x)||M x) (jq φ (some (t+3+i)) u) W':=by
 obtain⟨m,⟨a,_⟩|⟨_,rv,ev,sv,av,asv,ss,aa,ls,rfl,l⟩⟩:=k
 ·rw[aX]at a;omega
 refine⟨_,rfl,h.next m (by omega) (by omega) (fun _=>j) (by omega) (by omega) (by omega) (by omega) fun _=>⟨rv,ev,sv,av,asv,_,ss,aa,ls,rfl,fun x f c=> ?_,?_,fun c=> ?_⟩⟩
 ·dsimp only at c;have n:i+2<x.1->x.1≠i+8->False:=fun a g=>tf (h.cl _ a g (by rwa[orZ (by omega)]at c)) d;simp only[pyL,bo,List.not_mem_nil,or_false]at f;rcases f with rfl|rfl|rfl|rfl|rfl|rfl|rfl|rfl|rfl
  ·exact dN
  all_goals exact(n (by dsimp only;omega) (by dsimp only;omega)).elim
 ·refine l.move (aD _) (fun _ _ _=>rfl) fun q _ o c e=>o (b q ?_ ?_)
  ·dsimp only at c;rwa[orZ (by omega)]at c
  ·rwa[dh (by omega)]at e
 ·dsimp only at c;rw[orZ (by omega)]at c;exact tf (h.cl _ (by omega) (by omega) c) d
theorem o5.one {p:List An×Dk}(h:o5 B W p rv ev sv av asv ss aa ls):(#[rv,ev,sv,av]:Array Value).all (·.oneCell')=true:=by
 obtain⟨b,a,_⟩:=h.rules;obtain⟨_,_,rfl⟩:=a.form;obtain⟨_,_,rfl⟩:=dj h.res;obtain⟨_,_,rfl⟩:=dj h.svs;obtain⟨_,_,rfl⟩:=dj h.aps;simp[Value.oneCell']
theorem PyJ.d16 (h:PyJ w0 i t v cs ds M φ W)(b:M (i+2)=true)(p:M (i+4)=true)(ha:M (i+8)=true)(r:M (i+9)=false): ∃(c:Array Value) (g:Nat),φ v=ab g 0/\φ (t+4+i)= .agg c/\c.all (·.oneCell')=true/\c.size=4/\W.heap[g]? =ah dZ 29/\PyJ w0 i t v cs ds (fun x=>decide (i+9=x)||M x) φ (W.setRow g c):=by
 obtain⟨rv,ev,sv,av,asv,rn,ss,aa,ls,o,m,l,_⟩:=h.e9 b;obtain⟨g,e,k,n⟩:=h.ea ha r;have a:=h.cl2 b
 refine⟨_,g,e,m (i+4,t+4+i,.agg #[rv,ev,sv,av]) (by simp[pyL]) p,l.here.one,rfl,n,{
  bel:=below_setRow h.bel k _
  cl:=fun x s u _=>orT b
  cl2:=fun _=>orT a
  cl3:=fun _=>⟨orT (h.cl3 a).1,orT (h.cl3 a).2⟩
  e0:=fun _ d=>tf (h.cl3 a).1 (orF d)
  e2:=fun _ d=>tf a (orF d)
  e7:=fun _ d=>tf a (orF d)
  e8:=fun _ d=>tf b (orF d)
  ea:=fun _ d=>by simp at d
  e9:=fun _=>⟨rv,ev,sv,av,asv,rn,ss,aa,ls,o,fun x j c=>m x j ?_,?_,fun _=>⟨g,e,k,aL _ _ _ _ _ _ n⟩⟩}⟩
 ·dsimp only at c;rw[orZ ?_]at c
  ·exact c
  simp only[pyL,bo,List.not_mem_nil,or_false]at j;rcases j with rfl|rfl|rfl|rfl|rfl|rfl|rfl|rfl|rfl<;>(dsimp only;omega)
 ·refine l.move (by simp) (fun q f _=>aW _ _ _ _ fun c=>f ha (by rw[e,c])) fun q _ f c=>f ?_;dsimp only at c;rwa[orZ (by omega)]at c
theorem PyJ.fin (h:PyJ w0 i t v cs ds M φ W)(a: ∀k,i+2<=k->k<=i+12->M k=true): ∃(rv ev sv av asv:Value) (ss:List (Sv×Value)) (aa:List (Ap×Value)) (ls:List (An×Value×Value)) (g:Nat),φ v=ab g 0/\φ (v+1)=asv/\φ (v+2)=ag (playP dk0 ((cs++ds).map fun q=>q.1)).2.runs/\φ (v+3)=ag 0/\aq w0 W/\W.heap[g]? =ah #[rv,ev,sv,av] 29/\Rob (fun k=>k≠g) (fun u=>o5 w0.heap.size u (playP dk0 ((cs++ds).map fun q=>q.1)) rv ev sv av asv ss aa ls) W:=by
 obtain⟨rv,ev,sv,av,asv,rn,ss,aa,ls,rfl,b,f,d⟩:=h.e9 (a _ (by omega) (by omega));obtain⟨g,e,_,j⟩:=d (a _ (by omega) (by omega));exact⟨rv,ev,sv,av,asv,ss,aa,ls,g,e,b (i+10,v+1,asv) (by simp[pyL]) (a _ (by omega) (by omega)),b (i+11,v+2,_) (by simp[pyL]) (a _ (by omega) (by omega)),b (i+12,v+3,_) (by simp[pyL]) (a _ (by omega) (by omega)),h.bel,j,f.move (aD _) (fun _ _ _=>rfl) fun q _ l c=>l (a _ (by omega) (by omega)) (by rw[e,c])⟩
structure PyC (w0:World)(cs ds:List (Cm×Value×Value))(lv:Value):Prop where
 row:k6 w0 lv cs
 dob:DoB w0.heap.size w0 (cs++ds)
 len:(cs++ds).length<=60
 pos:0<ds.length
 tb:Tbs w0.heap.size w0
theorem PyB.get (h:PyB B i t v l rv ev sv av asv rn ss aa ls M φ W)(p:Nat)(b:(pyL i t v rv ev sv av asv rn)[p]? =some (k,s,u))(a:M k=true):φ s=u:=h.2.1 _ (aN b) a
variable {lv:Value} {o:Oper} {F:Act} {K:Act->World->Prop} {X:Exit->Act->World->Prop} {sO xO:Operand}
theorem PyJ.op2 (h:PyJ w0 i t v cs ds M φ W)(c:PyC w0 cs ds lv)(z:3<=i/\v+3<t)(b:M 0=true)(d:M 2=false)(B:M (i+1)=false)(a:o.guard=none)(s:o.op= .call {callee:= .builtin .append,args:= #[sO,xO],argTypes:= #[22,22]})(y:F.eval sO=φ (t+1))(A:F.eval xO=lv)
  (l: ∀u W',PyJ w0 i t v cs ds (fun x=>decide (2=x)||M x) (jq φ (some (t+3)) u) W'->K (F.put o.dst u) W'):Oper.wp prog o F W K X:=by
 obtain⟨g,e,k,p⟩:=h.e0 b d;have r:=c.len;rw[aO]at r;have m:W.ownsRow w0.heap.size 41 13 (φ (t+1)) ([]:List (Cm×Value×Value)).length (DoF []):=by rw[e];exact rW (n:=0) p k rfl (dL _)
 exact i7 (ops:= #[]) a (wo a sO xO s y m A (c.row.below h.bel) (fun q w=>(c.dob q (dJ _ w)).below h.bel) (by simp;omega) h.bel.size fun u W' f j=>⟨rfl,l u W' (h.d2 z c.pos b d B f j)⟩)
theorem PyJ.op8 (h:PyJ w0 i t v cs ds M φ W)(c:PyC w0 cs ds lv)(A:3<=i/\v+3<t)(d:M 2=true)(f:M i=true)(b:M (i+1)=false)(a:o.guard=none)(w:o.op= .call {callee:= .builtin .append,args:= #[sO,xO],argTypes:= #[22,22]})(z:F.eval sO=φ (t+3))(C:F.eval xO=φ (t+1+i))
  (m: ∀u W',PyJ w0 i t v cs ds (fun x=>decide (i+1=x)||M x) (jq φ (some (t+2+i)) u) W'->K (F.put o.dst u) W'):Oper.wp prog o F W K X:=by
 obtain⟨g,e,r⟩:=h.e7 f b;have s:=c.len;rw[aO]at s;have j:=c.dob.below h.bel;have p:k6 W (φ (t+1+i)) ds:=vS (B:=0) (by rw[e];exact rW (n:=ds.length) r (dL _) (by rw[List.size_toArray];exact sQ ds) (by unfold maxLen;omega)) (fun q y=>(j q (dm _ y)).here) (by omega);exact i7 (ops:= #[]) a (wo a sO xO w z (h.e2 d b) C p j (by omega) h.bel.size fun u W' k l=>⟨rfl,m u W' (h.d8 A d f b k l)⟩)
theorem PyJ.play (h:PyJ w0 i t v cs ds M φ W)(c:PyC w0 cs ds lv)(w:3<=i/\v+3<t)(d:M (i+1)=true)(b:M (i+2)=false):Calls prog 9 #[φ (t+2+i)] W fun e W'=> ∃u,e= .returned u/\PyJ w0 i t v cs ds (fun x=>decide (i+2=x)||M x) (jq φ (some (t+3+i)) u) W':=by
 have j:=c.dob.below h.bel;have r:=c.len
 have H: ∀ys:List Nat,(∀q∈ys,w0.heap.size<=q/\ ∃c T f,W.heap[q]? =some (.cells c T f)/\ ¬(T=195\/T=216\/T=57))->(∀q,M (i+8)=true->φ v=ab q 0->q∈ys)->Calls prog 9 #[φ (t+2+i)] W fun e W'=> ∃u,e= .returned u/\PyJ w0 i t v cs ds (fun x=>decide (i+2=x)||M x) (jq φ (some (t+3+i)) u) W':=fun ys k l=>
  (Do w0.heap.size ys (cs++ds) _ W h.bel.size (vS (h.e8 d b) (fun q a=>(j q a).here) (by omega)) (fun W' o=>c.tb W' (h.bel.trans o)) (fun q _=>Dq q.1) (fun q a=>(j q a).imp fun u s=>s.who) k).mono fun e W' n=>h.d9 w d b l r n
 cases ha:M (i+8) with
 |false=>exact H [] (fun q a=>absurd a List.not_mem_nil) fun q c=>tf c ha
 |true=>
  obtain⟨g,e,m,p⟩:=h.ea ha (Du (h.cl (i+9) (by omega) (by omega)) b);refine H [g] (fun q a=> ?_) fun q _ e2=> ?_
  ·rw[bL.1 a];exact⟨m,_,_,_,p,by decide⟩
  ·rw[e]at e2;injection e2 with e2;injection e2 with e2;injection e2 with e2;exact bL.2 e2.symm
theorem PyJ.d7' (h:PyJ w0 i t v cs ds M φ W)(e:3<=i/\v+3<t)(a:M (i+1)=false){c:Array Value}{n:Nat}(b:c=(DoF ds).toArray)(d:n=ds.length):PyJ w0 i t v cs ds (fun x=>decide (i=x)||M x) (jq φ (some (t+1+i)) (.slice (some (ae W.heap.size 0)) n n)) (W.alloc (.cells c 41)):=by
 subst b d;exact h.d7 e a
end
end
structure AW (S:List Sv)(a:Ap):Prop where
 lo:0<=a.fr
 hi:a.to<=1440
 fr:a.fr=a.min-a.bef
 to:a.to=a.min+a.len+a.aft
 meas:1<=a.len/\0<=a.bef/\0<=a.aft
 sv:0<=a.sv/\a.sv<S.length
 who:a.who.length=(S.getD a.sv.toNat sv0).roles.length
def NC (a b:Ap):Prop:=a.st=3\/b.st=3\/a.day≠b.day\/a.to<=b.fr\/b.to<=a.fr\/ ∀r∈a.who,r∉b.who
theorem NC.symm {a b:Ap}(h:NC a b):NC b a:=by
 rcases h with h|h|h|h|h|h
 ·exact .inr (.inl h)
 ·exact .inl h
 ·exact .inr (.inr (.inl fun e=>h e.symm))
 ·exact .inr (.inr (.inr (.inr (.inl h))))
 ·exact .inr (.inr (.inr (.inl h)))
 ·exact .inr (.inr (.inr (.inr (.inr fun r d c=>h r c d))))
structure CI (c:Co):Prop where
 svs: ∀s∈c.svs,(1<=s.len/\0<=s.bef/\0<=s.aft)/\1<=s.roles.length
 aps: ∀a∈c.aps,AW c.svs a
 nc: ∀(i j:Nat) (a b:Ap),i≠j->c.aps[i]? =some a->c.aps[j]? =some b->NC a b
theorem Dv {f:Nat->Bool}{x y:Int}(h:gW f x y=true){i:Nat}(a:x<=(i:Int))(b:(i:Int)<y):f i=true:=by
 unfold gW at h;simp only[br,bz]at h;obtain⟨⟨⟨_,d⟩,_⟩,c⟩:=h;have:=CG c i (by omega);have hi:i<1440:=by omega
 simpa[inl,a,b,hi] using this
theorem xH (r day c:Int){b:Ap}(e:b.st≠3)(f:b.day=day)(g:r∈b.who): ∀(l:List Ap) (i j:Nat),l[j]? =some b->((i+j:Nat):Int)≠c->(b.fr,b.to)∈kX r day c l i
 |[],_,_,h,_=>by simp at h
 |a::l,i,0,h,d=>by
  cases h;unfold kX;rw[aB ⟨by simpa using d,e,f,g⟩];exact bf
 |a::l,i,j+1,h,d=>by
  have:=xH r day c e f g l (i+1) j h (by rw[show i+1+j=i+(j+1) by omega];exact d);unfold kX;split
  ·exact bG _ this
  ·exact this
theorem xI {c:Co}{n:Int}{a:Ap}{day min:Int}{who:List Int}(h:(ia c n a day min who).2=0)(C:1<=a.len/\0<=a.bef/\0<=a.aft)(E:0<=a.sv/\a.sv<c.svs.length):
  AW c.svs (ia c n a day min who).1/\ ∀(j:Nat) (b:Ap),(j:Int)≠n->c.aps[j]? =some b->AW c.svs b->NC (ia c n a day min who).1 b:=by
 unfold ia at h⊢;split at h
 ·exact absurd h (by decide)
 split at h
 ·exact absurd h (by decide)
 split at h
 ·rename_i g;exact absurd h g
 split at h
 ·exact absurd h (by decide)
 rename_i y t g u;rw[ax y,ax t,ax g,ax u]
 have F:who.length=(c.svs.getD a.sv.toNat sv0).roles.length:=by
  have d:jQ who (c.svs.getD a.sv.toNat sv0).roles=0:=dM g;unfold jQ at d;split at d
  ·exact absurd d (by decide)
  ·rename_i e;exact dM e
 refine⟨⟨?_,?_,rfl,rfl,C,E,F⟩,fun j b B A f=> ?_⟩
 ·show 0<=min-a.bef;omega
 ·show min+a.len+a.aft<=1440;omega
 by_cases s:b.st=3
 ·exact .inr (.inl s)
 by_cases e2:day≠b.day
 ·exact .inr (.inr (.inl e2))
 have e2:b.day=day:=(dM e2:day=b.day).symm;by_cases v:min+a.len+a.aft<=b.fr
 ·exact .inr (.inr (.inr (.inl v)))
 by_cases w:b.to<=min-a.bef
 ·exact .inr (.inr (.inr (.inr (.inl w))))
 refine .inr (.inr (.inr (.inr (.inr fun r D l=>u ?_))));refine List.any_eq_true.2 ⟨r,D,?_⟩;cases hh:gW (fS c r day n) (min-a.bef) (min+a.len+a.aft) with
 |false=>rfl
 |true=>
  exfalso;have z: ¬(min-a.bef<0):=fun e=>t (.inl e);have G:=f.fr;have H:=f.to;have I:=f.meas;have J:=f.lo;have K:=f.hi
  obtain⟨x,m,o,p,q⟩: ∃x:Nat,min-a.bef<=(x:Int)/\(x:Int)<min+a.len+a.aft/\b.fr<=(x:Int)/\(x:Int)<b.to:=by
   by_cases e:min-a.bef<=b.fr
   ·exact⟨b.fr.toNat,by omega,by omega,by omega,by omega⟩
   ·exact⟨(min-a.bef).toNat,by omega,by omega,by omega,by omega⟩
  have i:=Dv hh m o;unfold fS rT at i;simp only[br,Bool.not_eq_true']at i
  have k:inl (kX r day n c.aps 0) x=true:=by
   unfold inl;exact List.any_eq_true.2 ⟨_,xH r day n s e2 l c.aps 0 j A (by rw[bQ];exact B),by simp[p,q];omega⟩
  rw[k]at i;exact absurd i.1.2 (by decide)
theorem AW.settle {S:List Sv}{a:Ap}(h:AW S a)(s:Int):AW S (fC a s):=⟨h.lo,h.hi,h.fr,h.to,h.meas,h.sv,h.who⟩
theorem NC.settle {a b:Ap}(h:NC a b)(c:a.st≠3)(s:Int):NC (fC a s) b:=by
 rcases h with h|h
 ·exact absurd h c
 ·exact .inr h
theorem AW.tick {S:List Sv}{a:Ap}(h:AW S a)(t:Int):AW S (iK t a):=by
 unfold iK;split
 ·exact h
 split
 ·exact h.settle 3
 ·exact⟨h.lo,h.hi,h.fr,h.to,h.meas,h.sv,h.who⟩
theorem NC.tick {a b:Ap}(h:NC a b)(t:Int):NC (iK t a) b:=by
 unfold iK;split
 ·exact h
 split
 ·exact .inl rfl
 ·exact h
theorem CI.set {c:Co}(h:CI c){n:Nat}{p:Ap}(l:AW c.svs p)(k: ∀(j:Nat) (b:Ap),j≠n->c.aps[j]? =some b->NC p b):CI {c with aps:=c.aps.set n p}:=by
 refine⟨h.svs,fun a ha=> ?_,fun i j a b e hi d=> ?_⟩
 ·rcases List.mem_or_eq_of_mem_set ha with ha|rfl
  ·exact h.aps a ha
  ·exact l
 ·replace hi:(c.aps.set n p)[i]? =some a:=hi;replace d:(c.aps.set n p)[j]? =some b:=d;rw[List.getElem?_set]at hi d;by_cases f:n=i
  ·rw[aB f]at hi;rw[ax (by omega)]at d;split at hi
   ·cases hi;exact k j b (by omega) d
   ·cases hi
  ·rw[ax f]at hi;by_cases g:n=j
   ·rw[aB g]at d;split at d
    ·cases d;exact(k i a (by omega) hi).symm
    ·cases d
   ·rw[ax g]at d;exact h.nc i j a b e hi d
theorem CI.change {c:Co}(h:CI c)(n:Int)(f:Ap->Ap×Int)(i: ∀a,c.aps[n.toNat]? =some a->0<=n->a.st≠3->(f a).2=0->AW c.svs (f a).1/\ ∀(j:Nat) (b:Ap),j≠n.toNat->c.aps[j]? =some b->NC (f a).1 b):CI (oZ c n f).2:=by
 unfold oZ;split
 ·exact h
 split
 ·exact h
 rename_i d g;obtain⟨l,p⟩:=rz fun e=>d (.inl e);have k:n.toNat<c.aps.length:=by omega
 have e:c.aps[n.toNat]? =some (c.aps.getD n.toNat ap0):=by rw[bT,ay k];rfl
 obtain⟨m,o⟩:=i _ e l (fun e=>d (.inr e)) (dM g);exact h.set m o
theorem QD {c:Co}(h:CI c)(x:Cm):CI (doS c x).2:=by
 unfold doS;split
 ·unfold J4;split
  ·exact h
  ·exact⟨h.svs,h.aps,h.nc⟩
 split
 ·unfold PD;split
  ·exact h
  split
  ·exact h
  ·exact⟨h.svs,h.aps,h.nc⟩
 split
 ·unfold PE;split
  ·exact h
  split
  ·exact h
  rename_i _ e;refine⟨fun s l=> ?_,fun a ha=> ?_,h.nc⟩
  ·rcases bN.1 l with l|l
   ·exact h.svs s l
   ·cases bL.1 l;have m:fo x.sv c.res.length=0:=dM e;unfold fo at m;split at m
    ·exact absurd m (by decide)
    ·rename_i e2;have:kG x.sv.len x.sv.bef x.sv.aft=true:=(by simpa using e2);unfold kG at this;have:=fb this;split at m
     ·exact absurd m (by decide)
     ·omega
  ·have q:=h.aps a ha;have l:=q.sv;have r:a.sv.toNat<c.svs.length:=(by omega);refine⟨q.lo,q.hi,q.fr,q.to,q.meas,⟨l.1,?_⟩,q.who.trans ?_⟩
   ·show a.sv<((c.svs++[x.sv]).length:Nat);rw[aO];omega
   ·show _=((c.svs++[x.sv]).getD a.sv.toNat sv0).roles.length;rw[bT,bT,dV r]
 split
 ·unfold fQ;split
  ·exact h
  split
  ·exact h
  split
  ·exact h
  ·exact h
 split
 ·unfold la;split
  ·exact h
  split
  ·exact h
  split
  ·exact h
  rename_i D _ E;obtain⟨G,H⟩:=rz D;have r:x.n.toNat<c.svs.length:=(by omega);have F:c.svs.getD x.n.toNat sv0∈c.svs:=(by rw[bT,ay r];exact List.getElem_mem r);obtain⟨t,u⟩:=xI (dM E) (h.svs _ F).1 ⟨G,H⟩;generalize (ia c (-1) (jX c x.n) x.sday x.smin x.swho).1=p at t u;have o: ∀(j:Nat) (b:Ap),c.aps[j]? =some b->NC p b:=fun j b f=>u j b (by omega) f (h.aps b (aN f));refine⟨h.svs,fun a ha=> ?_,fun i j a b k hi d=> ?_⟩
  ·rcases bN.1 ha with ha|ha
   ·exact h.aps a ha
   ·cases bL.1 ha;exact t
  ·replace hi:(c.aps++[p])[i]? =some a:=hi;replace d:(c.aps++[p])[j]? =some b:=d;by_cases B:i<c.aps.length
   ·rw[dV B]at hi;by_cases w:j<c.aps.length
    ·rw[dV w]at d;exact h.nc i j a b k hi d
    ·have:=(aE.1 d).1;rw[aO,eB]at this;rw[df (by omega),show j-c.aps.length=0 by omega]at d;cases d;exact(o i a hi).symm
   ·have:=(aE.1 hi).1;rw[aO,eB]at this;rw[df (by omega),show i-c.aps.length=0 by omega]at hi;cases hi;by_cases w:j<c.aps.length
    ·rw[dV w]at d;exact o j b d
    ·have:=(aE.1 d).1;rw[aO,eB]at this;omega
 split
 ·exact h.change _ _ fun a ha _ y _=>⟨(h.aps a (aN ha)).settle 2,fun j b d f=>(h.nc _ _ a b (Ne.symm d) ha f).settle y 2⟩
 split
 ·exact h.change _ _ fun a ha _ y _=>⟨(h.aps a (aN ha)).settle 3,fun j b d f=>(h.nc _ _ a b (Ne.symm d) ha f).settle y 3⟩
 split
 ·refine h.change _ _ fun a ha I _ C=> ?_;have q:=h.aps a (aN ha);obtain⟨t,u⟩:=xI C q.meas q.sv;exact⟨t,fun j b d f=>u j b (by omega) f (h.aps b (aN f))⟩
 split
 ·unfold Mv;split
  ·exact h
  refine⟨h.svs,fun a ha=> ?_,fun i j a b k hi d=> ?_⟩
  ·obtain⟨v,g,rfl⟩:=dI.1 ha;exact(h.aps v g).tick _
  ·replace hi:(c.aps.map (iK x.days))[i]? =some a:=hi;replace d:(c.aps.map (iK x.days))[j]? =some b:=d;rw[bj]at hi d;obtain⟨v,g,rfl⟩:=eN.1 hi;obtain⟨A,z,rfl⟩:=eN.1 d;exact(((h.nc i j v A k g z).tick _).symm.tick _).symm
 ·exact h
theorem Fq: ∀(l:List Cm) (c:Co),CI c->CI (ib c l).2
 |[],_,h=>h
 |x::l,_,h=>Fq l _ (QD h x)
theorem PU:CI co0:=⟨fun s c=>absurd c List.not_mem_nil,fun a ha=>absurd ha List.not_mem_nil,fun i j a b _ hi _=>by simp[co0]at hi⟩
section
theorem Rc {a:Array Oper}{A:Act}{o:Oper}{d c:Nat}{b:Bool}(g:o.guard=some (d,b))(f:(a[d]?).bind (·.dst)=some c)(e:A.tmps[c]?.getD undef=undef): ¬Region.wanted o (yielded a A.tmps)=true:=by
 unfold Region.wanted;rw[g];unfold yielded;dsimp only;rw[f];dsimp only[Option.bind_some];cases h:A.tmps[c]? with
 |none=>simp
 |some v=>
  rw[h]at e;have:v=undef:=e;subst this;simp[undef]
def mvM (i:Nat)(M:Nat->Bool):Nat->Bool:=fun x=>if x<i+8 then M x else if x=i+10 then M (i+8) else false
section
variable {w0 W:World} {i t v k:Nat} {cs ds:List (Cm×Value×Value)} {M:Nat->Bool} {φ:Nat->Value}
def PyK (w0:World)(i t v:Nat)(cs ds:List (Cm×Value×Value))(M:Nat->Bool)(φ:Nat->Value)(W:World):Prop:=PyJ w0 i t v cs ds (mvM i M) φ W
theorem pyk (d:k<i+8)(h:PyJ w0 i t v cs ds (fun x=>decide (k=x)||mvM i M x) φ W):PyK w0 i t v cs ds (fun x=>decide (k=x)||M x) φ W:=by
 have e:(mvM i fun x=>decide (k=x)||M x)=fun x=>decide (k=x)||mvM i M x:=by
  funext x;unfold mvM;dsimp only;by_cases a:x<i+8
  ·rw[aB a,aB a]
  ·have b:decide (k=x)=false:=bh (by omega);have c:decide (k=i+8)=false:=bh (by omega);rw[ax a,ax a,b,c];split<;>rfl
 unfold PyK;rw[e];exact h
theorem Mb (h:PyJ w0 i t v cs ds (fun x=>decide (i+10=x)||mvM i M x) φ W):PyK w0 i t v cs ds (fun x=>decide (i+8=x)||M x) φ W:=by
 have e:(mvM i fun x=>decide (i+8=x)||M x)=fun x=>decide (i+10=x)||mvM i M x:=by
  funext x;unfold mvM;dsimp only;by_cases b:x<i+8
  ·have a:decide (i+8=x)=false:=bh (by omega);have c:decide (i+10=x)=false:=bh (by omega);rw[aB b,aB b,a,c]
  ·rw[ax b,ax b];by_cases a:x=i+10
   ·subst a;simp
   ·rw[ax a,ax a,bh fun e=>a e.symm];rfl
 unfold PyK;rw[e];exact h
theorem PyK.start (h:aq w0 W):PyK w0 i t v cs ds (fun _=>false) φ W:=by
 unfold PyK
 rw[show mvM i (fun _=>false)=fun _=>false from funext fun x=>by
  unfold mvM;split
  ·rfl
  ·split<;>rfl]
 exact PyJ.start h
theorem PyK.fin (h:PyK w0 i t v cs ds M φ W)(k:M (i+2)=true)(e:M (i+8)=true): ∃(g ev sv av c:Value) (j:List (Sv×Value)) (d:List (Ap×Value)) (f:List (An×Value×Value)),φ (v+1)=c/\aq w0 W/\o5 w0.heap.size W (playP dk0 ((cs++ds).map fun q=>q.1)) g ev sv av c j d f:=by
 have a:mvM i M (i+2)=true:=by unfold mvM;rw[aB (by omega)];exact k
 have b:mvM i M (i+10)=true:=by unfold mvM;rw[ax (by omega),aB rfl];exact e
 obtain⟨g,ev,sv,av,c,n,j,d,f,_,m,l,_⟩:=PyJ.e9 h a;exact⟨g,ev,sv,av,c,j,d,f,m (i+10,v+1,c) (by simp[pyL]) b,PyJ.bel h,l.here⟩
end
theorem o5.at7 {B:Nat}{W:World}{P:List An×Dk}{t ev sv av b:Value}{u:List (Sv×Value)}{o:List (Ap×Value)}{m:List (An×Value×Value)}(h:o5 B W P t ev sv av b u o m): ∃i k,b= .slice i P.1.length k/\ ∀(j:Nat) (a:An),P.1[j]? =some a-> ∃(g:Nat) (n lv:Value),i=some ⟨g,0,none⟩/\W.rangeAt g (j*6) (anC a n lv).toList/\rt B W n a.who/\dT W lv a.list:=by
 obtain⟨i,k,e⟩:=dj h.ans;have s:m.length=P.1.length:=by rw[<-h.ane,aX]
 refine⟨i,k,by rw[e,s],fun j a ha=> ?_⟩;rw[<-h.ane,bj]at ha;obtain⟨q,l,rfl⟩:=eN.1 ha;obtain⟨g,c,d,_,r⟩:=kZ (f:=fun p:An×Value×Value=>anC p.1 p.2.1 p.2.2) (fun _=>rfl) h.ans rfl l;rw[e]at d;injection d with d;exact⟨g,q.2.1,q.2.2,d,r,(h.anr q (aN l)).1,(h.anr q (aN l)).2⟩
theorem tD {W:World}{g o:Nat}{a:An}{b lv:Value}(h:W.rangeAt g o (anC a b lv).toList):W.rangeAt g (o+2) [ag a.day,ag a.min,b]:=fun i u hi=>by
 match i,hi with
 |0,hi=>cases hi;exact h 2 _ rfl
 |1,hi=>cases hi;exact h 3 _ rfl
 |2,hi=>cases hi;exact h 4 _ rfl
 |i+3,hi=>simp at hi
end
theorem Bx (x y i j:Int)(p q:Value)(l f:List Int)(w:World)(ha:dT w p l)(u:dT w q f):Calls prog 16 #[.agg #[ag x,ag y,p],.agg #[ag i,ag j,q]] w fun e w'=>e= .returned (.bool (decide (x=i/\y=j/\l=f)))/\aq w w':=by
 obtain⟨A,C,t,v⟩:=nb w #[ag x,ag y,p] 39;obtain⟨B,D,s,n⟩:=nb A #[ag i,ag j,q] 39;have a:=aw t s;have c:=Kb l f p q B (ha.below a) (u.below a);have d:=bt s v;have F:=cr 0 d rfl;have G:=cr 1 d rfl;have H:=cr 2 d rfl;have I:=cr 0 n rfl;have J:=cr 1 n rfl;have K:=cr 2 n rfl;have r:=aF a;obtain⟨_,_,rfl,_,_⟩:=ha;obtain⟨_,_,rfl,_,_⟩:=u;clear t s v n d a;by_cases k:x=i
 ·subst k;have z:(x==x)=true:=(by simp);by_cases m:y=j
  ·subst m;have e2:(y==y)=true:=(by simp);rw[show decide (x=x/\y=y/\l=f)=decide (l=f) by simp];generalize decide (l=f)=b at*;go_enter func16,ntmps16;go_wp2_with fail;refine c.mono ?_;rintro e E ⟨rfl,g⟩;have a:=aw r.o g;clear c g;go_wp2_with fail;go_ret;exact⟨rfl,a⟩
  ·have e2:(y==j)=false:=(by simpa using m);rw[bh (fun h=>m h.2.1)];clear c m;go_enter func16,ntmps16;go_wp2_with fail;go_ret;exact⟨rfl,r.o⟩
 ·have z:(x==i)=false:=by simpa using k
  rw[bh (fun h=>k h.1)];clear c k;go_enter func16,ntmps16;go_wp2_with fail;go_ret;exact⟨rfl,r.o⟩
theorem uU: ∀(l m:List Cm) (c:Co),ib c (l++m)=((ib c l).1++(ib (ib c l).2 m).1,(ib (ib c l).2 m).2)
 |[],_,_=>rfl
 |x::l,m,c=>by
  show((doS c x).1::(ib (doS c x).2 (l++m)).1,(ib (doS c x).2 (l++m)).2)=_;rw[uU l m];rfl
theorem rX: ∀(l:List Cm) (c:Co),(ib c l).1.length=l.length
 |[],_=>rfl
 |x::l,c=>congrArg (· +1) (rX l (doS c x).2)
structure PV (c:Co)(n day min:Int)(who:List Int)(p:Ap):Prop where
 is:la c n day min who=(je c.aps.length,{c with aps:=c.aps++[p]})
 pl:(ia c (-1) (jX c n) day min who).2=0
 nn:isN n c.svs.length=true
 st:p.st=1/\p.left=10
 at_:p.day=day/\p.who=who/\p.fr=min-(jX c n).bef/\p.to=min+(jX c n).len+(jX c n).aft
 meas:1<=(jX c n).len/\0<=(jX c n).bef/\0<=(jX c n).aft
 wl:1<=who.length
theorem Dw {c:Co}{n:Int}{a:Ap}{day min:Int}{who:List Int}(b:(ia c n a day min who).2=0):(ia c n a day min who).1={a with fr:=min-a.bef,to:=min+a.len+a.aft,day:=day,min:=min,who:=who}:=by
 unfold ia at b⊢;split at b
 ·exact absurd b (by decide)
 split at b
 ·exact absurd b (by decide)
 split at b
 ·rename_i d;exact absurd b d
 split at b
 ·exact absurd b (by decide)
 rename_i e f d g;rw[ax e,ax f,ax d,ax g]
theorem Ok {c:Co}(m:CI c){n day min:Int}{who:List Int}(h:(la c n day min who).1.err=0): ∃p,PV c n day min who p:=by
 refine⟨(ia c (-1) (jX c n) day min who).1,?_⟩
 have e: ¬isN n c.svs.length=false/\(ia c (-1) (jX c n) day min who).2=0/\la c n day min who=(je c.aps.length,{c with aps:=c.aps++[(ia c (-1) (jX c n) day min who).1]}):=by
  unfold la at h⊢;split at h
  ·exact absurd (show(6:Int)=0 from h) (by decide)
  split at h
  ·exact absurd (show(5:Int)=0 from h) (by decide)
  split at h
  ·rename_i b;exact absurd h b
  rename_i i l b;rw[ax i,ax l,ax b];exact⟨i,dM b,rfl⟩
 obtain⟨f,e2,g⟩:=e;obtain⟨r,s⟩:=rz f;have j:n.toNat<c.svs.length:=by omega
 have o:c.svs.getD n.toNat sv0∈c.svs:=by rw[bT,ay j];exact List.getElem_mem j
 have d:=m.svs _ o;obtain⟨t,_⟩:=xI (a:=jX c n) e2 d.1 ⟨r,s⟩;have q:=t.who;rw[Dw e2]at q⊢;have k:who.length=(c.svs.getD n.toNat sv0).roles.length:=q;rw[Dw e2]at g;exact⟨g,e2,by simpa using f,⟨rfl,rfl⟩,⟨rfl,rfl,rfl,rfl⟩,d.1,by rw[k];exact d.2⟩
end Go.Proofs.YtlkehieagdkgiaaGreatDoor
