/- Texts of the proof. -/
import Derived.Test.YtaoljfdfhggbbaaGreatDoorPc15
import Derived.Lib.SmallJoins
set_option maxRecDepth 100000
set_option maxHeartbeats 8000000
namespace Go.Proofs.YtaoljfdfhggbbaaGreatDoor
open Go.Proofs.Tryz Go.RowKit Lx Vx Mx Msk
namespace Mx
end Mx
section
theorem wf (w:World)(g:TypeId)(a p:Option Addr)(n cap c:Nat)(b:n<=cap):(Builtin.append_ #[23,23] g #[.slice a n cap,.slice p 0 c]).run prog w= .ok (.slice a n cap) w:=by
 obtain⟨i,hi,d,e,f⟩:=oA oz;cases a<;>cases p<;>simp[Builtin.append_,fR qA,sizeOf,typeInfo,hi,b,Builtin.lenOf,Builtin.firstCells,storeCells,loadCells,loadCellsFrom]
theorem yc {w:World}{B:Nat}{e:TypeId}{size:Nat}{v:Value}{n:Nat}{xs:List Value}(h:w.ownsRow B e size v n xs): ∃(q:Option Addr) (c:Nat),v= .slice q n c/\n<=c:=by
 rcases h.2 with⟨e,b⟩|⟨_,_,_,e,_,_,a,_⟩
 ·exact⟨_,_,by rw[e,b],by omega⟩
 ·exact⟨_,_,e,a⟩
section
variable {ops:Array Oper} {rest:List Oper} {op:Oper} {a:Act} {w:World} {Q:Exit->Act->World->Prop}
theorem tY (k:op.guard=none)(s x:Operand)(E:op.op= .call {callee:= .builtin .append,args:= #[s,x],argTypes:= #[23,23]})(b:Nat)(l t:List Int)(v I:Value)(G:a.eval s=v)(d:w.ownsRow b 3 1 v l.length (dp l))(H:a.eval x=I)(N:dS w I t)(U:l.length+t.length<=1000000)(M:b<=w.heap.size)
  (h: ∀m w',w'.ownsRow b 3 1 m (l++t).length (dp (l++t))->w.grownBy w' v.ownBlock->wpList prog ops Q rest (a.put op.dst m) w'):wpList prog ops Q (op::rest) a w:=by
 obtain⟨p,c,e,O,F⟩:=N;subst e;by_cases D:t=[]
 ·subst D;obtain⟨S,c1,K,n⟩:=yc d;subst K;rw[il]at h;refine Go.Lib.wpList_append_run w k s x _ _ E _ _ G H _ _ (wf w _ S p _ c1 c n) (h _ _ d ⟨rfl,rfl,rfl,aB _,fun _ _ _=>rfl⟩)
 ·have i:0<t.length:=List.length_pos_iff.2 D;obtain⟨g,o,P,_⟩:=F 0 t[0] (az i);subst P;obtain⟨R,hi,y,A,B⟩:=oA oz;refine iZ (w:=w) k s x 23 E b 3 R _ 1 8 qA hi y A B rfl (by decide) v l.length (dp l) G d ⟨g,o,none⟩ t.length c (dp t) H (by rw[kK,Nat.mul_one]) ?_ ?_ (by unfold maxLen;omega) (by omega) M fun m w' C L _=> ?_
  ·intro q u f;unfold dp at f;rw[bg]at f;cases hx2:t[q]? with
   |none=>rw[hx2]at f;cases f
   |some z=>
    rw[hx2]at f;cases aN f;obtain⟨T,V,J,j⟩:=F q z hx2;cases J;rcases Nat.eq_zero_or_pos q with i|i
    ·subst i;simpa[Addr.add] using j
    ·simpa[Addr.add,Nat.ne_of_gt i] using j
  ·intro u r;unfold dp at r;rw[dV]at r;obtain⟨z,_,rfl⟩:=r;rfl
  ·refine h m w' ?_ L;rw[aP];unfold dp at C⊢;rw[dN];exact C
theorem De (W:World):(Instr.buildSlice 23 0 #[]).run prog W= .ok (.slice (some (ae W.heap.size 0)) 0 0) (W.alloc (.cells #[] 3)):=by
 kernel_rfl
theorem s7 (d:op.guard=none)(e:op.op= .buildSlice 23 0 #[])(h:wpList prog ops Q rest (a.put op.dst (.slice (some (ae w.heap.size 0)) 0 0)) (w.alloc (.cells #[] 3))):wpList prog ops Q (op::rest) a w:=
 wpList_plain d fun _ b=>by
  unfold Oper.wp execOp;have c:=De w;simp only[e,iC,fg,ju,jV,gG,c];exact b _ _ h
end
theorem Ir (w:World){g:Nat}(h:w.heap[g]? =ah #[] 3)(B:Nat)(a:B<=g):w.ownsRow B 3 1 (.slice (some (ae g 0)) ([]:List Int).length 0) ([]:List Int).length (dp []):=
 ⟨rfl,.inr ⟨g,0,#[],rfl,a,h,aB _,dw _,rfl,rfl⟩⟩
theorem Ce {w:World}{g:Nat}{n:Int}(h:w.heap[g]? =ah #[ag n] 3):dS w (.slice (some (ae g 0)) 1 1) [n]:=
 ⟨_,_,rfl,by simp,fun j m a=>⟨g,0,rfl,by
   match j,a with
   |0,a=>cases aN a;exact ak 0 h
   |j+1,a=>simp at a⟩⟩
theorem lr.low {B a:Nat}{w:World}{v:Value}{d:List Value}{c:List (List Int)}(h:lr a w v d c)(b:B<=a):lr B w v d c:=
 ⟨qC h.o b,h.len,fun i sv l e f=>qC (h.each i sv l e f) b⟩
theorem lr.first {B:Nat}{w:World}{v:Value}{a:List Value}{who:List Int}{d:List (List Int)}(h:lr B w v a (who::d)): ∃(g c:Nat) (sv:Value),v= .slice (some (ae g 0)) (d.length+1) c/\w.cell? (ae g 0)=some sv/\w.ownsRow B 3 1 sv who.length (dp who):=by
 have m:a.length=d.length+1:=h.len;rcases h.o.2 with⟨_,e⟩|⟨g,cap,b,e,_,k,_,_,_,n⟩
 ·omega
 ·have f:0<a.length:=by omega
  have j:a[0]? =some a[0]:=az f;refine⟨g,cap,a[0],by rw[e,m],?_,h.each 0 _ who j rfl⟩;rw[aZ w g 0 b _ (0,0) k,<-bp]
  have e:(a:List Value)[0]? =b.toList[0]? :=by
   have i:=congrArg (fun l:List Value=>l[0]?) n;rw[Nat.mul_one,dK f]at i;exact i.symm
  rw[<-e,j]
def okB (a:List Bool)(r:Int):Bool:=a.getD r.toNat false
end
namespace Lx
def Co (a:List T1)(r:List Tk):Prop:=0<r.length\/a=[]
theorem Co.up {a:List T1}{r q:List Tk}(h:Co a r)(b:r.length<=q.length):Co a q:=by
 rcases h with h|h
 ·exact .inl (by omega)
 ·exact .inr h
end Lx
theorem D6 {r d:Int}: ∀(l:List Kp) (j:Nat),0<=gJ r d l j-> ∃(n:Nat) (k:Kp),gJ r d l j=(j:Int)+n/\l[n]? =some k/\k.r=r/\k.d=d
 |[],j,h=>by
  have:gJ r d [] j= -1:=rfl;omega
 |k::l,j,h=>by
  by_cases a:k.r=r/\k.d=d
  ·refine⟨0,k,?_,rfl,a.1,a.2⟩;rw[gJ,aD a];omega
  ·rw[gJ,ax a]at h⊢;obtain⟨n,g,e,b,c,f⟩:=D6 l (j+1) h;exact⟨n+1,g,by rw[e];omega,b,c,f⟩
theorem N5 {l:List Kp}{v r d:Int}(h:mZ l v r d=true): ∃(n:Nat) (k:Kp),gJ r d l 0=(n:Int)/\l[n]? =some k/\k.r=r/\k.d=d/\k.v=v/\l.getD (gJ r d l 0).toNat Vx.k0=k:=by
 unfold mZ at h;rw[bG,cg,cg]at h;obtain⟨n,k,e,b,c,f⟩:=D6 l 0 h.1;have a:gJ r d l 0=(n:Int):=by rw[e];omega
 have e2:l.getD (gJ r d l 0).toNat Vx.k0=k:=by rw[a,cj];simp[List.getD,b]
 exact⟨n,k,a,b,c,f,by rw[<-e2];exact h.2,e2⟩
section
open Go.ChangeShapes Go.WideShapes Go.ChangeAt Go.WideMaps Go.WideElems Go.Joins
variable {H:Type} {enc:TypeId×Value->H} {W:World}
theorem cN9:prog.cellsOf 3=1:=by kernel_rfl
theorem Ok (g o n:Nat):(⟨g,o,none⟩:Addr).add n=⟨g,o+n,none⟩:=by
 by_cases h:n=0
 ·subst h;simp[Addr.add]
 ·simp[Addr.add,h]
theorem IQ {α:Type}{l:List α}(h:l.length=3): ∃a b c,l=[a,b,c]:=by
 match l,h with
 |[a,b,c],_=>exact⟨a,b,c,rfl⟩
theorem wt {α:Type}(X:α){size:Nat}{t e:TypeId}(ht:prog.underlying t=some (.slice e))(E:prog.cellsOf e=size)(h0:0<size)(Q:(Nat->Option Value)->α->Prop)
  (C: ∀(d:Nat) (z:List Value) (y:DataW H×List MemPlace),DataW.trod enc prog W 0 (fun _=>true) true d e z=some y-> ∃u:α,z.length=size/\Q (fun k=>z[k]?) u) {d:Nat} {z:List Value} {x:DataW H×List MemPlace}
  (h:DataW.trod enc prog W 0 (fun _=>true) true d t z=some x):
  ∃(p:Option Addr) (len cap:Nat) (V:List α),z=[.slice p len cap]/\V.length=len/\len<9223372036854775808/\ ∀(j:Nat) (u:α),V[j]? =some u-> ∃g o:Nat,p=some ⟨g,o,none⟩/\ ∃c:List Value,c.length=size/\(∀k v,c[k]? =some v->W.cell? (ae g (o+j*size+k))=some v)/\Q (fun k=>c[k]?) u:=by
 rcases DataW.trod_slice ht h with⟨G,_⟩|⟨a,len,cap,b,U,m,hf,G,_,_,ab,hm,R,n,_⟩
 ·exact⟨none,0,0,[],G,rfl,by decide,fun j u D=>by simp at D⟩
 ·have K:len<9223372036854775808:=by unfold maxLen at hm;omega
  have each: ∀i,i<len-> ∃u:α,∃g o:Nat,a=⟨g,o,none⟩/\ ∃c:List Value,c.length=size/\(∀k v,c[k]? =some v->W.cell? (ae g (o+i*size+k))=some v)/\Q (fun k=>c[k]?) u:=by
   intro i hi;have A:=n i hi;rw[E]at A;have hy:b[i]? =some (b[i]'(by omega)):=az _;rw[hy,Option.bind_eq_some_iff]at A;obtain⟨c,Z,L⟩:=A;obtain⟨u,J,hq⟩:=C _ _ _ L
   have r:a.spot=none:=by
    have B:=n 0 (by omega);rw[E]at B;have M:b[0]? =some (b[0]'(by omega)):=az _;rw[M,Option.bind_eq_some_iff]at B;obtain⟨N,I,F⟩:=B;obtain⟨_,O,_⟩:=C _ _ _ F;have e0:N[0]? =some (N[0]'(by omega)):=az _;have S:=(World.cells?_some I).2.2 0 (by omega);rw[e0]at S;have q':=World.cell?_spot S;simpa[Addr.add] using q'
   obtain⟨g,o,s⟩:=a;have q:=(World.cells?_some Z).2.2;dsimp only at r;subst r;refine⟨u,g,o,rfl,c,J,fun k v P=> ?_,hq⟩;have aa:k<c.length:=(aG.1 P).1;have T:=q k (by omega);rw[Ok,Ok,P]at T;exact T
  let f:Nat->α:=fun i=>if h:i<len then Classical.choose (each i h) else X;have w: ∀i (h:i<len),f i=Classical.choose (each i h):=fun i h=>(by simp only[f,h,dif_pos]);refine⟨some a,len,cap,(List.range len).map f,G,by simp,K,fun j u D=> ?_⟩
  have l:j<len:=by
   have:=(aG.1 D).1;simpa using this
  rw[bg,List.getElem?_range l]at D;have hu:u=Classical.choose (each j l):=(aN D).symm.trans (w j l);rw[hu];obtain⟨g,o,ea,c,A,B,Y⟩:=Classical.choose_spec (each j l);exact⟨g,o,by rw[ea],c,A,B,Y⟩
theorem K5 {α:Type}{l:List α}(h:l.length=4): ∃a b c d,l=[a,b,c,d]:=by
 match l,h with
 |[a,b,c,d],_=>exact⟨a,b,c,d,rfl⟩
end
end Go.Proofs.YtaoljfdfhggbbaaGreatDoor
