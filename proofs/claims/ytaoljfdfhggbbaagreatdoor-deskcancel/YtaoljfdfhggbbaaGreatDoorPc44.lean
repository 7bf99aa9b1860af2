/- Texts of the proof. -/
import Derived.Test.YtaoljfdfhggbbaaGreatDoorPc40
import Derived.Test.YtaoljfdfhggbbaaGreatDoorPc41
import Derived.Test.YtaoljfdfhggbbaaGreatDoorPc43
set_option maxRecDepth 100000
set_option maxHeartbeats 8000000
namespace Go.Proofs.YtaoljfdfhggbbaaGreatDoor
open Go.Proofs.Tryz Go.RowKit Lx Vx Mx Msk
section
section
variable {w w':World}
theorem IN:dS w (af) []:=⟨none,0,rfl,by decide,fun j n h=>by simp at h⟩
theorem yW:fk w (af) []:=⟨none,0,rfl,by decide,fun j n h=>by simp at h⟩
theorem ML {g:Nat}{sv:Value}{l:List Int}{T:TypeId}(h:w.heap[g]? =ah #[sv] T)(b:dS w sv l):fk w (.slice (some (ae g 0)) 1 1) [l]:=by
 refine⟨some ⟨g,0,none⟩,1,rfl,by simp,fun j m a=> ?_⟩;match j,a with
 |0,a=>cases a;exact⟨g,0,sv,rfl,aZ _ _ _ _ _ _ h,b⟩
 |j+1,a=>simp at a
def sR (B:Nat)(w:World)(v:Value)(a:List (Cm×Value×Value)):Prop:=w.ownsRow B 31 13 v a.length (a.flatMap fun q=>(doC q.1 q.2.1 q.2.2).toList)/\ ∀q∈a,Rob (fun k=>some k≠v.ownBlock) (fun u=>lx u q.1 q.2.1 q.2.2) w
theorem vd {B:Nat}{v:Value}{a:List (Cm×Value×Value)}(h:w.ownsRow B 31 13 v a.length (a.flatMap fun q=>(doC q.1 q.2.1 q.2.2).toList))(i: ∀q∈a,lx w q.1 q.2.1 q.2.2)(l:a.length<9223372036854775808):kU w v a:=by
 obtain⟨p,k,d⟩:=df h;refine⟨p,k,d,l,fun j q b=>⟨i q (aM b),?_⟩⟩;obtain⟨g,c,e,_,m⟩:=jQ (f:=fun q:Cm×Value×Value=>doC q.1 q.2.1 q.2.2) (fun q=>rfl) h rfl b;rw[d]at e;cases e;exact⟨g,0,rfl,by rw[bN];exact m⟩
theorem sR.row {B:Nat}{v:Value}{a:List (Cm×Value×Value)}(h:sR B w v a)(b:a.length<9223372036854775808):kU w v a:=vd h.1 (fun q c=>(h.2 q c).here) b
theorem sR.below {B:Nat}{v:Value}{c:List (Cm×Value×Value)}(h:sR B w v c)(d:aq w w'):sR B w' v c:=
 ⟨br h.1 fun b a=>d.block b (h.1.lt b a).2,fun q a=>(h.2 q a).below d⟩
theorem MM {c:Cm}{a b:Value}(h:lx w c a b):(doC c a b).all (·.oneCell')=true:=by
 obtain⟨_,_,rfl,_⟩:=h.roles;obtain⟨_,_,rfl,_⟩:=h.who;exact Ed ..
theorem r8: ∀a:List (Cm×Value×Value),(a.flatMap fun q=>(doC q.1 q.2.1 q.2.2).toList).length=a.length*13
 |[]=>rfl
 |c::a=>by
  rw[List.flatMap_cons,aP,r8 a,bJ];show 13+_=_;omega
theorem Oj {a:List (Cm×Value×Value)}{g o:Nat}(h: ∀(j:Nat) (q:Cm×Value×Value),a[j]? =some q->w.rangeAt g (o+j*13) (doC q.1 q.2.1 q.2.2).toList):w.rangeAt g o (a.flatMap fun q=>(doC q.1 q.2.1 q.2.2).toList):=by
 intro k u c
 have d:k<a.length*13:=by
  have:=(aG.1 c).1;rwa[r8]at this
 obtain⟨q,b⟩: ∃q,a[k/13]? =some q:=⟨_,az (by omega)⟩
 have e:=oH (f:=fun q:Cm×Value×Value=>doC q.1 q.2.1 q.2.2) (m:=13) (fun q=>rfl) b (k%13) (Nat.mod_lt _ (by decide));rw[show k/13*13+k%13=k by omega,c]at e;have:=h _ q b (k%13) u (by rw[bp];exact e.symm);rwa[show o+k/13*13+k%13=o+k by omega]at this
theorem uk {n:Array Oper}{d:List Oper}{o:Oper}{a:Act}{Q:Exit->Act->World->Prop}(E:o.guard=none)(s x:Operand)(X:o.op= .call {callee:= .builtin .append,args:= #[s,x],argTypes:= #[22,22]})
  {B:Nat} {v P:Value} {r c:List (Cm×Value×Value)} (Z:a.eval s=v) (D:sR B w v r) (hx:a.eval x=P) (U:kU w P c) (R:0<c.length) (M: ∀q∈c,Rob (fun k=>some k≠v.ownBlock) (fun u=>lx u q.1 q.2.1 q.2.2) w) (W:r.length+c.length<=100000) (L:B<=w.heap.size)
  (h: ∀C w',sR B w' C (r++c)->Below B w w'->w.grownBy w' v.ownBlock->wpList prog n Q d (a.put o.dst C) w'):wpList prog n Q (o::d) a w:=by
 obtain⟨i,hi,I,J,K⟩:=oA (t:=31) (z:= .agg (doC ⟨0,0,0,0,[],[],sv0,0,0,[]⟩ (af) (af))) (a:=13) (b:=152) (by kernel_rfl);obtain⟨p,k,rfl,_,N⟩:=U;obtain⟨q0,G⟩: ∃q,c[0]? =some q:=⟨_,az R⟩
 obtain⟨_,g,A,rfl,_⟩:=N 0 q0 G
 have T:w.rangeAt g A (c.flatMap fun q=>(doC q.1 q.2.1 q.2.2).toList):=Oj fun j q V=>by
  obtain⟨_,g',o',e,Y⟩:=N j q V;cases e;exact Y
 refine wpList_append_own_at w E s x 22 X B 31 i _ 13 152 (by kernel_rfl) hi I J K rfl (by decide) v r.length _ Z D.1 ⟨g,A,none⟩ c.length k (c.flatMap fun q=>(doC q.1 q.2.1 q.2.2).toList) hx ?_ (fun j u m=> ?_) (fun u m=> ?_) (by unfold maxLen;omega) (bf (Nat.mul_le_mul_right _ W) (by decide)) L fun C w' S y _ f=> ?_
 ·exact r8 c
 ·rw[show(⟨g,A,none⟩:Addr).add j=⟨g,A+j,none⟩ by simp[Addr.add]];exact T j u m
 ·obtain⟨q,F,m⟩:=List.mem_flatMap.1 m;exact Array.all_eq_true'.1 (MM (M q F).here) u (Array.mem_toList_iff.1 m)
 ·refine h C w' ⟨?_,fun q F=> ?_⟩ (gZ (aI _ _) y L fun k l=>(D.1.lt k l).1) y
  ·rw[aP,fw];exact S
  ·have H:Rob (fun k=>some k≠v.ownBlock) (fun u=>lx u q.1 q.2.1 q.2.2) w:=(bU.1 F).elim (D.2 q) (M q);refine H.move y.size (fun k l O=>y.block k O l) fun k O l=> ?_;rcases f with f|f
   ·rw[f];exact l
   ·rw[f];intro e;cases e;omega
theorem rg {B g n m:Nat}{a:Array Value}{T:TypeId}(h:w.heap[g]? =ah a T)(c:B<=g)(b:a.size=n*m)(d:n<=maxLen):w.ownsRow B T m (.slice (some (ae g 0)) n n) n a.toList:=
 ⟨by rw[bQ];exact b,.inr ⟨g,n,a,rfl,c,h,aB _,d,b,by rw[cQ (by rw[bQ,b];exact aB _)]⟩⟩
theorem r9 (c:Cm)(a:c.sv.roles=[])(b:c.swho=[])(d:c.text.length<=9223372036854775807)(f:c.name.length<=9223372036854775807):lx w c (af) (af):=
 ⟨by rw[a];exact yW,by rw[b];exact IN,d,f,fun p n k e=>by cases e;exact aB _⟩
end
def sC (a:Value):List (Cm×Value×Value):=[(⟨1,0,0,0,aS,[],sv0,0,0,[]⟩,af,af),(⟨2,0,0,0,[],[97],sv0,0,0,[]⟩,af,af),(⟨3,0,0,0,[],[],la,0,0,[]⟩,a,af)]
theorem IP (w:World):Calls prog 6 #[] w fun e w'=> ∃v b,e= .returned v/\aq w w'/\sR w.heap.size w' v (sC b):=by
 obtain⟨x,D,b1,s⟩:=nb w #[ag 0] 3;obtain⟨l,E,b2,t⟩:=nb x #[.slice (some (ae w.heap.size 0)) 1 1] 23;have c:=aF b1;have a:=aF b2;have m:=aF s;have d:=aF t;clear b1 b2 s t;go_enter func6,ntmps6;go_wp2_with fail;go_ret;obtain⟨b,j⟩:=au (.slice (some (ae x.heap.size 0)) 1 1:Value)
 suffices H: ∀W,l.alloc (.cells ((sC b).flatMap fun q=>(doC q.1 q.2.1 q.2.2).toList).toArray 31)=W->aq w W/\sR w.heap.size W (.slice (some (ae l.heap.size 0)) 3 3) (sC b) by
  rw[j];exact⟨_,b,rfl,H _ rfl⟩
 intro G A;obtain⟨C,f,b3,B⟩:=nb l ((sC b).flatMap fun q=>(doC q.1 q.2.1 q.2.2).toList).toArray 31;rw[A]at f;subst f;have z:=aw c.o a.o;refine⟨aw z b3,rg (n:=3) B (bf c.o.size a.o.size) rfl (by decide),fun q i u F ha=> ?_⟩;have g: ∀k,k<l.heap.size->u.heap[k]? =l.heap[k]? :=fun k r=>(ha k (fun e=>Nat.ne_of_lt r (aN e)) (aT r b3.size)).trans (b3.block k r);subst j;rcases bv.1 i with rfl|i
 ·exact r9 _ rfl rfl (by decide) (by decide)
 rcases bv.1 i with rfl|i
 ·exact r9 _ rfl rfl (by decide) (by decide)
 cases bT.1 i;have y:=bt a.o m.o;exact⟨ML ((g _ (aH d.o)).trans d.o) (Ce ((g _ (aH y)).trans y)),IN,dw _,dw _,fun p n k e=>by cases e;exact aB _⟩
end
def eC (g:Nat):List (Cm×Value×Value):=[(⟨4,0,7,2,[],[],sv0,0,0,[]⟩,af,af),(⟨5,0,0,0,[],[],sv0,7,540,[0]⟩,af,.slice (some (ae g 0)) 1 1)]
theorem Do (w:World)(hT:Tbs w.heap.size w):Calls prog 4 #[] w fun e w'=>e= .returned (.bool true)/\aq w w':=by
 have c1:=IP w;have HT:=aF hT;clear hT;go_enter func4,ntmps4;go_wp2_with fail;refine c1.mono ?_;rintro e l ⟨v,rv,rfl,b1,F⟩;have J:=aF b1;have X:=aF F;clear b1 c1;obtain⟨p,k,Q⟩:=df F.1;subst Q;dsimp only[sC,List.length]at F⊢;clear F;obtain⟨w2,h2,b2,G⟩:=nb l #[ag 0] 3;obtain⟨w3,h3,b3,H⟩:=nb w2 #[ag 4,ag 0,ag 7,ag 2,.string ⟨#[]⟩,.string ⟨#[]⟩,ag 0,ag 0,ag 0,af,ag 0,ag 0,af,ag 5,ag 0,ag 0,ag 0,.string ⟨#[]⟩,.string ⟨#[]⟩,ag 0,ag 0,ag 0,af,ag 7,ag 540,.slice (some (ae l.heap.size 0)) 1 1] 31;have s:=(X.o.below b2).below b3;have z:=aw b2 b3
 have O: ∀q∈eC l.heap.size,Rob (fun j=>some j≠(Value.slice p 3 k).ownBlock) (fun u=>lx u q.1 q.2.1 q.2.2) w3:=fun q C u hu ha=>by
  rcases bv.1 C with rfl|C
  ·exact r9 _ rfl rfl (dw _) (dw _)
  cases bT.1 C;have y:=bt b3 G;exact⟨yW,Ce ((ha _ (fun e=>Nat.lt_irrefl _ (X.o.1.lt _ e.symm).2) (aH y)).trans y),dw _,dw _,fun p n k e=>by cases e;exact aB _⟩
 have hX:kU w3 (.slice (some (ae w2.heap.size 0)) 2 2) (eC l.heap.size):=vd (B:=0) (rg (n:=2) H (dw _) rfl (by decide)) (fun q C=>(O q C).here) (by decide:2<9223372036854775808);have m:=aF (aw J.o z);have r:=aF s;have Y:=aF O;have Z:=aF hX;clear s O hX b2 b3 G H z;go_wp2_with(refine uk rfl _ _ rfl rfl r.o rfl Z.o (show 0<2 by decide) Y.o (show 5<=100000 by decide) m.o.size ?_;intro v' w4 t b4 _)
 have b:=m.o.trans b4;have K:=aF b;have N:=Kw (sC rv++eC l.heap.size) v' w4 (t.row (show 5<9223372036854775808 by decide)) (fun W hW=>HT.o W (aw b hW)) (fun q _=>CA q.1);rw[show(sC rv++eC l.heap.size).map (fun q=>q.1)=aC from rfl]at N;clear b b4 t Z Y r;refine N.mono ?_;clear N;rintro e I ⟨b5,h5⟩;rcases h5 with⟨P,_⟩|⟨P,ac,ev,sv,av,ab,ss,aa,V,rfl,a⟩
 ·exact absurd P (by decide)
 clear P;replace a:=a.here;rw[Oi]at a⊢
 have A:V.length=5:=by
  have:=congrArg List.length a.ane;rw[ba]at this;exact this
 have x:aa.length=1:=by
  have:=congrArg List.length a.ape;rw[ba]at this;exact this
 obtain⟨us,D,U⟩:=a.rules;obtain⟨p1,k1,rfl⟩:=D.form;obtain⟨p2,k2,rfl⟩:=df a.res;obtain⟨p3,k3,rfl⟩:=df a.svs;obtain⟨pa,ka,rfl⟩:=df a.aps;obtain⟨q3,d⟩: ∃q,V[3]? =some q:=⟨_,az (by omega)⟩
 obtain⟨q4,i⟩: ∃q,V[4]? =some q:=⟨_,az (by omega)⟩
 have f3:q3.1=⟨0,0,7,540,[0],[]⟩:=by
  have:=congrArg (·[3]?) a.ane;rw[bg,d]at this;exact aN this
 have f4:q4.1=iW 0:=by
  have:=congrArg (·[4]?) a.ane;rw[bg,i]at this;exact aN this
 obtain⟨g,c,Q,S,r3⟩:=jQ (f:=fun p:An×Value×Value=>anC p.1 p.2.1 p.2.2) (fun _=>rfl) a.ans rfl d;obtain⟨g',c',R,T,r4⟩:=jQ (f:=fun p:An×Value×Value=>anC p.1 p.2.1 p.2.2) (fun _=>rfl) a.ans rfl i;subst Q;cases R;have y3:I.cell? (ae g 21)=some (ag 540):=r3 3 _ (by rw[f3];rfl);have y4:I.cell? (ae g 24)=some (ag 0):=r4 0 _ (by rw[f4];rfl);rw[x,A];clear a D r3 r4 f3 f4 d i S T U A x h2 h3;dsimp only[dA];generalize us.length=n1;generalize ss.length=H;generalize List.length [[97]]=G;obtain⟨wZ,wC,hZ,nZ,hC,E,nC⟩:=nbs I #[af,af,af,af] #[.slice p1 n1 k1,.slice p2 G k2,.slice p3 H k3,.slice pa 1 ka] 37;have z3:=aj E y3;have z4:=aj E y4;have y5:wC.cell? (ae I.heap.size 3)=some (.slice pa 1 ka):=cr 3 nC rfl;have L:=aF (aw K.o b5);have M:=aF (aw L.o E);clear y3 y4 b5 E nC;go_wp2_with(refine ay rfl 37 _ _ rfl _ _ rfl rfl _ _ nZ (by kernel_rfl) rfl (by simp[Value.oneCell']) ?_)
 go_ret;exact⟨rfl,M.o⟩
section
open Go.ChangeShapes Go.WideShapes Go.ChangeAt Go.WideMaps Go.WideElems Go.Joins
variable {H:Type} {enc:TypeId×Value->H} {W:World}
theorem Ol:prog.cellsOf 23=1:=by kernel_rfl
theorem O8:prog.cellsOf 27=1:=by kernel_rfl
theorem Om:prog.cellsOf 29=4:=by kernel_rfl
theorem KB (a:Nat)(b:List Value)(y:DataW H×List MemPlace)(h:DataW.trod enc prog W 0 (fun _=>true) true a 3 b=some y): ∃u:Int,b.length=1/\(fun k:Nat=>b[k]?) 0=some (ag u):=by
 obtain⟨x,e,_⟩:=DataW.trod_int underlying3 h;subst e;exact⟨x,rfl,rfl⟩
theorem yj {a:Nat}{f:List Value}{x:DataW H×List MemPlace}(h:DataW.trod enc prog W 0 (fun _=>true) true a 23 f=some x): ∃(sl:Value) (l:List Int),f=[sl]/\dS W sl l:=by
 obtain⟨p,len,cap,s,e,i,n,b⟩:=wt (0:Int) (Q:=fun c u=>c 0=some (ag u)) qA cN9 (by decide) KB h;refine⟨_,s,e,p,cap,by rw[i],by rw[i];exact n,fun j u m=> ?_⟩;obtain⟨g,o,q,c,k,d,r⟩:=b j u m;exact⟨g,o,q,by simpa using d 0 _ r⟩
theorem FQ (a:Nat)(b:List Value)(y:DataW H×List MemPlace)(h:DataW.trod enc prog W 0 (fun _=>true) true a 23 b=some y): ∃u:List Int×Value,b.length=1/\((fun k:Nat=>b[k]?) 0=some u.2/\dS W u.2 u.1):=by
 obtain⟨sl,l,rfl,c⟩:=yj h;exact⟨(l,sl),rfl,rfl,c⟩
theorem Dp {a:Nat}{i:List Value}{x:DataW H×List MemPlace}(h:DataW.trod enc prog W 0 (fun _=>true) true a 27 i=some x): ∃(sl:Value) (l:List (List Int)),i=[sl]/\fk W sl l:=by
 obtain⟨p,len,cap,m,e,k,q,b⟩:=wt (([],af):List Int×Value) (Q:=fun c u=>c 0=some u.2/\dS W u.2 u.1) BV Ol (by decide) FQ h;refine⟨_,m.map (fun u=>u.1),e,p,cap,by rw[ba,k],by rw[ba,k];exact q,fun j l d=> ?_⟩;rw[bg]at d;cases hu:m[j]? with
 |none=>rw[hu]at d;cases d
 |some u=>
  rw[hu]at d;cases aN d;obtain⟨g,o,r,c,n,f,s,t⟩:=b j u hu;exact⟨g,o,u.2,r,by simpa using f 0 _ s,t⟩
end
section
open Go.ChangeShapes Go.WideShapes Go.ChangeAt Go.WideMaps Go.WideElems Go.Joins
variable {H:Type} {enc:TypeId×Value->H} {W:World}
theorem On:prog.cellsOf 25=3:=by kernel_rfl
theorem PH:prog.cellsOf 9=1:=by kernel_rfl
theorem Oo:prog.cellsOf 31=13:=by kernel_rfl
theorem FR {b:Nat}{i:List Value}{x:DataW H×List MemPlace}(h:DataW.trod enc prog W 0 (fun _=>true) true b 23 i=some x): ∃(sl:Value) (l:List Int),i=[sl]/\dS W sl l/\ ∀p n k,sl= .slice p n k->n<=k:=by
 obtain⟨sl,l,e,q⟩:=yj h;refine⟨sl,l,e,q,fun p n k e2=> ?_⟩;rw[e,e2]at h;rcases DataW.trod_slice qA h with⟨c,_⟩|⟨a,j,g,d,o,m,_,c,_,_,f,r,_⟩
 ·cases c;exact aB _
 ·cases c;exact f
theorem yl {d:Nat}{f:List Value}{y:DataW H×List MemPlace}(h:DataW.trod enc prog W 0 (fun _=>true) true d 25 f=some y): ∃(a b:Int) (sl:Value) (l:List Int),f=[ag a,ag b,sl]/\dS W sl l/\ ∀p n k,sl= .slice p n k->n<=k:=by
 obtain⟨xs,m,_,_,q,s,c⟩:=DataW.trod_struct underlying25 h;rw[On]at q;obtain⟨c0,c1,e,rfl⟩:=IQ q;obtain⟨t,u,v,rfl⟩:=IQ (show xs.length=3 from s);have i:DataW.trod enc prog W 0 (fun _=>true) true m 3 (([c0,c1,e].drop 0).take (prog.cellsOf 3))=some t:=c 0 _ rfl;have j:DataW.trod enc prog W 0 (fun _=>true) true m 3 (([c0,c1,e].drop 1).take (prog.cellsOf 3))=some u:=c 1 _ rfl;have o:DataW.trod enc prog W 0 (fun _=>true) true m 23 (([c0,c1,e].drop 2).take (prog.cellsOf 23))=some v:=c 2 _ rfl;rw[cN9]at i j;rw[Ol]at o;obtain⟨a,e0,_⟩:=DataW.trod_int underlying3 i;obtain⟨b,g,_⟩:=DataW.trod_int underlying3 j;obtain⟨sl,l,e2,r⟩:=FR o;simp at e0 g e2;subst e0 g e2;exact⟨a,b,e,l,rfl,r⟩
theorem KC {f:Nat}{i:List Value}{y:DataW H×List MemPlace}(h:DataW.trod enc prog W 0 (fun _=>true) true f 29 i=some y): ∃(a b c:Int) (sl:Value) (l:List (List Int)),i=[ag a,ag b,ag c,sl]/\fk W sl l:=by
 obtain⟨xs,m,_,_,r,t,d⟩:=DataW.trod_struct underlying29 h;rw[Om]at r;obtain⟨c0,c1,g,e,rfl⟩:=K5 r;obtain⟨u,v,w,x,rfl⟩:=K5 (show xs.length=4 from t);have n:DataW.trod enc prog W 0 (fun _=>true) true m 3 (([c0,c1,g,e].drop 0).take (prog.cellsOf 3))=some u:=d 0 _ rfl;have o:DataW.trod enc prog W 0 (fun _=>true) true m 3 (([c0,c1,g,e].drop 1).take (prog.cellsOf 3))=some v:=d 1 _ rfl;have p:DataW.trod enc prog W 0 (fun _=>true) true m 3 (([c0,c1,g,e].drop 2).take (prog.cellsOf 3))=some w:=d 2 _ rfl;have q:DataW.trod enc prog W 0 (fun _=>true) true m 27 (([c0,c1,g,e].drop 3).take (prog.cellsOf 27))=some x:=d 3 _ rfl;rw[cN9]at n o p;rw[O8]at q;obtain⟨a,e0,_⟩:=DataW.trod_int underlying3 n;obtain⟨b,j,_⟩:=DataW.trod_int underlying3 o;obtain⟨c,e2,_⟩:=DataW.trod_int underlying3 p;obtain⟨sl,l,k,s⟩:=Dp q;simp at e0 j e2 k;subst e0 j e2 k;exact⟨a,b,c,e,l,rfl,s⟩
theorem AC {a:Nat}{b:List Value}{y:DataW H×List MemPlace}(h:DataW.trod enc prog W 0 (fun _=>true) true a 9 b=some y): ∃s:List UInt8,b=[kO s]/\s.length<=9223372036854775807:=by
 obtain⟨s,e,_,c⟩:=DataW.trod_string underlying9 h;refine⟨s.data.toList,by rw[e];rfl,?_⟩;unfold maxLen at c;have:s.data.toList.length=s.size:=bQ;omega
theorem KD (p:Nat)(o:List Value)(y:DataW H×List MemPlace)(h:DataW.trod enc prog W 0 (fun _=>true) true p 31 o=some y): ∃u:Cm×Value×Value,o.length=13/\((∀k,(fun k:Nat=>o[k]?) k=(doC u.1 u.2.1 u.2.2).toList[k]?)/\lx W u.1 u.2.1 u.2.2):=by
 obtain⟨xs,m,_,_,hl,hx,n⟩:=DataW.trod_struct underlying31 h;rw[Oo]at hl
 obtain⟨D,E,F,G,I,J,K,M,rfl⟩: ∃D E F G I J K M,xs=[D,E,F,G,I,J,K,M]:=by
  match xs,(show xs.length=8 from hx) with
  |[a,b,c,d,e,f,g,h],_=>exact⟨a,b,c,d,e,f,g,h,rfl⟩
 obtain⟨c0,c1,q,r,s,t,v,w,x,z,A,B,C,rfl⟩: ∃c0 c1 q r s t v w x z A B C,o=[c0,c1,q,r,s,t,v,w,x,z,A,B,C]:=by
  match o,hl with
  |[a,b,c,d,e,f,g,h,i,j,k,l,m],_=>exact⟨a,b,c,d,e,f,g,h,i,j,k,l,m,rfl⟩
 generalize hL:[c0,c1,q,r,s,t,v,w,x,z,A,B,C]=L at n;have S:DataW.trod enc prog W 0 (fun _=>true) true m 3 ((L.drop 0).take (prog.cellsOf 3))=some D:=n 0 _ rfl;have T:DataW.trod enc prog W 0 (fun _=>true) true m 3 ((L.drop 1).take (prog.cellsOf 3))=some E:=n 1 _ rfl;have U:DataW.trod enc prog W 0 (fun _=>true) true m 3 ((L.drop 2).take (prog.cellsOf 3))=some F:=n 2 _ rfl;have V:DataW.trod enc prog W 0 (fun _=>true) true m 3 ((L.drop 3).take (prog.cellsOf 3))=some G:=n 3 _ rfl;have X:DataW.trod enc prog W 0 (fun _=>true) true m 9 ((L.drop 4).take (prog.cellsOf 9))=some I:=n 4 _ rfl;have Y:DataW.trod enc prog W 0 (fun _=>true) true m 9 ((L.drop 5).take (prog.cellsOf 9))=some J:=n 5 _ rfl;have Z:DataW.trod enc prog W 0 (fun _=>true) true m 29 ((L.drop 6).take (prog.cellsOf 29))=some K:=n 6 _ rfl;have h7:DataW.trod enc prog W 0 (fun _=>true) true m 25 ((L.drop 10).take (prog.cellsOf 25))=some M:=n 7 _ rfl;rw[cN9]at S T U V;rw[PH]at X Y;rw[Om]at Z;rw[On]at h7;subst hL;obtain⟨z0,e0,_⟩:=DataW.trod_int underlying3 S;obtain⟨z1,N,_⟩:=DataW.trod_int underlying3 T;obtain⟨z2,e2,_⟩:=DataW.trod_int underlying3 U;obtain⟨z3,O,_⟩:=DataW.trod_int underlying3 V;obtain⟨s4,P,l4⟩:=AC X;obtain⟨s5,Q,l5⟩:=AC Y;obtain⟨a6,b6,d6,r6,l6,R,q6⟩:=KC Z;obtain⟨a7,b7,w7,l7,e7,q7,k7⟩:=yl h7;simp at e0 N e2 O P Q R e7;refine⟨(⟨z0,z1,z2,z3,s4,s5,⟨a6,b6,d6,l6⟩,a7,b7,l7⟩,r6,w7),rfl,fun k=> ?_,q6,q7,l4,l5,k7⟩;simp only[e0,N,e2,O,P,Q,R,e7];rfl
theorem KE {r:Reach}{b0:Nat}{v:Value}{d:DataW H}{q:List MemPlace}(B:Value.okWide prog W r b0 22 v)(h:DataW.Trod enc prog W 0 (fun _=>true) true 22 v d q): ∃m,kU W v m:=by
 obtain⟨l,k0,c0,rfl⟩:=okWide_slice underlying22 B;obtain⟨f,t⟩:=h;obtain⟨p,len,cap,E,e,i,z,a⟩:=wt ((⟨0,0,0,0,[],[],sv0,0,0,[]⟩,af,af):Cm×Value×Value) (Q:=fun c u=>(∀k,c k=(doC u.1 u.2.1 u.2.2).toList[k]?)/\lx W u.1 u.2.1 u.2.2) underlying22 Oo (by decide) KD t;have n:Value.slice l k0 c0= .slice p len cap:=by simpa[Value.cells] using e
 refine⟨E,p,cap,by rw[n,i],by rw[i];exact z,fun j u w=> ?_⟩;obtain⟨g,o,A,c,s,b,C,D⟩:=a j u w;exact⟨D,g,o,A,fun k x y=>b k x ((C k).trans y)⟩
theorem MN {r:List TypeId}{l:List (DataW H)}(i:(DataW.weightsEach prog r l).all (· <=reachBytes)=true){j:Nat}(x:r[j]? =some 22){d:DataW H}(t:l[j]? =some d){v:Value}{p:List MemPlace}(h:DataW.Trod enc prog W 0 (fun _=>true) true 22 v d p){k:List (Cm×Value×Value)}(w:kU W v k):k.length<=1000000000000:=by
 obtain⟨z,y,b,_⟩:=w;obtain⟨n,u⟩:=h;rcases DataW.trod_slice underlying22 u with⟨e,_⟩|⟨a,len,cap,c,g,m,_,e,ex,_,_,_,q,_⟩
 ·have f:v=af:=by rw[b]at e⊢;simpa[Value.cells] using e
  rw[b]at f;injection f with _ e2;omega
 ·have f:v= .slice (some a) len cap:=by rw[b]at e⊢;simpa[Value.cells] using e
  have s:d= .slice (c.map (·.1)) (g.map (·.1)):=congrArg Prod.fst ex;subst s;have o:=sized_slice i x t underlying22;rw[show prog.bytesOf 31=152 by kernel_rfl,ba,ba]at o;rw[b]at f;injection f with _ e2;unfold reachBytes at o;omega
theorem IR {r:Reach}{b0:Nat}{v:Value}{d:DataW H}{q:List MemPlace}(m:Value.okWide prog W r b0 25 v)(h:DataW.Trod enc prog W 0 (fun _=>true) true 25 v d q): ∃(a b:Int) (sl:Value) (l:List Int),v= .agg #[ag a,ag b,sl]/\dS W sl l/\ ∀p n k,sl= .slice p n k->n<=k:=by
 obtain⟨c,rfl,_⟩:=okWide_struct underlying25 m;obtain⟨f,i⟩:=h;obtain⟨a,b,sl,l,e,j⟩:=yl i;have g:c.toList=[ag a,ag b,sl]:=e;exact⟨a,b,sl,l,by rw[<-Array.toList_inj.1 (show c.toList= #[ag a,ag b,sl].toList from g)],j⟩
theorem KF {c:World}{v:Value}{d:DataW H}{p:List MemPlace}(h:DataW.Trod enc prog W 0 (fun _=>true) true 22 v d p)(e:aq W c)(a: ∀x∈p,x.block<W.heap.size):DataW.Trod enc prog c 0 (fun b=>decide (b<W.heap.size)) true 22 v d p:=
 Below.trod (by kernel_rfl) (by kernel_rfl) (fE (by kernel_rfl)) h e a
theorem FT {c:World}{v:Value}{d:DataW H}{p:List MemPlace}(h:DataW.Trod enc prog W 0 (fun _=>true) true 25 v d p)(e:aq W c)(a: ∀x∈p,x.block<W.heap.size):DataW.Trod enc prog c 0 (fun b=>decide (b<W.heap.size)) true 25 v d p:=
 Below.trod (by kernel_rfl) (by kernel_rfl) (fE (by kernel_rfl)) h e a
end
section
abbrev DoF (cs:List (Cm×Value×Value)):List Value:=cs.flatMap fun q=>(doC q.1 q.2.1 q.2.2).toList
def DoB (B:Nat)(w:World)(cs:List (Cm×Value×Value)):Prop:= ∀q∈cs,Rob (fun k=>k<B) (fun u=>lx u q.1 q.2.1 q.2.2) w
theorem DoB.below {B:Nat}{w w':World}{cs:List (Cm×Value×Value)}(h:DoB B w cs)(a:aq w w'):DoB B w' cs:=fun q b=>(h q b).below a
theorem CB {w u:World}{v:Value}{d:List (List Int)}(h:fk w v d)(b: ∀q,q<w.heap.size->u.heap[q]? =w.heap[q]?):fk u v d:=by
 obtain⟨p,c,f,i,k⟩:=h;refine⟨p,c,f,i,fun j x l=> ?_⟩;obtain⟨g,o,sv,e,a,m⟩:=k j x l;exact⟨g,o,sv,e,(ef (b g (bP a))).trans a,oU m b⟩
theorem CC {w:World}{v:Value}{cs:List (Cm×Value×Value)}(h:kU w v cs):DoB w.heap.size w cs:=fun q e u _ ha=>by
 obtain⟨_,_,_,_,b⟩:=h;obtain⟨j,d⟩:=List.getElem?_of_mem e;have c:=(b j q d).1;exact⟨CB c.roles fun k a=>ha k a a,oU c.who fun k a=>ha k a a,c.text,c.name,c.cap⟩
theorem wu (w:World)(k:TypeId)(d p:Option Addr)(n cap c:Nat)(e:n<=cap):(Builtin.append_ #[22,22] k #[.slice d n cap,.slice p 0 c]).run prog w= .ok (.slice d n cap) w:=by
 obtain⟨l,hi,g,i,j⟩:=oA (t:=31) (z:= .agg (doC ⟨0,0,0,0,[],[],sv0,0,0,[]⟩ (af) (af))) (a:=13) (b:=152) (by kernel_rfl);have f:prog.underlying 22=some (.slice 31):=by kernel_rfl
 cases d<;>cases p<;>simp[Builtin.append_,fR f,sizeOf,typeInfo,hi,e,Builtin.lenOf,Builtin.firstCells,storeCells,loadCells,loadCellsFrom]
theorem vD {g:Array Oper}{b:List Oper}{o:Oper}{a:Act}{w:World}{Q:Exit->Act->World->Prop}(d:o.guard=none)(s x:Operand)(r:o.op= .call {callee:= .builtin .append,args:= #[s,x],argTypes:= #[22,22]})
  {B:Nat} {v A:Value} {cs ds:List (Cm×Value×Value)} (t:a.eval s=v) (i:w.ownsRow B 31 13 v cs.length (DoF cs)) (y:a.eval x=A) (n:kU w A ds) (G:DoB B w (cs++ds)) (H:cs.length+ds.length<=100000) (F:B<=w.heap.size)
  (h: ∀j w',w'.ownsRow B 31 13 j (cs++ds).length (DoF (cs++ds))->w.grownBy w' v.ownBlock->wpList prog g Q b (a.put o.dst j) w'):wpList prog g Q (o::b) a w:=by
 by_cases m:ds=[]
 ·subst m;obtain⟨I,c1,C,l⟩:=yc i;obtain⟨p,c,e2,_⟩:=n;subst C e2;rw[il]at h;exact Go.Lib.wpList_append_run w d s x _ _ r _ _ t y _ _ (wu w _ I p _ c1 c l) (h _ _ i ⟨rfl,rfl,rfl,aB _,fun _ _ _=>rfl⟩)
 ·have z: ∀q∈cs++ds,Rob (fun k=>some k≠v.ownBlock) (fun u=>lx u q.1 q.2.1 q.2.2) w:=fun q f=>(G q f).move (aB _) (fun _ _ _=>rfl) fun k _ J e=>by have:=(i.lt k e.symm).1;omega
  exact uk d s x r t ⟨i,fun q f=>z q (fJ _ f)⟩ y n (List.length_pos_iff.2 m) (fun q f=>z q (eD _ f)) H F fun j w' D _ E=>h j w' D.1 E
theorem Dq (W:World):(Instr.buildSlice 22 0 #[]).run prog W= .ok (.slice (some (ae W.heap.size 0)) 0 0) (W.alloc (.cells #[] 31)):=by kernel_rfl
theorem nU {o:Oper}{a:Act}{w:World}{K:Act->World->Prop}{Q:Exit->Act->World->Prop}(c:o.op= .buildSlice 22 0 #[])(h:K (a.put o.dst (.slice (some (ae w.heap.size 0)) 0 0)) (w.alloc (.cells #[] 31))):Oper.wp prog o a w K Q:=by
 unfold Oper.wp execOp;have b:=Dq w;simp only[c,iC,fg,ju,jV,gG,b];exact h
abbrev dZ:Array Value:= #[af,af,af,af]
def VJ (l:List (Nat×Nat×Value))(M:Nat->Bool)(φ:Nat->Value):Prop:= ∀x∈l,M x.1=true->φ x.2.1=x.2.2
def pyL (i t v:Nat)(rv ev sv av asv:Value)(rn:Int):List (Nat×Nat×Value):=[(i+2,t+3+i,.tuple #[.agg #[rv,ev,sv,av],asv,ag rn,ag 0]),(i+3,t,.tuple #[.agg #[rv,ev,sv,av],asv,ag rn,ag 0]),(i+4,t+4+i,.agg #[rv,ev,sv,av]),(i+5,t+5+i,asv),(i+6,t+6+i,ag rn),(i+7,t+7+i,ag 0),(i+10,v+1,asv),(i+11,v+2,ag rn),(i+12,v+3,ag 0)]
def PyB (B i t v:Nat)(l:List Cm)(rv ev sv av asv:Value)(rn:Int)(ss:List (Sv×Value))(aa:List (Ap×Value))(ls:List (An×Value×Value))(M:Nat->Bool)(φ:Nat->Value)(W:World):Prop:=rn=(playP dk0 l).2.runs/\VJ (pyL i t v rv ev sv av asv rn) M φ/\Rob (fun k=>M (i+8)=true->φ v≠ab k 0) (fun u=>pG B u (playP dk0 l) rv ev sv av asv ss aa ls) W/\(M (i+9)=true-> ∃g,φ v=ab g 0/\B<=g/\W.heap[g]? =ah #[rv,ev,sv,av] 37)
def PyR (B i t v:Nat)(l:List Cm)(M:Nat->Bool)(φ:Nat->Value)(W:World):Prop:= ∃(rv ev sv av asv:Value) (rn:Int) (ss:List (Sv×Value)) (aa:List (Ap×Value)) (ls:List (An×Value×Value)),PyB B i t v l rv ev sv av asv rn ss aa ls M φ W
structure PyJ (w0:World)(i t v:Nat)(cs ds:List (Cm×Value×Value))(M:Nat->Bool)(φ:Nat->Value)(W:World):Prop where
 bel:aq w0 W
 cl: ∀x,i+2<x->x≠i+8->M x=true->M (i+2)=true
 cl2:M (i+2)=true->M (i+1)=true
 cl3:M (i+1)=true->M 2=true/\M i=true
 e0:M 0=true->M 2=false-> ∃g,φ (t+1)= .slice (some (ae g 0)) 0 0/\w0.heap.size<=g/\W.heap[g]? =ah #[] 31
 e2:M 2=true->M (i+1)=false->W.ownsRow w0.heap.size 31 13 (φ (t+3)) cs.length (DoF cs)
 e7:M i=true->M (i+1)=false-> ∃g,φ (t+1+i)= .slice (some (ae g 0)) ds.length ds.length/\W.heap[g]? =ah (DoF ds).toArray 31
 e8:M (i+1)=true->M (i+2)=false->W.ownsRow w0.heap.size 31 13 (φ (t+2+i)) (cs++ds).length (DoF (cs++ds))
 ea:M (i+8)=true->M (i+9)=false-> ∃g,φ v=ab g 0/\w0.heap.size<=g/\W.heap[g]? =ah dZ 37
 e9:M (i+2)=true->PyR w0.heap.size i t v ((cs++ds).map fun q=>q.1) M φ W
section
variable {w0 W W':World} {i t v:Nat} {cs ds:List (Cm×Value×Value)} {M:Nat->Bool} {φ:Nat->Value} {l:List Cm} {B:Nat} {rv ev sv av asv:Value} {rn:Int} {ss:List (Sv×Value)} {aa:List (Ap×Value)} {ls:List (An×Value×Value)} {k s p:Nat} {u:Value}
theorem PyR.below (h:PyR B i t v l M φ W)(a:aq W W'):PyR B i t v l M φ W':=by
 obtain⟨rv,ev,sv,av,asv,rn,ss,aa,ls,b,d,f,j⟩:=h;refine⟨rv,ev,sv,av,asv,rn,ss,aa,ls,b,d,f.below a,fun c=> ?_⟩;obtain⟨g,e,k,m⟩:=j c;exact⟨g,e,k,bt a m⟩
theorem PyJ.below (h:PyJ w0 i t v cs ds M φ W)(a:aq W W'):PyJ w0 i t v cs ds M φ W' where
 bel:=aw h.bel a
 cl:=h.cl
 cl2:=h.cl2
 cl3:=h.cl3
 e0 c d:=by obtain⟨g,e,j,f⟩:=h.e0 c d;exact⟨g,e,j,bt a f⟩
 e2 c d:=br (h.e2 c d) fun b k=>a.block b ((h.e2 c d).lt b k).2
 e7 c d:=by obtain⟨g,e,f⟩:=h.e7 c d;exact⟨g,e,bt a f⟩
 e8 c d:=br (h.e8 c d) fun b k=>a.block b ((h.e8 c d).lt b k).2
 ea c d:=by obtain⟨g,e,j,f⟩:=h.ea c d;exact⟨g,e,j,bt a f⟩
 e9 c:=(h.e9 c).below a
theorem PyJ.start (h:aq w0 W):PyJ w0 i t v cs ds (fun _=>false) φ W:=⟨h,fun _ _ _ h=>h,fun h=>h,(fun h=>by cases h),(fun h=>by cases h),(fun h=>by cases h),(fun h=>by cases h),(fun h=>by cases h),(fun h=>by cases h),fun h=>by cases h⟩
theorem orF {a:Nat}(h:(decide (k=a)||M a)=false):M a=false:=((Bool.or_eq_false_iff).1 h).2
theorem orT {a:Nat}(h:M a=true):(decide (k=a)||M a)=true:=by rw[h,Bool.or_true]
theorem VJ.at_ {L:List (Nat×Nat×Value)}(i:(L.map fun x=>x.1).Nodup)(l:(L.map fun x=>x.2.1).Nodup)(b:L[p]? =some (k,s,u))(h:VJ L M φ):VJ L (fun x=>decide (k=x)||M x) (jh φ (some s) u):=fun x d c=>by
 dsimp only at c;obtain⟨q,a⟩:=List.getElem?_of_mem d
 have nd: ∀f:Nat×Nat×Value->Nat,(L.map f).Nodup->f (k,s,u)=f x->q=p:=fun f j e=>by
  have m:=(aG.1 a).1;exact(List.getElem?_inj (by simpa using m) j).1 (by rw[bg,bg,a,b];exact congrArg some e.symm)
 by_cases e:q=p
 ·subst e;rw[b]at a;cases a;exact dF
 ·have n:k≠x.1:=fun g=>e (nd (fun x=>x.1) i g);have o:s≠x.2.1:=fun g=>e (nd (fun x=>x.2.1) l g);rw[cY o];exact h x d (by rwa[orZ n]at c)
theorem PyJ.next (h:PyJ w0 i t v cs ds M φ W)(b:aq W W')(j:k≠2/\k≠i+1/\k≠i+9)(l:i+2<k/\k≠i+8->M (i+2)=true)(f:k=i+2->M (i+1)=true)
  (a:s≠t+3/\s≠t+2+i/\(k=0↔s=t+1)/\(k=i↔s=t+1+i)/\(k=i+8↔s=v))
  (m:k=0-> ∃g,u= .slice (some (ae g 0)) 0 0/\w0.heap.size<=g/\W'.heap[g]? =ah #[] 31)
  (n:k=i-> ∃g,u= .slice (some (ae g 0)) ds.length ds.length/\W'.heap[g]? =ah (DoF ds).toArray 31)
  (p:k=i+8-> ∃g,u=ab g 0/\w0.heap.size<=g/\W'.heap[g]? =ah dZ 37)
  (o:k=i+2\/M (i+2)=true->PyR w0.heap.size i t v ((cs++ds).map fun q=>q.1) (fun x=>decide (k=x)||M x) (jh φ (some s) u) W'):PyJ w0 i t v cs ds (fun x=>decide (k=x)||M x) (jh φ (some s) u) W' where
 bel:=(h.below b).bel
 cl x h1 h2 c:=by
  by_cases e:k=x
  ·subst e;exact orT (l ⟨h1,h2⟩)
  ·rw[orZ e]at c;exact orT (h.cl x h1 h2 c)
 cl2 c:=by
  by_cases e:k=i+2
  ·exact orT (f e)
  ·rw[orZ e]at c;exact orT (h.cl2 c)
 cl3 c:=by
  rw[orZ j.2.1]at c;exact⟨orT (h.cl3 c).1,orT (h.cl3 c).2⟩
 e0 c d:=by
  by_cases e:k=0
  ·rw[a.2.2.1.1 e,dF];exact m e
  ·rw[orZ e]at c;rw[cY fun g=>e (a.2.2.1.2 g)];exact(h.below b).e0 c (orF d)
 e2 c d:=by
  rw[orZ j.1]at c;rw[cY a.1];exact(h.below b).e2 c (orF d)
 e7 c d:=by
  by_cases e:k=i
  ·rw[a.2.2.2.1.1 e,dF];exact n e
  ·rw[orZ e]at c;rw[cY fun g=>e (a.2.2.2.1.2 g)];exact(h.below b).e7 c (orF d)
 e8 c d:=by
  rw[orZ j.2.1]at c;rw[cY a.2.1];exact(h.below b).e8 c (orF d)
 ea c d:=by
  by_cases e:k=i+8
  ·rw[a.2.2.2.2.1 e,dF];exact p e
  ·rw[orZ e]at c;rw[cY fun g=>e (a.2.2.2.2.2 g)];exact(h.below b).ea c (orF d)
 e9 c:=o (by
  by_cases e:k=i+2
  ·exact .inl e
  ·exact .inr (by rwa[orZ e]at c))
theorem PyJ.d0 (h:PyJ w0 i t v cs ds M φ W)(b:3<=i/\v+3<t)(a:M 2=false):PyJ w0 i t v cs ds (fun x=>decide (0=x)||M x) (jh φ (some (t+1)) (.slice (some (ae W.heap.size 0)) 0 0)) (W.alloc (.cells #[] 31)):=
 h.next (am _ _) (by omega) (by omega) (by omega) (by omega) (fun _=>⟨_,rfl,h.bel.size,aE _ _⟩) (by omega) (by omega) fun c=>by
  rcases c with c|c
  ·omega
  ·rw[(h.cl3 (h.cl2 c)).1]at a;cases a
theorem PyJ.d7 (h:PyJ w0 i t v cs ds M φ W)(b:3<=i/\v+3<t)(a:M (i+1)=false):PyJ w0 i t v cs ds (fun x=>decide (i=x)||M x) (jh φ (some (t+1+i)) (.slice (some (ae W.heap.size 0)) ds.length ds.length)) (W.alloc (.cells (DoF ds).toArray 31)):=
 h.next (am _ _) (by omega) (by omega) (by omega) (by omega) (by omega) (fun _=>⟨_,rfl,aE _ _⟩) (by omega) fun c=>by
  rcases c with c|c
  ·omega
  ·rw[h.cl2 c]at a;cases a
theorem PyJ.da (h:PyJ w0 i t v cs ds M φ W)(n:3<=i/\v+3<t)(b:M (i+9)=false):PyJ w0 i t v cs ds (fun x=>decide (i+8=x)||M x) (jh φ (some v) (ab W.heap.size 0)) (W.alloc (.cells dZ 37)):=by
 have a:=am W (.cells dZ 37);refine h.next a (by omega) (by omega) (by omega) (by omega) (by omega) (by omega) (fun _=>⟨_,rfl,h.bel.size,aE _ _⟩) fun c=> ?_;obtain⟨rv,ev,sv,av,asv,rn,ss,aa,ls,j,k,l,m⟩:=h.e9 (c.resolve_left (by omega));refine⟨rv,ev,sv,av,asv,rn,ss,aa,ls,j,fun x d c=> ?_,?_,fun c=> ?_⟩
 ·have g:i+8≠x.1/\v≠x.2.1:=by
   simp only[pyL,bv,List.not_mem_nil,or_false]at d;rcases d with rfl|rfl|rfl|rfl|rfl|rfl|rfl|rfl|rfl<;>exact⟨by dsimp only;omega,by dsimp only;omega⟩
  rw[cY g.2];dsimp only at c;exact k x d (by rwa[orZ g.1]at c)
 ·refine l.move a.size (fun q _ f=>a.block q f) fun q f _ _ e=> ?_;rw[dF]at e;injection e with e;injection e with e;injection e with e;omega
 ·dsimp only at c;rw[orZ (by omega),b]at c;cases c
theorem PyB.val (h:PyB B i t v l rv ev sv av asv rn ss aa ls M φ W)(n:3<=i/\v+3<t)(b:(pyL i t v rv ev sv av asv rn)[p]? =some (k,s,u)):PyB B i t v l rv ev sv av asv rn ss aa ls (fun x=>decide (k=x)||M x) (jh φ (some s) u) W:=by
 obtain⟨d,e,f,g⟩:=h
 have a:k≠i+8/\k≠i+9/\s≠v:=by
  have m:=aM b;simp only[pyL,bv,List.not_mem_nil,or_false,Prod.mk.injEq]at m;omega
 refine⟨d,e.at_ (by simp[pyL,List.nodup_cons]) (by simp[pyL,List.nodup_cons];omega) b,f.move (aB _) (fun _ _ _=>rfl) fun q _ j c=> ?_,fun c=> ?_⟩
 ·dsimp only at c;rw[orZ a.1]at c;rw[cY a.2.2];exact j c
 ·dsimp only at c;rw[orZ a.2.1]at c;rw[cY a.2.2];exact g c
theorem PyJ.val (h:PyJ w0 i t v cs ds M φ W)(b:M (i+2)=true)(c:PyB w0.heap.size i t v ((cs++ds).map fun q=>q.1) rv ev sv av asv rn ss aa ls M φ W)(d:3<=i/\v+3<t)(f:k≠i+2)(a:(pyL i t v rv ev sv av asv rn)[p]? =some (k,s,u)):PyJ w0 i t v cs ds (fun x=>decide (k=x)||M x) (jh φ (some s) u) W:=by
 have e:=aM a;simp only[pyL,bv,List.not_mem_nil,or_false,Prod.mk.injEq]at e;exact h.next (aI _ _) (by omega) (fun _=>b) (by omega) (by omega) (by omega) (by omega) (by omega) fun _=>⟨rv,ev,sv,av,asv,rn,ss,aa,ls,c.val d a⟩
theorem CD {a b:Bool}(h:a=true->b=true)(c:b=false):a=false:=by
 cases a with
 |false=>rfl
 |true=>rw[h rfl]at c;cases c
theorem tf {a:Bool}{p:Prop}(h:a=true)(b:a=false):p:=by rw[h]at b;cases b
theorem PyJ.d2 (h:PyJ w0 i t v cs ds M φ W)(B:3<=i/\v+3<t)(y:0<ds.length)(r:M 0=true)(A:M 2=false)(m:M (i+1)=false)(w:W'.ownsRow w0.heap.size 31 13 u cs.length (DoF cs))(n:W.grownBy W' (φ (t+1)).ownBlock):PyJ w0 i t v cs ds (fun x=>decide (2=x)||M x) (jh φ (some (t+3)) u) W':=by
 obtain⟨p,e0,s,j⟩:=h.e0 r A;rw[e0]at n;have l:=CD h.cl2 m;have kp: ∀g o,W.heap[g]? =some o->g≠p->W'.heap[g]? =some o:=fun g o f a=>(n.block g (aH f) fun e=>a (aN e)).trans f
 exact {
  bel:=h.bel.grown n h.bel.size fun k z=>by cases z;exact s
  cl:=fun x f a c=>by rw[orZ (by omega)]at c;exact orT (h.cl x f a c)
  cl2:=fun c=>by rw[orZ (by omega)]at c;exact tf c l
  cl3:=fun c=>by rw[orZ (by omega)]at c;exact tf c m
  e0:=fun _ d=>by simp at d
  e2:=fun _ _=>by rw[dF];exact w
  e7:=fun c _=>by
   rw[orZ (by omega)]at c;rw[cY (by omega)];obtain⟨g,e,b⟩:=h.e7 c m;refine⟨g,e,kp _ _ b fun q=> ?_⟩;subst q;rw[j]at b;injection b with b;injection b with b;have:0=(DoF ds).length:=(by simpa using congrArg Array.size b);rw[show(DoF ds).length=ds.length*13 from r8 ds]at this;omega
  e8:=fun c _=>by rw[orZ (by omega)]at c;exact tf c m
  ea:=fun c d=>by
   rw[orZ (by omega)]at c d;rw[cY (by omega)];obtain⟨g,e,f,a⟩:=h.ea c d;refine⟨g,e,f,kp _ _ a fun q=> ?_⟩;subst q;rw[j]at a;injection a with a;injection a with _ a _;exact absurd a (by decide)
  e9:=fun c=>by rw[orZ (by omega)]at c;exact tf c l}
theorem PyJ.d8 (h:PyJ w0 i t v cs ds M φ W)(q:3<=i/\v+3<t)(a:M 2=true)(n:M i=true)(m:M (i+1)=false)(o:W'.ownsRow w0.heap.size 31 13 u (cs++ds).length (DoF (cs++ds)))(l:W.grownBy W' (φ (t+3)).ownBlock):PyJ w0 i t v cs ds (fun x=>decide (i+1=x)||M x) (jh φ (some (t+2+i)) u) W':=by
 have f:=CD h.cl2 m;have b:=h.e2 a m
 exact {
  bel:=h.bel.grown l h.bel.size fun k p=>(b.lt k p).1
  cl:=fun x j a c=>by rw[orZ (by omega)]at c;exact orT (h.cl x j a c)
  cl2:=fun c=>by rw[orZ (by omega)]at c;exact tf c f
  cl3:=fun _=>⟨orT a,orT n⟩
  e0:=fun _ d=>tf a (orF d)
  e2:=fun _ d=>by simp at d
  e7:=fun _ d=>by simp at d
  e8:=fun _ _=>by rw[dF];exact o
  ea:=fun c d=>by
   rw[orZ (by omega)]at c d;rw[cY (by omega)];obtain⟨g,e,j,a⟩:=h.ea c d;exact⟨g,e,j,(l.block g (aH a) (ko b a (by decide))).trans a⟩
  e9:=fun c=>by rw[orZ (by omega)]at c;exact tf c f}
theorem PyJ.d9 (h:PyJ w0 i t v cs ds M φ W)(r:3<=i/\v+3<t)(j:M (i+1)=true)(d:M (i+2)=false){ys:List Nat}(b: ∀q,M (i+8)=true->φ v=ab q 0->q∈ys)(p:(cs++ds).length<=60){e:Ending}(k:FP w0.heap.size ys ((cs++ds).map fun q=>q.1) W e W'): ∃u,e= .returned u/\PyJ w0 i t v cs ds (fun x=>decide (i+2=x)||M x) (jh φ (some (t+3+i)) u) W':=by
 obtain⟨m,⟨a,_⟩|⟨_,rv,ev,sv,av,asv,ss,aa,ls,rfl,l⟩⟩:=k
 ·rw[ba]at a;omega
 refine⟨_,rfl,h.next m (by omega) (by omega) (fun _=>j) (by omega) (by omega) (by omega) (by omega) fun _=>⟨rv,ev,sv,av,asv,_,ss,aa,ls,rfl,fun x f c=> ?_,?_,fun c=> ?_⟩⟩
 ·dsimp only at c;have n:i+2<x.1->x.1≠i+8->False:=fun a g=>tf (h.cl _ a g (by rwa[orZ (by omega)]at c)) d;simp only[pyL,bv,List.not_mem_nil,or_false]at f;rcases f with rfl|rfl|rfl|rfl|rfl|rfl|rfl|rfl|rfl
  ·exact dF
  all_goals exact(n (by dsimp only;omega) (by dsimp only;omega)).elim
 ·refine l.move (aB _) (fun _ _ _=>rfl) fun q _ o c e=>o (b q ?_ ?_)
  ·dsimp only at c;rwa[orZ (by omega)]at c
  ·rwa[cY (by omega)]at e
 ·dsimp only at c;rw[orZ (by omega)]at c;exact tf (h.cl _ (by omega) (by omega) c) d
theorem pG.one {p:List An×Dk}(h:pG B W p rv ev sv av asv ss aa ls):(#[rv,ev,sv,av]:Array Value).all (·.oneCell')=true:=by
 obtain⟨b,a,_⟩:=h.rules;obtain⟨_,_,rfl⟩:=a.form;obtain⟨_,_,rfl⟩:=df h.res;obtain⟨_,_,rfl⟩:=df h.svs;obtain⟨_,_,rfl⟩:=df h.aps;simp[Value.oneCell']
theorem PyJ.d16 (h:PyJ w0 i t v cs ds M φ W)(b:M (i+2)=true)(p:M (i+4)=true)(ha:M (i+8)=true)(r:M (i+9)=false): ∃(c:Array Value) (g:Nat),φ v=ab g 0/\φ (t+4+i)= .agg c/\c.all (·.oneCell')=true/\c.size=4/\W.heap[g]? =ah dZ 37/\PyJ w0 i t v cs ds (fun x=>decide (i+9=x)||M x) φ (W.setRow g c):=by
 obtain⟨rv,ev,sv,av,asv,rn,ss,aa,ls,o,m,l,_⟩:=h.e9 b;obtain⟨g,e,k,n⟩:=h.ea ha r;have a:=h.cl2 b
 refine⟨_,g,e,m (i+4,t+4+i,.agg #[rv,ev,sv,av]) (by simp[pyL]) p,l.here.one,rfl,n,{
  bel:=below_setRow h.bel k _
  cl:=fun x s u _=>orT b
  cl2:=fun _=>orT a
  cl3:=fun _=>⟨orT (h.cl3 a).1,orT (h.cl3 a).2⟩
  e0:=fun _ d=>tf (h.cl3 a).1 (orF d)
  e2:=fun _ d=>tf a (orF d)
  e7:=fun _ d=>tf a (orF d)
  e8:=fun _ d=>tf b (orF d)
  ea:=fun _ d=>by simp at d
  e9:=fun _=>⟨rv,ev,sv,av,asv,rn,ss,aa,ls,o,fun x j c=>m x j ?_,?_,fun _=>⟨g,e,k,aL _ _ _ _ _ _ n⟩⟩}⟩
 ·dsimp only at c;rw[orZ ?_]at c
  ·exact c
  simp only[pyL,bv,List.not_mem_nil,or_false]at j;rcases j with rfl|rfl|rfl|rfl|rfl|rfl|rfl|rfl|rfl<;>(dsimp only;omega)
 ·refine l.move (by simp) (fun q f _=>aV _ _ _ _ fun c=>f ha (by rw[e,c])) fun q _ f c=>f ?_;dsimp only at c;rwa[orZ (by omega)]at c
theorem PyJ.fin (h:PyJ w0 i t v cs ds M φ W)(a: ∀k,i+2<=k->k<=i+12->M k=true): ∃(rv ev sv av asv:Value) (ss:List (Sv×Value)) (aa:List (Ap×Value)) (ls:List (An×Value×Value)) (g:Nat),φ v=ab g 0/\φ (v+1)=asv/\φ (v+2)=ag (playP dk0 ((cs++ds).map fun q=>q.1)).2.runs/\φ (v+3)=ag 0/\aq w0 W/\W.heap[g]? =ah #[rv,ev,sv,av] 37/\Rob (fun k=>k≠g) (fun u=>pG w0.heap.size u (playP dk0 ((cs++ds).map fun q=>q.1)) rv ev sv av asv ss aa ls) W:=by
 obtain⟨rv,ev,sv,av,asv,rn,ss,aa,ls,rfl,b,f,d⟩:=h.e9 (a _ (by omega) (by omega));obtain⟨g,e,_,j⟩:=d (a _ (by omega) (by omega));exact⟨rv,ev,sv,av,asv,ss,aa,ls,g,e,b (i+10,v+1,asv) (by simp[pyL]) (a _ (by omega) (by omega)),b (i+11,v+2,_) (by simp[pyL]) (a _ (by omega) (by omega)),b (i+12,v+3,_) (by simp[pyL]) (a _ (by omega) (by omega)),h.bel,j,f.move (aB _) (fun _ _ _=>rfl) fun q _ l c=>l (a _ (by omega) (by omega)) (by rw[e,c])⟩
structure PyC (w0:World)(cs ds:List (Cm×Value×Value))(lv:Value):Prop where
 row:kU w0 lv cs
 dob:DoB w0.heap.size w0 (cs++ds)
 len:(cs++ds).length<=60
 pos:0<ds.length
 tb:Tbs w0.heap.size w0
theorem PyB.get (h:PyB B i t v l rv ev sv av asv rn ss aa ls M φ W)(p:Nat)(b:(pyL i t v rv ev sv av asv rn)[p]? =some (k,s,u))(a:M k=true):φ s=u:=h.2.1 _ (aM b) a
variable {lv:Value} {o:Oper} {F:Act} {K:Act->World->Prop} {X:Exit->Act->World->Prop} {sO xO:Operand}
theorem PyJ.op2 (h:PyJ w0 i t v cs ds M φ W)(c:PyC w0 cs ds lv)(z:3<=i/\v+3<t)(b:M 0=true)(d:M 2=false)(B:M (i+1)=false)(a:o.guard=none)(s:o.op= .call {callee:= .builtin .append,args:= #[sO,xO],argTypes:= #[22,22]})(y:F.eval sO=φ (t+1))(A:F.eval xO=lv)
  (l: ∀u W',PyJ w0 i t v cs ds (fun x=>decide (2=x)||M x) (jh φ (some (t+3)) u) W'->K (F.put o.dst u) W'):Oper.wp prog o F W K X:=by
 obtain⟨g,e,k,p⟩:=h.e0 b d;have r:=c.len;rw[aP]at r;have m:W.ownsRow w0.heap.size 31 13 (φ (t+1)) ([]:List (Cm×Value×Value)).length (DoF []):=by rw[e];exact rg (n:=0) p k rfl (dw _)
 exact iQ (ops:= #[]) a (vD a sO xO s y m A (c.row.below h.bel) (fun q w=>(c.dob q (fJ _ w)).below h.bel) (by simp;omega) h.bel.size fun u W' f j=>⟨rfl,l u W' (h.d2 z c.pos b d B f j)⟩)
theorem PyJ.op8 (h:PyJ w0 i t v cs ds M φ W)(c:PyC w0 cs ds lv)(A:3<=i/\v+3<t)(d:M 2=true)(f:M i=true)(b:M (i+1)=false)(a:o.guard=none)(w:o.op= .call {callee:= .builtin .append,args:= #[sO,xO],argTypes:= #[22,22]})(z:F.eval sO=φ (t+3))(C:F.eval xO=φ (t+1+i))
  (m: ∀u W',PyJ w0 i t v cs ds (fun x=>decide (i+1=x)||M x) (jh φ (some (t+2+i)) u) W'->K (F.put o.dst u) W'):Oper.wp prog o F W K X:=by
 obtain⟨g,e,r⟩:=h.e7 f b;have s:=c.len;rw[aP]at s;have j:=c.dob.below h.bel;have p:kU W (φ (t+1+i)) ds:=vd (B:=0) (by rw[e];exact rg (n:=ds.length) r (dw _) (by rw[List.size_toArray];exact r8 ds) (by unfold maxLen;omega)) (fun q y=>(j q (eD _ y)).here) (by omega);exact iQ (ops:= #[]) a (vD a sO xO w z (h.e2 d b) C p j (by omega) h.bel.size fun u W' k l=>⟨rfl,m u W' (h.d8 A d f b k l)⟩)
theorem PyJ.play (h:PyJ w0 i t v cs ds M φ W)(c:PyC w0 cs ds lv)(w:3<=i/\v+3<t)(d:M (i+1)=true)(b:M (i+2)=false):Calls prog 5 #[φ (t+2+i)] W fun e W'=> ∃u,e= .returned u/\PyJ w0 i t v cs ds (fun x=>decide (i+2=x)||M x) (jh φ (some (t+3+i)) u) W':=by
 have j:=c.dob.below h.bel;have r:=c.len
 have H: ∀ys:List Nat,(∀q∈ys,w0.heap.size<=q/\ ∃c T f,W.heap[q]? =some (.cells c T f)/\ ¬(T=140\/T=177\/T=87))->(∀q,M (i+8)=true->φ v=ab q 0->q∈ys)->Calls prog 5 #[φ (t+2+i)] W fun e W'=> ∃u,e= .returned u/\PyJ w0 i t v cs ds (fun x=>decide (i+2=x)||M x) (jh φ (some (t+3+i)) u) W':=fun ys k l=>
  (Cy w0.heap.size ys (cs++ds) _ W h.bel.size (vd (h.e8 d b) (fun q a=>(j q a).here) (by omega)) (fun W' o=>c.tb W' (h.bel.trans o)) (fun q _=>CA q.1) (fun q a=>(j q a).imp fun u s=>s.who) k).mono fun e W' n=>h.d9 w d b l r n
 cases ha:M (i+8) with
 |false=>exact H [] (fun q a=>absurd a List.not_mem_nil) fun q c=>tf c ha
 |true=>
  obtain⟨g,e,m,p⟩:=h.ea ha (CD (h.cl (i+9) (by omega) (by omega)) b);refine H [g] (fun q a=> ?_) fun q _ e2=> ?_
  ·rw[bT.1 a];exact⟨m,_,_,_,p,by decide⟩
  ·rw[e]at e2;injection e2 with e2;injection e2 with e2;injection e2 with e2;exact bT.2 e2.symm
theorem PyJ.d7' (h:PyJ w0 i t v cs ds M φ W)(e:3<=i/\v+3<t)(a:M (i+1)=false){c:Array Value}{n:Nat}(b:c=(DoF ds).toArray)(d:n=ds.length):PyJ w0 i t v cs ds (fun x=>decide (i=x)||M x) (jh φ (some (t+1+i)) (.slice (some (ae W.heap.size 0)) n n)) (W.alloc (.cells c 31)):=by
 subst b d;exact h.d7 e a
end
end
end Go.Proofs.YtaoljfdfhggbbaaGreatDoor
