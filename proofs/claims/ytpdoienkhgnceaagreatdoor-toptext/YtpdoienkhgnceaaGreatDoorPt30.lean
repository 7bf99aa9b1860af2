/- Texts of the proof. -/
import Derived.Test.YtpdoienkhgnceaaGreatDoorPt29
set_option maxRecDepth 100000
set_option maxHeartbeats 8000000
namespace Go.Proofs.YtpdoienkhgnceaaGreatDoor
open Go.Proofs.Tryz Go.RowKit Lx Vx Mx Msk
section
variable {B b:Nat}
def TR (B b:Nat)(w:World)(k:Ex)(p:Option Addr)(q:Nat):Prop:= ∀(W:World) (l:List UInt8) (c:Nat),Below B w W->BSt B b l W->c<=3->l.length+(eJ k c).length<=140737488355328->
 Calls prog 21 #[ab b 0,.agg #[ag k.kind,ag k.a,ag k.b,.string ⟨k.name.toArray⟩,.slice p k.kids.length q],ag (c:Int)] W (nV B b l (eJ k c) W)
def kX (B b:Nat)(w:World)(sl:Value)(d:List Ex):Prop:= ∃g o c:Nat,sl= .slice (some (ae g o)) d.length c/\g<B/\ ∀(j:Nat) (k:Ex),d[j]? =some k-> ∃(p:Option Addr) (q:Nat),w.cell? (ae g (o+j*5))=some (ag k.kind)/\w.cell? (ae g (o+j*5+1))=some (ag k.a)/\w.cell? (ae g (o+j*5+2))=some (ag k.b)/\w.cell? (ae g (o+j*5+3))=some (.string ⟨k.name.toArray⟩)/\w.cell? (ae g (o+j*5+4))=some (.slice p k.kids.length q)/\TR B b w k p q
theorem dW {w a:World}{g i:Nat}(b:Below B w a)(c:g<B)(_hl:g<w.heap.size):a.cell? (ae g i)=w.cell? (ae g i):=dP (b.block g c)
theorem vP (e:Ex)(p:Option Addr)(C:Nat)(w:World)(l D:List UInt8)(k0 z:Ex)(ar:e.kids.length=2)(ap:e.kids[0]? =some k0)(aq:e.kids[1]? =some z)(az:kX B b w (.slice p e.kids.length C) e.kids)(h:BSt B b l w)(hh:Lx.holdP e.kind<=2)
  (a1:l.length+(eJ k0 (Lx.holdP e.kind)).length+D.length+(eJ z (Lx.holdP e.kind+1)).length<=140737488355328):
  Calls prog 94 #[ab b 0,.agg #[ag e.kind,ag e.a,ag e.b,.string ⟨e.name.toArray⟩,.slice p e.kids.length C],.string ⟨D.toArray⟩] w (nV B b l (eJ k0 (Lx.holdP e.kind)++(D++eJ z (Lx.holdP e.kind+1))) w):=by
 obtain⟨g,o,c,a0,E,F⟩:=az;injection a0 with q1 q2 q3;subst q1;subst q3;rw[ar];have t:=am w (.cells #[ag e.kind,ag e.a,ag e.b,.string ⟨e.name.toArray⟩,.slice (some (ae g o)) 2 C] 78);have Y:=aB w (.cells #[ag e.kind,ag e.a,ag e.b,.string ⟨e.name.toArray⟩,.slice (some (ae g o)) 2 C] 78);have an:=t.mono h.le;have av:B<=(w.alloc (.cells #[ag e.kind,ag e.a,ag e.b,.string ⟨e.name.toArray⟩,.slice (some (ae g o)) 2 C] 78)).heap.size:=bh h.le t.size;generalize aT:w.alloc (.cells #[ag e.kind,ag e.a,ag e.b,.string ⟨e.name.toArray⟩,.slice (some (ae g o)) 2 C] 78)=G at*;obtain⟨p0,q0,Z,aa,ac,ad,af,c0⟩:=F 0 k0 ap;have d0:G.cell? (ae g o)=_:=(t.cell (aU Z)).trans Z;have d1:G.cell? (ae g (o+1))=_:=(t.cell (aU aa)).trans aa;have d2:G.cell? (ae g (o+2))=_:=(t.cell (aU ac)).trans ac;have d3:G.cell? (ae g (o+3))=_:=(t.cell (aU ad)).trans ad;have d4:G.cell? (ae g (o+4))=_:=(t.cell (aU af)).trans af;obtain⟨p1,q1,H,I,J,M,N,c1⟩:=F 1 z aq;have _e0:G.cell? (ae g (o+5))=_:=(t.cell (aU H)).trans H;have _e1:G.cell? (ae g (o+6))=_:=(t.cell (aU I)).trans I;have _e2:G.cell? (ae g (o+7))=_:=(t.cell (aU J)).trans J;have _e3:G.cell? (ae g (o+8))=_:=(t.cell (aU M)).trans M;have _e4:G.cell? (ae g (o+9))=_:=(t.cell (aU N)).trans N;have z4:=ak 4 Y;have z0:=ak 0 Y;clear F ap aq ar;have aQ:(0:Int)<=(Lx.holdP e.kind:Int):=by omega
 have aS:(Lx.holdP e.kind:Int)<=2:=by omega
 generalize ah:eJ k0 (Lx.holdP e.kind)=T0 at*;generalize al:eJ z (Lx.holdP e.kind+1)=T1 at*;go_enter func94,ntmps94;go_wp2_with fail;have O:T4 (eJ k0 (Lx.holdP e.kind)=T0):=ah;have P:T4 (eJ z (Lx.holdP e.kind+1)=T1):=al;clear ah al;refine o7 (by kernel_rfl) (by kernel_rfl) (by kernel_rfl) (by kernel_rfl) 8 (by kernel_rfl) (by kernel_rfl) [(6,ab b 0),(7,ab w.heap.size 4),(8,.slice (some (ae g o)) 2 C),(9,ab g o),(10,.agg #[ag k0.kind,ag k0.a,ag k0.b,.string ⟨k0.name.toArray⟩,.slice p0 k0.kids.length q0]),(11,ab w.heap.size 0),(12,ag e.kind),(13,ag (Lx.holdP e.kind:Int))] (by kernel_rfl) (by kernel_rfl) ?_ ?_
 ·intro i s v o L A W d f m x u n;match i,d,f with
  |0,d,f=>
   cases ay d;cases ay f;have h0:A.tmps[0]?.getD undef=ab b 0:=(gd A 0).trans (u 0 (by kernel_rfl));refine dq rfl (fun K j=> ?_);go_simp;exact j _ _ ⟨rfl,aF _ _⟩
  |1,d,f=>
   cases ay d;cases ay f;have h4:A.tmps[4]?.getD undef=ab w.heap.size 0:=(gd A 4).trans (u 4 (by kernel_rfl));refine dq rfl (fun K j=> ?_);go_simp;exact j _ _ ⟨rfl,aF _ _⟩
  |2,d,f=>
   cases ay d;cases ay f;have h7:A.tmps[7]?.getD undef=ab w.heap.size 4:=(gd A 7).trans (n 1 7 _ rfl (m ⟨1,.data⟩ (by simp) rfl));have aY:W.cell? (ae w.heap.size 4)=some (.slice (some (ae g o)) 2 C):=aj x z4;refine dq rfl (fun K j=> ?_);go_simp;exact j _ _ ⟨rfl,aF _ _⟩
  |3,d,f=>
   cases ay d;cases ay f;have h8:A.tmps[8]?.getD undef= .slice (some (ae g o)) 2 C:=(gd A 8).trans (n 2 8 _ rfl (m ⟨2,.data⟩ (by simp) rfl));refine dq rfl (fun K j=> ?_);go_simp;exact j _ _ ⟨rfl,aF _ _⟩
  |4,d,f=>
   cases ay d;cases ay f;have h9:A.tmps[9]?.getD undef=ab g o:=(gd A 9).trans (n 3 9 _ rfl (m ⟨3,.data⟩ (by simp) rfl));have a2:W.cell? (ae g o)=some (ag k0.kind):=aj x d0;have a3:W.cell? (ae g (o+1))=some (ag k0.a):=aj x d1;have a4:W.cell? (ae g (o+2))=some (ag k0.b):=aj x d2;have a5:W.cell? (ae g (o+3))=some (.string ⟨k0.name.toArray⟩):=aj x d3;have a6:W.cell? (ae g (o+4))=some (.slice p0 k0.kids.length q0):=aj x d4;refine dq rfl (fun K j=> ?_);go_simp;exact j _ _ ⟨rfl,aF _ _⟩
  |5,d,f=>
   cases ay d;cases ay f;have h4:A.tmps[4]?.getD undef=ab w.heap.size 0:=(gd A 4).trans (u 4 (by kernel_rfl));refine dq rfl (fun K j=> ?_);go_simp;exact j _ _ ⟨rfl,aF _ _⟩
  |6,d,f=>
   cases ay d;cases ay f;have aG:A.tmps[11]?.getD undef=ab w.heap.size 0:=(gd A 11).trans (n 5 11 _ rfl (m ⟨5,.data⟩ (by simp) rfl));have aX:W.cell? (ae w.heap.size 0)=some (ag e.kind):=aj x z0;refine dq rfl (fun K j=> ?_);go_simp;exact j _ _ ⟨rfl,aF _ _⟩
  |7,d,f=>
   cases ay d;cases ay f;have aH:A.tmps[12]?.getD undef=ag e.kind:=(gd A 12).trans (n 6 12 _ rfl (m ⟨6,.data⟩ (by simp) rfl));refine dq rfl (fun K j=> ?_);go_simp;refine((vO e.kind W).mono (fun r w' h=>(⟨h.1,h.2▸aF _ _⟩:r= .returned (ag (Lx.holdP e.kind:Int))/\ao W w'))).mono ?_;rintro e' W' ⟨rfl,R⟩;exact j _ _ ⟨rfl,R⟩
  |k+8,d,f=>simp at f
 ·intro o W d x;cases ay d;simp only[aR,a8,Act.put,aD,aJ,aI];refine dq rfl (fun K j=> ?_);go_simp;refine(c0 W l (Lx.holdP e.kind) (an.trans (x.mono av)) ((h.below t).below x) (by omega) (by rw[O.o];omega)).mono ?_;rintro r w2 ⟨rfl,U,S⟩;rw[O.o]at U;refine j _ _ ⟨⟨_,rfl⟩,?_⟩;clear j;have Q:BK B b w w2:=(BK.of_below t h.le).trans ((BK.of_below x (h.below t).le).trans S);have aw:=S.others _ _ (ai x Y) (by intro q;cases q;have:=h.lt;omega) (by intro C fz q;cases q);have P2:=jS D U (by simp;omega);go_wp2_with fail;refine P2.mono ?_;rintro r w3 ⟨rfl,V,T⟩;have y:=Q.trans T;have X:=T.others _ _ aw (by intro q;cases q;have:=h.lt;omega) (by intro C fz q;cases q);have y4:=ak 4 X;have y0:=ak 0 X;have e0:w3.cell? (ae g (o+5))=_:=(dW y.below E (aU H)).trans H;have e1:w3.cell? (ae g (o+6))=_:=(dW y.below E (aU I)).trans I;have e2:w3.cell? (ae g (o+7))=_:=(dW y.below E (aU J)).trans J;have e3:w3.cell? (ae g (o+8))=_:=(dW y.below E (aU M)).trans M;have e4:w3.cell? (ae g (o+9))=_:=(dW y.below E (aU N)).trans N;clear P2 T U S Q aw X x;go_wp2_with fail;refine o7 (by kernel_rfl) (by kernel_rfl) (by kernel_rfl) (by kernel_rfl) 9 (by kernel_rfl) (by kernel_rfl) [(18,ab b 0),(19,ab w.heap.size 4),(20,.slice (some (ae g o)) 2 C),(21,ab g (o+5)),(22,.agg #[ag z.kind,ag z.a,ag z.b,.string ⟨z.name.toArray⟩,.slice p1 z.kids.length q1]),(23,ab w.heap.size 0),(24,ag e.kind),(25,ag (Lx.holdP e.kind:Int)),(26,ag ((Lx.holdP e.kind:Int)+1))] (by kernel_rfl) (by kernel_rfl) ?_ ?_
  ·intro i s v o L A W d f m x u n;match i,d,f with
   |0,d,f=>
    cases ay d;cases ay f;have h0:A.tmps[0]?.getD undef=ab b 0:=(gd A 0).trans (u 0 (by kernel_rfl));refine dq rfl (fun K j=> ?_);go_simp;exact j _ _ ⟨rfl,aF _ _⟩
   |1,d,f=>
    cases ay d;cases ay f;have h4:A.tmps[4]?.getD undef=ab w.heap.size 0:=(gd A 4).trans (u 4 (by kernel_rfl));refine dq rfl (fun K j=> ?_);go_simp;exact j _ _ ⟨rfl,aF _ _⟩
   |2,d,f=>
    cases ay d;cases ay f;have aK:A.tmps[19]?.getD undef=ab w.heap.size 4:=(gd A 19).trans (n 1 19 _ rfl (m ⟨1,.data⟩ (by simp) rfl));have aW:W.cell? (ae w.heap.size 4)=some (.slice (some (ae g o)) 2 C):=aj x y4;refine dq rfl (fun K j=> ?_);go_simp;exact j _ _ ⟨rfl,aF _ _⟩
   |3,d,f=>
    cases ay d;cases ay f;have aL:A.tmps[20]?.getD undef= .slice (some (ae g o)) 2 C:=(gd A 20).trans (n 2 20 _ rfl (m ⟨2,.data⟩ (by simp) rfl));refine dq rfl (fun K j=> ?_);go_simp;exact j _ _ ⟨rfl,aF _ _⟩
   |4,d,f=>
    cases ay d;cases ay f;have aM:A.tmps[21]?.getD undef=ab g (o+5):=(gd A 21).trans (n 3 21 _ rfl (m ⟨3,.data⟩ (by simp) rfl));have a7:W.cell? (ae g (o+5))=some (ag z.kind):=aj x e0;have a9:W.cell? (ae g (o+6))=some (ag z.a):=aj x e1;have aA:W.cell? (ae g (o+7))=some (ag z.b):=aj x e2;have aC:W.cell? (ae g (o+8))=some (.string ⟨z.name.toArray⟩):=aj x e3;have aE:W.cell? (ae g (o+9))=some (.slice p1 z.kids.length q1):=aj x e4;refine dq rfl (fun K j=> ?_);go_simp;exact j _ _ ⟨rfl,aF _ _⟩
   |5,d,f=>
    cases ay d;cases ay f;have h4:A.tmps[4]?.getD undef=ab w.heap.size 0:=(gd A 4).trans (u 4 (by kernel_rfl));refine dq rfl (fun K j=> ?_);go_simp;exact j _ _ ⟨rfl,aF _ _⟩
   |6,d,f=>
    cases ay d;cases ay f;have aN:A.tmps[23]?.getD undef=ab w.heap.size 0:=(gd A 23).trans (n 5 23 _ rfl (m ⟨5,.data⟩ (by simp) rfl));have aV:W.cell? (ae w.heap.size 0)=some (ag e.kind):=aj x y0;refine dq rfl (fun K j=> ?_);go_simp;exact j _ _ ⟨rfl,aF _ _⟩
   |7,d,f=>
    cases ay d;cases ay f;have aO:A.tmps[24]?.getD undef=ag e.kind:=(gd A 24).trans (n 6 24 _ rfl (m ⟨6,.data⟩ (by simp) rfl));refine dq rfl (fun K j=> ?_);go_simp;refine((vO e.kind W).mono (fun r w' h=>(⟨h.1,h.2▸aF _ _⟩:r= .returned (ag (Lx.holdP e.kind:Int))/\ao W w'))).mono ?_;rintro e' W' ⟨rfl,R⟩;exact j _ _ ⟨rfl,R⟩
   |8,d,f=>
    cases ay d;cases ay f;have aP:A.tmps[25]?.getD undef=ag (Lx.holdP e.kind:Int):=(gd A 25).trans (n 7 25 _ rfl (m ⟨7,.data⟩ (by simp) rfl));have hw:IntKind.i64.wrap ((Lx.holdP e.kind:Int)+1)=(Lx.holdP e.kind:Int)+1:=(by rw[bQ];omega);refine dq rfl (fun K j=> ?_);go_simp;exact j _ _ ⟨rfl,aF _ _⟩
   |k+9,d,f=>simp at f
  ·intro o W d x;cases ay d;simp only[aR,a8,Act.put,aD,aJ,aI];refine dq rfl (fun K j=> ?_);go_simp;refine(c1 W (l++T0++D) (Lx.holdP e.kind+1) (y.below.trans (x.mono V.le)) (V.below x) (by omega) (by rw[P.o];simp;omega)).mono ?_;rintro r w4 ⟨rfl,au,ax⟩;rw[P.o]at au;refine j _ _ ⟨⟨_,rfl⟩,?_⟩;go_wp2_with fail;go_end0;exact⟨rfl,by simpa using au,y.trans ((BK.of_below x V.le).trans ax)⟩
end
section
variable {B b:Nat}
theorem kX.on {w u:World}{sl:Value}{t:List Ex}(h:kX B b w sl t)(d:Below B w u):kX B b u sl t:=by
 obtain⟨g,o,c,z,e,y⟩:=h;refine⟨g,o,c,z,e,fun j k x=> ?_⟩;obtain⟨p,q,f,i,m,n,s,r⟩:=y j k x;exact⟨p,q,(dW d e (aU f)).trans f,(dW d e (aU i)).trans i,(dW d e (aU m)).trans m,(dW d e (aU n)).trans n,(dW d e (aU s)).trans s,fun W l a v=>r W l a (d.trans v)⟩
theorem FT (a b1:Int)(name:List UInt8)(kids:List Ex)(p:Option Addr)(c:Nat)(w:World)(l:List UInt8)(_hks:kids=[]\/kX B b w (.slice p kids.length c) kids)(_hok:OKE ⟨1,a,b1,name,kids⟩)(_hPT:PTb B w)(h:BSt B b l w)
  (d:l.length+(bareP ⟨1,a,b1,name,kids⟩ (fj kids)).length<=140737488355328):
  Calls prog 49 #[ab b 0,.agg #[ag 1,ag a,ag b1,.string ⟨name.toArray⟩,.slice p kids.length c]] w (nV B b l (bareP ⟨1,a,b1,name,kids⟩ (fj kids)) w):=by
 have e:=am w (.cells #[ag 1,ag a,ag b1,.string ⟨name.toArray⟩,.slice p kids.length c] 78);have k:=aB w (.cells #[ag 1,ag a,ag b1,.string ⟨name.toArray⟩,.slice p kids.length c] 78);have j:=h.below e;have n:=e.mono h.le;have g:BK B b w _:=BK.of_below e h.le;generalize o:w.alloc (.cells #[ag 1,ag a,ag b1,.string ⟨name.toArray⟩,.slice p kids.length c] 78)=s at*;have t:=ak 0 k;rw[Ak rfl]at d⊢;have m:=jS [110,101,118,101,114] j (by simpa using d);clear d;go_enter func49,ntmps49;go_wp2_with fail;refine m.mono ?_;rintro r q ⟨rfl,i,f⟩;clear m;go_wp2_with fail;go_end0;exact⟨rfl,i,g.trans f⟩
theorem FU (a b1:Int)(name:List UInt8)(kids:List Ex)(p:Option Addr)(c:Nat)(w:World)(l:List UInt8)(_hks:kids=[]\/kX B b w (.slice p kids.length c) kids)(_hok:OKE ⟨2,a,b1,name,kids⟩)(_hPT:PTb B w)(h:BSt B b l w)
  (d:l.length+(bareP ⟨2,a,b1,name,kids⟩ (fj kids)).length<=140737488355328):
  Calls prog 49 #[ab b 0,.agg #[ag 2,ag a,ag b1,.string ⟨name.toArray⟩,.slice p kids.length c]] w (nV B b l (bareP ⟨2,a,b1,name,kids⟩ (fj kids)) w):=by
 have e:=am w (.cells #[ag 2,ag a,ag b1,.string ⟨name.toArray⟩,.slice p kids.length c] 78);have k:=aB w (.cells #[ag 2,ag a,ag b1,.string ⟨name.toArray⟩,.slice p kids.length c] 78);have j:=h.below e;have n:=e.mono h.le;have g:BK B b w _:=BK.of_below e h.le;generalize o:w.alloc (.cells #[ag 2,ag a,ag b1,.string ⟨name.toArray⟩,.slice p kids.length c] 78)=s at*;have t:=ak 0 k;rw[Al rfl]at d⊢;have m:=jS [97,108,119,97,121,115] j (by simpa using d);clear d;go_enter func49,ntmps49;go_wp2_with fail;refine m.mono ?_;rintro r q ⟨rfl,i,f⟩;clear m;go_wp2_with fail;go_end0;exact⟨rfl,i,g.trans f⟩
theorem FV (a b1:Int)(name:List UInt8)(kids:List Ex)(p:Option Addr)(c:Nat)(w:World)(l:List UInt8)(_hks:kids=[]\/kX B b w (.slice p kids.length c) kids)(D:OKE ⟨3,a,b1,name,kids⟩)(_hPT:PTb B w)(h:BSt B b l w)
  (n:l.length+(bareP ⟨3,a,b1,name,kids⟩ (fj kids)).length<=140737488355328):
  Calls prog 49 #[ab b 0,.agg #[ag 3,ag a,ag b1,.string ⟨name.toArray⟩,.slice p kids.length c]] w (nV B b l (bareP ⟨3,a,b1,name,kids⟩ (fj kids)) w):=by
 have V:rangeP 3 a b1=true:=D.kinds.2.2.2.1;have t:=am w (.cells #[ag 3,ag a,ag b1,.string ⟨name.toArray⟩,.slice p kids.length c] 78);have u:=aB w (.cells #[ag 3,ag a,ag b1,.string ⟨name.toArray⟩,.slice p kids.length c] 78);have y:=h.below t;have G:=t.mono h.le;have C:BK B b w _:=BK.of_below t h.le;generalize Z:w.alloc (.cells #[ag 3,ag a,ag b1,.string ⟨name.toArray⟩,.slice p kids.length c] 78)=wA at*;have z0:=ak 0 u;rw[Am rfl]at n⊢;simp[rangeP]at V;have z1:=ak 1 u;have z2:=ak 2 u;have I:=fun(W:World)=>(vM a (by omega) (by omega) W).mono (fun r F h=>(⟨h.1,h.2▸aF _ _⟩:r= .returned (.string ⟨(clockL a).toArray⟩)/\ao W F));have J:=fun(W:World)=>(vM b1 (by omega) (by omega) W).mono (fun r F h=>(⟨h.1,h.2▸aF _ _⟩:r= .returned (.string ⟨(clockL b1).toArray⟩)/\ao W F));have lX:=sH a;have lY:=sH b1;dsimp only at n⊢;generalize clockL a=X at*;generalize clockL b1=Y at*;simp at n;go_enter func49,ntmps49;go_wp2_with fail;refine o7 (by kernel_rfl) (by kernel_rfl) (by kernel_rfl) (by kernel_rfl) 9 (by kernel_rfl) (by kernel_rfl) [(16,ab b 0),(17,ab w.heap.size 1),(18,ag a),(19,.string ⟨(X).toArray⟩),(20,.string ⟨(X++[45]).toArray⟩),(21,ab w.heap.size 2),(22,ag b1),(23,.string ⟨(Y).toArray⟩),(24,.string ⟨(X++45::Y).toArray⟩)] (by kernel_rfl) (by kernel_rfl) ?_ ?_
 ·intro i s v o L A W f g d x m e;match i,f,g with
  |0,f,g=>
   cases ay f;cases ay g;have h0:A.tmps[0]?.getD undef=ab b 0:=(gd A 0).trans (m 0 (by kernel_rfl));refine dq rfl (fun K j=> ?_);go_simp;exact j _ _ ⟨rfl,aF _ _⟩
  |1,f,g=>
   cases ay f;cases ay g;have U:A.tmps[3]?.getD undef=ab w.heap.size 0:=(gd A 3).trans (m 3 (by kernel_rfl));refine dq rfl (fun K j=> ?_);go_simp;exact j _ _ ⟨rfl,aF _ _⟩
  |2,f,g=>
   cases ay f;cases ay g;have N:A.tmps[17]?.getD undef=ab w.heap.size 1:=(gd A 17).trans (e 1 17 _ rfl (d ⟨1,.data⟩ (by simp) rfl));have aa:W.cell? (ae w.heap.size 1)=some (ag a):=aj x z1;refine dq rfl (fun K j=> ?_);go_simp;exact j _ _ ⟨rfl,aF _ _⟩
  |3,f,g=>
   cases ay f;cases ay g;have O:A.tmps[18]?.getD undef=ag a:=(gd A 18).trans (e 2 18 _ rfl (d ⟨2,.data⟩ (by simp) rfl));refine dq rfl (fun K j=> ?_);go_simp;refine(I W).mono ?_;rintro M H ⟨rfl,q⟩;exact j _ _ ⟨rfl,q⟩
  |4,f,g=>
   cases ay f;cases ay g;have P:A.tmps[19]?.getD undef= .string ⟨(X).toArray⟩:=(gd A 19).trans (e 3 19 _ rfl (d ⟨3,.data⟩ (by simp) rfl));refine dq rfl (fun K j=> ?_);go_simp;try rw[aw (by omega)]
   exact j _ _ ⟨congrArg (A.put (some 20)) (l3 (by simp)),aF _ _⟩
  |5,f,g=>
   cases ay f;cases ay g;have U:A.tmps[3]?.getD undef=ab w.heap.size 0:=(gd A 3).trans (m 3 (by kernel_rfl));refine dq rfl (fun K j=> ?_);go_simp;exact j _ _ ⟨rfl,aF _ _⟩
  |6,f,g=>
   cases ay f;cases ay g;have R:A.tmps[21]?.getD undef=ab w.heap.size 2:=(gd A 21).trans (e 5 21 _ rfl (d ⟨5,.data⟩ (by simp) rfl));have ac:W.cell? (ae w.heap.size 2)=some (ag b1):=aj x z2;refine dq rfl (fun K j=> ?_);go_simp;exact j _ _ ⟨rfl,aF _ _⟩
  |7,f,g=>
   cases ay f;cases ay g;have S:A.tmps[22]?.getD undef=ag b1:=(gd A 22).trans (e 6 22 _ rfl (d ⟨6,.data⟩ (by simp) rfl));refine dq rfl (fun K j=> ?_);go_simp;refine(J W).mono ?_;rintro M H ⟨rfl,q⟩;exact j _ _ ⟨rfl,q⟩
  |8,f,g=>
   cases ay f;cases ay g;have Q:A.tmps[20]?.getD undef= .string ⟨(X++[45]).toArray⟩:=(gd A 20).trans (e 4 20 _ rfl (d ⟨4,.data⟩ (by simp) rfl));have T:A.tmps[23]?.getD undef= .string ⟨(Y).toArray⟩:=(gd A 23).trans (e 7 23 _ rfl (d ⟨7,.data⟩ (by simp) rfl));refine dq rfl (fun K j=> ?_);go_simp;try rw[aw (by omega)]
   exact j _ _ ⟨congrArg (A.put (some 24)) (l3 (by simp)),aF _ _⟩
  |k+9,f,g=>simp at g
 ·intro o W f x;cases ay f;simp only[aR,a8,Act.put,aD,aJ,aI];refine dq rfl (fun K j=> ?_);go_simp;refine(jS (X++45::Y) (y.below x) (by simp;omega)).mono ?_;rintro r w1 ⟨rfl,E,z⟩;refine j _ _ ⟨⟨_,rfl⟩,?_⟩;clear j;go_wp2_with fail;go_end0;exact⟨rfl,E,C.trans ((BK.of_below x y.le).trans z)⟩
theorem EX (a b1:Int)(name:List UInt8)(kids:List Ex)(p:Option Addr)(c:Nat)(w:World)(l:List UInt8)(_hks:kids=[]\/kX B b w (.slice p kids.length c) kids)(_hok:OKE ⟨10,a,b1,name,kids⟩)(_hPT:PTb B w)(h:BSt B b l w)
  (d:l.length+(bareP ⟨10,a,b1,name,kids⟩ (fj kids)).length<=140737488355328):
  Calls prog 49 #[ab b 0,.agg #[ag 10,ag a,ag b1,.string ⟨name.toArray⟩,.slice p kids.length c]] w (nV B b l (bareP ⟨10,a,b1,name,kids⟩ (fj kids)) w):=by
 have e:=am w (.cells #[ag 10,ag a,ag b1,.string ⟨name.toArray⟩,.slice p kids.length c] 78);have f:=aB w (.cells #[ag 10,ag a,ag b1,.string ⟨name.toArray⟩,.slice p kids.length c] 78);have k:=h.below e;have n:=e.mono h.le;have i:BK B b w _:=BK.of_below e h.le;generalize o:w.alloc (.cells #[ag 10,ag a,ag b1,.string ⟨name.toArray⟩,.slice p kids.length c] 78)=s at*;have t:=ak 0 f;rw[wJ rfl]at d⊢;have u:=ak 3 f;have m:=jS name k (by simpa using d);clear d;go_enter func49,ntmps49;go_wp2_with fail;refine m.mono ?_;rintro r q ⟨rfl,j,g⟩;clear m;go_wp2_with fail;go_end0;exact⟨rfl,j,i.trans g⟩
theorem FW (a b1:Int)(name:List UInt8)(kids:List Ex)(p:Option Addr)(c:Nat)(w:World)(l:List UInt8)(o:kids=[]\/kX B b w (.slice p kids.length c) kids)(j:OKE ⟨6,a,b1,name,kids⟩)(_hPT:PTb B w)(h:BSt B b l w)
  (d:l.length+(bareP ⟨6,a,b1,name,kids⟩ (fj kids)).length<=140737488355328):
  Calls prog 49 #[ab b 0,.agg #[ag 6,ag a,ag b1,.string ⟨name.toArray⟩,.slice p kids.length c]] w (nV B b l (bareP ⟨6,a,b1,name,kids⟩ (fj kids)) w):=by
 obtain⟨k0,g,_⟩:=j.kid0 (show 1<=kidsP 6 by decide);obtain⟨A,f,_⟩:=j.kid1 (show 2<=kidsP 6 by decide);have i:kids.length=2:=j.kinds.2.2.1;have q:kids≠[]:=fun e=>by rw[e]at i;cases i
 rw[Ao rfl]at d⊢;dsimp only at g f d⊢;rw[iI g,iI f]at d⊢;have m:=am w (.cells #[ag 6,ag a,ag b1,.string ⟨name.toArray⟩,.slice p kids.length c] 78);have s:=aB w (.cells #[ag 6,ag a,ag b1,.string ⟨name.toArray⟩,.slice p kids.length c] 78);have y:=h.below m;have n:=m.mono h.le;have v:BK B b w _:=BK.of_below m h.le;generalize z:w.alloc (.cells #[ag 6,ag a,ag b1,.string ⟨name.toArray⟩,.slice p kids.length c] 78)=C at*;have E:=ak 0 s;have k:=(o.resolve_left q).on n;have u:Lx.holdP 6=0:=by decide
 have t:=vP (B:=B) (b:=b) ⟨6,a,b1,name,kids⟩ p c C l [32,43,32] k0 A i g f k y (show Lx.holdP 6<=2 by decide) (by dsimp only;rw[u];simp at d⊢;omega);dsimp only at t;rw[u]at t;clear k o d i g f q j u;go_enter func49,ntmps49;go_wp2_with(refine aO rfl 78 _ rfl _ rfl _ _ _ _ s d9 rfl (by kernel_rfl) ?_)
 refine t.mono ?_;rintro r D ⟨rfl,x,f⟩;clear t;go_wp2_with fail;go_end0;exact⟨rfl,x,v.trans f⟩
theorem FX (a b1:Int)(name:List UInt8)(kids:List Ex)(p:Option Addr)(c:Nat)(w:World)(l:List UInt8)(o:kids=[]\/kX B b w (.slice p kids.length c) kids)(j:OKE ⟨7,a,b1,name,kids⟩)(_hPT:PTb B w)(h:BSt B b l w)
  (d:l.length+(bareP ⟨7,a,b1,name,kids⟩ (fj kids)).length<=140737488355328):
  Calls prog 49 #[ab b 0,.agg #[ag 7,ag a,ag b1,.string ⟨name.toArray⟩,.slice p kids.length c]] w (nV B b l (bareP ⟨7,a,b1,name,kids⟩ (fj kids)) w):=by
 obtain⟨k0,g,_⟩:=j.kid0 (show 1<=kidsP 7 by decide);obtain⟨A,f,_⟩:=j.kid1 (show 2<=kidsP 7 by decide);have i:kids.length=2:=j.kinds.2.2.1;have q:kids≠[]:=fun e=>by rw[e]at i;cases i
 rw[Aq rfl]at d⊢;dsimp only at g f d⊢;rw[iI g,iI f]at d⊢;have m:=am w (.cells #[ag 7,ag a,ag b1,.string ⟨name.toArray⟩,.slice p kids.length c] 78);have s:=aB w (.cells #[ag 7,ag a,ag b1,.string ⟨name.toArray⟩,.slice p kids.length c] 78);have y:=h.below m;have n:=m.mono h.le;have v:BK B b w _:=BK.of_below m h.le;generalize z:w.alloc (.cells #[ag 7,ag a,ag b1,.string ⟨name.toArray⟩,.slice p kids.length c] 78)=C at*;have E:=ak 0 s;have k:=(o.resolve_left q).on n;have u:Lx.holdP 7=0:=by decide
 have t:=vP (B:=B) (b:=b) ⟨7,a,b1,name,kids⟩ p c C l [32,45,32] k0 A i g f k y (show Lx.holdP 7<=2 by decide) (by dsimp only;rw[u];simp at d⊢;omega);dsimp only at t;rw[u]at t;clear k o d i g f q j u;go_enter func49,ntmps49;go_wp2_with(refine aO rfl 78 _ rfl _ rfl _ _ _ _ s d9 rfl (by kernel_rfl) ?_)
 refine t.mono ?_;rintro r D ⟨rfl,x,f⟩;clear t;go_wp2_with fail;go_end0;exact⟨rfl,x,v.trans f⟩
theorem FY (a b1:Int)(name:List UInt8)(kids:List Ex)(p:Option Addr)(c:Nat)(w:World)(l:List UInt8)(o:kids=[]\/kX B b w (.slice p kids.length c) kids)(j:OKE ⟨8,a,b1,name,kids⟩)(_hPT:PTb B w)(h:BSt B b l w)
  (d:l.length+(bareP ⟨8,a,b1,name,kids⟩ (fj kids)).length<=140737488355328):
  Calls prog 49 #[ab b 0,.agg #[ag 8,ag a,ag b1,.string ⟨name.toArray⟩,.slice p kids.length c]] w (nV B b l (bareP ⟨8,a,b1,name,kids⟩ (fj kids)) w):=by
 obtain⟨k0,g,_⟩:=j.kid0 (show 1<=kidsP 8 by decide);obtain⟨A,f,_⟩:=j.kid1 (show 2<=kidsP 8 by decide);have i:kids.length=2:=j.kinds.2.2.1;have q:kids≠[]:=fun e=>by rw[e]at i;cases i
 rw[Ar rfl]at d⊢;dsimp only at g f d⊢;rw[iI g,iI f]at d⊢;have m:=am w (.cells #[ag 8,ag a,ag b1,.string ⟨name.toArray⟩,.slice p kids.length c] 78);have s:=aB w (.cells #[ag 8,ag a,ag b1,.string ⟨name.toArray⟩,.slice p kids.length c] 78);have y:=h.below m;have n:=m.mono h.le;have v:BK B b w _:=BK.of_below m h.le;generalize z:w.alloc (.cells #[ag 8,ag a,ag b1,.string ⟨name.toArray⟩,.slice p kids.length c] 78)=C at*;have E:=ak 0 s;have k:=(o.resolve_left q).on n;have u:Lx.holdP 8=1:=by decide
 have t:=vP (B:=B) (b:=b) ⟨8,a,b1,name,kids⟩ p c C l [32,38,32] k0 A i g f k y (show Lx.holdP 8<=2 by decide) (by dsimp only;rw[u];simp at d⊢;omega);dsimp only at t;rw[u]at t;clear k o d i g f q j u;go_enter func49,ntmps49;go_wp2_with(refine aO rfl 78 _ rfl _ rfl _ _ _ _ s d9 rfl (by kernel_rfl) ?_)
 refine t.mono ?_;rintro r D ⟨rfl,x,f⟩;clear t;go_wp2_with fail;go_end0;exact⟨rfl,x,v.trans f⟩
theorem FZ (a b1:Int)(name:List UInt8)(kids:List Ex)(p:Option Addr)(c:Nat)(w:World)(l:List UInt8)(Q:kids=[]\/kX B b w (.slice p kids.length c) kids)(v:OKE ⟨9,a,b1,name,kids⟩)(O:PTb B w)(h:BSt B b l w)
  (f:l.length+(bareP ⟨9,a,b1,name,kids⟩ (fj kids)).length<=140737488355328):
  Calls prog 49 #[ab b 0,.agg #[ag 9,ag a,ag b1,.string ⟨name.toArray⟩,.slice p kids.length c]] w (nV B b l (bareP ⟨9,a,b1,name,kids⟩ (fj kids)) w):=by
 have hr:rangeP 9 a b1=true:=v.kinds.2.2.2.1;obtain⟨k0,s,_⟩:=v.kid0 (show 1<=kidsP 9 by decide);have u:kids.length=1:=v.kinds.2.2.1;have R:kids≠[]:=fun e=>by rw[e]at u;cases u
 rw[As rfl]at f⊢;dsimp only at s f⊢;rw[iI s]at f⊢;simp[rangeP]at hr;obtain⟨g,o,c',U,i,k⟩:=Q.resolve_left R;injection U with q1 q2 q3;subst q1;subst q3;rw[u];obtain⟨p0,q0,y,z,A,C,D,Y⟩:=k 0 k0 s;clear k;have n:=am w (.cells #[ag 9,ag a,ag b1,.string ⟨name.toArray⟩,.slice (some (ae g o)) 1 c] 78);have j:=aB w (.cells #[ag 9,ag a,ag b1,.string ⟨name.toArray⟩,.slice (some (ae g o)) 1 c] 78);have T:=h.below n;have d:=n.mono h.le;have F:BK B b w _:=BK.of_below n h.le;generalize aa:w.alloc (.cells #[ag 9,ag a,ag b1,.string ⟨name.toArray⟩,.slice (some (ae g o)) 1 c] 78)=x at*;have z0:=ak 0 j;have z1:=ak 1 j;have z2:=ak 2 j;have z4:=ak 4 j;have H:x.cell? (ae g o)=_:=(dW d i (aU y)).trans y;have J:x.cell? (ae g (o+1))=_:=(dW d i (aU z)).trans z;have K:x.cell? (ae g (o+2))=_:=(dW d i (aU A)).trans A;have L:x.cell? (ae g (o+3))=_:=(dW d i (aU C)).trans C;have M:x.cell? (ae g (o+4))=_:=(dW d i (aU D)).trans D;have li:=EE (a:=a) (by omega) (by omega);generalize m:eJ k0 3=T0 at*;have N:=Y x l 3 d T (by omega) (by rw[m];simp at f;omega);rw[m]at N;clear Y m;go_enter func49,ntmps49;go_wp2_with fail;refine N.mono ?_;rintro r Z ⟨rfl,G,t⟩;have V:=t.others _ _ j (by intro q;cases q;have:=h.lt;omega) (by intro cc fz q;cases q);have y1:=ak 1 V;have X:=ET a (by omega) (by omega) Z (O Z (F.trans t).below).2.2;have lI: ¬9223372036854775807<7+(Lib.itoa a).length:=by omega
 clear N z0 z1 z2 z4 H J K L M;simp at f;generalize Lib.itoa a=I at*;go_wp2_with fail;refine X.mono ?_;rintro r w2 ⟨rfl,E⟩;clear X;have W:=jS ([32,115,104,105,102,116,32]++I) (G.below E) (by simp;omega);go_wp2_with fail;refine W.mono ?_;rintro r w3 ⟨rfl,S,P⟩;clear W;go_wp2_with fail;go_end0;exact⟨rfl,by simpa using S,F.trans (t.trans ((BK.of_below E G.le).trans P))⟩
theorem F0 (a b1:Int)(name:List UInt8)(kids:List Ex)(p:Option Addr)(c:Nat)(w:World)(l:List UInt8)(O:kids=[]\/kX B b w (.slice p kids.length c) kids)(v:OKE ⟨4,a,b1,name,kids⟩)(L:PTb B w)(h:BSt B b l w)
  (f:l.length+(bareP ⟨4,a,b1,name,kids⟩ (fj kids)).length<=140737488355328):
  Calls prog 49 #[ab b 0,.agg #[ag 4,ag a,ag b1,.string ⟨name.toArray⟩,.slice p kids.length c]] w (nV B b l (bareP ⟨4,a,b1,name,kids⟩ (fj kids)) w):=by
 have hr:rangeP 4 a b1=true:=v.kinds.2.2.2.1;obtain⟨k0,t,_⟩:=v.kid0 (show 1<=kidsP 4 by decide);have u:kids.length=1:=v.kinds.2.2.1;have P:kids≠[]:=fun e=>by rw[e]at u;cases u
 rw[Au rfl]at f⊢;dsimp only at t f⊢;rw[iI t]at f⊢;simp[rangeP]at hr;obtain⟨g,o,c',S,i,k⟩:=O.resolve_left P;injection S with q1 q2 q3;subst q1;subst q3;rw[u];obtain⟨p0,q0,y,z,A,C,E,U⟩:=k 0 k0 t;clear k;have s:=am w (.cells #[ag 4,ag a,ag b1,.string ⟨name.toArray⟩,.slice (some (ae g o)) 1 c] 78);have j:=aB w (.cells #[ag 4,ag a,ag b1,.string ⟨name.toArray⟩,.slice (some (ae g o)) 1 c] 78);have H:=h.below s;have F:=s.mono h.le;have N:BK B b w _:=BK.of_below s h.le;generalize aa:w.alloc (.cells #[ag 4,ag a,ag b1,.string ⟨name.toArray⟩,.slice (some (ae g o)) 1 c] 78)=wA at*;have z0:=ak 0 j;have z1:=ak 1 j;have z2:=ak 2 j;have z4:=ak 4 j;have T:=EW a (by omega) (by omega) wA (L wA F).2.1;have lD:=yx (a:=a) (by omega) (by omega);generalize m:eJ k0 2=T0 at*;generalize daysL a=D at*;simp at f;have l1: ¬9223372036854775807<7+D.length:=by omega
 have l2: ¬9223372036854775807<7+D.length+2:=by omega
 go_enter func49,ntmps49;go_wp2_with fail;refine T.mono ?_;rintro r w1 ⟨rfl,n⟩;clear T;have J:=jS ([119,101,101,107,108,121,32]++D++[58,32]) (H.below n) (by simp;omega);simp only[List.cons_append,List.nil_append]at J;go_wp2_with fail;refine J.mono ?_;rintro r x ⟨rfl,Q,G⟩;have d:=N.trans ((BK.of_below n H.le).trans G);have I:=G.others _ _ (ai n j) (by intro q;cases q;have:=h.lt;omega) (by intro cc fz q;cases q);have y4:=ak 4 I;have V:x.cell? (ae g o)=_:=(dW d.below i (aU y)).trans y;have W:x.cell? (ae g (o+1))=_:=(dW d.below i (aU z)).trans z;have X:x.cell? (ae g (o+2))=_:=(dW d.below i (aU A)).trans A;have Y:x.cell? (ae g (o+3))=_:=(dW d.below i (aU C)).trans C;have Z:x.cell? (ae g (o+4))=_:=(dW d.below i (aU E)).trans E;have K:=U x _ 2 d.below Q (by omega) (by rw[m];simp;omega);rw[m]at K;clear J U m z0 z1 z2 z4 I;go_wp2_with fail;refine K.mono ?_;rintro r w3 ⟨rfl,R,M⟩;clear K;go_wp2_with fail;go_end0;exact⟨rfl,by simpa using R,d.trans M⟩
theorem F1 (a b1:Int)(name:List UInt8)(kids:List Ex)(p:Option Addr)(c:Nat)(w:World)(l:List UInt8)(O:kids=[]\/kX B b w (.slice p kids.length c) kids)(y:OKE ⟨5,a,b1,name,kids⟩)(H:PTb B w)(h:BSt B b l w)
  (f:l.length+(bareP ⟨5,a,b1,name,kids⟩ (fj kids)).length<=140737488355328):
  Calls prog 49 #[ab b 0,.agg #[ag 5,ag a,ag b1,.string ⟨name.toArray⟩,.slice p kids.length c]] w (nV B b l (bareP ⟨5,a,b1,name,kids⟩ (fj kids)) w):=by
 have hr:rangeP 5 a b1=true:=y.kinds.2.2.2.1;obtain⟨k0,v,_⟩:=y.kid0 (show 1<=kidsP 5 by decide);have x:kids.length=1:=y.kinds.2.2.1;have P:kids≠[]:=fun e=>by rw[e]at x;cases x
 rw[Av rfl]at f⊢;dsimp only at v f⊢;rw[iI v]at f⊢;simp[rangeP]at hr;obtain⟨g,o,c',S,i,n⟩:=O.resolve_left P;injection S with q1 q2 q3;subst q1;subst q3;rw[x];obtain⟨p0,q0,A,C,E,F,G,U⟩:=n 0 k0 v;clear n;have u:=am w (.cells #[ag 5,ag a,ag b1,.string ⟨name.toArray⟩,.slice (some (ae g o)) 1 c] 78);have j:=aB w (.cells #[ag 5,ag a,ag b1,.string ⟨name.toArray⟩,.slice (some (ae g o)) 1 c] 78);have k:=h.below u;have m:=u.mono h.le;have N:BK B b w _:=BK.of_below u h.le;generalize ad:w.alloc (.cells #[ag 5,ag a,ag b1,.string ⟨name.toArray⟩,.slice (some (ae g o)) 1 c] 78)=wA at*;have z0:=ak 0 j;have z1:=ak 1 j;have z2:=ak 2 j;have z4:=ak 4 j;have T:=CL a b1 (by omega) (by omega) (by omega) (by omega) wA (fun W V=>⟨(H W (m.trans (V.mono k.le))).1,(H W (m.trans (V.mono k.le))).2.2⟩);have lD:=Cu a b1;generalize s:eJ k0 2=T0 at*;generalize datesL a b1=D at*;simp at f;have l1: ¬9223372036854775807<6+D.length:=by omega
 have l2: ¬9223372036854775807<6+D.length+2:=by omega
 go_enter func49,ntmps49;go_wp2_with fail;refine T.mono ?_;rintro r w1 ⟨rfl,t⟩;clear T;have K:=jS ([100,97,116,101,115,32]++D++[58,32]) (k.below t) (by simp;omega);simp only[List.cons_append,List.nil_append]at K;go_wp2_with fail;refine K.mono ?_;rintro r z ⟨rfl,Q,I⟩;have d:=N.trans ((BK.of_below t k.le).trans I);have J:=I.others _ _ (ai t j) (by intro q;cases q;have:=h.lt;omega) (by intro cc fz q;cases q);have y4:=ak 4 J;have X:z.cell? (ae g o)=_:=(dW d.below i (aU A)).trans A;have Y:z.cell? (ae g (o+1))=_:=(dW d.below i (aU C)).trans C;have Z:z.cell? (ae g (o+2))=_:=(dW d.below i (aU E)).trans E;have aa:z.cell? (ae g (o+3))=_:=(dW d.below i (aU F)).trans F;have ac:z.cell? (ae g (o+4))=_:=(dW d.below i (aU G)).trans G;have L:=U z _ 2 d.below Q (by omega) (by rw[s];simp;omega);rw[s]at L;clear K U s z0 z1 z2 z4 J;go_wp2_with fail;refine L.mono ?_;rintro r w3 ⟨rfl,R,M⟩;clear L;go_wp2_with fail;go_end0;exact⟨rfl,by simpa using R,d.trans M⟩
end
section
variable {B b:Nat}
theorem EY (e:Ex)(p:Option Addr)(c:Nat)(w:World)(l:List UInt8)(i:e.kids=[]\/kX B b w (.slice p e.kids.length c) e.kids)(f:OKE e)(g:PTb B w)(h:BSt B b l w)(d:l.length+(bareP e (fj e.kids)).length<=140737488355328):
  Calls prog 49 #[ab b 0,.agg #[ag e.kind,ag e.a,ag e.b,.string ⟨e.name.toArray⟩,.slice p e.kids.length c]] w (nV B b l (bareP e (fj e.kids)) w):=by
 obtain⟨k,m,_⟩:=f.kinds;obtain⟨kind,a,b1,name,kids⟩:=e;dsimp only at*;have j:kind=1\/kind=2\/kind=3\/kind=10\/kind=6\/kind=7\/kind=8\/kind=9\/kind=4\/kind=5:=by omega
 clear k m;rcases j with rfl|rfl|rfl|rfl|rfl|rfl|rfl|rfl|rfl|rfl
 ·exact FT a b1 name kids p c w l i f g h d
 ·exact FU a b1 name kids p c w l i f g h d
 ·exact FV a b1 name kids p c w l i f g h d
 ·exact EX a b1 name kids p c w l i f g h d
 ·exact FW a b1 name kids p c w l i f g h d
 ·exact FX a b1 name kids p c w l i f g h d
 ·exact FY a b1 name kids p c w l i f g h d
 ·exact FZ a b1 name kids p c w l i f g h d
 ·exact F0 a b1 name kids p c w l i f g h d
 ·exact F1 a b1 name kids p c w l i f g h d
theorem AB (e:Ex)(p:Option Addr)(c:Nat)(w:World)(l:List UInt8)(f:Nat)(t:e.kids=[]\/kX B b w (.slice p e.kids.length c) e.kids)(i:OKE e)(g:PTb B w)(h:BSt B b l w)(_hl3:f<=3)(d:l.length+(eJ e f).length<=140737488355328):
  Calls prog 21 #[ab b 0,.agg #[ag e.kind,ag e.a,ag e.b,.string ⟨e.name.toArray⟩,.slice p e.kids.length c],ag (f:Int)] w (nV B b l (eJ e f) w):=by
 have o:=am w (.cells #[ag e.kind,ag e.a,ag e.b,.string ⟨e.name.toArray⟩,.slice p e.kids.length c] 78);have j:=aB w (.cells #[ag e.kind,ag e.a,ag e.b,.string ⟨e.name.toArray⟩,.slice p e.kids.length c] 78);have E:=h.below o;have m:=o.mono h.le;have D:BK B b w _:=BK.of_below o h.le;generalize N:w.alloc (.cells #[ag e.kind,ag e.a,ag e.b,.string ⟨e.name.toArray⟩,.slice p e.kids.length c] 78)=P at*;have Z:=ak 0 j;have F:=vO e.kind P
 have k: ∀W,Below B w W->(e.kids=[]\/kX B b W (.slice p e.kids.length c) e.kids):=fun W U=>by
  rcases t with q|q
  ·exact .inl q
  ·exact .inr (q.on U)
 rw[uj]at d⊢;have T:=h.lt;by_cases G:Lx.holdP e.kind<f
 ·rw[bc G]at d⊢;have A:brk true (bareP e (fj e.kids))=[40]++(bareP e (fj e.kids)++[41]):=rfl;rw[A]at d⊢;have V: ¬(f:Int)<=(Lx.holdP e.kind:Int):=(by omega);have Q:=jS [40] E (by simp at d⊢;omega);have x:=fun(v:World) (S:Below B w v) (K:BSt B b (l++[40]) v)=>EY e p c v (l++[40]) (k v S) i (g.on S) K (by simp at d⊢;omega);have R:=fun(I:World) (K:BSt B b (l++[40]++bareP e (fj e.kids)) I)=>jS [41] K (by simp at d⊢;omega);clear t i g d A G k;generalize bareP e (fj e.kids)=X at*;generalize Lx.holdP e.kind=H at*;go_enter func21,ntmps21;go_wp2_with fail;refine F.mono ?_;rintro r Y ⟨rfl,rfl⟩;clear F;go_wp2_with fail;refine Q.mono ?_;rintro r v ⟨rfl,L,C⟩;have O:=C.others _ _ j (by intro q;cases q;omega) (by intro cc fz q;cases q);have n:=D.trans C;have y:=x v n.below L;clear Q x j Z N;go_wp2_with(refine aO rfl 78 _ rfl _ rfl _ _ _ _ O d9 rfl (by kernel_rfl) ?_)
  refine y.mono ?_;rintro r I ⟨rfl,u,s⟩;have z:=R I u;clear y R;go_wp2_with fail;refine z.mono ?_;rintro r w3 ⟨rfl,M,J⟩;clear z;go_wp2_with fail;go_end0;exact⟨rfl,by simpa using M,n.trans (s.trans J)⟩
 ·rw[bo G]at d⊢;have A:brk false (bareP e (fj e.kids))=bareP e (fj e.kids):=rfl;rw[A]at d⊢;have V:(f:Int)<=(Lx.holdP e.kind:Int):=(by omega);have x:=EY e p c P l (k P m) i (g.on m) E d;clear t i g d A G k;generalize bareP e (fj e.kids)=X at*;generalize Lx.holdP e.kind=H at*;go_enter func21,ntmps21;go_wp2_with fail;refine F.mono ?_;rintro r Y ⟨rfl,rfl⟩;clear F;go_wp2_with(refine aO rfl 78 _ rfl _ rfl _ _ _ _ j d9 rfl (by kernel_rfl) ?_)
  refine x.mono ?_;rintro r I ⟨rfl,u,s⟩;clear x;go_wp2_with fail;go_end0;exact⟨rfl,u,D.trans s⟩
theorem L3: ∀(d:Nat) (e:Ex) (sl:Value) (w:World) (l:List UInt8) (a:Nat),fV (fun k=>k<B) d w sl e.kids->OKE e->PTb B w->BSt B b l w->a<=3->l.length+(eJ e a).length<=140737488355328->
  Calls prog 21 #[ab b 0,exV e sl,ag (a:Int)] w (nV B b l (eJ e a) w):=by
 intro d;induction d with
 |zero=>
  intro e sl w l a s m i h v f;obtain⟨p,c,rfl⟩:=s.form;exact AB e p c w l a (.inl s.1) m i h v f
 |succ d L=>
  intro e sl w l a s m i h v f;obtain⟨p,c,z⟩:=s.form;subst z;refine AB e p c w l a ?_ m i h v f;rcases s with⟨I,_⟩|⟨g,o,D,J,K,_,t⟩
  ·exact .inl I
  ·refine .inr ⟨g,o,D,K,J,fun j k C=> ?_⟩;obtain⟨_,P,c0,c1,E,F,G,r⟩:=t j k C;obtain⟨N,O,rfl⟩:=r.form;exact⟨N,O,c0,c1,E,F,G,fun W M n A y x q=>L k _ W M n (r.kept fun H u _=>A.block H u) (m.kid (aL C)) (i.on A) y x q⟩
end
namespace Lx
def qT (u:Ru):List UInt8:=[114,117,108,101,32]++u.1++[32,61,32]++eJ u.2 0++[59,10]
def eR:List Ru->List UInt8
 |[]=>[]
 |u::l=>qT u++eR l
theorem F2 (l:List Ru)(u:Ru):eR (l++[u])=eR l++qT u:=by
 induction l with
 |nil=>simp[eR]
 |cons x l a=>simp[eR,a]
theorem kT {l:List Ru}{j:Nat}{u:Ru}(h:l[j]? =some u):l.take (j+1)=l.take j++[u]:=by
 rw[fF,h];rfl
def OKR (u:Ru):Prop:=Go.Proofs.YtpdoienkhgnceaaGreatDoor.namedL u.1=true/\OKE u.2
theorem Su {u:Ru}(h:ruleP u=0):OKR u:=by
 unfold ruleP at h;split at h
 ·cases h
 ·rename_i a;exact⟨by simpa using a,1,0,h⟩
theorem AC: ∀{l:List Ru} {i:Nat},(iA l i).1=0-> ∀u∈l,OKR u
 |[],_,_,u,a=>by cases a
 |x::l,i,h,u,a=>by
  rw[iA]at h;split at h
  ·rename_i b;exact absurd h b
  ·rename_i b;rcases bv.1 a with rfl|a
   ·exact Su (by simpa using b)
   ·exact AC h u a
theorem L4 {l:List Ru}(h:(dQ7 l).1=0):l.length<=40/\ ∀u∈l,OKR u:=by
 unfold dQ7 at h;split at h
 ·cases h
 ·exact⟨by omega,AC h⟩
theorem L5 {u:Ru}(h:OKR u):(qT u).length<=40000:=by
 have a:=yz h.1;have b:=h.2.len 0;simp[qT];omega
theorem AD: ∀{l:List Ru},(∀u∈l,OKR u)->(eR l).length<=40000*l.length
 |[],_=>by simp[eR]
 |x::l,h=>by
  have b:=L5 (h x aV);have c:=AD (l:=l) (fun u a=>h u (bj _ a));simp[eR];omega
def mF (l:List Ru):List UInt8×Int×Nat:=
 if(dQ7 l).1≠0 then([],dQ7 l) else if 6000<(eR l).length then([],4,0) else(eR l,0,0)
end Lx
theorem yE {d:Func}(k:d.results= #[ResultVar.tmp 2,ResultVar.cell 3 26]){R:Ending->World->Prop}{a:Act}{w:World}(g:Nat)(v:Value)(er at_:Int)(j:a.defers=[])(e:a.tmps.getD 2 undef=v)(f:a.tmps.getD 3 undef=ab g 0)
  (l:w.heap[g]? =ah #[ag er,ag at_] 26) (i:R (.returned (.tuple #[v,.agg #[ag er,ag at_]])) w):bodyPost prog d R .ret a w:=by
 refine aX (v:= .tuple #[v,.agg #[ag er,ag at_]]) ?_ j i;have b:a.tmps[2]?.getD undef=v:=by simpa using e
 have c:a.tmps[3]?.getD undef=ab g 0:=by simpa using f
 have m:=dZ (P:=prog) w g 26 26 _ _ _ l od rfl (by kernel_rfl);simp[results,k,b,c,asAddr,m]
def TS (l:List Ru)(w:World)(e:Ending)(a:World):Prop:=e= .returned (.tuple #[.string ⟨(mF l).1.toArray⟩,.agg #[ag (mF l).2.1,ag ((mF l).2.2:Int)]])/\ao w a
namespace Lx
theorem EZ: ∀(N:Nat) (e:Ex),SizeOf.sizeOf e<=N->hgt (iK e)=hgt e
 |0,e,c=>by cases e;simp at c
 |N+1,e,c=>by
  rw[mr,mr,jr];dsimp only
  have b: ∀a:List Ex,(∀k∈a,SizeOf.sizeOf k<=N)->hgtL (a.map iK)=hgtL a:=by
   intro a;induction a with
   |nil=>intro _;rfl
   |cons k a g=>
    intro h;rw[cQ,mu,mu,EZ N k (h k aV),g fun q f=>h q (bj _ f)]
  rw[b e.kids fun k d=>by have:=fy d;omega]
def oZ (u:Ru):Ru:=(u.1,iK u.2)
theorem xA: ∀{l:List Ru} {i:Nat},(iA l i).1=0-> ∀u∈l,ruleP u=0
 |[],_,_,u,a=>by cases a
 |x::l,i,h,u,a=>by
  rw[iA]at h;split at h
  ·rename_i b;exact absurd h b
  ·rename_i b;rcases bv.1 a with rfl|a
   ·simpa using b
   ·exact xA h u a
theorem F3 {l:List Ru}(h:(dQ7 l).1=0):l.length<=40/\ ∀u∈l,ruleP u=0:=by
 unfold dQ7 at h;split at h
 ·cases h
 ·exact⟨by omega,xA h⟩
theorem xB: ∀{l:List Ru} {i:Nat},(∀u∈l,ruleP u=0)->iA l i=(0,0)
 |[],_,_=>rfl
 |x::l,i,h=>by
  rw[iA,aw (by simpa using h x aV)];exact xB fun u a=>h u (bj _ a)
theorem F4 {l:List Ru}(a:l.length<=40)(h: ∀u∈l,ruleP u=0):dQ7 l=(0,0):=by
 unfold dQ7;rw[aw (by omega),xB h]
theorem E0 {u:Ru}(h:ruleP u=0):Go.Proofs.YtpdoienkhgnceaaGreatDoor.namedL u.1=true/\qC u.2=true/\cnt u.2<=600/\hgt u.2<=40:=by
 unfold ruleP at h;split at h
 ·cases h
 ·rename_i a;obtain⟨b,c⟩:=EK _ u.2 1 0 (aA _) h;have d:=sd h;exact⟨by simpa using a,OKE.all _ u.2 (aA _) ⟨1,0,h⟩,by omega,by omega⟩
theorem Oh {u:Ru}(a:Go.Proofs.YtpdoienkhgnceaaGreatDoor.namedL u.1=true)(b:qC u.2=true)(c:cnt u.2<=600)(d:hgt u.2<=40):ruleP u=0:=by
 unfold ruleP;rw[aw (by rw[a];decide),EJ _ u.2 1 0 (aA _) b (by omega) (by omega)]
end Lx
def Oi (x:List UInt8)(a:List T1):List T1:=nmT x::sgT 61::(a++[sgT 59])
theorem Oj {x:List UInt8}{e:Ex}{d:List T1}{h E:Nat}{q r:List Tk}(t:cnt e<=600)(u:hgt e<=40)(K:K0 e d h)(a:Rs (Oi x d) q r):
  kA E q= .ok ((x,iK e),r)\/(h<1+hgt e/\ ∃at_,kA E q= .error (4,at_)):=by
 obtain⟨k,v,rfl,g⟩:=Rs.cons a;obtain⟨c,b,rfl,i⟩:=g.cons;obtain⟨w,j,l⟩:=i.app;obtain⟨p,s,rfl,m⟩:=l.cons;obtain rfl:=m.nil;have c1: ¬kindP ((nmT x,k)::(sgT 61,c)::b)≠1:=fun h=>h rfl;have n:isT wIs ((nmT x,k)::(sgT 61,c)::b).tail=true:=rfl;unfold kA;rw[aw c1,ax n];have o:((nmT x,k)::(sgT 61,c)::b).tail.tail=b:=rfl;rw[o];rcases K E 1 ex0 b _ 0 j (by omega) rfl rfl with H|⟨f,at_,H⟩
 ·rw[H,EL rfl rfl];dsimp only;rw[aw (by rw[EZ _ e (aA _)];omega),ax (show isT rW ((sgT 59,p)::s)=true from rfl)];exact .inl rfl
 ·rw[H];exact .inr ⟨f,at_,rfl⟩
theorem L6 {x t:List UInt8}{i:List T1}(f:namedL x=true)(g: ∀r,lC r->gz i (t++r) (skp r))(s:fJ t)(r:List UInt8):gz (wdT la::Oi x i) (la++32::(x++32::61::32::(t++59::r))) (skp r):=by
 obtain⟨j,k,_,_⟩:=mP f;have a:=ol (x:=la) (r:=32::(x++32::61::32::(t++59::r))) (by decide) (by decide) (by decide) (by decide) (qq _);rw[j7,d8 ((fJ.word j k).app _)]at a;have b:=Cy (r:=32::61::32::(t++59::r)) f (qq _);rw[j7,d8 (lF (by decide))]at b;have c:=kW (c:=61) (32::(t++59::r)) (by decide) (by decide) (by decide) (by decide);rw[j7,d8 (s.app _)]at c;have d:=g (59::r) ⟨59,r,rfl,by decide⟩;rw[d8 (lF (by decide))]at d;have e:=kW (c:=59) r (by decide) (by decide) (by decide) (by decide);exact a.trans (b.trans (c.trans (d.trans e)))
theorem L7 {a b:List T1}{q:List Tk}(h:q.map (fun p=>p.1)=a++b): ∃r,Rs a q r/\r.map (fun p=>p.1)=b:=by
 obtain⟨e,f,rfl,c,d⟩:=List.map_eq_append_iff.1 h;exact⟨f,⟨e,c,rfl⟩,d⟩
theorem Ok (u:Ru)(r:List UInt8):qT u++r=la++32::(u.1++32::61::32::(eJ u.2 0++59::10::r)):=by
 unfold qT la;simp
theorem TT {e:Ex}(h:qC e=true):Txt e 0:=Ay (G2 _ e (aA _) h) 0 (by omega)
theorem AE: ∀(l:List Ru),(∀u∈l,ruleP u=0)-> ∃e,gz e (skp (eR l)) []/\ ∀(E f:Nat) (b:List Ru) (q:List Tk),q.map (fun p=>p.1)=e->q.length<f->b.length+l.length<=40->fH E f b q= .ok (b++l.map oZ)
 |[],_=>⟨[],rfl,fun E f b q i c _=>by
  have:q=[]:=(by simpa using i);subst this;cases f with
  |zero=>simp at c
  |succ f=>rw[fH];simp⟩
 |u::l,h=>by
  obtain⟨e,g,w⟩:=AE l fun x z=>h x (bj _ z);obtain⟨n,o,s,t⟩:=E0 (h u aV);obtain⟨t0,m,A,c0,_⟩:=TT o;have a:=L6 n m A (10::eR l);rw[Sd]at a;refine⟨(wdT la::Oi u.1 t0)++e,?_,fun E f b q i c v=> ?_⟩
  ·show gz _ (skp (qT u++eR l)) [];rw[Ok,d8 ((fJ.word (x:=la) (by decide) (by decide)).app _)];exact a.trans g
  ·obtain⟨r,b1,b2⟩:=L7 i;obtain⟨k,d,rfl,b3⟩:=b1.cons;cases f with
   |zero=>simp at c
   |succ f=>
    simp only[bK]at v c
    have j:r.length<=d.length:=by
     obtain⟨p,_,rfl⟩:=b3;simp
    rw[fH,aw (by simp),ax (show isT la ((wdT la,k)::d)=true from rfl),aw (by omega)];have y:((wdT la,k)::d).tail=d:=rfl;rw[y];rcases Oj (E:=E) s t (c0 rfl) b3 with H|⟨H,_⟩
    ·rw[H];dsimp only;rw[w E f (b++[(u.1,iK u.2)]) r b2 (by omega) (by simp;omega)];simp[oZ]
    ·omega
theorem F5 {l:List Ru}(f:(dQ7 l).1=0): ∃a k,eI (eR l) a k/\ ¬k<(eR l).length/\fH (eR l).length (a.length+1) [] a= .ok (l.map oZ):=by
 obtain⟨i,j⟩:=F3 f;obtain⟨m,g,e⟩:=AE l j;obtain⟨a,k,b,c,d⟩:=N6 g;exact⟨a,k,b,d,by rw[e _ _ [] a c (by omega) (by simpa using i)];rfl⟩
namespace Lx
def RE (e:Ex):Prop:=qC e=true/\iK e=e
theorem pX {k a b:Int}{x:List UInt8}{c:List Ex}(p:1<=k/\k<=10)(j:c.length=kidsP k)(m:rangeP k a b=true)(n:k=10->Go.Proofs.YtpdoienkhgnceaaGreatDoor.namedL x=true)(d:Jj k a=a/\Jk k b=b/\CW k x=x)(g: ∀q∈c,RE q):RE ⟨k,a,b,x,c⟩:=by
 refine⟨(rU _).2 ⟨?_,fun q e=>(g q e).1⟩,?_⟩
 ·unfold aloneP;dsimp only;rw[aw (by omega),aw (by simpa using j),aw (by rw[m];decide),aw];rintro⟨i,f⟩;rw[n i]at f;cases f
 ·rw[jr];dsimp only;rw[d.1,d.2.1,d.2.2];congr 1
  have: ∀l:List Ex,(∀q∈l,RE q)->l.map iK=l:=by
   intro l;induction l with
   |nil=>intro _;rfl
   |cons q l o=>intro h;rw[cQ,(h q aV).2,o fun q e=>h q (bj _ e)]
  exact this c g
theorem E1 {k:Int}{e t:Ex}(c:k=6\/k=7\/k=8)(b:RE e)(d:RE t):RE ⟨k,0,0,[],[e,t]⟩:=by
 have a: ∀q∈[e,t],RE q:=fun q a=>by
  rcases bv.1 a with rfl|a
  ·exact b
  ·rw[bJ.1 a];exact d
 rcases c with rfl|rfl|rfl
 ·exact pX (by omega) rfl rfl (by omega) ⟨rfl,rfl,rfl⟩ a
 ·exact pX (by omega) rfl rfl (by omega) ⟨rfl,rfl,rfl⟩ a
 ·exact pX (by omega) rfl rfl (by omega) ⟨rfl,rfl,rfl⟩ a
theorem Ol {a:Int}{e:Ex}(ha:a≠0/\ -1440<a/\a<1440)(b:RE e):RE ⟨9,a,0,[],[e]⟩:=
 pX (by omega) rfl (bc ha) (by omega) ⟨rfl,rfl,rfl⟩ fun q c=>by rw[bJ.1 c];exact b
def GE (e:Ex):Prop:=(e.kind=4/\1<=e.a/\e.a<128/\e.b=0)\/(e.kind=5/\0<=e.a/\e.a<=e.b/\e.b<146097)
theorem Om {g k:Ex}(j:GE g)(l:RE k):RE ⟨g.kind,g.a,g.b,[],[k]⟩:=by
 have c: ∀q∈[k],RE q:=fun q c=>by rw[bJ.1 c];exact l
 rcases j with⟨d,e,f,i⟩|⟨d,e⟩
 ·rw[d,i];exact pX (by omega) rfl (bc ⟨e,f⟩) (by omega) ⟨rfl,rfl,rfl⟩ c
 ·rw[d];exact pX (by omega) rfl (bc e) (by omega) ⟨rfl,rfl,rfl⟩ c
theorem Jp {p:Ex->Prop}: ∀q∈([]:List Ex),p q:=fun q a=>by cases a
theorem On:RE ⟨1,0,0,[],[]⟩:=pX (by omega) rfl rfl (by omega) ⟨rfl,rfl,rfl⟩ Jp
theorem L8:RE ⟨2,0,0,[],[]⟩:=pX (by omega) rfl rfl (by omega) ⟨rfl,rfl,rfl⟩ Jp
theorem QG {a b:Int}(h:0<=a/\a<b/\b<=1440):RE ⟨3,a,b,[],[]⟩:=pX (by omega) rfl (bc h) (by omega) ⟨rfl,rfl,rfl⟩ Jp
theorem QH {x:List UInt8}(h:Go.Proofs.YtpdoienkhgnceaaGreatDoor.namedL x=true):RE ⟨10,0,0,x,[]⟩:=pX (by omega) rfl rfl (fun _=>h) ⟨rfl,rfl,rfl⟩ Jp
def OI (t:T1):Prop:=(t.kind=1->Go.Proofs.YtpdoienkhgnceaaGreatDoor.namedL t.text=true)/\(t.kind=4->0<=t.n/\t.n<=1440)/\(t.kind=5->0<=t.n/\t.n<146097)
def jZ (r:List Tk):Prop:= ∀p∈r,OI p.1
theorem jZ.tail {r:List Tk}(h:jZ r):jZ r.tail:=fun p a=>h p (List.mem_of_mem_tail a)
theorem jZ.name {r:List Tk}(h:jZ r)(a:kindP r=1):Go.Proofs.YtpdoienkhgnceaaGreatDoor.namedL (textP r)=true:=by
 cases r with
 |nil=>exact absurd a (by decide)
 |cons p r=>exact(h p aV).1 a
theorem jZ.time {r:List Tk}(h:jZ r)(a:kindP r=4):0<=numP r/\numP r<=1440:=by
 cases r with
 |nil=>exact absurd a (by decide)
 |cons p r=>exact(h p aV).2.1 a
theorem jZ.date {r:List Tk}(h:jZ r)(a:kindP r=5):0<=numP r/\numP r<146097:=by
 cases r with
 |nil=>exact absurd a (by decide)
 |cons p r=>exact(h p aV).2.2 a
theorem jZ.shift {r:List Tk}(h:jZ r):jZ (eQ r):=by
 unfold eQ;split
 ·exact h.tail.tail
 ·exact h.tail
theorem L9 (x:List UInt8):dayBit x<128:=by
 unfold dayBit;repeat (first|omega|split)
theorem Hy {a b:Nat}(ha:a<128)(c:b<128):a|||b<128:=Nat.or_lt_two_pow (n:=7) ha c
theorem Sw {a b:Nat}(c:b≠0):1<=a|||b:=by
 have:b<=a|||b:=Nat.right_le_or;omega
theorem Bk (k a b:Int)(x:List UInt8)(s t:Ex):cnt ⟨k,a,b,x,[s,t]⟩=cnt s+cnt t+1:=by rw[oY];simp
theorem G5 (k a b:Int)(x:List UInt8)(s:Ex):cnt ⟨k,a,b,x,[s]⟩=cnt s+1:=by rw[oY];simp
theorem wP (k a b:Int)(x:List UInt8):cnt ⟨k,a,b,x,[]⟩=1:=by rw[oY];simp
theorem lU {E:Nat}{e:Ex}{r:List Tk}{n:Nat}{z:Ex×List Tk×Nat}(h:dp E e r n= .ok z):z=(e,r,n+1)/\n+1<=600:=by
 unfold dp at h;split at h
 ·cases h
 ·cases h;exact⟨rfl,by omega⟩
theorem CE (E:Nat): ∀(f m d:Nat) (e:Ex) (r:List Tk) (n:Nat) (B:Ex) (D:List Tk) (C:Nat),m<=8->jZ r->n<=600->(m=1\/m=3\/m=5->RE e)->(m=7->0<=e.a/\e.a<128)->(m=8->GE e)->goP E f m d e r n= .ok (B,D,C)->
  RE B/\jZ D/\C<=600/\(m=1\/m=3\/m=5->C+cnt e=n+cnt B)/\(¬(m=1\/m=3\/m=5)->C=n+cnt B)
 |0,m,d,e,r,n,B,D,C,_,_,_,_,_,_,h=>(dc h).elim
 |f+1,m,d,e,r,n,B,D,C,T,c,p,I,Q,R,h=>by
  have l:=CE E f;match m,T with
  |0,_=>
   rw[rX]at h;obtain⟨w,r1,A,q,o⟩:=bV h;obtain⟨g,i,k,_,b⟩:=l 2 _ _ _ _ _ _ _ (by omega) c p (by omega) (by omega) (by omega) q;obtain⟨b1,b2,b3,j,_⟩:=l 1 _ _ _ _ _ _ _ (by omega) i k (fun _=>g) (by omega) (by omega) o;have b:=b (by omega);have j:=j (by omega);exact⟨b1,b2,b3,by omega,fun _=>by omega⟩
  |1,_=>
   rw[rY]at h;have t:=I (by omega);split at h
   ·obtain⟨w,r1,A,q,o⟩:=bV h;obtain⟨H,M,L,x,y⟩:=bV o;obtain⟨g,i,k,_,b⟩:=l 2 _ _ _ _ _ _ _ (by omega) c.tail p (by omega) (by omega) (by omega) q;obtain⟨c1,s⟩:=lU x;cases c1;obtain⟨b1,b2,b3,j,_⟩:=l 1 _ _ _ _ _ _ _ (by omega) i s (fun _=>E1 (by omega) t g) (by omega) (by omega) y;have b:=b (by omega);have j:=j (by omega);rw[Bk]at j;exact⟨b1,b2,b3,fun _=>by omega,by omega⟩
   ·split at h
    ·obtain⟨w,r1,A,q,o⟩:=bV h;obtain⟨H,M,L,x,y⟩:=bV o;obtain⟨g,i,k,_,b⟩:=l 2 _ _ _ _ _ _ _ (by omega) c.tail p (by omega) (by omega) (by omega) q;obtain⟨c1,s⟩:=lU x;cases c1;obtain⟨b1,b2,b3,j,_⟩:=l 1 _ _ _ _ _ _ _ (by omega) i s (fun _=>E1 (by omega) t g) (by omega) (by omega) y;have b:=b (by omega);have j:=j (by omega);rw[Bk]at j;exact⟨b1,b2,b3,fun _=>by omega,by omega⟩
    ·cases h;exact⟨t,c,p,fun _=>by omega,by omega⟩
  |2,_=>
   rw[rZ]at h;obtain⟨w,r1,A,q,o⟩:=bV h;obtain⟨g,i,k,_,b⟩:=l 4 _ _ _ _ _ _ _ (by omega) c p (by omega) (by omega) (by omega) q;obtain⟨b1,b2,b3,j,_⟩:=l 3 _ _ _ _ _ _ _ (by omega) i k (fun _=>g) (by omega) (by omega) o;have b:=b (by omega);have j:=j (by omega);exact⟨b1,b2,b3,by omega,fun _=>by omega⟩
  |3,_=>
   rw[r6]at h;have t:=I (by omega);split at h
   ·obtain⟨w,r1,A,q,o⟩:=bV h;obtain⟨H,M,L,x,y⟩:=bV o;obtain⟨g,i,k,_,b⟩:=l 4 _ _ _ _ _ _ _ (by omega) c.tail p (by omega) (by omega) (by omega) q;obtain⟨c1,s⟩:=lU x;cases c1;obtain⟨b1,b2,b3,j,_⟩:=l 3 _ _ _ _ _ _ _ (by omega) i s (fun _=>E1 (by omega) t g) (by omega) (by omega) y;have b:=b (by omega);have j:=j (by omega);rw[Bk]at j;exact⟨b1,b2,b3,fun _=>by omega,by omega⟩
   ·cases h;exact⟨t,c,p,fun _=>by omega,by omega⟩
  |4,_=>
   rw[r7]at h;obtain⟨w,r1,A,q,o⟩:=bV h;obtain⟨g,i,k,_,b⟩:=l 6 _ _ _ _ _ _ _ (by omega) c p (by omega) (by omega) (by omega) q;obtain⟨b1,b2,b3,j,_⟩:=l 5 _ _ _ _ _ _ _ (by omega) i k (fun _=>g) (by omega) (by omega) o;have b:=b (by omega);have j:=j (by omega);exact⟨b1,b2,b3,by omega,fun _=>by omega⟩
  |5,_=>
   rw[r8]at h;have t:=I (by omega);split at h
   ·split at h
    ·exact(dc h).elim
    ·split at h
     ·exact(dc h).elim
     ·rename_i V;obtain⟨H,M,L,x,y⟩:=bV h;obtain⟨c1,s⟩:=lU x;cases c1
      have U: ∀a:Int,(if isT ft r.tail=true then-numP (eQ r) else numP (eQ r))=a->a≠0/\ -1440<a/\a<1440:=fun a ha=>by
       split at ha<;>omega
      obtain⟨b1,b2,b3,j,_⟩:=l 5 _ _ _ _ _ _ _ (by omega) c.shift.tail s (fun _=>Ol (U _ rfl) t) (by omega) (by omega) y;have j:=j (by omega);rw[G5]at j;exact⟨b1,b2,b3,fun _=>by omega,by omega⟩
   ·cases h;exact⟨t,c,p,fun _=>by omega,by omega⟩
  |6,_=>
   rw[r9]at h;by_cases c0:40<d
   ·rw[ax c0]at h;exact(dc h).elim
   rw[aw c0]at h;by_cases c1:isT g7 r=true
   ·rw[ax c1]at h;obtain⟨w,r1,A,q,o⟩:=bV h;obtain⟨g,i,k,_,b⟩:=l 0 _ _ _ _ _ _ _ (by omega) c.tail p (by omega) (by omega) (by omega) q;have b:=b (by omega);split at o
    ·cases o;exact⟨g,i.tail,k,by omega,fun _=>b⟩
    ·exact(dc o).elim
   rw[aw c1]at h;by_cases s:isT fw r=true
   ·rw[ax s]at h;obtain⟨u,v⟩:=lU h;cases u;exact⟨On,c.tail,v,by omega,fun _=>by rw[wP]⟩
   rw[aw s]at h;by_cases N:isT eW r=true
   ·rw[ax N]at h;obtain⟨u,v⟩:=lU h;cases u;exact⟨L8,c.tail,v,by omega,fun _=>by rw[wP]⟩
   rw[aw N]at h;by_cases O:isT eX r=true
   ·rw[ax O]at h;obtain⟨g,i,k,_,b⟩:=l 7 _ _ _ _ _ _ _ (by omega) c.tail p (by omega) (fun _=>⟨by decide,by decide⟩) (by omega) h;exact⟨g,i,k,by omega,fun _=>b (by omega)⟩
   rw[aw O]at h;by_cases P:isT fG r=true
   ·rw[ax P]at h;by_cases K:kindP r.tail≠5
    ·rw[ax K]at h;exact(dc h).elim
    rw[aw K]at h;have t1:=c.tail.date (by simpa using K);split at h
    ·by_cases z:kindP r.tail.tail.tail≠5
     ·rw[ax z]at h;exact(dc h).elim
     rw[aw z]at h;have t2:=c.tail.tail.tail.date (by simpa using z);split at h
     ·exact(dc h).elim
     rename_i J;obtain⟨g,i,k,_,b⟩:=l 8 _ _ _ _ _ _ _ (by omega) c.tail.tail.tail.tail p (by omega) (by omega) (fun _=> .inr ⟨rfl,t1.1,by dsimp only;omega,t2.2⟩) h;exact⟨g,i,k,by omega,fun _=>b (by omega)⟩
    ·obtain⟨g,i,k,_,b⟩:=l 8 _ _ _ _ _ _ _ (by omega) c.tail.tail p (by omega) (by omega) (fun _=> .inr ⟨rfl,t1.1,by dsimp only;omega,t1.2⟩) h;exact⟨g,i,k,by omega,fun _=>b (by omega)⟩
   rw[aw P]at h;by_cases F:kindP r=1
   ·rw[ax F]at h;obtain⟨u,v⟩:=lU h;cases u;exact⟨QH (c.name F),c.tail,v,by omega,fun _=>by rw[wP]⟩
   rw[aw F]at h;by_cases G:kindP r≠4
   ·rw[ax G]at h;exact(dc h).elim
   rw[aw G]at h;have t1:=c.time (by simpa using G);split at h
   ·by_cases z:kindP r.tail.tail≠4
    ·rw[ax z]at h;exact(dc h).elim
    rw[aw z]at h;have t2:=c.tail.tail.time (by simpa using z);split at h
    ·exact(dc h).elim
    rename_i J;obtain⟨u,v⟩:=lU h;cases u;exact⟨QG ⟨t1.1,by omega,t2.2⟩,c.tail.tail.tail,v,by omega,fun _=>by rw[wP]⟩
   ·exact(dc h).elim
  |7,_=>
   rw[sa]at h;have t:=Q rfl;split at h
   ·exact(dc h).elim
   ·rename_i S;have W:=Hy (a:=e.a.toNat) (by omega) (L9 (textP r));have X:=Sw (a:=e.a.toNat) S;split at h
    ·obtain⟨g,i,k,_,b⟩:=l 7 _ _ _ _ _ _ _ (by omega) c.tail.tail p (by omega) (fun _=>⟨by dsimp only;omega,by dsimp only;omega⟩) (by omega) h;exact⟨g,i,k,by omega,fun _=>b (by omega)⟩
    ·obtain⟨g,i,k,_,b⟩:=l 8 _ _ _ _ _ _ _ (by omega) c.tail p (by omega) (by omega) (fun _=> .inl ⟨rfl,by dsimp only;omega,by dsimp only;omega,rfl⟩) h;exact⟨g,i,k,by omega,fun _=>b (by omega)⟩
  |8,_=>
   rw[sb]at h;have t:=R rfl;split at h
   ·obtain⟨w,r1,A,q,o⟩:=bV h;obtain⟨g,i,k,_,b⟩:=l 4 _ _ _ _ _ _ _ (by omega) c.tail p (by omega) (by omega) (by omega) q;have b:=b (by omega);obtain⟨c1,s⟩:=lU o;cases c1;exact⟨Om t g,i,s,by omega,fun _=>by rw[G5];omega⟩
   ·exact(dc h).elim
theorem F6 {E:Nat}{r q:List Tk}{u:Ru}(f:jZ r)(h:kA E r= .ok (u,q)):ruleP u=0/\oZ u=u/\jZ q:=by
 unfold kA at h;by_cases a:kindP r≠1
 ·rw[ax a]at h;cases h
 rw[aw a]at h;split at h
 ·cases hx:rd E 0 1 ex0 r.tail.tail 0 with
  |error z=>rw[hx]at h;cases h
  |ok z=>
   obtain⟨e,k,j⟩:=z;rw[hx]at h;dsimp only at h;by_cases d:40<hgt e
   ·rw[ax d]at h;cases h
   rw[aw d]at h;split at h
   ·cases h;obtain⟨b,g,i,_,c⟩:=CE E _ 0 1 _ _ _ _ _ _ (by omega) f.tail.tail (by omega) (by omega) (by omega) (by omega) hx;have c:=c (by omega);exact⟨Oh (f.name (by simpa using a)) b.1 (by dsimp only;omega) (by dsimp only;omega),by unfold oZ;rw[b.2],g.tail⟩
   ·cases h
 ·cases h
theorem vQ {E:Nat}: ∀(f:Nat) (b:List Ru) (r:List Tk) (l:List Ru),jZ r->(∀u∈b,ruleP u=0/\oZ u=u)->fH E f b r= .ok l-> ∀u∈l,ruleP u=0/\oZ u=u
 |0,_,_,_,_,ha,h=>by cases h;exact ha
 |f+1,b,r,l,c,ha,h=>by
  rw[fH]at h;split at h
  ·cases h;exact ha
  split at h
  ·split at h
   ·cases h
   ·cases a:kA E r.tail with
    |error z=>rw[a]at h;cases h
    |ok z=>
     obtain⟨u,q⟩:=z;rw[a]at h;obtain⟨b1,b2,b3⟩:=F6 c.tail a
     exact vQ f _ _ l b3 (fun x a=>by
      rcases cZ.1 a with a|a
      ·exact ha x a
      ·rw[bJ.1 a];exact⟨b1,b2⟩) h
  ·cases h
end Lx
theorem E2 (p:UInt8->Bool): ∀l:List UInt8,fd p (l.take (fd p l))=fd p l
 |[]=>rfl
 |c::l=>by
  by_cases a:p c=true
  ·simp[fd,a,E2 p l]
  ·simp[fd,a]
theorem Ma: ∀l:List UInt8,wordLen (l.take (wordLen l))=wordLen l
 |[]=>rfl
 |c::l=>by
  by_cases a:isL c=true
  ·simp[wordLen,a,E2 isC l]
  ·simp[wordLen,a]
theorem Jq {l:List UInt8}(m:0<l.length)(a:(firstT l).err=0):OI (firstT l):=by
 unfold firstT at a⊢;split at a
 ·rename_i i;rw[ax i];unfold kN at a⊢;split at a
  ·rename_i h;rw[ax h];refine⟨fun h=>by dsimp only at h;omega,fun h=>by dsimp only at h;omega,fun _=> ?_⟩;dsimp only;unfold mQ at h⊢;split at h
   ·rename_i d;rw[ax d];have:=Cal.s6 _ _ _ d.1 d.2;exact⟨this.1,this.2.1⟩
   ·simp at h
  ·simp[bad]at a
 ·rename_i i;rw[aw i];split at a
  ·rename_i b;rw[ax b];have j:=lJ b 0 2 (by decide) (by decide);have k:=lJ b 3 2 (by decide) (by decide);have q:=qE _ j.2 2 (by omega);have r:=qE _ k.2 2 (by omega);rw[da (by omega)]at q r;unfold ng at a⊢;split at a
   ·simp[bad]at a
   ·rename_i h;rw[aw h];exact⟨fun h=>by dsimp only at h;omega,fun _=>⟨by dsimp only;omega,by dsimp only;omega⟩,fun h=>by dsimp only at h;omega⟩
  ·rename_i b;rw[aw b];split at a
   ·rename_i g;rw[ax g];unfold mj at a⊢;split at a
    ·simp[bad]at a
    ·rename_i h;rw[aw h];exact⟨fun h=>by dsimp only at h;omega,fun h=>by dsimp only at h;omega,fun h=>by dsimp only at h;omega⟩
   ·rename_i g;rw[aw g];split at a
    ·rename_i e;rw[ax e];have p:=tG l;have f:=xg m e;unfold jW at a⊢;split at a
     ·simp[bad]at a
     ·rename_i h;rw[aw h];refine⟨fun c=> ?_,fun c=> ?_,fun c=> ?_⟩
      ·dsimp only at c⊢
       have o:isWordL (l.take (wordLen l))=false:=by
        cases d:isWordL (l.take (wordLen l)) with
        |false=>rfl
        |true=>rw[d]at c;exact absurd c (by decide)
       have n:(l.take (wordLen l)).length=wordLen l:=(by simp;omega);unfold namedL;rw[Ma,n,o];simp;omega
      ·dsimp only at c;split at c<;>exact absurd c (by decide)
      ·dsimp only at c;split at c<;>exact absurd c (by decide)
    ·rename_i e;rw[aw e];unfold jg at a⊢;split at a
     ·rename_i f;rw[ax f];exact⟨fun h=>by dsimp only at h;omega,fun h=>by dsimp only at h;omega,fun h=>by dsimp only at h;omega⟩
     ·rename_i f;rw[aw f];split at a
      ·simp[bad]at a
      ·rename_i h;rw[aw h];exact⟨fun h=>by dsimp only at h;omega,fun h=>by dsimp only at h;omega,fun h=>by dsimp only at h;omega⟩
theorem Jr {l:List UInt8}{b:List (T1×Nat)}{k:Nat}(h:eI l b k):jZ b:=by
 obtain⟨n,e⟩:=h;refine eI.ind (M:=fun b _=>jZ b) ?_ ?_ n e
 ·intro p a;cases a
 ·intro b k _ d c f p a;rcases cZ.1 a with a|a
  ·exact f p a
  ·rw[bJ.1 a];exact Jq (tJ d) c
end Go.Proofs.YtpdoienkhgnceaaGreatDoor
