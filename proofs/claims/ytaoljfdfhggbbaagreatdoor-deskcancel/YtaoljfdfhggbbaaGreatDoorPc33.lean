/- Texts of the proof. -/
import Derived.Test.YtaoljfdfhggbbaaGreatDoorPc32
import Derived.Test.YtaoljfdfhggbbaaGreatDoorPc27
set_option maxRecDepth 100000
set_option maxHeartbeats 8000000
namespace Go.Proofs.YtaoljfdfhggbbaaGreatDoor
open Go.Proofs.Tryz Go.RowKit Lx Vx Mx Msk
theorem Dc (us:List (Ru×Value))(v:Value)(w:World)(h:InR w v us)(hT:Tab w):Calls prog 39 #[v] w (xY (us.map (fun p=>p.1)) w):=by
 obtain⟨l,hl⟩:=au (us.map (fun p=>p.1));obtain⟨n,hn⟩:=au us.length;have b4:l.length=n:=by rw[<-hl,ba,hn]
 obtain⟨pv,cv,rfl⟩:=h.form;have bA:=am w (.cells #[ag 0,ag 0] 93);have n1:=aE w (.cells #[ag 0,ag 0] 93);generalize cd:w.alloc (.cells #[ag 0,ag 0] 93)=wA at*;have cW:=uH us _ wA (h.below bA);rw[hl]at cW;rw[hl,hn];have HL:=aF hl;have bj:=aF hn;have ab:=aF b4;have bh:=aF h;have bX:=aF hT;rw[hn]at cW;clear hl b4 h hn hT;go_enter func39,ntmps39;go_wp2_with fail;refine cW.mono ?_;rintro r w1 ⟨rfl,aQ⟩;have m2:=ai aQ n1;have E:=aw bA aQ;clear cW n1 aQ bA cd;by_cases h0:(dq l).1=0
 ·have bv:=(qH h0).1;rw[ab.o]at bv;have L:=aF h0;rw[h0];generalize (((dq l).2:Nat):Int)=P at*;have bC:=am w1 (.cells #[ag 0,ag P] 93);have M:=aF (aw E bC);have HR:=aF (ai bC m2);have m3:=aE w1 (.cells #[ag 0,ag P] 93);have ci:=aF bv;have cj:(n:Int)<=40:=(by omega);have cm:(0:Int)<=(n:Int):=(by omega);clear bC E m2 h0;generalize bJ:w1.alloc (.cells #[ag 0,ag P] 93)=wB at*;have z0:=ak 0 m3;have cN:=oR us _ wB (bh.o.below M.o);unfold EQ at cN;rw[HL.o,bj.o]at cN;clear m3;go_wp2_with fail;refine cN.mono ?_;rintro r w3 ⟨mb,rfl,cr,a2,b3⟩;have aI:=aw M.o b3;have r3:=ai b3 HR.o;have bM:=am w3 (.cells (nP n) 140);have nM:=aE w3 (.cells (nP n) 140);have b8:=Ft n (by omega) w3;have a5:=a2.later (bM.block _ (gW a2));have aJ:=aw aI bM;have rM:=ai bM r3;have b7:=gW a2;have cb:=aH r3;obtain⟨C,aS⟩:=au w3.heap.size;have aC:w.heap.size<=C:=(by rw[<-aS];exact aI.size);generalize ce:w3.alloc (.cells (nP n) 140)=wM at*;rw[aS]at nM b8 b7 cb;have aA:w.heap.size<=wM.heap.size:=aJ.size;have ac:=aF (fC.made nM);have bq:=aF a5;have bb:=aF aJ;have bu:=aF rM;have Q:w.heap.size≠C:=(by omega);have aX:mb≠C:=(by omega);clear bJ cN a2 b3 aI r3 bM nM a5 aJ rM HR M z0;go_wp2_with fail;clear b8 ce aS;go_loopw [7,8,9,25] (fun _ _ _ t wr=> ∃(j:Nat) (sv:Nat->Value) (Ss:Nat->List (In×Value)),t=ag (j:Int)/\j<=n/\fC C n sv (fun _=>0) (fun _=>0) wr/\(∀k,k<j->pC l wr sv Ss k)/\bo C wM wr) (fun _ _ _ t _=>n-(intOf t).toNat);case atStart=>exact⟨0,_,fun _=>[],rfl,by omega,ac.o,fun k f=>by omega,bo.refl _ _⟩
  case round=>
   obtain⟨j,sv,Ss,rfl,hj,A,D,d⟩:=hrel;clear ac;have cq:(0:Int)<=(j:Int):=(by omega);have aj:=xZ bb.o d aC aA;by_cases b5:j<n
   ·have b6:(j:Int)<(n:Int):=(by omega);obtain⟨p,ao⟩: ∃p,us[j]? =some p:=⟨us[j]'(by have:=bj.o;omega),az _⟩
    have R:=bh.o.below aj;have bd:=aF R.cells;obtain⟨g,o,ca,d0,d1,d2,d3,d4,d5⟩:=bd.o j p ao;subst ca;have bF:=aM ao;obtain⟨bD,aR,dd,ap⟩:=R.all p bF;obtain⟨ps,cs,bG⟩:=ap.form;have av:l[j]? =some p.1:=(by rw[<-HL.o,bg,ao];rfl);have a0:=aM av;obtain⟨⟨nm,e⟩,sk⟩:=p;dsimp only at d0 d1 d2 d3 d4 d5 aR ap bG bD av a0;subst bG;have X:=(qH L.o).2 _ a0;have bT:=aF av;have bR:=am wr (.cells #[.string ⟨nm.toArray⟩,ag e.kind,ag e.a,ag e.b,.string ⟨e.name.toArray⟩,.slice ps e.kids.length cs] 104);have nR:=aE wr (.cells #[.string ⟨nm.toArray⟩,ag e.kind,ag e.a,ag e.b,.string ⟨e.name.toArray⟩,.slice ps e.kids.length cs] 104);generalize cf:wr.alloc (.cells #[.string ⟨nm.toArray⟩,ag e.kind,ag e.a,ag e.b,.string ⟨e.name.toArray⟩,.slice ps e.kids.length cs] 104)=K at*;have bZ:=am K (.cells #[.map none,af] 137);have nZ:=aE K (.cells #[.map none,af] 137);generalize cg:K.alloc (.cells #[.map none,af] 137)=wZ at*;have bW:=below_setRow bZ (aB _) #[.map (some mb),af];have nW:=aL _ _ _ #[.map (some mb),af] _ _ nZ;have I:=ai bW nR;generalize bK:wZ.setRow K.heap.size #[.map (some mb),af]=wW at*;have a8:WOk K K.heap.size (.map (some mb)) [] wW:=⟨⟨bW,aB _,_,nW,dc _ _ _ _⟩,fun u hu=>by cases hu⟩
    have a6:jk K mb l:=by
     have z:=bq.o.later (d.block _ (gW bq.o) (fun e=>aX (aN e)));exact z.later (bR.block _ (gW z))
    have bw:Tab K:=kL (kL bX.o aj) bR;have a4:fZ (fun k=>k<K.heap.size) dd K (.slice ps e.kids.length cs) e.kids:=(ap.kept fun g _ hl=>bR.block g hl).mono fun g hg=>aT hg bR.size;have cE:=Ki K K.heap.size mb l a6 bw dd e _ a4 X aR (fun x hx=>(r0 L.o a0 hx).1) [] wW a8 (by have:=X.nod;simpa using bf this (by omega));unfold exV at cE;have y1:=ak 1 I;have y2:=ak 2 I;have y3:=ak 3 I;have y4:=ak 4 I;have y5:=ak 5 I;have y:=aF A;have m:=aF D;have Z:=aF d;have bc:=aF bR;have ck:=X.nod;have cn:=(lV (atP5 l) _ e (aB _) X.ok 0)
    clear R bd ao bF ap bD aR av a0 A D d aj bR bW bZ nW a8 a6 bw a4 nR X;go_wp2_with(refine ay rfl 137 _ _ rfl _ _ rfl rfl _ _ nZ (by kernel_rfl) (by simp) (by simp[Value.oneCell']) ?_;rw[bK])
    refine cE.mono ?_;rintro r w5 ⟨rfl,J,aP,bE,_⟩;obtain⟨⟨bx,_,ch,n5,F⟩,Y⟩:=bE;rw[List.nil_append]at F Y
    have bY:J.length=(bL (atP5 l) e 0).length:=by
     have z:=congrArg List.length aP;rw[ba]at z;exact z
    obtain⟨g5,c5,cc⟩: ∃g5 c5,ch= .slice (some (ae g5 0)) J.length c5:=by
     rcases F.2 with⟨_,e0⟩|⟨g',cap,cl,e0,_⟩
     ·omega
     ·exact⟨g',cap,e0⟩
    subst cc;have cx:=ak 1 n5;have B:aq wr w5:=aw bc.o bx;have s:=y.o.below B;have x0:=(s.cells b5).1;have xf:=s.frozen (j*3);have b1:=Z.o.trans (bo.of_below B);have ar:=iE w5 C (j*3) (.slice (some (ae g5 0)) J.length c5);have bU:=aF (s.setV (.slice (some (ae g5 0)) J.length c5) b5);have bQ:=aF (b1.trans ar);have bH:jZ w5 (.slice (some (ae g5 0)) J.length c5) J:=Kj F
    have bk:PN (∀k,k<j+1->pC l (w5.setCell ⟨C,j*3,none⟩ (.slice (some (ae g5 0)) J.length c5)) (upV sv j (.slice (some (ae g5 0)) J.length c5)) (upS Ss j J) k):=fun k f=>by
     by_cases e1:k=j
     ·subst e1
      have z:pC l w5 (upV sv k (.slice (some (ae g5 0)) J.length c5)) (upS Ss k J) k:=by
       unfold pC;rw[Ih,NZ,mI bT.o];exact⟨bH,aP,Y⟩
      exact z.kept s ar
     ·have z:=m.o k (by omega);have h2:pC l w5 sv Ss k:=⟨z.1.below B,z.2.1,fun u hu=>(z.2.2 u hu).below B⟩
      exact(h2.kept s ar).ext (Ii _ _ e1) (N0 _ _ e1)
    generalize cu:w5.setCell ⟨C,j*3,none⟩ (.slice (some (ae g5 0)) J.length c5)=w6 at*;clear bY cE F Y aP bx n5 B s b1 ar bH y1 y2 y3 y4 y5 I y m Z bc bK cg nZ cf d0 d1 d2 d3 d4 d5;go_wp2_with fail;go_roundw;case rel=>exact⟨j+1,_,_,by go_num,by omega,bU.o,bk.o,bQ.o⟩
    case measure=>simp[intOf];omega
   ·have b6: ¬(j:Int)<(n:Int):=(by omega);obtain rfl:n=j:=(by omega);generalize wr=wL at*;have aK:n=(fK l).length:=(by rw[mO];exact ab.o.symm);have an: ∀k,k<n->k<l.length:=fun k f=>(by have:=ab.o;omega)
    have aO: ∀k,k<n->1<=(Ss k).length/\(Ss k).length<=700:=fun k f=>by
     have z:=congrArg List.length (D k f).2.1;rw[ba]at z;have h2:=v8 L.o (an k f);omega
    have bm:=aF (fun(w':World) (i:Nat)=>Da (fK l) (muR l) (gj l) (rC L.o) (xX l) n C n aK (by omega) sv Ss (fun k f=>(D k f).2.1) aO (fun k f u hu=>((D k f).2.2 u hu).form) (fun i hi=>uU L.o (an i hi)) (fun i hi=>B8 L.o (an i hi)) _ i (aB _));have m:=aF D;have y:=aF A;have Z:=aF d;have aa:=aF aO;have bO:=aF aK;clear D A d aO an aK aj;go_wp2_with fail;go_loopw [10,44] (fun _ t w7=> ∃(i:Nat) (H T:Nat->Int),t=ag (i:Int)/\i<=n/\fC C n sv H T w7/\(∀k,k<n->Okm (gj l) H T k)/\(∀k,k<i->Me (gj l) H T k)/\bo C wL w7) (fun _ t _=>n-(intOf t).toNat);case atStart=>exact⟨0,_,_,rfl,by omega,y.o,fun k _=> .inl ⟨rfl,rfl⟩,fun k f=>by omega,bo.refl _ _⟩
    case round=>
     obtain⟨i,H,T,rfl,hi,A,a3,a1,d⟩:=hrel;have cp:(0:Int)<=(i:Int):=(by omega);by_cases aU:i<n
     ·have b0:(i:Int)<(n:Int):=(by omega);have cM:=bm.o wr i aU H T wr A (fun q hq=>((m.o q hq).1.kept y.o d)) (fun q hq _=>a3 q hq);obtain⟨ps,cs,bI,_⟩:=((m.o i aU).1.kept y.o d).form (aa.o i aU).1;unfold v7 at cM;rw[bI]at cM;have bV:=aF a3;have bp:=aF a1;have bS:=aF d;clear bI A a3 a1 d;go_wp2_with fail;refine cM.mono ?_;rintro r w8 ⟨rfl,H',T',a7,S,V,b2⟩
      have bs:PN (∀k,k<n->Okm (gj l) H' T' k):=fun k f=>by
       by_cases e1:k=i
       ·subst e1;exact .inr S
       ·have z:=V k f e1;by_cases e2:muR l k<=muR l i
        ·exact(z.1 e2).1
        ·have h2:=z.2 (by omega);have h3:=bV.o k f;unfold Okm Me at h3⊢;rw[h2.1,h2.2];exact h3
      have bn:PN (∀k,k<i+1->Me (gj l) H' T' k):=fun k f=>by
       by_cases e1:k=i
       ·subst e1;exact S
       ·have z:=V k (by omega) e1;have h3:=bp.o k (by omega);by_cases e2:muR l k<=muR l i
        ·exact(z.1 e2).2 h3
        ·have h2:=z.2 (by omega);unfold Me at h3⊢;rw[h2.1,h2.2];exact h3
      have bP:=aF (bS.o.trans b2);have br:=aF a7;clear cM a7 S V b2;go_wp2_with fail;go_roundw;case rel=>exact⟨i+1,H',T',by go_num,by omega,br.o,bs.o,bn.o,bP.o⟩
      case measure=>simp[intOf];omega
     ·have b0: ¬(i:Int)<(n:Int):=(by omega);obtain rfl:n=i:=(by omega);have U:fC C n sv (fun k=>(gj l k).1) (fun k=>(gj l k).2) wr:=A.congr fun k f=>a1 k f
      have a9: ∀k,k<n-> ∃p ln c,sv k= .slice p ln c/\ln<=700:=fun k f=>by
       obtain⟨g',c',e',_⟩:=(m.o k f).1.form (aa.o k f).1;exact⟨_,_,_,e',(aa.o k f).2⟩
      have cI:=AG n C n sv (gj l) wr U a9 (by omega)
      have bi:PN (∀(W:World) (c xs:Array Value),aq wr W->W.heap[w.heap.size]? =ah c 93-> ∀u,nO (W.setRow w.heap.size xs) u->InV u (.slice (some (ae C 0)) n n) (eW l)):=fun W c xs hW hg u hu=>by
       refine Mt bO.o (by omega) (((U.below hW).same (aV W w.heap.size C xs (fun e=>Q e.symm))).ty hu) (fun k f=>((((m.o k f).1.kept y.o d).below hW).set hg xs).ty hu) aa.o (fun k f p hp=>(((((m.o k f).2.2 p hp).kept y.o d).below hW).set hg xs).ty hu) (fun k f=>(m.o k f).2.1)
      have aW:=Z.o.trans d;have aZ:=aF (xZ bb.o aW aC aA);have bt:=aF ((aW.block _ (aH bu.o) (fun e=>Q (aN e))).trans bu.o);obtain⟨fx,al⟩:=au (j6 (gj l) n 0);rw[al]at cI;have be:PN (j6 (gj l) l.length 0=fx):=(by show _=_;rw[ab.o];exact al);have co: -1<=fx/\fx<=(n:Int):=(by rw[<-al];exact Ij (gj l) n 0 n (by omega));clear A a3 a1 d U a9 aW al y m bm;go_wp2_with fail;refine cI.mono ?_;rintro r w9 ⟨rfl,b9⟩;have G:=ai b9 bt.o;have ad:=aw aZ.o b9;have O:=aF (bi.o w9 _ #[ag 0,ag 0] b9 G);have cw:=aH G;clear cI bi aZ bt b9;by_cases bz:0<=fx
      ·have N:PN (iA l=(4,fx)):=by
        show _=_;unfold iA;rw[ax (by simpa using L.o),be.o,aD bz]
       have HO:PN (xY l w (.returned (.tuple #[af,.agg #[ag 4,ag fx]])) (w9.setRow w.heap.size #[ag 4,ag fx])):=by
        refine⟨_,by rw[N.o],fun e=> ?_,fun _=>rfl,below_setRow ad (aB _) _⟩;rw[N.o]at e;exact absurd e (by show¬(4:Int)=0;omega)
       have aG:=aF (aL _ _ _ #[ag 4,ag fx] _ _ G);clear O ad;go_wp2_with(refine ay rfl 93 _ _ rfl _ _ rfl rfl _ _ G (by kernel_rfl) (by simp) (by simp[Value.oneCell']) ?_)
       exact tU w.heap.size _ 4 fx rfl rfl rfl aG.o HO.o
      ·have N:PN (iA l=(0,0)):=by
        show _=_;unfold iA;rw[ax (by simpa using L.o),be.o,ax bz]
       have HO:PN (xY l w (.returned (.tuple #[.slice (some (ae C 0)) n n,.agg #[ag 0,ag 0]])) (w9.setRow w.heap.size #[ag 0,ag 0])):=by
        refine⟨_,by rw[N.o],fun _=> ?_,fun e=> ?_,below_setRow ad (aB _) _⟩
        ·exact O.o
        ·rw[N.o]at e;exact absurd rfl e
       have aG:=aF (aL _ _ _ #[ag 0,ag 0] _ _ G);clear O ad;go_wp2_with(refine ay rfl 93 _ _ rfl _ _ rfl rfl _ _ G (by kernel_rfl) (by simp) (by simp[Value.oneCell']) ?_)
       exact tU w.heap.size _ 0 0 rfl rfl rfl aG.o HO.o
 ·have L:=aF h0
  have HF:PN (iA l=((dq l).1,((dq l).2:Int))):=by
   show _=_;unfold iA;rw[aD h0]
  have ct:((dq l).1 !=0)=true:=(by simpa using h0);have bC:=am w1 (.cells #[ag (dq l).1,ag ((dq l).2:Int)] 93);have M:=aF (aw E bC);have G:=ai bC m2;have m3:=aE w1 (.cells #[ag (dq l).1,ag ((dq l).2:Int)] 93);clear bC E m2 h0;generalize bJ:w1.alloc (.cells #[ag (dq l).1,ag ((dq l).2:Int)] 93)=wB at*
  have HO:PN (∀W,aq w W->xY l w (.returned (.tuple #[af,.agg #[ag (dq l).1,ag ((dq l).2:Int)]])) W):=fun W hW=>by
   refine⟨_,by rw[HF.o],fun e=> ?_,fun _=>rfl,hW⟩;rw[HF.o]at e;exact absurd e L.o
  have z0:=ak 0 m3;have z1:=ak 1 m3;have y0:=ak 0 G;have y1:=ak 1 G;have x0:=bl _ _ 0 _ _ G;have x1:=bl _ _ 1 _ _ G;have bB:=aY _ _ 1 _ _ (ag ((dq l).2:Int)) (aY _ _ 0 _ _ (ag (dq l).1) G);have bN:=aF ((M.o.setCell (p:=⟨w.heap.size,0,none⟩) (aB _) (ag (dq l).1)).setCell (p:=⟨w.heap.size,1,none⟩) (aB _) (ag ((dq l).2:Int)));have ac:=aF bB;clear bB G m3;clear HF L;generalize (dq l).1=er at*;generalize (((dq l).2:Nat):Int)=P at*;go_wp2_with fail;go_region;go_wp2_with fail;exact tU w.heap.size _ er P rfl rfl rfl ac.o (HO.o _ (dD bN.o 1))
structure Ap where
 st:Int
 left:Int
 fr:Int
 to:Int
 sv:Int
 bef:Int
 aft:Int
 len:Int
 day:Int
 min:Int
 who:List Int
structure Dk where
 rules:List Ru
 res:List (List UInt8)
 svs:List Sv
 aps:List Ap
 vers:List Int
 given:Int
 kept:List Vx.Kp
 runs:Int
structure An where
 err:Int
 num:Int
 day:Int
 min:Int
 who:List Int
 list:List Int
structure Cm where
 kind:Int
 n:Int
 day:Int
 days:Int
 text:List UInt8
 name:List UInt8
 sv:Sv
 sday:Int
 smin:Int
 swho:List Int
def noA (e:Int):An:=⟨e,0,0,0,[],[]⟩
def iW (n:Int):An:=⟨0,n,0,0,[],[]⟩
def isN (n m:Int):Bool:=decide (0<=n)&&decide (n<m)
def sv0:Sv:=⟨0,0,0,[]⟩
def ap0:Ap:=⟨0,0,0,0,0,0,0,0,0,0,[]⟩
def fi (d:Dk)(r day:Int):M×Dk:=
 let k:=atP5 d.rules (d.res.getD r.toNat [])
 if k<0 then(noM,d) else
  let g:=jc (eW d.rules) d.kept d.runs (d.vers.getD k.toNat 0) k day
  (g.m,{d with kept:=g.l,runs:=g.n})
def ie (r day b:Int):List Ap->Nat->List (Int×Int)
 |[],_=>[]
 |a::l,i=>if(i:Int)≠b/\a.st≠3/\a.day=day/\r∈a.who then(a.fr,a.to)::ie r day b l (i+1) else ie r day b l (i+1)
def pQ (a b:M):M:=fun i=>(a i&& !b i)&&decide (i<1440)
def iq (d:Dk)(r day a:Int):M×Dk:=(pQ (fi d r day).1 (inl (ie r day a d.aps 0)),(fi d r day).2)
def jn {S:Type}(f:Int->S->Bool×S):List Int->S->Bool×S
 |[],d=>(false,d)
 |x::l,d=>if(f x d).1=true then(true,(f x d).2) else jn f l (f x d).2
def kS (day a fr to r:Int)(d:Dk):Bool×Dk:=(!fQ (iq d r day a).1 fr to,(iq d r day a).2)
def kZ (day fr to r:Int)(d:Dk):Bool×Dk:=(!fQ (fi d r day).1 fr to,(fi d r day).2)
def rD (who:List Int)(roles:List (List Int)):Nat->Nat->Int
 |0,_=>0
 |m+1,i=>if who.getD i 0∉roles.getD i [] then 6 else if who.getD i 0∈who.take i then 7 else rD who roles m (i+1)
def j7 (who:List Int)(roles:List (List Int)):Int:=if who.length≠roles.length then 5 else rD who roles who.length 0
def eY (d:Dk)(n:Int)(a:Ap)(day min:Int)(who:List Int):(Ap×Int)×Dk:=
 if isN day 146097=false\/isN min 1440=false then((ap0,3),d) else
 if min-a.bef<0\/1440<min+a.len+a.aft then((ap0,3),d) else
 if j7 who (d.svs.getD a.sv.toNat sv0).roles≠0 then((ap0,j7 who (d.svs.getD a.sv.toNat sv0).roles),d) else
 let b:=jn (kS day n (min-a.bef) (min+a.len+a.aft)) who d
 if b.1=true then((ap0,10),b.2) else(({a with fr:=min-a.bef,to:=min+a.len+a.aft,day:=day,min:=min,who:=who},0),b.2)
def lJ (d:Dk)(n day min:Int)(who:List Int):An×Dk:=
 if isN n d.svs.length=false then(noA 6,d) else
 if 30<=d.aps.length then(noA 5,d) else
 let s:=d.svs.getD n.toNat sv0
 let p:=eY d (-1) ⟨1,10,0,0,n,s.bef,s.aft,s.len,0,0,[]⟩ day min who
 if p.1.2≠0 then(noA p.1.2,p.2) else(iW p.2.aps.length,{p.2 with aps:=p.2.aps++[p.1.1]})
def eB (a:Ap)(s:Int):Ap:={a with st:=s,left:=0}
def iy (d:Dk)(n:Int)(f:Ap->Dk->(Ap×Int)×Dk):An×Dk:=
 if isN n d.aps.length=false\/(d.aps.getD n.toNat ap0).st=3 then(noA 6,d) else
 let p:=f (d.aps.getD n.toNat ap0) d
 if p.1.2≠0 then(noA p.1.2,p.2) else(noA 0,{p.2 with aps:=p.2.aps.set n.toNat p.1.1})
def gF (t:Int)(a:Ap):Ap:=if a.st≠1 then a else if a.left-t<=0 then eB a 3 else {a with left:=a.left-t}
def qY (d:Dk)(t:Int):An×Dk:=if t<0\/1000<t then(noA 3,d) else(noA 0,{d with aps:=d.aps.map (gF t)})
def rE (d:Dk)(name:List UInt8):An×Dk:=
 if 12<=d.res.length then(noA 5,d) else if atP5 d.rules name<0 then(noA 7,d) else(iW d.res.length,{d with res:=d.res++[name]})
def rF (d:Dk)(s:Sv):An×Dk:=
 if 8<=d.svs.length then(noA 5,d) else if fq s d.res.length≠0 then(noA (fq s d.res.length),d) else(iW d.svs.length,{d with svs:=d.svs++[s]})
def fY (s:Sv)(day:Int):Nat->Nat->Dk->List M×Dk
 |0,_,d=>([],d)
 |m+1,r,d=>
  if s.roles.any (fun p=>decide ((r:Int)∈p))=true then
   let p:=iq d (r:Int) day (-1)
   let q:=fY s day m (r+1) p.2
   (p.1::q.1,q.2)
  else
   let q:=fY s day m (r+1) d
   (noM::q.1,q.2)
def iN (s:Sv)(day:Int):Nat->Nat->Dk->List (List M)×Dk
 |0,_,d=>([],d)
 |m+1,i,d=>
  let p:=fY s (day+i) d.res.length 0 d
  let q:=iN s day m (i+1) p.2
  (p.1::q.1,q.2)
def jC (d:Dk)(n day days:Int):An×Dk:=
 if isN n d.svs.length=false then(noA 6,d) else
 if isN day 146097=false\/days<1\/30<days\/146097<day+days then(noA 3,d) else
 let s:=d.svs.getD n.toNat sv0
 let q:=iN s day days.toNat 0 d
 let f:=gQ s q.1
 if f.err≠0 then(noA f.err,q.2) else(⟨0,0,f.day+day,f.min,f.who,[]⟩,q.2)
def lK:Nat->Ex->Ex->Bool
 |0,_,_=>false
 |N+1,a,b=>decide (a.kind=b.kind)&&decide (a.a=b.a)&&decide (a.b=b.b)&&decide (a.name=b.name)&&(decide (a.kids.length=b.kids.length)&&(a.kids.zip b.kids).all fun p=>lK N p.1 p.2)
def pR (a b:Ru):Bool:=decide (a.1=b.1)&&lK (hgt a.2+1) a.2 b.2
def jo (c new:List Ru)(k:Int):Bool:=match c[k.toNat]?,new[k.toNat]? with
 |some a,some b=>decide ((c.length:Int)<=k)|| !pR a b
 |_,_=>true
def pS (d:Dk)(l:List Ru):List Int:=(List.range l.length).map fun(i:Nat)=>if jo d.rules l (i:Int)=true\/(gg l (i:Int)).any (jo d.rules l)=true then d.given+1 else d.vers.getD i 0
def eZ:List Ap->Nat->Dk->List Int×Dk
 |[],_,d=>([],d)
 |a::l,i,d=>
  if a.st=3 then eZ l (i+1) d else
  let p:=jn (kZ a.day a.fr a.to) a.who d
  let q:=eZ l (i+1) p.2
  (if p.1=true then(i:Int)::q.1 else q.1,q.2)
def nQ (d:Dk)(r:Int×List Ru):An×Dk:=
 if r.1≠0 then(noA r.1,d) else
 let a:Dk:={d with rules:=r.2,vers:=pS d r.2,given:=d.given+1}
 let q:=eZ a.aps 0 a
 (⟨0,0,0,0,[],q.1⟩,q.2)
section
def Rob (P:Nat->Prop)(Φ:World->Prop)(w:World):Prop:= ∀u:World,w.heap.size<=u.heap.size->(∀q,P q->q<w.heap.size->u.heap[q]? =w.heap[q]?)->Φ u
section
variable {P P':Nat->Prop} {Φ Ψ:World->Prop} {w w':World}
theorem Rob.here (h:Rob P Φ w):Φ w:=h w (aB _) fun _ _ _=>rfl
theorem Rob.move (h:Rob P Φ w)(c:w.heap.size<=w'.heap.size)(e: ∀q,P q->q<w.heap.size->w'.heap[q]? =w.heap[q]?)(d: ∀q,q<w.heap.size->P q->P' q):Rob P' Φ w':=
 fun u f ha=>h u (bf c f) fun q b a=>(ha q (d q a b) (aT a c)).trans (e q b a)
theorem Rob.below (h:Rob P Φ w)(a:aq w w'):Rob P Φ w':=h.move a.size (fun q _ b=>a.block q b) fun _ _ h=>h
theorem Rob.imp (h:Rob P Φ w)(hi: ∀u,Φ u->Ψ u):Rob P Ψ w:=fun u a ha=>hi u (h u a ha)
end
structure Tr where
 ev:Value
 sv:Value
 av:Value
 xs:List Nat
def Gx (gD:Nat)(t:Tr)(q:Nat):Prop:=q≠gD/\some q≠t.ev.ownBlock/\some q≠t.sv.ownBlock/\some q≠t.av.ownBlock
def Fx (gD:Nat)(t:Tr)(q:Nat):Prop:=Gx gD t q/\q∉t.xs
def Tr.add (t:Tr)(q:Nat):Tr:={t with xs:=q::t.xs}
def kO (n:List UInt8):Value:= .string ⟨n.toArray⟩
def svC (p:Sv×Value):Array Value:= #[ag p.1.len,ag p.1.bef,ag p.1.aft,p.2]
def apC (p:Ap×Value):Array Value:= #[ag p.1.st,ag p.1.left,ag p.1.fr,ag p.1.to,ag p.1.sv,ag p.1.bef,ag p.1.aft,ag p.1.len,ag p.1.day,ag p.1.min,p.2]
def svF (l:List (Sv×Value)):List Value:=l.flatMap fun p=>(svC p).toList
def apF (l:List (Ap×Value)):List Value:=l.flatMap fun p=>(apC p).toList
structure DkM (B gD:Nat)(d:Dk)(t:Tr)(rv cv vv kv:Value)(ss:List (Sv×Value))(aa:List (Ap×Value))(w:World):Prop where
 blk:w.heap[gD]? =ah #[rv,t.ev,t.sv,t.av,cv,vv,ag d.given,kv,ag d.runs] 53
 lo:B<=gD
 rules:Rob (Fx gD t) (fun u=> ∃us,InR u rv us/\us.map (fun p=>p.1)=d.rules) w
 codes:Rob (Fx gD t) (fun u=>InV u cv (eW d.rules)) w
 vers:Rob (Fx gD t) (fun u=>dS u vv d.vers) w
 kept:Rob (Fx gD t) (fun u=>en 0 u kv d.kept) w
 res:w.ownsRow B 9 1 t.ev d.res.length (d.res.map kO)
 svs:w.ownsRow B 29 4 t.sv ss.length (svF ss)
 sve:ss.map (fun p=>p.1)=d.svs
 svr: ∀p∈ss,Rob (Fx gD t) (fun u=>fk u p.2 p.1.roles) w
 aps:w.ownsRow B 45 11 t.av aa.length (apF aa)
 ape:aa.map (fun p=>p.1)=d.aps
 apr: ∀p∈aa,Rob (Fx gD t) (fun u=>dS u p.2 p.1.who) w
 nx: ∀q∈t.xs,q<w.heap.size/\B<=q/\q≠gD/\some q≠t.ev.ownBlock/\some q≠t.sv.ownBlock/\some q≠t.av.ownBlock
structure tV (d:Dk):Prop where
 flt:iA d.rules=(0,0)
 vl:d.vers.length=d.rules.length
 kl:d.kept.length<=64
 rl:d.res.length<=12
 sl:d.svs.length<=8
 al:d.aps.length<=30
 gv:0<=d.given/\d.given<=1000000
 nm: ∀x∈d.res,x.length<=9223372036854775807
 sv: ∀s∈d.svs,fq s d.res.length=0
 ap: ∀a∈d.aps,(0<=a.sv/\a.sv<d.svs.length)/\(0<=a.fr/\a.fr<=a.to/\a.to<=1440)/\(0<=a.left/\a.left<=10)/\(0<=a.bef/\a.bef<=1440/\0<=a.aft/\a.aft<=1440/\0<=a.len/\a.len<=1440)/\(0<=a.day/\a.day<146097)/\a.who.length<=4/\ ∀r∈a.who,0<=r/\r<d.res.length
def dt (B gD:Nat)(d:Dk)(t:Tr)(w:World):Prop:=tV d/\ ∃rv cv vv kv ss aa,DkM B gD d t rv cv vv kv ss aa w
structure Kd (gD:Nat)(t t':Tr)(w w':World):Prop where
 os:w'.os=w.os
 tape:w'.tape=w.tape
 output:w'.output=w.output
 size:w.heap.size<=w'.heap.size
 blk: ∀q,Gx gD t q->q<w.heap.size->w'.heap[q]? =w.heap[q]?
 gx: ∀q,q<w.heap.size->Gx gD t q->Gx gD t' q
 xs:t'.xs=t.xs
section
variable {gD:Nat} {t t' t'':Tr} {w w' w'':World}
theorem Kd.of (h:aq w w'):Kd gD t t w w':=⟨h.os,h.tape,h.output,h.size,fun q _ a=>h.block q a,fun _ _ h=>h,rfl⟩
theorem Kd.trans (h:Kd gD t t' w w')(a:Kd gD t' t'' w' w''):Kd gD t t'' w w'':=
 ⟨a.os.trans h.os,a.tape.trans h.tape,a.output.trans h.output,bf h.size a.size,fun q c b=>(a.blk q (h.gx q b c) (aT b h.size)).trans (h.blk q c b),fun q b c=>a.gx q (aT b h.size) (h.gx q b c),a.xs.trans h.xs⟩
theorem Kd.rob {Φ:World->Prop}(h:Kd gD t t' w w')(c:Rob (Fx gD t) Φ w):Rob (Fx gD t') Φ w':=c.move h.size (fun q a=>h.blk q a.1) fun q b a=>⟨h.gx q b a.1,by rw[h.xs];exact a.2⟩
end
section
variable {B gD:Nat} {d:Dk} {t:Tr} {rv cv vv kv:Value} {ss:List (Sv×Value)} {aa:List (Ap×Value)} {w w':World}
theorem ir {a e size n:Nat}{v:Value}{xs:List Value}{g:Nat}{d:Array Value}{T:TypeId}(h:w.ownsRow a e size v n xs)(c:w.heap[g]? =ah d T)(l:T≠e):v.ownBlock≠some g:=fun q=>by
 rcases h.2 with⟨b,_⟩|⟨i,cap,f,b,_,j,_⟩
 ·rw[b]at q;cases q
 ·rw[b]at q;have:i=g:=aN q;subst this;rw[j]at c;injection c with m;injection m with _ k _;exact l k.symm
theorem DkM.below (h:DkM B gD d t rv cv vv kv ss aa w)(a:aq w w'):DkM B gD d t rv cv vv kv ss aa w':=
 ⟨ai a h.blk,h.lo,h.rules.below a,h.codes.below a,h.vers.below a,h.kept.below a,br h.res fun b c=>a.block b (h.res.lt b c).2,br h.svs fun b c=>a.block b (h.svs.lt b c).2,h.sve,fun p e=>(h.svr p e).below a,br h.aps fun b c=>a.block b (h.aps.lt b c).2,h.ape,fun p e=>(h.apr p e).below a,fun q c=>⟨aT (h.nx q c).1 a.size,(h.nx q c).2⟩⟩
theorem dt.below (h:dt B gD d t w)(b:aq w w'):dt B gD d t w':=by
 obtain⟨a,rv,cv,vv,kv,ss,aa,h⟩:=h;exact⟨a,_,_,_,_,_,_,h.below b⟩
theorem lY {a e size n:Nat}{v:Value}{xs:List Value}(h:w.ownsRow a e size v n xs){q:Nat}(b:q<a\/w.heap.size<=q):some q≠v.ownBlock:=fun e=>by
 have:=h.lt q e.symm;omega
theorem dt.fx (h:dt B gD d t w){q:Nat}(a:q<B\/w.heap.size<=q):Fx gD t q:=by
 obtain⟨_,rv,cv,vv,kv,ss,aa,h⟩:=h;have:=h.lo;have:=aH h.blk;exact⟨⟨by omega,lY h.res a,lY h.svs a,lY h.aps a⟩,fun b=>by have:=h.nx q b;omega⟩
theorem Kd.below {t':Tr}(h:dt B gD d t w)(a:Kd gD t t' w w')(c:B<=w.heap.size):Below B w w':=⟨a.os,a.tape,a.output,a.size,fun q b=>a.blk q (h.fx (.inl b)).1 (aT b c)⟩
theorem Kd.at {t':Tr}{b:World}{g:Nat}{c:Array Value}{T:TypeId}{f:Nat×Nat}(h:dt B gD d t b)(e:b.heap.size<=g)(i:Kd gD t t' w w')(a:w.heap[g]? =some (.cells c T f)):w'.heap[g]? =some (.cells c T f):=(i.blk g (h.fx (.inr e)).1 (aH a)).trans a
theorem DkM.put {c:Dk}{i f j g:Value}(h:DkM B gD d t rv cv vv kv ss aa w)(n:w.heap.size<=w'.heap.size)(k: ∀q,q<w.heap.size->q≠gD->w'.heap[q]? =w.heap[q]?)
  (x:w'.heap[gD]? =ah #[i,t.ev,t.sv,t.av,f,j,ag c.given,g,ag c.runs] 53) (r:c.res=d.res) (e2:c.svs=d.svs) (s:c.aps=d.aps)
  (A:Rob (Fx gD t) (fun u=> ∃o,InR u i o/\o.map (fun p=>p.1)=c.rules) w') (y:Rob (Fx gD t) (fun u=>InV u f (eW c.rules)) w') (C:Rob (Fx gD t) (fun u=>dS u j c.vers) w') (l:Rob (Fx gD t) (fun u=>en 0 u g c.kept) w'):DkM B gD c t i f j g ss aa w':=by
 have mv: ∀{Φ:World->Prop},Rob (Fx gD t) Φ w->Rob (Fx gD t) Φ w':=fun v=>v.move n (fun q a z=>k q z a.1.1) fun _ _ h=>h;refine⟨x,h.lo,A,y,C,l,?_,br h.svs fun b a=>k b (h.svs.lt b a).2 fun e=>ir h.svs h.blk (by decide) (by rw[a,e]),by rw[e2];exact h.sve,fun p m=>mv (h.svr p m),br h.aps fun b a=>k b (h.aps.lt b a).2 fun e=>ir h.aps h.blk (by decide) (by rw[a,e]),by rw[s];exact h.ape,fun p m=>mv (h.apr p m),fun q a=>⟨aT (h.nx q a).1 n,(h.nx q a).2⟩⟩;rw[r];exact br h.res fun b a=>k b (h.res.lt b a).2 fun e=>ir h.res h.blk (by decide) (by rw[a,e])
theorem DkM.opened (h:DkM B gD d t rv cv vv kv ss aa w){q:Nat}(g:w.heap.size<=q)(n:w'.heap.size=q+1)(c:aq w w'):DkM B gD d (t.add q) rv cv vv kv ss aa w':=by
 have mv: ∀{Φ:World->Prop},Rob (Fx gD t) Φ w->Rob (Fx gD (t.add q)) Φ w':=fun l=>l.move c.size (fun q _ m=>c.block q m) fun k b j=>⟨j.1,fun i=>by
  rcases bv.1 i with e|i
  ·omega
  ·exact j.2 i⟩
 have a:=h.below c;refine⟨a.blk,a.lo,mv h.rules,mv h.codes,mv h.vers,mv h.kept,a.res,a.svs,a.sve,fun p f=>mv (h.svr p f),a.aps,a.ape,fun p f=>mv (h.apr p f),fun k b=> ?_⟩;rcases bv.1 b with rfl|b
 ·have:=aH h.blk;have:=h.lo;exact⟨by omega,by omega,by omega,lY h.res (.inr g),lY h.svs (.inr g),lY h.aps (.inr g)⟩
 ·exact a.nx k b
theorem dt.opened (h:dt B gD d t w){q:Nat}(c:w.heap.size<=q)(e:w'.heap.size=q+1)(b:aq w w'):dt B gD d (t.add q) w':=by
 obtain⟨a,rv,cv,vv,kv,ss,aa,h⟩:=h;exact⟨a,_,_,_,_,_,_,h.opened c e b⟩
theorem dt.closed {q:Nat}(h:dt B gD d (t.add q) w)(o:w.heap.size<=w'.heap.size)(c: ∀k,k<w.heap.size->k≠q->w'.heap[k]? =w.heap[k]?):dt B gD d t w':=by
 obtain⟨l,rv,cv,vv,kv,ss,aa,h⟩:=h;have g:=h.nx q (bq ..);have mv: ∀{Φ:World->Prop},Rob (Fx gD (t.add q)) Φ w->Rob (Fx gD t) Φ w':=fun m=>m.move o (fun k f n=>c k n fun e=>f.2 (by rw[e];exact bq ..)) fun k _ f=>⟨f.1,fun r=>f.2 (bH _ r)⟩
 refine⟨l,rv,cv,vv,kv,ss,aa,(c _ (aH h.blk) (fun e=>g.2.2.1 e.symm)).trans h.blk,h.lo,mv h.rules,mv h.codes,mv h.vers,mv h.kept,br h.res fun b a=>c b (h.res.lt b a).2 (fun e=>g.2.2.2.1 (by rw[<-e];exact a.symm)),br h.svs fun b a=>c b (h.svs.lt b a).2 (fun e=>g.2.2.2.2.1 (by rw[<-e];exact a.symm)),h.sve,fun p j=>mv (h.svr p j),br h.aps fun b a=>c b (h.aps.lt b a).2 (fun e=>g.2.2.2.2.2 (by rw[<-e];exact a.symm)),h.ape,fun p j=>mv (h.apr p j),fun k i=> ?_⟩;have:=h.nx k (bH _ i);exact⟨by omega,this.2⟩
theorem Kd.opened {q:Nat}{t':Tr}{d:World}(a:aq w d)(h:Kd gD (t.add q) (t'.add q) d w'):Kd gD t t' w w':=
 ⟨h.os.trans a.os,h.tape.trans a.tape,h.output.trans a.output,bf a.size h.size,fun k c b=>(h.blk k c (aT b a.size)).trans (a.block k b),fun k b c=>h.gx k (aT b a.size) c,(List.cons.inj h.xs).2⟩
theorem Kd.closed {q:Nat}{t':Tr}{a:World}(h:Kd gD t t' w a)(j:w.heap.size<=q)(e:w'.os=a.os)(g:w'.tape=a.tape)(i:w'.output=a.output)(f:a.heap.size<=w'.heap.size)(d: ∀k,k<a.heap.size->k≠q->w'.heap[k]? =a.heap[k]?):Kd gD t t' w w':=
 ⟨e.trans h.os,g.trans h.tape,i.trans h.output,bf h.size f,fun k c b=>(d k (aT b h.size) (by omega)).trans (h.blk k c b),h.gx,h.xs⟩
end
end
theorem bt {w w':World}{k:Nat}{c:Array Value}{T:TypeId}{f:Nat×Nat}(a:aq w w')(h:w.heap[k]? =some (.cells c T f)):w'.heap[k]? =some (.cells c T f):=ai a h
theorem cr {w:World}{g:Nat}{c:Array Value}{T:TypeId}{f:Nat×Nat}(k:Nat)(h:w.heap[g]? =some (.cells c T f)){v:Value}(e:c[k]? =some v):w.cell? (ae g k)=some v:=(aZ _ _ k _ _ _ h).trans e
theorem nb (w:World)(c:Array Value)(T:TypeId): ∃W,w.alloc (.cells c T)=W/\aq w W/\W.heap[w.heap.size]? =ah c T:=⟨_,rfl,am _ _,aE _ _⟩
def anC (a:An)(b lv:Value):Array Value:= #[ag a.err,ag a.num,ag a.day,ag a.min,b,lv]
theorem anT:prog.underlying 43=some (.struct (prog.fieldsOf 43)):=by kernel_rfl
theorem apT:prog.underlying 45=some (.struct (prog.fieldsOf 45)):=by kernel_rfl
theorem spT:prog.underlying 87=some (.struct (prog.fieldsOf 87)):=by kernel_rfl
theorem fb (e:Int)(w:World):Calls prog 20 #[ag e] w fun r w'=>r= .returned (.agg (anC (noA e) (af) (af)))/\aq w w':=by
 obtain⟨g,f,a,b⟩:=nb w #[ag 0,ag 0,ag 0,ag 0,af,af] 43;have d:=aF (aL _ _ _ #[ag e,ag 0,ag 0,ag 0,af,af] _ _ b);have c:=aF (below_setRow a (aB _) #[ag e,ag 0,ag 0,ag 0,af,af]);clear a;go_enter func20,ntmps20;go_wp2_with(refine ay rfl 43 _ _ rfl _ _ rfl rfl _ _ b (by kernel_rfl) (by simp) (by simp[Value.oneCell']) ?_)
 refine aW (v:= .agg #[ag e,ag 0,ag 0,ag 0,af,af]) ?_ rfl ⟨rfl,c.o⟩;exact bc rfl _ _ w.heap.size _ _ _ _ rfl d.o anT rfl (by kernel_rfl)
theorem pX (n m:Int)(w:World):Calls prog 27 #[ag n,ag m] w fun r w'=>r= .returned (.bool (isN n m))/\w'=w:=by
 unfold isN;by_cases h:0<=n
 ·have a:decide (0<=n)=true:=bm h;go_enter func27,ntmps27;go_wp2_with fail;go_ret;exact⟨by rw[a];rfl,rfl⟩
 ·have a:decide (0<=n)=false:=bn h;go_enter func27,ntmps27;go_wp2_with fail;go_ret;exact⟨rfl,rfl⟩
theorem tW (a:Ap)(p:Option Addr)(c:Nat)(w:World):Calls prog 34 #[.agg (apC (a,.slice p a.who.length c))] w fun r w'=>r= .returned (.agg #[ag a.fr,ag a.to])/\aq w w':=by
 unfold apC;dsimp only;obtain⟨g,k,d,e⟩:=nb w #[ag a.st,ag a.left,ag a.fr,ag a.to,ag a.sv,ag a.bef,ag a.aft,ag a.len,ag a.day,ag a.min,.slice p a.who.length c] 45;obtain⟨m,l,b,f⟩:=nb g #[ag 0,ag 0] 87;have n:=cr 2 (bt b e) rfl;have q:=cr 3 (bt b e) rfl;have j:=aF (aL _ _ _ #[ag a.fr,ag a.to] _ _ f);have i:=aF (d.trans ((below_setRow b (aB _) #[ag a.fr,ag a.to]).mono d.size));clear d b e;go_enter func34,ntmps34;go_wp2_with(refine ay rfl 87 _ _ rfl _ _ rfl rfl _ _ f (by kernel_rfl) (by simp) (by simp[Value.oneCell']) ?_)
 refine aW (v:= .agg #[ag a.fr,ag a.to]) ?_ rfl ⟨rfl,i.o⟩;exact bc rfl _ _ g.heap.size _ _ _ _ rfl j.o spT rfl (by kernel_rfl)
theorem rG (a:Ap)(s:Int)(p:Option Addr)(c:Nat)(w:World):Calls prog 15 #[.agg (apC (a,.slice p a.who.length c)),ag s] w fun r w'=>r= .returned (.agg (apC (eB a s,.slice p a.who.length c)))/\aq w w':=by
 unfold apC eB;dsimp only;obtain⟨g,A,j,m⟩:=nb w #[ag a.st,ag a.left,ag a.fr,ag a.to,ag a.sv,ag a.bef,ag a.aft,ag a.len,ag a.day,ag a.min,.slice p a.who.length c] 45;obtain⟨i,B,k,t⟩:=nb g #[ag 0,ag 0,ag 0,ag 0,ag 0,ag 0,ag 0,ag 0,ag 0,ag 0,af] 45;have b:=bt k m;have d:w.heap.size≠g.heap.size:=by have:=aH m;omega
 have E:=cr 0 b rfl;have F:=cr 1 b rfl;have C:=bl _ _ 0 _ _ b;have D:=bl _ _ 1 _ _ b;have l:=aY _ _ 1 _ _ (ag 0) (aY i w.heap.size 0 _ _ (ag s) b);have q:((i.setCell ⟨w.heap.size,0,none⟩ (ag s)).setCell ⟨w.heap.size,1,none⟩ (ag 0)).heap[g.heap.size]? =i.heap[g.heap.size]? :=(aO _ _ _ _ (fun e=>d e.symm)).trans (aO _ _ _ _ (fun e=>d e.symm));have f:=q.trans t;have n:=((aw j k).setCell (p:=⟨w.heap.size,0,none⟩) (aB _) (ag s)).setCell (p:=⟨w.heap.size,1,none⟩) (aB _) (ag 0);generalize y:(i.setCell ⟨w.heap.size,0,none⟩ (ag s)).setCell ⟨w.heap.size,1,none⟩ (ag 0)=z at*;replace l:z.heap[w.heap.size]? =ah #[ag s,ag 0,ag a.fr,ag a.to,ag a.sv,ag a.bef,ag a.aft,ag a.len,ag a.day,ag a.min,.slice p a.who.length c] 45:=l;have x:=aF (aL _ _ _ #[ag s,ag 0,ag a.fr,ag a.to,ag a.sv,ag a.bef,ag a.aft,ag a.len,ag a.day,ag a.min,.slice p a.who.length c] _ _ f);have u:=aF (below_setRow n j.size #[ag s,ag 0,ag a.fr,ag a.to,ag a.sv,ag a.bef,ag a.aft,ag a.len,ag a.day,ag a.min,.slice p a.who.length c]);clear j k n m b q t;go_enter func15,ntmps15;go_wp2_with(first|(refine aR rfl 45 _ rfl _ rfl _ _ _ _ l apT rfl (by kernel_rfl) ?_)|(refine ay rfl 45 _ _ rfl _ _ rfl rfl _ _ f (by kernel_rfl) (by simp) (by simp[Value.oneCell']) ?_))
 refine aW (v:= .agg #[ag s,ag 0,ag a.fr,ag a.to,ag a.sv,ag a.bef,ag a.aft,ag a.len,ag a.day,ag a.min,.slice p a.who.length c]) ?_ rfl ⟨rfl,u.o⟩;exact bc rfl _ _ g.heap.size _ _ _ _ rfl x.o apT rfl (by kernel_rfl)
section
section
variable {B B':Nat->Prop}
theorem fZ.at {d:Nat}{w:World}{sl:Value}{f:List Ex}(h:fZ B d w sl f){j:Nat}{k:Ex}(e:f[j]? =some k): ∃(i g o c:Nat) (p:Option Addr) (q:Nat),d=i+1/\sl= .slice (some (ae g o)) f.length c/\w.cell? (ae g (o+j*5))=some (ag k.kind)/\w.cell? (ae g (o+j*5+1))=some (ag k.a)/\w.cell? (ae g (o+j*5+2))=some (ag k.b)/\
   w.cell? (ae g (o+j*5+3))=some (.string ⟨k.name.toArray⟩)/\w.cell? (ae g (o+j*5+4))=some (.slice p k.kids.length q)/\fZ B i w (.slice p k.kids.length q) k.kids:=by
 cases d with
 |zero=>rw[h.1]at e;simp at e
 |succ d=>
  rcases h with⟨h,_⟩|⟨g,o,c,_,t,_,s⟩
  ·rw[h]at e;simp at e
  ·obtain⟨_,u,c0,c1,l,m,n,r⟩:=s j k e;obtain⟨p,q,rfl⟩:=r.form;exact⟨d,g,o,c,p,q,rfl,t,c0,c1,l,m,n,r⟩
def tX (f:Ex->Ex->Bool)(a b:List Ex):Bool:=(a.zip b).all fun p=>f p.1 p.2
theorem Ik (f:Ex->Ex->Bool){a b:List Ex}{j:Nat}{x y:Ex}(i:a[j]? =some x)(k:b[j]? =some y):tX f (a.drop j) (b.drop j)=(f x y&&tX f (a.drop (j+1)) (b.drop (j+1))):=by
 obtain⟨c,d⟩:=aG.1 i;obtain⟨e,g⟩:=aG.1 k;rw[bx c,d,bx e,g];rfl
def AQ (d:Nat):Prop:= ∀(B B':Nat->Prop) (N j:Nat) (a b:Ex) (g i:Option Addr) (c f:Nat) (w:World),(∀k,B k->k<w.heap.size)->(∀k,B' k->k<w.heap.size)->hgt a<N->fZ B d w (.slice g a.kids.length c) a.kids->fZ B' j w (.slice i b.kids.length f) b.kids->
 Calls prog 70 #[.agg #[ag a.kind,ag a.a,ag a.b,.string ⟨a.name.toArray⟩,.slice g a.kids.length c],.agg #[ag b.kind,ag b.a,ag b.b,.string ⟨b.name.toArray⟩,.slice i b.kids.length f]] w fun e w'=>e= .returned (.bool (lK N a b))/\aq w w'
theorem Mv {d:Nat}(ih: ∀F,F<d->AQ F)(N F:Nat)(xs ys:List Ex)(pa pb:Option Addr)(ca cb:Nat)(w:World)(Q: ∀k,B k->k<w.heap.size)(u: ∀k,B' k->k<w.heap.size)(hN: ∀a∈xs,hgt a<N)(ha:fZ B d w (.slice pa xs.length ca) xs)(hb:fZ B' F w (.slice pb ys.length cb) ys):
  Calls prog 96 #[.slice pa xs.length ca,.slice pb ys.length cb,.func (.func 70) #[] #[]] w fun e w'=>e= .returned (.bool (decide (xs.length=ys.length)&&tX (lK N) xs ys))/\aq w w':=by
 obtain⟨n,T⟩:=au xs.length;obtain⟨m,S⟩:=au ys.length;have Z:=aF ha;have HB:=aF hb;rw[T,S];have r:=aF T;have HM:=aF S;have HI:=aF ih;have HL:=aF hN;have HK:=aF Q;have J:=aF u;clear ha hb T S ih hN Q u;by_cases l:n=m
 ·have E:((n:Int) !=(m:Int))=false:=by simp[l]
  have I:=aF l
  have ac:(n:Int)<9223372036854775808:=by
   by_cases h0:0<n
   ·have P:=Z.o;rw[r.o]at P;cases d with
    |zero=>have:=P.1;have:=r.o;simp_all
    |succ d=>
     rcases P with⟨h,_⟩|⟨_,_,_,_,_,G,_⟩
     ·have:=r.o;rw[h]at this;simp at this;omega
     ·have:=r.o;omega
   ·omega
  clear l;go_enter func96,ntmps96;go_wp2_with fail;go_loopw [7,8,9,17] (fun _ _ _ q wr=> ∃j:Nat,q=ag (j:Int)/\j<=n/\tX (lK N) xs ys=tX (lK N) (xs.drop j) (ys.drop j)/\aq w wr) (fun _ _ _ q _=>n-(intOf q).toNat);case atStart=>exact⟨0,rfl,by omega,rfl,aI _ _⟩
  case round=>
   obtain⟨j,rfl,hj,s,c⟩:=hrel;have ab:(0:Int)<=(j:Int):=(by omega);by_cases ad:j<n
   ·have D:(j:Int)<(n:Int):=(by omega);have aa:(j:Int)<(m:Int):=(by have:=I.o;omega);obtain⟨x,H⟩: ∃x,xs[j]? =some x:=⟨xs[j]'(by have:=r.o;omega),az _⟩
    obtain⟨y,U⟩: ∃y,ys[j]? =some y:=⟨ys[j]'(by have:=HM.o;have:=I.o;omega),az _⟩
    rw[Ik _ H U]at s;obtain⟨d1,g1,o1,c1,p1,q1,e1,W,a0,a1,a2,a3,a4,r1⟩:=Z.o.at H;obtain⟨d2,g2,o2,c2,p2,q2,e2,X,b0,b1,b2,b3,b4,r2⟩:=HB.o.at U;injection W with W _ s3;injection X with X _ s4;subst W X s3 s4;replace a0:=aj c a0;replace a1:=aj c a1;replace a2:=aj c a2;replace a3:=aj c a3;replace a4:=aj c a4;obtain⟨wA,hA,bA,nA⟩:=nb wr #[ag x.kind,ag x.a,ag x.b,.string ⟨x.name.toArray⟩,.slice p1 x.kids.length q1] 102;have f:=aw c bA;replace b0:=aj f b0;replace b1:=aj f b1;replace b2:=aj f b2;replace b3:=aj f b3;replace b4:=aj f b4;obtain⟨Y,Q,M,nB⟩:=nb wA #[ag y.kind,ag y.a,ag y.b,.string ⟨y.name.toArray⟩,.slice p2 y.kids.length q2] 102;have i:=aw f M;have V:=bt M nA;have v: ∀k,B k->k<Y.heap.size:=fun k R=>aT (HK.o k R) i.size;have p: ∀k,B' k->k<Y.heap.size:=fun k R=>aT (J.o k R) i.size;have O:=HI.o d1 (by omega) B B' N d2 x y p1 p2 q1 q2 Y v p (HL.o x (aM H)) (r1.kept fun g hg G=>i.block g G) (r2.kept fun g hg G=>i.block g G);obtain⟨bb,A⟩:=au (lK N x y);rw[A]at O s;have K:=aF s;have t:=aF i;clear s A r1 r2 v p bA M f i c H U e1 e2 nA;go_wp2_with(first|(refine aR rfl 102 _ rfl _ rfl _ _ _ _ V fd rfl (by kernel_rfl) ?_)|(refine aR rfl 102 _ rfl _ rfl _ _ _ _ nB fd rfl (by kernel_rfl) ?_))
    refine O.mono ?_;rintro e w1 ⟨rfl,z⟩;have C:=aw t.o z;clear O z t;cases bb with
    |true=>
     go_wp2_with fail;go_roundw;case rel=>exact⟨j+1,by go_num,by omega,K.o,C⟩
     case measure=>simp[intOf];omega
    |false=>
     have L:PN (tX (lK N) xs ys=false):=K.o;clear K;go_wp2_with fail;go_ret;exact⟨by rw[L.o,jg];rfl,C⟩
   ·have D: ¬(j:Int)<(n:Int):=(by omega)
    have L:PN (tX (lK N) xs ys=true):=by
     show _=_;rw[s,dg (by have:=r.o;omega)];rfl
    clear s;go_wp2_with fail;go_ret;exact⟨by rw[L.o];simp[I.o],c⟩
 ·have E:((n:Int) !=(m:Int))=true:=by
   simp only[bne_iff_ne,ne_eq];omega
  have hd:decide (n=m)=false:=bn l;go_enter func96,ntmps96;go_wp2_with fail;go_ret;exact⟨by rw[hd];rfl,aI _ _⟩
theorem Il (d:Nat)(O: ∀C,C<d->AQ C):AQ d:=by
 intro B B' N C a b Q R J K w L x U ha M;obtain⟨N,rfl⟩: ∃q,N=q+1:=⟨N-1,by omega⟩
 obtain⟨V,T,I,P⟩:=nb w #[ag a.kind,ag a.a,ag a.b,.string ⟨a.name.toArray⟩,.slice Q a.kids.length J] 102;obtain⟨W,H,D,u⟩:=nb V #[ag b.kind,ag b.a,ag b.b,.string ⟨b.name.toArray⟩,.slice R b.kids.length K] 102;have f:=aw I D;have i:=bt D P;have c:=Mv O N C a.kids b.kids Q R J K W (fun k z=>aT (L k z) f.size) (fun k z=>aT (x k z) f.size) (fun k z=>by have:=DD z;omega) (ha.kept fun g _ E=>f.block g E) (M.kept fun g _ E=>f.block g E);have t:PN (lK (N+1) a b=(decide (a.kind=b.kind)&&decide (a.a=b.a)&&decide (a.b=b.b)&&decide (a.name=b.name)&&(decide (a.kids.length=b.kids.length)&&tX (lK N) a.kids b.kids))):=rfl;have x0:=cr 0 i rfl;have x1:=cr 1 i rfl;have x2:=cr 2 i rfl;have x3:=cr 3 i rfl;have X:=cr 4 i rfl;have y0:=cr 0 u rfl;have y1:=cr 1 u rfl;have y2:=cr 2 u rfl;have y3:=cr 3 u rfl;have Y:=cr 4 u rfl;have v:=aF f;obtain⟨n,G⟩:=au a.kids.length;obtain⟨m,F⟩:=au b.kids.length;rw[G,F]at c t;rw[G]at X T⊢;rw[F]at Y H⊢;clear O L x U ha M I D P u i f G F;by_cases j:a.kind=b.kind
 ·have e0:(a.kind==b.kind)=true:=by simp[j]
  by_cases l:a.a=b.a
  ·have S:(a.a==b.a)=true:=(by simp[l]);by_cases r:a.b=b.b
   ·have e2:(a.b==b.b)=true:=(by simp[r]);have A:=tz a.name b.name;by_cases s:a.name=b.name
    ·rw[bm s]at A;have p:=aF (eV j (eV l (eV r s)));clear j l r s;go_enter func70,ntmps70;go_wp2_with fail;refine c.mono ?_;rintro e Z ⟨rfl,y⟩;have f:=aw v.o y;clear c y;go_wp2_with fail;go_ret;obtain⟨j,l,r,s⟩:=p.o;exact⟨by rw[t.o];simp[j,l,r,s],f⟩
    ·rw[bn s]at A;have p:=aF s;clear c j l r s;go_enter func70,ntmps70;go_wp2_with fail;go_ret;exact⟨by rw[t.o];simp[p.o],v.o⟩
   ·have e2:(a.b==b.b)=false:=(by simp[r]);have p:=aF r;clear c j l r;go_enter func70,ntmps70;go_wp2_with fail;go_ret;exact⟨by rw[t.o];simp[p.o],v.o⟩
  ·have S:(a.a==b.a)=false:=(by simp[l]);have p:=aF l;clear c j l;go_enter func70,ntmps70;go_wp2_with fail;go_ret;exact⟨by rw[t.o];simp[p.o],v.o⟩
 ·have e0:(a.kind==b.kind)=false:=by simp[j]
  have p:=aF j;clear c j;go_enter func70,ntmps70;go_wp2_with fail;go_ret;exact⟨by rw[t.o];simp[p.o],v.o⟩
theorem Kk (d:Nat):AQ d:=by
 induction d using Nat.strongRecOn with
 |ind d a=>exact Il d a
end
end
end Go.Proofs.YtaoljfdfhggbbaaGreatDoor
