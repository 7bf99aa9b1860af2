/- Texts of the proof. -/
import Derived.Test.YtpdoienkhgnceaaGreatDoorPt20
set_option maxRecDepth 100000
set_option maxHeartbeats 8000000
namespace Go.Proofs.YtpdoienkhgnceaaGreatDoor
open Go.Proofs.Tryz Go.RowKit Lx Vx Mx Msk
section
structure MJc (go n:Nat)(sv:Nat->Value)(H T:Nat->Int)(i:Nat)(h tt mh mt:Int)(w:World)(L:Nat->Bool)(W:World):Prop where
 st:fE go n sv (if L 14=true then upI H i mh else H) (if L 17=true then upI T i mt else T) W
 hi:i<n
 eH:H i=h
 eT:T i=tt
 kept:bp go w W
section
variable {go n i:Nat} {sv:Nat->Value} {H T:Nat->Int} {h tt mh mt:Int} {w W:World} {L:Nat->Bool}
theorem MJc.start (a:fE go n sv H T w)(hi:i<n)(eH:H i=h)(eT:T i=tt):MJc go n sv H T i h tt mh mt w (fun _=>false) w.drew:=⟨a.below (aF _ _).drew,hi,eH,eT,bp.of_below (aF _ _).drew⟩
theorem MJc.below {b:World}(a:MJc go n sv H T i h tt mh mt w L W)(c:ao W b):MJc go n sv H T i h tt mh mt w L b:=⟨a.st.below c,a.hi,a.eH,a.eT,a.kept.trans (bp.of_below c)⟩
theorem MJc.other (a:MJc go n sv H T i h tt mh mt w L W)(k:Nat)(b:k≠14)(c:k≠17):MJc go n sv H T i h tt mh mt w (fun q=>decide (k=q)||L q) W:=by
 refine⟨?_,a.hi,a.eH,a.eT,a.kept⟩;simpa[b,c] using a.st
theorem MJc.loadH (a:MJc go n sv H T i h tt mh mt w L W)(b:L 14=false):W.cell? (ae go (i*3+1))=some (ag h):=by
 have:=(a.st.cells a.hi).2.1;rw[b,aw (by simp),a.eH]at this;exact this
theorem MJc.loadT (a:MJc go n sv H T i h tt mh mt w L W)(b:L 17=false):W.cell? (ae go (i*3+2))=some (ag tt):=by
 have:=(a.st.cells a.hi).2.2.1;rw[b,aw (by simp),a.eT]at this;exact this
theorem MJc.cellH (a:MJc go n sv H T i h tt mh mt w L W): ∃v,W.cell? (ae go (i*3+1))=some (ag v)/\W.frozen? (ae go (i*3+1))=false:=⟨_,(a.st.cells a.hi).2.1,(a.st.cells a.hi).2.2.2.1⟩
theorem MJc.cellT (a:MJc go n sv H T i h tt mh mt w L W): ∃v,W.cell? (ae go (i*3+2))=some (ag v)/\W.frozen? (ae go (i*3+2))=false:=⟨_,(a.st.cells a.hi).2.2.1,(a.st.cells a.hi).2.2.2.2⟩
theorem MJc.storeH (a:MJc go n sv H T i h tt mh mt w L W)(b:L 14=false):MJc go n sv H T i h tt mh mt w (fun q=>decide (14=q)||L q) (W.setCell ⟨go,i*3+1,none⟩ (ag mh)):=by
 refine⟨?_,a.hi,a.eH,a.eT,a.kept.trans (jp W go (i*3+1) _)⟩;have:=a.st.setH mh a.hi;simp only[b,Bool.false_eq_true,if_false]at this;simpa using this
theorem MJc.storeT (a:MJc go n sv H T i h tt mh mt w L W)(b:L 17=false):MJc go n sv H T i h tt mh mt w (fun q=>decide (17=q)||L q) (W.setCell ⟨go,i*3+2,none⟩ (ag mt)):=by
 refine⟨?_,a.hi,a.eH,a.eT,a.kept.trans (jp W go (i*3+2) _)⟩;have:=a.st.setT mt a.hi;simp only[b,Bool.false_eq_true,if_false]at this;simpa using this
theorem MJc.fin (c:MJc go n sv H T i h tt mh mt w L W)(a:L 14=true)(b:L 17=true):fE go n sv (upI H i mh) (upI T i mt) W:=by
 have:=c.st;rw[a,b,ax rfl,ax rfl]at this;exact this
end
theorem vy (C:List (List In))(ρ:Nat->Nat)(a:Nat->Int×Int)(hR:tw C ρ)(aU:sB (eV C a))(n go c:Nat)(hn:n=C.length)(cY:n<=1000)(sv:Nat->Value)(Ss:Nat->List (In×Value))(hS: ∀k,k<n->(Ss k).map (fun u=>u.1)=C.getD k [])(hL: ∀k,k<n->1<=(Ss k).length/\(Ss k).length<=700)(hV: ∀k,k<n-> ∀u∈Ss k,∃p m c,u.2= .slice p m c)(i:Nat)(hi:i<n)(cr:a i=mR C a i)(h1:1<=(a i).2)
  (IH: ∀k,k<n->ρ k<ρ i-> ∀(H T:Nat->Int) (w:World),fE go n sv H T w->(∀q,q<n->kj w (sv q) (Ss q))->(∀q,q<n->ρ q<=ρ k->Okm a H T q)->Calls prog 25 #[.slice (some (ae go 0)) n c,ag (k:Int)] w (yc a ρ go n sv k H T w))
  (H0 T0:Nat->Int) (w:World) (S:fE go n sv H0 T0 w) (hq: ∀q,q<n->kj w (sv q) (Ss q)) (aO: ∀q,q<n->ρ q<=ρ i->Okm a H0 T0 q):
  Calls prog 25 #[.slice (some (ae go 0)) n c,ag (i:Int)] w (yc a ρ go n sv i H0 T0 w):=by
 obtain⟨g1,c1,a1,_⟩:=(hq i hi).form (hL i hi).1;obtain⟨Q,bs⟩:=aq ((Ss i).length);have cg:=hL i hi;rw[bs]at a1 cg;have cD:(C.getD i []).length=Q:=by rw[<-hS i hi,bm,bs]
 have c0:T4 (i<C.length):=hn▸hi;have aW:=aZ hn;have HQ:=aZ hq;have b0:=aZ S;have bA:=am w (.cells #[af,ag 0,ag 0] 93);have nA:=aB w (.cells #[af,ag 0,ag 0] 93);have an:=S.below bA;have cn:=S.lt;obtain⟨P,bd⟩:=aq w.heap.size;have cy:T4 (w.heap.size<=P):=Nat.le_of_eq bd;have b:P≠go:=by omega
 have b9:=bp.of_below (g:=go) bA;generalize cK:w.alloc (.cells #[af,ag 0,ag 0] 93)=wA at*;rw[bd]at nA;have x0:=(an.cells hi).1;have x1:=(an.cells hi).2.1;have x2:=(an.cells hi).2.2.1;rw[a1]at x0;have cS:(0:Int)<=(i:Int):=by omega
 have cT:(i:Int)<(n:Int):=by omega
 have cU:(n:Int)<=1000:=by omega
 rcases aO i hi (aA _) with⟨zh,zt⟩|⟨zh,zt⟩
 ·rw[zh]at x1;rw[zt]at x2;have bZ:=aZ (lT.refl (n:=n) (i:=i) aO);have bW:=aZ an;have bT:=aZ b9;have bY:=aZ nA;have cd:=aZ zh;have ce:=aZ zt;clear S hq aO an b9 bA zh zt hn nA;go_enter func25,ntmps25;go_wp2_with fail;clear x0 x1 x2 bd;go_loopw [6,8,9,26] (fun y _ _ t wr=> ∃(j:Nat) (H T:Nat->Int),t=ag (j:Int)/\j<=Q/\y=ag (hAt (C.getD i []) j)/\fE go n sv H T wr/\H i=mxH (eV C a) (C.getD i []) j/\T i=stS (eV C a) (C.getD i []) j/\lT a ρ n i H0 T0 H T/\bp go w wr/\wr.heap[P]? =ah #[af,ag 0,ag 0] 93) (fun _ _ _ t _=>Q-(intOf t).toNat);case atStart=>exact⟨0,H0,T0,rfl,by omega,rfl,bW.o,cd.o,ce.o,bZ.o,bT.o,bY.o⟩
  case round=>
   clear bW bT bY cd ce bZ cK;obtain⟨j,H,T,rfl,hj,rfl,aN,ba,a2,bl,a7,ao⟩:=hrel;have cV:(0:Int)<=(j:Int):=(by omega);obtain⟨y,a5⟩:=aq (hAt (C.getD i []) j);obtain⟨h,bg⟩:=aq (mxH (eV C a) (C.getD i []) j);obtain⟨tt,bq⟩:=aq (stS (eV C a) (C.getD i []) j);have cB:=oH (C.getD i []) j;have c9:=ti aU (C.getD i []) j;have cA:=tj aU (C.getD i []) j;rw[a5]at cB;rw[bg]at c9 ba;rw[bq]at cA a2;rw[a5];have Z:=aZ a5;have X:=aZ bg;have ad:=aZ bq;have Y:=aZ ba;have cW:=cg.2;by_cases cX:j<Q
   ·have cp:(j:Int)<(Q:Int):=(by omega);obtain⟨u,bi⟩: ∃u,(Ss i)[j]? =some u:=⟨(Ss i)[j]'(by omega),az (by omega)⟩
    have hx:(C.getD i [])[j]? =some u.1:=(by rw[<-hS i hi,bf,bi];rfl);obtain⟨g',c',e',al⟩:=((HQ.o i hi).kept b0.o a7).form (hL i hi).1;rw[a1]at e';injection e' with e1 e2 e3;injection e1 with e1;injection e1 with e1 _ _;subst e1;clear e2 e3;obtain⟨d0,d1,d2,d3,d4⟩:=al j u bi;obtain⟨pv,nv,cv,cu⟩:=hV i hi u (aL bi);obtain⟨⟨op,xa,xb,xt,xs⟩,vv⟩:=u;dsimp only at d0 d1 d2 d3 d4 cu hx;subst cu;have bI:=am wr (.cells #[ag op,ag xa,ag xb,ag xt,.slice pv nv cv] 140);have nI:=aB wr (.cells #[ag op,ag xa,ag xb,ag xt,.slice pv nv cv] 140);have a9:=aN.below bI;have cm:=ai bI ao;have bB:=a7.trans (bp.of_below bI);have ch: ∀q,q<n->kj (wr.alloc (.cells #[ag op,ag xa,ag xb,ag xt,.slice pv nv cv] 140)) (sv q) (Ss q):=fun q hq=>(HQ.o q hq).kept b0.o bB;have cn:=aN.lt;obtain⟨g8,cC⟩:=aq wr.heap.size;generalize db:wr.alloc (.cells #[ag op,ag xa,ag xb,ag xt,.slice pv nv cv] 140)=wI at*;rw[cC]at nI;have zT:=(a9.cells hi).2.2.1;have yT:=(a9.cells hi).2.2.2.2;rw[a2]at zT;have bu:=a9.setT (tt+1) hi;have d:=aZ bu;have bw:=aZ (bB.trans (jp wI go (i*3+2) (ag (tt+1))));have av:=aZ ((aM wI ⟨go,i*3+2,none⟩ P (ag (tt+1)) b).trans cm);have aY:=aZ (lT.setT bl (tt+1));have b2:T4 (∀q,q<n->kj (wI.setCell ⟨go,i*3+2,none⟩ (ag (tt+1))) (sv q) (Ss q)):=fun q hq=>(ch q hq).kept a9 (jp wI go (i*3+2) (ag (tt+1)));have bF:=(aM wI ⟨go,i*3+2,none⟩ g8 (ag (tt+1)) (by show g8≠go;omega)).trans nI;generalize cZ:wI.setCell ⟨go,i*3+2,none⟩ (ag (tt+1))=U at*;have cL:=ak 0 bF;have O:=aZ hx;have aa:=bw;have V:=av;have ac:=aY;clear bI aN ao a7 ch a9 cm bB bu nI bi hx al bl ba a2 a5 bg bq;by_cases aP:op=1
    ·have e1:(op==1)=true:=(by simp[aP])
     have f:T4 (hAt (C.getD i []) (j+1)=y+1):=by
      show _=_;rw[jN O.o,Z.o];unfold eff;dsimp only;rw[ax (.inl aP)];try omega
     have I:T4 (max h (y+1)=mxH (eV C a) (C.getD i []) (j+1)):=by
      show _=_;rw[k6 O.o,f.o,aw (by show¬op=8;omega),X.o]
     have G:T4 (upI T i (tt+1) i=stS (eV C a) (C.getD i []) (j+1)):=by
      show _=_;rw[i8,kh O.o,aw (by show¬op=8;omega),ad.o];try omega
     have zH:=(d.o.cells hi).2.1;have yH:=(d.o.cells hi).2.2.2.1;rw[Y.o]at zH;obtain⟨m1,J⟩:=aq (max h (y+1));have B:=aZ J;have D:=aZ (d.o.setH m1 hi);have A:=aZ (aa.o.trans (jp U go (i*3+1) (ag m1)));have z:=aZ ((aM U ⟨go,i*3+1,none⟩ P (ag m1) b).trans V.o);have E:=aZ (ac.o.setH m1);generalize aV:U.setCell ⟨go,i*3+1,none⟩ (ag m1)=wZ at*;clear aP;go_wp2_with fail;go_roundw;case rel=>exact⟨j+1,upI H i m1,upI T i (tt+1),by go_num,by omega,by rw[f.o],D.o,(i8 _ _ _).trans (B.o.symm.trans I.o),G.o,E.o,A.o,z.o⟩
     case measure=>simp[intOf];omega
    have e1:(op==1)=false:=(by simpa using aP);by_cases ap:op=2
    ·have e2:(op==2)=true:=(by simp[ap])
     have f:T4 (hAt (C.getD i []) (j+1)=y-1):=by
      show _=_;rw[jN O.o,Z.o];unfold eff;dsimp only;rw[aw (by omega),ax (by omega)];try omega
     have I:T4 (max h (y-1)=mxH (eV C a) (C.getD i []) (j+1)):=by
      show _=_;rw[k6 O.o,f.o,aw (by show¬op=8;omega),X.o]
     have G:T4 (upI T i (tt+1) i=stS (eV C a) (C.getD i []) (j+1)):=by
      show _=_;rw[i8,kh O.o,aw (by show¬op=8;omega),ad.o];try omega
     have zH:=(d.o.cells hi).2.1;have yH:=(d.o.cells hi).2.2.2.1;rw[Y.o]at zH;obtain⟨m1,J⟩:=aq (max h (y-1));have B:=aZ J;have D:=aZ (d.o.setH m1 hi);have A:=aZ (aa.o.trans (jp U go (i*3+1) (ag m1)));have z:=aZ ((aM U ⟨go,i*3+1,none⟩ P (ag m1) b).trans V.o);have E:=aZ (ac.o.setH m1);generalize aV:U.setCell ⟨go,i*3+1,none⟩ (ag m1)=wZ at*;clear ap;go_wp2_with fail;go_roundw;case rel=>exact⟨j+1,upI H i m1,upI T i (tt+1),by go_num,by omega,by rw[f.o],D.o,(i8 _ _ _).trans (B.o.symm.trans I.o),G.o,E.o,A.o,z.o⟩
     case measure=>simp[intOf];omega
    have e2:(op==2)=false:=(by simpa using ap);by_cases ar:op=3
    ·have e3:(op==3)=true:=(by simp[ar])
     have f:T4 (hAt (C.getD i []) (j+1)=y-1):=by
      show _=_;rw[jN O.o,Z.o];unfold eff;dsimp only;rw[aw (by omega),ax (by omega)];try omega
     have I:T4 (max h (y-1)=mxH (eV C a) (C.getD i []) (j+1)):=by
      show _=_;rw[k6 O.o,f.o,aw (by show¬op=8;omega),X.o]
     have G:T4 (upI T i (tt+1) i=stS (eV C a) (C.getD i []) (j+1)):=by
      show _=_;rw[i8,kh O.o,aw (by show¬op=8;omega),ad.o];try omega
     have zH:=(d.o.cells hi).2.1;have yH:=(d.o.cells hi).2.2.2.1;rw[Y.o]at zH;obtain⟨m1,J⟩:=aq (max h (y-1));have B:=aZ J;have D:=aZ (d.o.setH m1 hi);have A:=aZ (aa.o.trans (jp U go (i*3+1) (ag m1)));have z:=aZ ((aM U ⟨go,i*3+1,none⟩ P (ag m1) b).trans V.o);have E:=aZ (ac.o.setH m1);generalize aV:U.setCell ⟨go,i*3+1,none⟩ (ag m1)=wZ at*;clear ar;go_wp2_with fail;go_roundw;case rel=>exact⟨j+1,upI H i m1,upI T i (tt+1),by go_num,by omega,by rw[f.o],D.o,(i8 _ _ _).trans (B.o.symm.trans I.o),G.o,E.o,A.o,z.o⟩
     case measure=>simp[intOf];omega
    have e3:(op==3)=false:=(by simpa using ar);by_cases au:op=4
    ·have e4:(op==4)=true:=(by simp[au])
     have f:T4 (hAt (C.getD i []) (j+1)=y-1):=by
      show _=_;rw[jN O.o,Z.o];unfold eff;dsimp only;rw[aw (by omega),ax (by omega)];try omega
     have I:T4 (max h (y-1)=mxH (eV C a) (C.getD i []) (j+1)):=by
      show _=_;rw[k6 O.o,f.o,aw (by show¬op=8;omega),X.o]
     have G:T4 (upI T i (tt+1) i=stS (eV C a) (C.getD i []) (j+1)):=by
      show _=_;rw[i8,kh O.o,aw (by show¬op=8;omega),ad.o];try omega
     have zH:=(d.o.cells hi).2.1;have yH:=(d.o.cells hi).2.2.2.1;rw[Y.o]at zH;obtain⟨m1,J⟩:=aq (max h (y-1));have B:=aZ J;have D:=aZ (d.o.setH m1 hi);have A:=aZ (aa.o.trans (jp U go (i*3+1) (ag m1)));have z:=aZ ((aM U ⟨go,i*3+1,none⟩ P (ag m1) b).trans V.o);have E:=aZ (ac.o.setH m1);generalize aV:U.setCell ⟨go,i*3+1,none⟩ (ag m1)=wZ at*;clear au;go_wp2_with fail;go_roundw;case rel=>exact⟨j+1,upI H i m1,upI T i (tt+1),by go_num,by omega,by rw[f.o],D.o,(i8 _ _ _).trans (B.o.symm.trans I.o),G.o,E.o,A.o,z.o⟩
     case measure=>simp[intOf];omega
    have e4:(op==4)=false:=(by simpa using au);by_cases x:op=8
    ·have e8:(op==8)=true:=(by simp[x]);obtain⟨cj,bb,bk⟩:=hR.lt i j _ c0.o O.o x;dsimp only at cj bb bk;obtain⟨k0,b7⟩: ∃k0:Nat,xa=(k0:Int):=⟨xa.toNat,by omega⟩
     have L:k0<n:=(by rw[aW.o];rw[b7]at bb;simpa using bb);have aT:ρ k0<ρ i:=(by rw[b7]at bk;simpa using bk);subst b7;have cR:=IH k0 L aT _ _ U d.o (fun q cF=>b2.o q cF) (aY.o.pre aT);obtain⟨h9,be⟩:=aq ((a k0).1);obtain⟨s9,bo⟩:=aq ((a k0).2);have b4:=(aU.hi k0)
     have a3:=(aU.st k0)
     rw[nP (by rw[<-aW.o];exact L)]at b4 a3;dsimp only at b4 a3;rw[be]at b4;rw[bo]at a3;unfold yc at cR;rw[be,bo]at cR;obtain⟨gk,ck,bv,_⟩:=(b2.o k0 L).form (hL k0 L).1;rw[bv]at cR;obtain⟨lk,co⟩:=aq ((Ss k0).length);rw[co]at cR;obtain⟨t9,cG⟩:=aq (tt+1+s9);obtain⟨m0,cq⟩:=aq (max h (y+h9));have cP:=aZ cq;have a4:0<=t9/\t9<=99999999:=(by omega);have cO:IntKind.i64.wrap t9=t9:=(by rw[bQ];omega);have cN:IntKind.i64.wrap (y+h9)=y+h9:=(by rw[bQ];omega);have c8:=a4.1;have c7:=a4.2
     have f:T4 (hAt (C.getD i []) (j+1)=y+1):=by
      show _=_;rw[jN O.o,Z.o];unfold eff;dsimp only;rw[ax (.inr x)]
     have I:T4 (max m0 (y+1)=mxH (eV C a) (C.getD i []) (j+1)):=by
      show _=_;rw[k6 O.o,f.o,ax x,X.o,Z.o];dsimp only;rw[di,nP (by rw[<-aW.o];exact L),<-cq,<-be]
     have c3:T4 (t9=stS (eV C a) (C.getD i []) (j+1)):=by
      show _=_;rw[kh O.o,ax x,ad.o,<-cG];dsimp only;rw[di,nP (by rw[<-aW.o];exact L),<-bo]
     have cM:=ak 1 bF;clear be bo cj bb bk x bv co;go_wp2_with fail;refine cR.mono ?_;rintro r w2 ⟨rfl,Hc,Tc,bE,bt,cs,bj⟩;obtain⟨aS,cf,ci⟩:=aY.o.call aT hi bt cs;have cz:T4 (Hc i=h):=cf.trans Y.o;have c5:T4 (Tc i=tt+1):=ci.trans (i8 _ _ _);have bC:=am w2 (.cells #[.slice (some (ae gk 0)) lk ck,ag h9,ag s9] 93);have n9:=aB w2 (.cells #[.slice (some (ae gk 0)) lk ck,ag h9,ag s9] 93);have bx:=aZ (bE.below bC);have bR:=aZ ((bw.o.trans bj).trans (bp.of_below bC));have bN:=aZ ((bC.block _ (aH ((bj.block _ (aH av.o) (fun e=>b (ay e))).trans av.o))).trans ((bj.block _ (aH av.o) (fun e=>b (ay e))).trans av.o));have ca:=aZ aS;obtain⟨g9,bc⟩:=aq w2.heap.size;have b5:g9≠go:=(by have:=bE.lt;omega);generalize da:w2.alloc (.cells #[.slice (some (ae gk 0)) lk ck,ag h9,ag s9] 93)=w3 at*;rw[bc]at n9;have bX:=aZ n9;have bL:=(bx.o.cells hi).2.2.1;rw[c5.o]at bL;have br:=ak 2 n9;have G:T4 (upI Tc i t9 i=stS (eV C a) (C.getD i []) (j+1)):=(i8 _ _ _).trans c3.o;clear cR bE bt cs bj aS cf ci bC n9 d b2 aY bw av bF cL cM;go_wp2_with fail;refine j3 9 [kn 55 (ab go (i*3)),kn 56 (ab go (i*3)),kn 57 (ab go (i*3+2)),kn 58 (ag (tt+1)),kn 59 (ab g9 2),kn 60 (ag s9),kn 61 (ag t9),kn 62 (ab go (i*3)),kn 63 (ab go (i*3+2)),nk] (by kernel_rfl) (by kernel_rfl) fun M φ W _ s F l hl hF=> ?_;have bG:=aj s bL;have bH:=aj s br;simp only[kn,nk,d6,aR,a8,Act.put,aD,aJ,aI]at hl;subst hl;simp only[dz,Nat.reduceAdd]at hF;dsimp only[kn,nk,dK,fo,eD,Act.put];and_intros;all_goals first|exact trivial|intro hw hn S K hK
     all_goals try (go_simp;with_reducible exact hK _ _ ⟨rfl,aF _ _⟩)
     clear bG bH;have N:=aZ (bx.o.below s);have zq:=(N.o.cells hi).2.2.1;have yq:=(N.o.cells hi).2.2.2.2;have bD:=N.o.setT t9 hi;have bV:=aZ bD;have bK:=(bD.cells hi).2.1;rw[cz.o]at bK;have bS:=aZ ((bR.o.trans (bp.of_below s)).trans (jp W go (i*3+2) (ag t9)));have bO:=aZ ((aM W ⟨go,i*3+2,none⟩ P (ag t9) b).trans (ai s bN.o));have cb:=aZ (ca.o.setT t9);have cw:=(aM W ⟨go,i*3+2,none⟩ g9 (ag t9) b5).trans (ai s bX.o);generalize cH:W.setCell ⟨go,i*3+2,none⟩ (ag t9)=w4 at*;have bJ:=ak 1 cw;go_simp;refine hK undef _ ⟨trivial,fun c=>by simp at c,fun _=> ?_⟩;simp only[ep,aR,a8,Act.put,aD,aJ,aI];clear hF hw hn S;clear hK s zq yq cH bL br bx bR bN ca N cw bX bD;have br:=bJ;go_wp2_with fail;refine j3 12 [kn 64 (ab go (i*3)),kn 65 (ab go (i*3)),kn 66 (ab go (i*3)),kn 67 (ab go (i*3+1)),kn 68 (ag h),kn 69 (ag y),kn 70 (ab g9 1),kn 71 (ag h9),kn 72 (ag (y+h9)),kn 73 (ag m0),kn 74 (ab go (i*3)),kn 75 (ab go (i*3+1)),nk] (by kernel_rfl) (by kernel_rfl) fun M φ W _ s F ll hl hF=> ?_;have bG:=aj s bK;have bH:=aj s bJ;simp only[kn,nk,d6,aR,a8,Act.put,aD,aJ,aI]at hl;subst hl;simp only[dz,Nat.reduceAdd]at hF;dsimp only[kn,nk,dK,fo,eD,Act.put];and_intros;all_goals first|exact trivial|intro hw hn S K hK
     all_goals try (go_simp;with_reducible exact hK _ _ ⟨rfl,aF _ _⟩)
     clear bG bH;have N:=aZ (bV.o.below s);have zq:=(N.o.cells hi).2.1;have yq:=(N.o.cells hi).2.2.2.1;have bz:=aZ (N.o.setH m0 hi);have c2:=aZ ((bS.o.trans (bp.of_below s)).trans (jp W go (i*3+1) (ag m0)));have cx:=aZ ((aM W ⟨go,i*3+1,none⟩ P (ag m0) b).trans (ai s bO.o));have ac:=aZ (cb.o.setH m0);generalize cI:W.setCell ⟨go,i*3+1,none⟩ (ag m0)=w5 at*;go_simp;refine hK undef _ ⟨trivial,(fun c=>by simp at c),fun _=> ?_⟩;simp only[ep,aR,a8,Act.put,aD,aJ,aI];clear hK hF hw hn S s zq yq cI bK bJ br bV bS bO cb N;have aa:=c2;have V:=cx;have ct:upI Hc i m0 i=m0:=i8 _ _ _;have c6:=aZ ct;clear ct;have zH:=(bz.o.cells hi).2.1;have yH:=(bz.o.cells hi).2.2.2.1;rw[c6.o]at zH;obtain⟨m1,J⟩:=aq (max m0 (y+1));have B:=aZ J;have D:=aZ (bz.o.setH m1 hi);have A:=aZ (aa.o.trans (jp w5 go (i*3+1) (ag m1)));have z:=aZ ((aM w5 ⟨go,i*3+1,none⟩ P (ag m1) b).trans V.o);have E:=aZ (ac.o.setH m1);generalize aV:w5.setCell ⟨go,i*3+1,none⟩ (ag m1)=wZ at*;go_wp2_with fail;go_roundw;case rel=>exact⟨j+1,upI (upI Hc i m0) i m1,upI Tc i t9,by go_num,by omega,by rw[f.o],D.o,(i8 _ _ _).trans (B.o.symm.trans I.o),G.o,E.o,A.o,z.o⟩
     case measure=>simp[intOf];omega
    have e8:(op==8)=false:=(by simpa using x)
    have f:T4 (hAt (C.getD i []) (j+1)=y):=by
     show _=_;rw[jN O.o,Z.o];unfold eff;dsimp only;rw[aw (by omega),aw (by omega)];simp
    have I:T4 (max h (y)=mxH (eV C a) (C.getD i []) (j+1)):=by
     show _=_;rw[k6 O.o,f.o,aw (by show¬op=8;omega),X.o]
    have G:T4 (upI T i (tt+1) i=stS (eV C a) (C.getD i []) (j+1)):=by
     show _=_;rw[i8,kh O.o,aw (by show¬op=8;omega),ad.o];try omega
    have zH:=(d.o.cells hi).2.1;have yH:=(d.o.cells hi).2.2.2.1;rw[Y.o]at zH;obtain⟨m1,J⟩:=aq (max h (y));have B:=aZ J;have D:=aZ (d.o.setH m1 hi);have A:=aZ (aa.o.trans (jp U go (i*3+1) (ag m1)));have z:=aZ ((aM U ⟨go,i*3+1,none⟩ P (ag m1) b).trans V.o);have E:=aZ (ac.o.setH m1);generalize aV:U.setCell ⟨go,i*3+1,none⟩ (ag m1)=wZ at*;clear aP ap ar au x;go_wp2_with fail;go_roundw;case rel=>exact⟨j+1,upI H i m1,upI T i (tt+1),by go_num,by omega,by rw[f.o],D.o,(i8 _ _ _).trans (B.o.symm.trans I.o),G.o,E.o,A.o,z.o⟩
    case measure=>simp[intOf];omega
   ·have cp: ¬(j:Int)<(Q:Int):=(by omega);obtain rfl:Q=j:=(by omega);obtain⟨mh,aG⟩:=aq (min h 101);obtain⟨mt,a0⟩:=aq (min tt 20001)
    have b3:T4 (a i=(mh,mt)):=by
     show _=_;rw[cr];unfold mR;rw[cD,X.o,ad.o,aG,a0]
    have c4:=aZ a2;have bP:=aZ aN;have cc:=aZ bl;have bU:=aZ a7;have bM:=aZ ao;clear aN bl a7 ao a5 bg bq ba a2;go_wp2_with fail;refine dH (fun M _ W=>MJc go n sv H T i h tt mh mt wr M W) [kn 88 (ab go (i*3)),kn 89 (ab go (i*3)),kn 90 (ab go (i*3)),kn 91 (ab go (i*3)),kn 92 (ab go (i*3+1)),dk 93 (ag h),dk 94 (ag mh),kn 95 (ab go (i*3)),kn 96 (ab go (i*3)),kn 97 (ab go (i*3+2)),dk 98 (ag tt),dk 99 (ag mt),kn 100 (ab go (i*3)),kn 101 (ab go (i*3+1)),nk,kn 102 (ab go (i*3)),kn 103 (ab go (i*3+2)),nk] (fun _=>MJc.start bP.o hi Y.o c4.o) (fun _ _ _ _ hb h=>h.below hb) (by kernel_rfl) (fun M φ W2 s al F ll hl hF=> ?_) (fun M φ W2 hM s=> ?_)
    ·simp only[kn,dk,nk,d6,aR,a8,Act.put,aD,aJ,aI]at hl;subst hl;simp only[dz,Nat.reduceAdd]at hF;dsimp only[kn,dk,nk,dK,fo,eD,Act.put];and_intros;all_goals first|exact trivial|intro hw hn S K hK
     all_goals try (go_simp;with_reducible exact hK _ _ ⟨rfl,aF _ _⟩)
     ·have zz:=s.loadH (by
       cases q:M 14 with
       |false=>rfl
       |true=>rw[al 6 _ rfl (al 14 _ rfl q ⟨6,.data⟩ (by simp) rfl rfl) ⟨5,.data⟩ (by simp) rfl rfl]at S;cases S)
      go_simp;exact hK _ _ ⟨rfl,s.other 5 (by decide) (by decide)⟩
     ·go_simp;exact hK _ _ ⟨rfl,s.other 6 (by decide) (by decide)⟩
     ·have zz:=s.loadT (by
       cases q:M 17 with
       |false=>rfl
       |true=>rw[al 11 _ rfl (al 17 _ rfl q ⟨11,.data⟩ (by simp) rfl rfl) ⟨10,.data⟩ (by simp) rfl rfl]at S;cases S)
      go_simp;exact hK _ _ ⟨rfl,s.other 10 (by decide) (by decide)⟩
     ·go_simp;exact hK _ _ ⟨rfl,s.other 11 (by decide) (by decide)⟩
     ·obtain⟨v9,zz,yy⟩:=s.cellH;have b6:=s.storeH S;generalize cJ:W2.setCell ⟨go,i*3+1,none⟩ (ag mh)=w9 at*;go_simp;exact hK undef _ ⟨trivial,b6⟩
     ·obtain⟨v9,zz,yy⟩:=s.cellT;have b6:=s.storeT S;generalize cJ:W2.setCell ⟨go,i*3+2,none⟩ (ag mt)=w9 at*;go_simp;exact hK undef _ ⟨trivial,b6⟩
    ·have R:=s.fin (hM 14 (by decide) rfl) (hM 17 (by decide) rfl);have b8:=s.kept;have bc:=(b8.block _ (aH bM.o) (fun e=>b (ay e))).trans bM.o;have y0:=(R.cells hi).1;have y1:=(R.cells hi).2.1;have y2:=(R.cells hi).2.2.1;rw[i8]at y1 y2;rw[a1]at y0;have nR:=aK _ _ _ #[.slice (some (ae g1 0)) Q c1,ag mh,ag mt] _ _ bc;have aE:=R.same (aQ W2 P go #[.slice (some (ae g1 0)) Q c1,ag mh,ag mt] (fun e=>b e.symm))
     have HN:T4 (yc a ρ go n sv i H0 T0 w (.returned (.agg #[.slice (some (ae g1 0)) Q c1,ag mh,ag mt])) (W2.setRow P #[.slice (some (ae g1 0)) Q c1,ag mh,ag mt])):=by
      refine⟨by rw[a1,b3.o],_,_,aE,⟨by rw[b3.o];exact i8 _ _ _,by rw[b3.o];exact i8 _ _ _⟩,(cc.o.setH mh).setT mt,?_⟩;have a6:=bU.o.trans b8;exact⟨a6.os,a6.tape,a6.output,bh a6.size (by simp),fun q hq cE=>(aQ W2 P q _ (fun e=>by have:=cy.o;omega)).trans (a6.block q hq cE)⟩
     have b1:=aZ nR;clear s hM R b8 aE cc bU bP nR;simp only[kn,dk,nk,ep,aR,a8,Act.put,aD,aJ,aI];go_wp2_with(refine aC rfl 93 _ _ rfl _ _ rfl rfl _ _ bc (by kernel_rfl) (by simp) (by simp[Value.oneCell']) ?_)
     refine aX (v:= .agg #[.slice (some (ae g1 0)) Q c1,ag mh,ag mt]) ?_ rfl HN.o;exact bn rfl _ _ P _ _ _ _ rfl b1.o B5 rfl (by kernel_rfl)
 ·obtain⟨mh,aG⟩:=aq ((a i).1);obtain⟨mt,a0⟩:=aq ((a i).2);rw[zh,aG]at x1;rw[zt,a0]at x2;rw[a0]at h1;have cQ:0<mt:=(by omega);have nR:=aK _ _ _ #[.slice (some (ae g1 0)) Q c1,ag mh,ag mt] _ _ nA;have aE:=an.same (aQ wA P go #[.slice (some (ae g1 0)) Q c1,ag mh,ag mt] (fun e=>b e.symm));have cl:=below_setRow bA (Nat.le_of_eq bd) #[.slice (some (ae g1 0)) Q c1,ag mh,ag mt]
  have HN:T4 (yc a ρ go n sv i H0 T0 w (.returned (.agg #[.slice (some (ae g1 0)) Q c1,ag mh,ag mt])) (wA.setRow P #[.slice (some (ae g1 0)) Q c1,ag mh,ag mt])):=
   ⟨by rw[a1,aG,a0],H0,T0,aE,⟨zh,zt⟩,lT.refl aO,bp.of_below cl⟩
  have b1:=aZ nR;clear S hq aO an b9 bA zh zt hn nR aE cl h1 aG a0 cr HQ b0 IH hS hL hV hR aU;go_enter func25,ntmps25;go_wp2_with(refine aC rfl 93 _ _ rfl _ _ rfl rfl _ _ nA (by kernel_rfl) (by simp) (by simp[Value.oneCell']) ?_)
  refine aX (v:= .agg #[.slice (some (ae g1 0)) Q c1,ag mh,ag mt]) ?_ rfl HN.o;exact bn rfl _ _ P _ _ _ _ rfl b1.o B5 rfl (by kernel_rfl)
end
theorem xp (w0:World)(gm:Nat)(mp:Value)(l:List Ru)(k:Ex)(p:Option Addr)(q:Nat)(op a b:Int)(S:List (In×Value))(x:World)(h:WOk w0 gm mp S x)(hC:IM w0 gm mp l k (.slice p k.kids.length q))(hS:S.length+1+jf k<=700)(U:(bT (atP5 l) k (S.length+1)).length<=700):
  Calls prog 54 #[ab gm 0,.agg #[ag op,ag a,ag b,ag 0,af],.agg #[ag k.kind,ag k.a,ag k.b,.string ⟨k.name.toArray⟩,.slice p k.kids.length q]] x (oT w0 gm mp S (⟨op,a,b,((S.length+1+(bT (atP5 l) k (S.length+1)).length:Nat):Int),[]⟩::bT (atP5 l) k (S.length+1)) x):=by
 have az:T4 ((bT (atP5 l) k (S.length+1)).length<=700):=U;have ax:=aZ h.lt;have bA:=am x (.cells #[ag op,ag a,ag b,ag 0,af] 140);have nA:=aB x (.cells #[ag op,ag a,ag b,ag 0,af] 140);have hA:=h.below bA;obtain⟨gA,a1⟩:=aq x.heap.size;generalize a9:x.alloc (.cells #[ag op,ag a,ag b,ag 0,af] 140)=wA at*;rw[a1]at nA;have bB:=am wA (.cells #[ag k.kind,ag k.a,ag k.b,.string ⟨k.name.toArray⟩,.slice p k.kids.length q] 78);have nB:=aB wA (.cells #[ag k.kind,ag k.a,ag k.b,.string ⟨k.name.toArray⟩,.slice p k.kids.length q] 78);have hB:=hA.below bB;have ap:=ai bB nA;have aK:=hA.lt;obtain⟨gB,a2⟩:=aq wA.heap.size;generalize aA:wA.alloc (.cells #[ag k.kind,ag k.a,ag k.b,.string ⟨k.name.toArray⟩,.slice p k.kids.length q] 78)=wB at*;rw[a2]at nB;have a4:gB≠gm:=by omega
 have Q:T4 (Fr2 gm x wB):=Fr2.below ax.o (au bA bB);obtain⟨_,hgt,sv,n1,E⟩:=id hB.st;obtain⟨p0,c0,a5⟩:=dy E;subst a5;have z1:=ak 1 n1;have cP:=ws hB ⟨op,a,b,0,[]⟩ (af) (iu.nil _ _ _) (by omega);dsimp only at cP;have aQ:(0:Int)<=(S.length:Int):=by omega
 have aS:(S.length:Int)<=700:=by omega
 have ay:=aZ hgt;have aw:=aZ hB.st;clear bA bB hA hB E nA hgt n1 h;go_enter func54,ntmps54
 go_wp2_with(first
  |(refine aO rfl 140 _ rfl _ rfl _ _ _ _ ap ya rfl (by kernel_rfl) ?_))
 refine cP.mono ?_;rintro N w2 ⟨rfl,D,r⟩;have ar:=(Fr2.fr aw.o r) _ _ _ nB (by decide) a4;have cE:=hC _ w2 D (by rw[aN,eG];exact hS);unfold exV at cE;have P:=aZ (Q.o.trans r);clear cP D r z1 nB ap aA a9
 go_wp2_with(first
  |(refine aO rfl 78 _ rfl _ rfl _ _ _ _ ar d9 rfl (by kernel_rfl) ?_))
 refine cE.mono ?_;rintro e2 w3 ⟨rfl,H,y,al,C⟩;rw[aN,eG]at y;have V:=aZ y;have R:=aZ (P.o.trans C);obtain⟨⟨X,_,aC,L,i⟩,t⟩:=al;have eS:(S++[((⟨op,a,b,0,[]⟩:In),af)])++H=S++((⟨op,a,b,0,[]⟩,af)::H):=by simp
 rw[eS]at i t;obtain⟨f,I⟩:=aq ((S++(((⟨op,a,b,0,[]⟩:In),af)::H)).length);rw[I]at i;have w:T4 (f=S.length+1+H.length):=by show _=_;rw[<-I];simp;omega
 obtain⟨d,c3,a6⟩: ∃d c3,aC= .slice (some (ae d 0)) f c3:=by
  rcases i.2 with⟨_,e⟩|⟨g',cap,j,e,_⟩
  ·have:=w.o;omega
  ·exact⟨g',cap,e⟩
 subst a6;have aG:=ak 1 L;have a0:=aZ i;have z:=aZ t;have av:=aZ X
 have a3:f<=2000:=by
  have h1:=w.o;have W:=congrArg List.length y;rw[bm]at W;have h3:=az.o;omega
 have aL:(S.length:Int)<(f:Int):=by have:=w.o;omega
 have aP:(f:Int)<=2000:=by omega
 clear cE y C i t X eS I ar P Q;go_wp2_with fail;refine j3 12 [kn 18 (ab gm 0),kn 19 (ab gm 0),kn 20 (ab gm 1),kn 21 (.slice (some (ae d 0)) f c3),kn 22 (ag (S.length:Int)),kn 23 (ab gm 0),kn 24 (ab gm 0),kn 25 (ab gm 1),kn 26 (.slice (some (ae d 0)) f c3),kn 27 (ag (f:Int)),kn 28 (ab d (S.length*5)),kn 29 (ab d (S.length*5+3)),nk] (by kernel_rfl) (by kernel_rfl) fun M φ n _ A F l hl hF=> ?_;have aE:=aj A aG;simp only[kn,nk,d6,aR,a8,Act.put,aD,aJ,aI]at hl;subst hl;simp only[dz,Nat.reduceAdd]at hF;dsimp only[kn,nk,dK,fo,eD,Act.put];and_intros;all_goals first|exact trivial|intro hw hn hm K hK
 all_goals try (go_simp;with_reducible exact hK _ _ ⟨rfl,aF _ _⟩)
 clear aE;have m:=iG a0.o A;have G:=RL (f:Int) m
 have an: ∃j,n.heap[d]? =ah j 140/\S.length*5+3<j.size:=by
  rcases m.2 with⟨e,_⟩|⟨g',cap,j,e,_,hg,hn,_,hs,_⟩
  ·cases e
  ·injection e with N _ e3;injection N with N;injection N with N _ _;subst N e3;exact⟨j,hg,by omega⟩
 obtain⟨j,g,Z⟩:=an;have ck:n.cell? (ae d (S.length*5+3))=some (j[S.length*5+3]'Z):=(aW _ _ _ _ _ _ g).trans (eO Z);have yk:n.frozen? (ae d (S.length*5+3))=false:=bu _ _ _ _ _ g;have v:=ai A L
 have aa:gm≠d:=fun e=>by
  rw[e,g]at v;injection v with v;injection v with _ W _;exact absurd W (by decide)
 have n5:=(aM n ⟨d,S.length*5+3,none⟩ gm (ag (f:Int)) aa).trans v;have Y:ao w0 (n.setCell ⟨d,S.length*5+3,none⟩ (ag (f:Int))):=(au av.o A).setCell (p:=⟨d,S.length*5+3,none⟩) ((m.lt d rfl).1) _
 have s:Fr gm n (n.setCell ⟨d,S.length*5+3,none⟩ (ag (f:Int))):=fun q c T O hT _=>by
  refine(aM n ⟨d,S.length*5+3,none⟩ q _ (fun e=> ?_)).trans O;rw[show q=d from e,g]at O;injection O with O;injection O with _ W _;exact absurd W.symm hT
 have B:Fr2 gm n (n.setCell ⟨d,S.length*5+3,none⟩ (ag (f:Int))):=by
  refine⟨fun q O _ hr=>aM n ⟨d,S.length*5+3,none⟩ q _ (fun e=>hr ?_),.inl ?_,by simp⟩
  ·rw[pJ v,show q=d from e];rfl
  ·rw[pJ n5,pJ v]
 have ad:=w.o
 have HN:T4 (oT w0 gm mp S (⟨op,a,b,((S.length+1+(bT (atP5 l) k (S.length+1)).length:Nat):Int),[]⟩::bT (atP5 l) k (S.length+1)) x (.returned (.tuple #[])) (n.setCell ⟨d,S.length*5+3,none⟩ (ag (f:Int)))):=by
  refine⟨rfl,(⟨op,a,b,(f:Int),[]⟩,af)::H,?_,⟨⟨Y,ay.o,_,n5,?_⟩,fun u J=> ?_⟩,(R.o.trans (Fr2.below (aH L) A)).trans B⟩
  ·rw[cQ,V.o];have hl:=congrArg List.length V.o;rw[bm]at hl;rw[<-hl,show S.length+1+H.length=f by omega]
  ·have ac:(S++((⟨op,a,b,(f:Int),[]⟩,af)::H)).length=f:=(by simp;omega);rw[ac];exact G
  ·rcases cZ.1 J with J|J
   ·exact(((z.o u (by simp[J])).below A).fr v s)
   ·rcases bv.1 J with rfl|J
    ·exact iu.nil _ _ _
    ·exact(((z.o u (by simp[J])).below A).fr v s)
 clear m G v n5 Y s B ad g;generalize a7:n.setCell ⟨d,S.length*5+3,none⟩ (ag (f:Int))=w9 at*;go_simp;refine hK undef _ ⟨trivial,fun c=>by simp at c,fun _=> ?_⟩;simp only[ep,aR,a8,Act.put,aD,aJ,aI];clear hF hw hn hm;clear hK A ck yk a7;go_wp2_with fail;exact⟨rfl,_,eN rfl _ _ _,HN.o⟩
theorem B6: ∀(a:List (Nat->List In)) (f:Nat->List In) (b:Nat),kH (a++[f]) b=kH a b++f (b+(kH a b).length)
 |[],f,b=>by simp[kH]
 |g::a,f,b=>by
  have c:=B6 a f (b+(g b).length);show g b++kH (a++[f]) (b+(g b).length)=(g b++kH a (b+(g b).length))++_;rw[c,dw];congr 2;show f _=f (b+(g b++kH a (b+(g b).length)).length);rw[aN,<-Nat.add_assoc]
def OE (d:World)(gm:Nat)(f:Value)(l:List Ru)(sl:Value)(e:List Ex):Prop:=
 ∃g o c:Nat,sl= .slice (some (ae g o)) e.length c/\g<d.heap.size/\e.length<9223372036854775808/\ ∀(j:Nat) (k:Ex),e[j]? =some k-> ∃(p:Option Addr) (q:Nat),
  d.cell? (ae g (o+j*5))=some (ag k.kind)/\d.cell? (ae g (o+j*5+1))=some (ag k.a)/\d.cell? (ae g (o+j*5+2))=some (ag k.b)/\
  d.cell? (ae g (o+j*5+3))=some (.string ⟨k.name.toArray⟩)/\d.cell? (ae g (o+j*5+4))=some (.slice p k.kids.length q)/\IM d gm f l k (.slice p k.kids.length q)
def lw (l:List Ru)(a:List Ex)(j b:Nat):List In:=kH ((a.take j).map (bT (atP5 l))) b
theorem Fy {l:List Ru}{a:List Ex}{j b:Nat}{k:Ex}(h:a[j]? =some k):lw l a (j+1) b=lw l a j b++bT (atP5 l) k (b+(lw l a j b).length):=by
 unfold lw;rw[fF,h,dV];exact B6 _ _ _
theorem qM (E:World)(gm:Nat)(D:Value)(l:List Ru)(d:List Ex)(sl:Value)(op a:Int)(S:List (In×Value))(q:World)(h:WOk E gm D S q)(hk:OE E gm D l sl d)(L: ∀(j:Nat) (k:Ex),d[j]? =some k->S.length+(lw l d j S.length).length+jf k<=700)(N:S.length+(lw l d d.length S.length).length<=700):
  Calls prog 55 #[ab gm 0,sl,.agg #[ag op,ag a,ag 0,ag 0,af]] q (oT E gm D S (kH (d.map (bT (atP5 l))) S.length++[⟨op,a,0,0,[]⟩]) q):=by
 have X:=aZ L;have Y:=aZ N;obtain⟨g,o,c,ah,ao,ar,y⟩:=hk;subst ah;have G:=aZ y;have R:=am q (.cells #[ag op,ag a,ag 0,ag 0,af] 140);have U:=aB q (.cells #[ag op,ag a,ag 0,ag 0,af] 140);have hA:=h.below R;obtain⟨T,K⟩:=aq q.heap.size;have an:gm<T:=by rw[<-K];exact h.lt
 have W:=aZ (Fr2.below h.lt R)
 have ac:T4 (vw gm (q.alloc (.cells #[ag op,ag a,ag 0,ag 0,af] 140))≠some T):=by
  show _≠_;obtain⟨_,_,sv,n1,Q⟩:=h.st;rw[pJ (ai R n1)];intro e;have:=(Q.lt _ e).2;omega
 generalize ak:q.alloc (.cells #[ag op,ag a,ag 0,ag 0,af] 140)=wA at*;rw[K]at U;have aa:=aZ U;have HA:=aZ hA;have ad:T<wA.heap.size:=aH U;clear R U hA h L N y;go_enter func55,ntmps55;go_wp2_with fail;go_loopw [7,10] (fun _ t wr=> ∃(j:Nat) (i:List (In×Value)),t=ag (j:Int)/\j<=d.length/\i.map (fun u=>u.1)=lw l d j S.length/\WOk E gm D (S++i) wr/\Fr2 gm wA wr) (fun _ t _=>d.length-(intOf t).toNat);case atStart=>exact⟨0,[],rfl,by omega,rfl,by rw[iE];exact HA.o,Fr2.below (by omega) (aF _ _)⟩
 case round=>
  obtain⟨j,i,rfl,hj,m,f,n⟩:=hrel;clear HA ak;have ap:(0:Int)<=(j:Int):=(by omega);have p:i.length=(lw l d j S.length).length:=(by rw[<-m,bm]);by_cases ae:j<d.length
  ·have M:(j:Int)<(d.length:Int):=(by omega);obtain⟨k,s⟩: ∃k,d[j]? =some k:=⟨d[j],az ae⟩
   obtain⟨pk,ck,d0,d1,d2,d3,d4,O⟩:=G.o j k s;have C:=f.st.bel;have f0:=aj C d0;have f1:=aj C d1;have f2:=aj C d2;have f3:=aj C d3;have f4:=aj C d4;have bB:=am wr (.cells #[ag k.kind,ag k.a,ag k.b,.string ⟨k.name.toArray⟩,.slice pk k.kids.length ck] 78);have nB:=aB wr (.cells #[ag k.kind,ag k.a,ag k.b,.string ⟨k.name.toArray⟩,.slice pk k.kids.length ck] 78);have B:=f.below bB;have x:=n.trans (Fr2.below f.lt bB);have cE:=O _ _ B (by rw[aN,p];exact X.o j k s);unfold exV at cE
   have I:T4 (i.map (fun u=>u.1)++bT (atP5 l) k (S++i).length=lw l d (j+1) S.length):=by
    show _=_;rw[Fy s,m,aN,p]
   generalize al:wr.alloc (.cells #[ag k.kind,ag k.a,ag k.b,.string ⟨k.name.toArray⟩,.slice pk k.kids.length ck] 78)=wB at*;have F:=aZ x;clear d0 d1 d2 d3 d4 O s bB f n B x m C p;go_wp2_with(refine aO rfl 78 _ rfl _ rfl _ _ _ _ nB d9 rfl (by kernel_rfl) ?_)
   refine cE.mono ?_;rintro r w3 ⟨rfl,S2,J,z,v⟩
   have H:T4 (WOk E gm D (S++(i++S2)) w3):=by
    show WOk _ _ _ _ _;rw[<-dw];exact z
   have Z:T4 ((i++S2).map (fun u=>u.1)=lw l d (j+1) S.length):=by
    show _=_;rw[dV,J];exact I.o
   have V:=aZ (F.o.trans v);clear cE nB al f0 f1 f2 f3 f4 J z v I F;go_wp2_with fail;go_roundw;case rel=>exact⟨j+1,i++S2,by go_num,by omega,Z.o,H.o,V.o⟩
   case measure=>simp[intOf];omega
  ·have M: ¬(j:Int)<(d.length:Int):=(by omega);obtain rfl:j=d.length:=(by omega);have P:=(n.blk T ad (by omega) ac.o).trans aa.o;have cP:=ws f ⟨op,a,0,0,[]⟩ (af) (iu.nil _ _ _) (by rw[aN,p];have:=Y.o;omega);dsimp only at cP
   have HM:T4 (i.map (fun u=>u.1)=kH (d.map (bT (atP5 l))) S.length):=by
    show _=_;rw[m];unfold lw;rw[gI]
   have HF:=aZ (W.o.trans n);clear f n m p;go_wp2_with(refine aO rfl 140 _ rfl _ rfl _ _ _ _ P ya rfl (by kernel_rfl) ?_)
   refine cP.mono ?_;rintro r w4 ⟨rfl,A,w⟩
   have HN:T4 (oT E gm D S (kH (d.map (bT (atP5 l))) S.length++[⟨op,a,0,0,[]⟩]) q (.returned (.tuple #[])) w4):=by
    refine⟨rfl,i++[(⟨op,a,0,0,[]⟩,af)],?_,?_,HF.o.trans w⟩
    ·rw[dV,HM.o];rfl
    ·rw[<-dw];exact A
   clear cP P A w HM HF;go_wp2_with fail;exact⟨rfl,_,eN rfl _ _ _,HN.o⟩
theorem mC {l:List Ru}{ks:List Ex}{j b:Nat}(h: ∀k∈ks,OKE k):(lw l ks j b).length<=((ks.take j).map jf).sum:=by
 unfold lw;have d: ∀k∈ks.take j,OKE k:=fun k e=>h k (List.mem_of_mem_take e);generalize ks.take j=c at*;induction c generalizing b with
 |nil=>simp[kH]
 |cons k ks f=>
  have i:=(mB (atP5 l) _ k (aA _) (d k aV) b).2;have m:=f (b:=b+(bT (atP5 l) k b).length) fun g a=>d g (bj _ a);simp only[cQ,kH,aN,il];omega
theorem ud {a:List Ex}{j:Nat}{k:Ex}(h:a[j]? =some k):((a.take j).map jf).sum+jf k<=(a.map jf).sum:=by
 have b:a=a.take j++(k::a.drop (j+1)):=by
  conv=>lhs;rw[<-gZ j a]
  congr 1;have c:=(aE.1 h).1;rw[bG c,(aE.1 h).2]
 conv=>rhs;rw[b]
 rw[dV,List.sum_append,cQ,il];omega
theorem PZ {w a:World}(h:Tab w)(b:ao w a):Tab a:=kU h b
theorem B7 (C:World)(gm mb d:Nat)(l:List Ru)(e:Ex)(p:Option Addr)(c:Nat)(S:List (In×Value))(N:World)(h:WOk C gm (.map (some mb)) S N)(aC:jn C mb l)(hT:Tab C)(J:Rt e)(hn:e.name.length<=9223372036854775807)(a9:fV (fun k=>k<C.heap.size) d C (.slice p e.kids.length c) e.kids)(B:e.kids=[]\/OE C gm (.map (some mb)) l (.slice p e.kids.length c) e.kids)(av: ∀x∈nms e,0<=atP5 l x)(hS:S.length+jf e<=700):
  Calls prog 24 #[ab gm 0,.agg #[ag e.kind,ag e.a,ag e.b,.string ⟨e.name.toArray⟩,.slice p e.kids.length c]] N (oT C gm (.map (some mb)) S (bT (atP5 l) e S.length) N):=by
 have a3:=aZ a9;have bA:=am N (.cells #[ag e.kind,ag e.a,ag e.b,.string ⟨e.name.toArray⟩,.slice p e.kids.length c] 78);have nA:=aB N (.cells #[ag e.kind,ag e.a,ag e.b,.string ⟨e.name.toArray⟩,.slice p e.kids.length c] 78);have hA:=h.below bA;have a6:=Fr2.below h.lt bA;obtain⟨gE,aM⟩:=aq N.heap.size;generalize aS:N.alloc (.cells #[ag e.kind,ag e.a,ag e.b,.string ⟨e.name.toArray⟩,.slice p e.kids.length c] 78)=wA at*;rw[aM]at nA;have a7:fV (fun k=>k<C.heap.size) d wA (.slice p e.kids.length c) e.kids:=a3.o.kept fun g hg _=>hA.st.bel.block g hg;have cS:=IL d e _ wA a7;unfold exV wo at cS;have HA:=aZ hA;have a2:=aZ a6;have a4:=aZ aC;have HT:=aZ hT;clear bA hA a6 a7 h a9 aC hT;go_enter func24,ntmps24;go_wp2_with(refine aO rfl 78 _ rfl _ rfl _ _ _ _ nA d9 rfl (by kernel_rfl) ?_)
 refine cS.mono ?_;rintro r w1 ⟨rfl,b1⟩;have n:=aZ (HA.o.below b1);have E:=aZ (a2.o.trans (Fr2.below HA.o.lt b1));have I:=ai b1 nA;clear cS nA aS HA a2 b1;cases hstd:stdE e with
 |true=>
  have q:=n.o.st.bel;have cM:=Fw d e (.slice p e.kids.length c) w1 J hstd hn ((a3.o.kept fun g hg _=>q.block g hg).mono fun g hg=>aT hg q.size);unfold exV at cM;have t:=aZ (pH (num:=atP5 l) hstd S.length);have aL:=aZ (PZ HT.o q);clear q B J hn av hstd;go_wp2_with(refine aO rfl 78 _ rfl _ rfl _ _ _ _ I d9 rfl (by kernel_rfl) ?_)
  refine cM.mono ?_;rintro r w2 ⟨rfl,b2⟩;have cP:=BQ (mnE e) w2 (kU aL.o b2);have ac:=aZ (n.o.below b2);have aE:=aZ (E.o.trans (Fr2.below n.o.lt b2));clear cM I b2;go_wp2_with fail;refine cP.mono ?_;rintro r w3 ⟨⟨v3,rfl,ah⟩,_,b3⟩;have ax:=iu.of_own ah;have ad:=ac.o.below b3;have aG:=aZ (aE.o.trans (Fr2.below ac.o.lt b3));have cW:=ws ad ⟨1,0,0,0,rs (mnE e) 1440⟩ v3 ax (by omega);dsimp only at cW;obtain⟨p3,n3,c3,aQ⟩:=ax.form;subst aQ;clear cP ah ax ad b3;go_wp2_with fail;refine cW.mono ?_;rintro r Q ⟨rfl,m,i⟩;have L:T4 (oT C gm (.map (some mb)) S (bT (atP5 l) e S.length) N (.returned (.tuple #[])) Q):=⟨rfl,_,by rw[t.o];rfl,m,aG.o.trans i⟩
  clear cW m i;go_wp2_with fail;exact⟨rfl,_,eN rfl _ _ _,L.o⟩
 |false=>
  have z0:=ak 0 I;have z1:=ak 1 I;have z2:=ak 2 I;have z3:=ak 3 I;have z4:=ak 4 I;clear I hn;rcases oR J.ok hstd with⟨f,y⟩|⟨f,y⟩|⟨f,y⟩|f|⟨f,y⟩
  ·have e4:(e.kind==4)=true:=(by simp[f]);obtain⟨k,w⟩:=y;obtain⟨g,o,c',aw,ao,ap,H⟩:=B.resolve_left (by rw[w];simp);injection aw with e1 e2 e3;subst e1 e3;have O:e.kids[0]? =some k:=(by rw[w];rfl);obtain⟨pk,qk,d0,d1,d2,d3,d4,X⟩:=H 0 k O;simp only[Nat.zero_mul,Nat.add_zero]at d0 d1 d2 d3 d4;have q:=n.o.st.bel;have f0:=aj q d0;have f1:=aj q d1;have f2:=aj q d2;have f3:=aj q d3;have f4:=aj q d4;have aN:(e.kids.length:Int)=1:=(by rw[w];rfl);have V:k∈e.kids:=(by rw[w];simp)
   have au:S.length+1+jf k<=700:=by
    have:=mN e;rw[w]at this;simp only[cQ,fu,il,List.sum_nil]at this;omega
   have aP:=(mB (atP5 l) _ k (aA _) (J.ok.kid V) (S.length+1)).2;have t:=aZ (qh (num:=atP5 l) f O S.length);have al:=aZ X;clear d0 d1 d2 d3 d4 X H q B w O V J hstd ap ao;go_wp2_with fail;refine j3 8 [kn 16 (ab gm 0),kn 17 (ab gE 1),kn 18 (ag e.a),kn 19 (.agg #[ag 6,ag e.a,ag 0,ag 0,af]),kn 20 (ab gE 4),kn 21 (.slice (some (ae g o)) e.kids.length c),kn 22 (ab g o),kn 23 (.agg #[ag k.kind,ag k.a,ag k.b,.string ⟨k.name.toArray⟩,.slice pk k.kids.length qk]),td 24] (by kernel_rfl) (by kernel_rfl) fun M φ W _ v F l hl hF=> ?_;have Y:=aj v z1;have Z:=aj v z4;have aa:=aj v f0;have ay:=aj v f1;have az:=aj v f2;have a0:=aj v f3;have a1:=aj v f4;simp only[kn,td,d6,aR,a8,Act.put,aD,aJ,aI]at hl;subst hl;simp only[dz,Nat.reduceAdd]at hF;dsimp only[kn,td,dK,fo,eD,Act.put];and_intros;all_goals first|exact trivial|intro hw hn hm K U
   all_goals try (go_simp;with_reducible exact U _ _ ⟨rfl,aF _ _⟩)
   clear Y Z aa ay az a0 a1;have z:=n.o.below v;have G:=n.o.lt;have D:=xp C gm (.map (some mb)) l k pk qk 6 e.a 0 S W z al.o au (by omega);go_simp;refine D.mono ?_;rintro r Q ⟨rfl,R,s,m,i⟩;have L:T4 (oT C gm (.map (some mb)) S (bT (atP5 l) e S.length) N (.returned (.tuple #[])) Q):=⟨rfl,R,s.trans t.o.symm,m,(E.o.trans (Fr2.below G v)).trans i⟩
   refine U _ _ ⟨trivial,fun c=>by simp at c,fun _=> ?_⟩;simp only[ep,aR,a8,Act.put,aD,aJ,aI];clear hF hw hn hm;clear U v D z s m i;go_wp2_with fail;exact⟨rfl,_,eN rfl _ _ _,L.o⟩
  ·have e4:(e.kind==4)=false:=(by simp[f]);have e5:(e.kind==5)=true:=(by simp[f]);obtain⟨k,w⟩:=y;obtain⟨g,o,c',aw,ao,ap,H⟩:=B.resolve_left (by rw[w];simp);injection aw with e1 e2 e3;subst e1 e3;have O:e.kids[0]? =some k:=(by rw[w];rfl);obtain⟨pk,qk,d0,d1,d2,d3,d4,X⟩:=H 0 k O;simp only[Nat.zero_mul,Nat.add_zero]at d0 d1 d2 d3 d4;have q:=n.o.st.bel;have f0:=aj q d0;have f1:=aj q d1;have f2:=aj q d2;have f3:=aj q d3;have f4:=aj q d4;have aN:(e.kids.length:Int)=1:=(by rw[w];rfl);have V:k∈e.kids:=(by rw[w];simp)
   have au:S.length+1+jf k<=700:=by
    have:=mN e;rw[w]at this;simp only[cQ,fu,il,List.sum_nil]at this;omega
   have aP:=(mB (atP5 l) _ k (aA _) (J.ok.kid V) (S.length+1)).2;have t:=aZ (oQ (num:=atP5 l) f O S.length);have al:=aZ X;clear d0 d1 d2 d3 d4 X H q B w O V J hstd ap ao;go_wp2_with fail;refine j3 10 [kn 27 (ab gm 0),kn 28 (ab gE 1),kn 29 (ag e.a),kn 30 (ab gE 2),kn 31 (ag e.b),kn 32 (.agg #[ag 7,ag e.a,ag e.b,ag 0,af]),kn 33 (ab gE 4),kn 34 (.slice (some (ae g o)) e.kids.length c),kn 35 (ab g o),kn 36 (.agg #[ag k.kind,ag k.a,ag k.b,.string ⟨k.name.toArray⟩,.slice pk k.kids.length qk]),td 37] (by kernel_rfl) (by kernel_rfl) fun M φ W _ v F l hl hF=> ?_;have Y:=aj v z1;have Z:=aj v z2;have aa:=aj v z4;have ay:=aj v f0;have az:=aj v f1;have a0:=aj v f2;have a1:=aj v f3;have aU:=aj v f4;simp only[kn,td,d6,aR,a8,Act.put,aD,aJ,aI]at hl;subst hl;simp only[dz,Nat.reduceAdd]at hF;dsimp only[kn,td,dK,fo,eD,Act.put];and_intros;all_goals first|exact trivial|intro hw hn hm K U
   all_goals try (go_simp;with_reducible exact U _ _ ⟨rfl,aF _ _⟩)
   clear Y Z aa ay az a0 a1 aU;have z:=n.o.below v;have G:=n.o.lt;have D:=xp C gm (.map (some mb)) l k pk qk 7 e.a e.b S W z al.o au (by omega);go_simp;refine D.mono ?_;rintro r Q ⟨rfl,R,s,m,i⟩;have L:T4 (oT C gm (.map (some mb)) S (bT (atP5 l) e S.length) N (.returned (.tuple #[])) Q):=⟨rfl,R,s.trans t.o.symm,m,(E.o.trans (Fr2.below G v)).trans i⟩
   refine U _ _ ⟨trivial,fun c=>by simp at c,fun _=> ?_⟩;simp only[ep,aR,a8,Act.put,aD,aJ,aI];clear hF hw hn hm;clear U v D z s m i;go_wp2_with fail;exact⟨rfl,_,eN rfl _ _ _,L.o⟩
  ·have e4:(e.kind==4)=false:=(by simp[f]);have e5:(e.kind==5)=false:=(by simp[f]);have e9:(e.kind==9)=true:=(by simp[f]);have A:=B.resolve_left (by rw[y.choose_spec];simp);have u: ∀k∈e.kids,OKE k:=fun k B=>J.ok.kid B;have P:=mN e
   have D:=qM C gm (.map (some mb)) l e.kids _ 5 e.a S w1 n.o A (fun j k hj=>by
    have T:=mC (l:=l) (ks:=e.kids) (j:=j) (b:=S.length) u;have h2:=ud hj;omega) (by
    have T:=mC (l:=l) (ks:=e.kids) (j:=e.kids.length) (b:=S.length) u;rw[gI]at T;omega)
   have t:T4 (bT (atP5 l) e S.length=kH (e.kids.map (bT (atP5 l))) S.length++[⟨5,e.a,0,0,[]⟩]):=by
    show _=_;rw[pI hstd (by omega) (by omega) (by omega)];unfold opK;simp[f]
   clear A u P B y J hstd;go_wp2_with fail;refine D.mono ?_;rintro r Q ⟨rfl,R,s,m,i⟩;have L:T4 (oT C gm (.map (some mb)) S (bT (atP5 l) e S.length) N (.returned (.tuple #[])) Q):=⟨rfl,R,s.trans t.o.symm,m,E.o.trans i⟩
   clear D s m i;go_wp2_with fail;exact⟨rfl,_,eN rfl _ _ _,L.o⟩
  ·have e4:(e.kind==4)=false:=(by simp[f]);have e5:(e.kind==5)=false:=(by simp[f]);have e9:(e.kind==9)=false:=(by simp[f]);have an:(e.kind==10)=true:=(by simp[f])
   have zm:w1.cell? (ae gm 0)=some (.map (some mb)):=by
    obtain⟨_,_,sv,n1,_⟩:=n.o.st;exact ak 0 n1
   have aK:=aZ (av _ (wn f));have t:=aZ (qg (num:=atP5 l) f S.length);have ar:=ij a4.o;have a5:=aZ (a4.o.later (n.o.st.bel.block _ ar));have aH:=aZ (aT ar n.o.st.bel.size);clear av B J hstd ar;go_wp2_with fail;refine j3 9 [kn 49 (ab gm 0),kn 50 (ab gm 0),kn 51 (ab gm 0),kn 52 (ab gm 0),kn 53 (.map (some mb)),kn 54 (ab gE 3),kn 55 (.string ⟨e.name.toArray⟩),kn 56 (ag (atP5 l e.name)),kn 57 (.agg #[ag 8,ag (atP5 l e.name),ag 0,ag 0,af]),td 58] (by kernel_rfl) (by kernel_rfl) fun M φ W _ v F l hl hF=> ?_;have Y:=aj v zm;have Z:=aj v z3;have aa:=Ia (a5.o.later (v.block _ aH.o)) e.name aK.o;simp only[kn,td,d6,aR,a8,Act.put,aD,aJ,aI]at hl;subst hl;simp only[dz,Nat.reduceAdd]at hF;dsimp only[kn,td,dK,fo,eD,Act.put];and_intros;all_goals first|exact trivial|intro hw hn hm K U
   all_goals try (go_simp;with_reducible exact U _ _ ⟨rfl,aF _ _⟩)
   clear Y Z aa;have z:=n.o.below v;have G:=n.o.lt;have D:=ws z ⟨8,atP5 l e.name,0,0,[]⟩ (af) (iu.nil _ _ _) (by omega);dsimp only at D;go_simp;refine D.mono ?_;rintro r Q ⟨rfl,m,i⟩;have L:T4 (oT C gm (.map (some mb)) S (bT (atP5 l) e S.length) N (.returned (.tuple #[])) Q):=⟨rfl,_,by rw[t.o];rfl,m,(E.o.trans (Fr2.below G v)).trans i⟩
   refine U _ _ ⟨trivial,fun c=>by simp at c,fun _=> ?_⟩;simp only[ep,aR,a8,Act.put,aD,aJ,aI];clear hF hw hn hm;clear U v D z m i;go_wp2_with fail;exact⟨rfl,_,eN rfl _ _ _,L.o⟩
  ·rcases f with f|f|f
   ·have e4:(e.kind==4)=false:=(by simp[f]);have e5:(e.kind==5)=false:=(by simp[f]);have e9:(e.kind==9)=false:=(by simp[f]);have an:(e.kind==10)=false:=(by simp[f]);have e6:(e.kind==6)=true:=(by simp[f]);have A:=B.resolve_left (by rw[y.choose_spec.choose_spec];simp);have u: ∀k∈e.kids,OKE k:=fun k B=>J.ok.kid B;have P:=mN e
    have D:=qM C gm (.map (some mb)) l e.kids _ 2 0 S w1 n.o A (fun j k hj=>by
     have T:=mC (l:=l) (ks:=e.kids) (j:=j) (b:=S.length) u;have h2:=ud hj;omega) (by
     have T:=mC (l:=l) (ks:=e.kids) (j:=e.kids.length) (b:=S.length) u;rw[gI]at T;omega)
    have t:T4 (bT (atP5 l) e S.length=kH (e.kids.map (bT (atP5 l))) S.length++[⟨2,0,0,0,[]⟩]):=by
     show _=_;rw[pI hstd (by omega) (by omega) (by omega)];unfold opK;simp[f]
    clear A u P B y J hstd;go_wp2_with fail;refine D.mono ?_;rintro r Q ⟨rfl,R,s,m,i⟩;have L:T4 (oT C gm (.map (some mb)) S (bT (atP5 l) e S.length) N (.returned (.tuple #[])) Q):=⟨rfl,R,s.trans t.o.symm,m,E.o.trans i⟩
    clear D s m i;go_wp2_with fail;exact⟨rfl,_,eN rfl _ _ _,L.o⟩
   ·have e4:(e.kind==4)=false:=(by simp[f]);have e5:(e.kind==5)=false:=(by simp[f]);have e9:(e.kind==9)=false:=(by simp[f]);have an:(e.kind==10)=false:=(by simp[f]);have e6:(e.kind==6)=false:=(by simp[f]);have e7:(e.kind==7)=true:=(by simp[f]);have A:=B.resolve_left (by rw[y.choose_spec.choose_spec];simp);have u: ∀k∈e.kids,OKE k:=fun k B=>J.ok.kid B;have P:=mN e
    have D:=qM C gm (.map (some mb)) l e.kids _ 3 0 S w1 n.o A (fun j k hj=>by
     have T:=mC (l:=l) (ks:=e.kids) (j:=j) (b:=S.length) u;have h2:=ud hj;omega) (by
     have T:=mC (l:=l) (ks:=e.kids) (j:=e.kids.length) (b:=S.length) u;rw[gI]at T;omega)
    have t:T4 (bT (atP5 l) e S.length=kH (e.kids.map (bT (atP5 l))) S.length++[⟨3,0,0,0,[]⟩]):=by
     show _=_;rw[pI hstd (by omega) (by omega) (by omega)];unfold opK;simp[f]
    clear A u P B y J hstd;go_wp2_with fail;refine D.mono ?_;rintro r Q ⟨rfl,R,s,m,i⟩;have L:T4 (oT C gm (.map (some mb)) S (bT (atP5 l) e S.length) N (.returned (.tuple #[])) Q):=⟨rfl,R,s.trans t.o.symm,m,E.o.trans i⟩
    clear D s m i;go_wp2_with fail;exact⟨rfl,_,eN rfl _ _ _,L.o⟩
   ·have e4:(e.kind==4)=false:=(by simp[f]);have e5:(e.kind==5)=false:=(by simp[f]);have e9:(e.kind==9)=false:=(by simp[f]);have an:(e.kind==10)=false:=(by simp[f]);have e6:(e.kind==6)=false:=(by simp[f]);have e7:(e.kind==7)=false:=(by simp[f]);have e8:(e.kind==8)=true:=(by simp[f]);have A:=B.resolve_left (by rw[y.choose_spec.choose_spec];simp);have u: ∀k∈e.kids,OKE k:=fun k B=>J.ok.kid B;have P:=mN e
    have D:=qM C gm (.map (some mb)) l e.kids _ 4 0 S w1 n.o A (fun j k hj=>by
     have T:=mC (l:=l) (ks:=e.kids) (j:=j) (b:=S.length) u;have h2:=ud hj;omega) (by
     have T:=mC (l:=l) (ks:=e.kids) (j:=e.kids.length) (b:=S.length) u;rw[gI]at T;omega)
    have t:T4 (bT (atP5 l) e S.length=kH (e.kids.map (bT (atP5 l))) S.length++[⟨4,0,0,0,[]⟩]):=by
     show _=_;rw[pI hstd (by omega) (by omega) (by omega)];unfold opK;simp[f]
    clear A u P B y J hstd;go_wp2_with fail;refine D.mono ?_;rintro r Q ⟨rfl,R,s,m,i⟩;have L:T4 (oT C gm (.map (some mb)) S (bT (atP5 l) e S.length) N (.returned (.tuple #[])) Q):=⟨rfl,R,s.trans t.o.symm,m,E.o.trans i⟩
    clear D s m i;go_wp2_with fail;exact⟨rfl,_,eN rfl _ _ _,L.o⟩
theorem ND (f:World)(gm mb:Nat)(l:List Ru)(n:jn f mb l)(w:Tab f): ∀(d:Nat) (e:Ex) (sl:Value),fV (fun k=>k<f.heap.size) d f sl e.kids->Rt e->e.name.length<=9223372036854775807->(∀x∈nms e,0<=atP5 l x)->IM f gm (.map (some mb)) l e sl:=by
 intro d;induction d with
 |zero=>
  intro e sl b q t a S W h s;obtain⟨p,c,rfl⟩:=b.form;exact B7 f gm mb 0 l e p c S W h n w q t b (.inl b.1) a s
 |succ d H=>
  intro e sl b q t a S W h s;obtain⟨p,c,v⟩:=b.form;subst v;refine B7 f gm mb (d+1) l e p c S W h n w q t b ?_ a s;rcases b with⟨h,_⟩|⟨g,o,z,D,F,E,i⟩
  ·exact .inl h
  ·refine .inr ⟨g,o,z,F,D,E,fun j k y=> ?_⟩;obtain⟨u,K,c0,c1,A,B,C,r⟩:=i j k y;obtain⟨I,J,rfl⟩:=r.form;have m:=aL y;exact⟨I,J,c0,c1,A,B,C,H k _ r (q.kid m) u fun x G=>a x (wm m G)⟩
theorem Fz (C:List (List In))(ρ:Nat->Nat)(a:Nat->Int×Int)(x:tw C ρ)(o:sB (eV C a))(n e c:Nat)(A:n=C.length)(j:n<=1000)(sv:Nat->Value)(d:Nat->List (In×Value))(y: ∀k,k<n->(d k).map (fun u=>u.1)=C.getD k [])(v: ∀k,k<n->1<=(d k).length/\(d k).length<=700)(z: ∀k,k<n-> ∀u∈d k,∃p m c,u.2= .slice p m c)(g: ∀i,i<n->a i=mR C a i)(t: ∀i,i<n->1<=(a i).2):
  ∀(r i:Nat),ρ i<=r->i<n-> ∀(H T:Nat->Int) (w:World),fE e n sv H T w->(∀q,q<n->kj w (sv q) (d q))->(∀q,q<n->ρ q<=ρ i->Okm a H T q)->Calls prog 25 #[.slice (some (ae e 0)) n c,ag (i:Int)] w (yc a ρ e n sv i H T w):=by
 intro r;induction r with
 |zero=>
  intro i D hi H T w f l b;exact vy C ρ a x o n e c A j sv d y v z i hi (g i hi) (t i hi) (fun k _ B=>by omega) H T w f l b
 |succ r E=>
  intro i D hi H T w f l b;exact vy C ρ a x o n e c A j sv d y v z i hi (g i hi) (t i hi) (fun k s B H T w f l b=>E k (by omega) s H T w f l b) H T w f l b
def oU (m:Int×Int):Bool:=decide (100<m.1)||decide (20000<m.2)
def ko (m:Nat->Int×Int):Nat->Nat->Int
 |0,_=> -1
 |k+1,j=>if oU (m j)=true then(j:Int) else ko m k (j+1)
theorem FA (p:Option Addr)(a c:Nat)(h t:Int)(w:World)(j:a<=700):
  Calls prog 27 #[.agg #[.slice p a c,ag h,ag t]] w fun e n=>e= .returned (.bool (oU (h,t)))/\ao w n:=by
 have f:=am w (.cells #[.slice p a c,ag h,ag t] 93);have b:=aB w (.cells #[.slice p a c,ag h,ag t] 93);generalize m:w.alloc (.cells #[.slice p a c,ag h,ag t] 93)=q at*;have r:=ak 0 b;have s:=ak 1 b;have u:=ak 2 b;have k:(a:Int)<=700:=by omega
 by_cases g:100<h
 ·have d:T4 (oU (h,t)=true):=by show _=_;simp[oU,g]
  rw[d.o];clear b j;go_enter func27,ntmps27;go_wp2_with fail;go_ret;exact⟨rfl,f⟩
 ·by_cases i:20000<t
  ·have d:T4 (oU (h,t)=true):=(by show _=_;simp[oU,i]);rw[d.o];clear b j;go_enter func27,ntmps27;go_wp2_with fail;go_ret;exact⟨rfl,f⟩
  ·have d:T4 (oU (h,t)=false):=(by show _=_;simp[oU,g,i]);rw[d.o];have l: ¬(2000:Int)<(a:Int):=(by omega);clear b;go_enter func27,ntmps27;go_wp2_with fail;go_ret;exact⟨rfl,f⟩
theorem CJ (n z c:Nat)(sv:Nat->Value)(m:Nat->Int×Int)(w:World)(A:fE z n sv (fun k=>(m k).1) (fun k=>(m k).2) w)(q: ∀k,k<n-> ∃p s c,sv k= .slice p s c/\s<=700)(L:n<=1000):
  Calls prog 26 #[.slice (some (ae z 0)) n c,.func (.func 27) #[] #[]] w fun e J=>e= .returned (ag (ko m n 0))/\ao w J:=by
 have C:=aZ A;have v:=aZ q;have H:(n:Int)<=1000:=by omega
 clear A q;go_enter func26,ntmps26;go_wp2_with fail;go_loopw [5,8] (fun _ t wr=> ∃j:Nat,t=ag (j:Int)/\j<=n/\ko m n 0=ko m (n-j) j/\ao w wr) (fun _ t _=>n-(intOf t).toNat);case atStart=>exact⟨0,rfl,by omega,by rw[Nat.sub_zero],aF _ _⟩
 case round=>
  obtain⟨j,rfl,K,d,r⟩:=hrel;have F:(0:Int)<=(j:Int):=(by omega);by_cases g:j<n
  ·have i:(j:Int)<(n:Int):=(by omega);obtain⟨c0,c1,D,_,_⟩:=(C.o.below r).cells g;obtain⟨I,s,E,B,G⟩:=v.o j g;rw[B]at c0;rw[show n-j=(n-(j+1))+1 by omega,ko]at d;have x:=FA I s E (m j).1 (m j).2 wr G;have b:=aZ d;generalize l:oU ((m j).1,(m j).2)=y at x;have a:T4 (oU (m j)=y):=l;generalize (m j).1=M at*;generalize (m j).2=N at*;clear B d l;go_wp2_with fail;refine x.mono ?_;rintro e O ⟨rfl,b1⟩;have f:=au r b1;clear x b1 r c0 c1 D;cases y with
   |true=>
    have u:T4 (ko m n 0=(j:Int)):=(by show _=_;rw[b.o,ax a.o]);clear b a;go_wp2_with fail;go_ret;exact⟨by(rw[u.o])<;>rfl,f⟩
   |false=>
    have u:T4 (ko m n 0=ko m (n-(j+1)) (j+1)):=(by show _=_;rw[b.o,aw (by rw[a.o];simp)]);clear b a;go_wp2_with fail;go_roundw;case rel=>exact⟨j+1,by go_num,by omega,u.o,f⟩
    case measure=>simp[intOf];omega
  ·have i: ¬(j:Int)<(n:Int):=(by omega)
   have b:T4 (ko m n 0= -1):=by
    show _=_;rw[d,show n-j=0 by omega];rfl
   clear d;go_wp2_with fail;go_ret;exact⟨by(rw[b.o])<;>rfl,r⟩
theorem zW {num:List UInt8->Int}: ∀(N:Nat) (e:Ex),SizeOf.sizeOf e<=N->OKE e-> ∀(b:Nat) (x:In),x∈bT num e b->x.op=8-> ∃nm∈nms e,x.a=num nm
 |0,e,j,_,_,_,_,_=>by cases e;simp at j
 |N+1,e,j,h,b,x,c,f=>by
  have g: ∀k∈e.kids,∀b,x∈bT num k b-> ∃nm∈nms e,x.a=num nm:=fun k d b i=>by
   obtain⟨nm,l,n⟩:=zW N k (by have:=fy d;omega) (h.kid d) b x i f;exact⟨nm,wm d l,n⟩
  cases hs:stdE e with
  |true=>
   rw[pH hs,bJ]at c;subst c;exact absurd f (by show¬(1:Int)=8;omega)
  |false=>
   rcases oR h hs with⟨q,k,d⟩|⟨q,k,d⟩|⟨q,k,d⟩|q|⟨q,k,m,d⟩
   ·rw[qh q (by rw[d];rfl)]at c;rcases bv.1 c with rfl|c
    ·exact absurd f (by show¬(6:Int)=8;omega)
    ·exact g k (by rw[d];simp) _ c
   ·rw[oQ q (by rw[d];rfl)]at c;rcases bv.1 c with rfl|c
    ·exact absurd f (by show¬(7:Int)=8;omega)
    ·exact g k (by rw[d];simp) _ c
   ·rw[qL hs q d]at c;rcases cZ.1 c with c|c
    ·exact g k (by rw[d];simp) _ c
    ·rw[bJ]at c;subst c;exact absurd f (by show¬(5:Int)=8;omega)
   ·rw[qg q,bJ]at c;subst c;exact⟨_,wn q,rfl⟩
   ·rw[sA hs q d]at c;rcases cZ.1 c with c|c
    ·rcases cZ.1 c with c|c
     ·exact g k (by rw[d];simp) _ c
     ·exact g m (by rw[d];simp) _ c
    ·rw[bJ]at c;subst c;have:=GC q;exact absurd f (by show¬opK e.kind=8;omega)
theorem Ea: ∀{l:List (Int×Int)} {j:Nat},j<l.length->(iZ l)[j*2+0]? =some (ag (l.getD j (0,0)).1)/\(iZ l)[j*2+1]? =some (ag (l.getD j (0,0)).2)
 |[],_,h=>by simp at h
 |_::_,0,_=>⟨rfl,rfl⟩
 |s::l,j+1,h=>by
  have a:=Ea (l:=l) (j:=j) (by simpa using h)
  have e: ∀i,(iZ (s::l))[(j+1)*2+i]? =(iZ l)[j*2+i]? :=fun i=>by
   show(_::_::iZ l)[(j+1)*2+i]? =_;rw[show(j+1)*2+i=(j*2+i)+1+1 by omega,List.getElem?_cons_succ,List.getElem?_cons_succ]
  rw[e,e];exact a
theorem iu.row {w:World}{v:Value}{l:List (Int×Int)}(h:iu w v l):oG w v l:=by
 rcases h with h|⟨g,c,f,e,n,k,o⟩
 ·exact .inl h
 ·refine .inr (.inr ⟨g,0,c,e,n,fun j m=> ?_⟩)
  have a: ∀(i:Nat) (v:Value),j*2+i<l.length*2->(iZ l)[j*2+i]? =some v->w.cell? (ae g (0+j*2+i))=some v:=fun i v hi d=>by
   refine(aW _ _ _ _ _ _ k).trans ?_;rw[bN,<-bq];rw[<-o,dJ hi]at d;exact d
  have b:=Ea m;exact⟨by simpa using a 0 _ (by omega) b.1,a 1 _ (by omega) b.2⟩
theorem Lf {w:World}{v:Value}{S:List (In×Value)}(h:kj w v S)(l:1<=S.length)(o:S.length<=700)(n: ∀u∈S,iu w u.2 u.1.sp):pV w v (S.map fun u=>u.1):=by
 obtain⟨g,c,e,m⟩:=h.form l;refine⟨S,⟨some ⟨g,0,none⟩,c,e,by omega,fun j u a=>⟨(n u (aL a)).row,g,0,rfl,?_⟩⟩,rfl⟩;obtain⟨b,d,f,i,k⟩:=m j u a;simp only[bN];exact⟨b,d,f,i,k⟩
theorem P0 {w:World}{d n c:Nat}{sv:Nat->Value}{b:Nat->List (In×Value)}{C:List (List In)}{m:Nat->Int×Int}(s:n=C.length)(t:n<=1000)(r:fE d n sv (fun k=>(m k).1) (fun k=>(m k).2) w)(v: ∀k,k<n->kj w (sv k) (b k))(f: ∀k,k<n->1<=(b k).length/\(b k).length<=700)(x: ∀k,k<n-> ∀u∈b k,iu w u.2 u.1.sp)(p: ∀k,k<n->(b k).map (fun u=>u.1)=C.getD k []):InV w (.slice (some (ae d 0)) n c) (eV C m):=by
 refine⟨(List.range n).map fun k=>(⟨C.getD k [],(m k).1,(m k).2⟩,sv k),⟨some ⟨d,0,none⟩,c,by simp,by simp;omega,fun j u g=> ?_⟩,?_⟩
 ·rw[bf]at g;obtain⟨k,q,rfl⟩:=eU.1 g;obtain⟨l,o⟩:=aE.1 q;have e:k=j:=(by rw[<-o];simp);subst e;have a:k<n:=(by simpa using l);refine⟨?_,d,0,rfl,?_⟩
  ·have:=Lf (v k a) (f k a).1 (f k a).2 (x k a);rw[p k a]at this;exact this
  ·obtain⟨c0,c1,i,_,_⟩:=r.cells a;simp only[bN];exact⟨c0,c1,i⟩
 ·rw[iU,s];rfl
end Go.Proofs.YtpdoienkhgnceaaGreatDoor
