/- Texts of the proof. -/
import Derived.Test.YtlkehieagdkgiaaGreatDoorPr25
set_option maxRecDepth 100000
set_option maxHeartbeats 8000000
namespace Go.Proofs.YtlkehieagdkgiaaGreatDoor
open Go.Proofs.Tryz Go.RowKit Lx Vx Mx Msk
section
structure MJc (go n:Nat)(sv:Nat->Value)(H T:Nat->Int)(i:Nat)(h tt mh mt:Int)(w:World)(L:Nat->Bool)(W:World):Prop where
 st:fH go n sv (if L 14=true then upI H i mh else H) (if L 17=true then upI T i mt else T) W
 hi:i<n
 eH:H i=h
 eT:T i=tt
 kept:bo go w W
section
variable {go n i:Nat} {sv:Nat->Value} {H T:Nat->Int} {h tt mh mt:Int} {w W:World} {L:Nat->Bool}
theorem MJc.start (a:fH go n sv H T w)(hi:i<n)(eH:H i=h)(eT:T i=tt):MJc go n sv H T i h tt mh mt w (fun _=>false) w.drew:=⟨a.below (aH _ _).drew,hi,eH,eT,bo.of_below (aH _ _).drew⟩
theorem MJc.below {b:World}(a:MJc go n sv H T i h tt mh mt w L W)(c:aq W b):MJc go n sv H T i h tt mh mt w L b:=⟨a.st.below c,a.hi,a.eH,a.eT,a.kept.trans (bo.of_below c)⟩
theorem MJc.other (a:MJc go n sv H T i h tt mh mt w L W)(k:Nat)(b:k≠14)(c:k≠17):MJc go n sv H T i h tt mh mt w (fun q=>decide (k=q)||L q) W:=by
 refine⟨?_,a.hi,a.eH,a.eT,a.kept⟩;simpa[b,c] using a.st
theorem MJc.loadH (a:MJc go n sv H T i h tt mh mt w L W)(b:L 14=false):W.cell? (ae go (i*3+1))=some (ag h):=by
 have:=(a.st.cells a.hi).2.1;rw[b,ax (by simp),a.eH]at this;exact this
theorem MJc.loadT (a:MJc go n sv H T i h tt mh mt w L W)(b:L 17=false):W.cell? (ae go (i*3+2))=some (ag tt):=by
 have:=(a.st.cells a.hi).2.2.1;rw[b,ax (by simp),a.eT]at this;exact this
theorem MJc.cellH (a:MJc go n sv H T i h tt mh mt w L W): ∃v,W.cell? (ae go (i*3+1))=some (ag v)/\W.frozen? (ae go (i*3+1))=false:=⟨_,(a.st.cells a.hi).2.1,(a.st.cells a.hi).2.2.2.1⟩
theorem MJc.cellT (a:MJc go n sv H T i h tt mh mt w L W): ∃v,W.cell? (ae go (i*3+2))=some (ag v)/\W.frozen? (ae go (i*3+2))=false:=⟨_,(a.st.cells a.hi).2.2.1,(a.st.cells a.hi).2.2.2.2⟩
theorem MJc.storeH (a:MJc go n sv H T i h tt mh mt w L W)(b:L 14=false):MJc go n sv H T i h tt mh mt w (fun q=>decide (14=q)||L q) (W.setCell ⟨go,i*3+1,none⟩ (ag mh)):=by
 refine⟨?_,a.hi,a.eH,a.eT,a.kept.trans (iJ W go (i*3+1) _)⟩;have:=a.st.setH mh a.hi;simp only[b,Bool.false_eq_true,if_false]at this;simpa using this
theorem MJc.storeT (a:MJc go n sv H T i h tt mh mt w L W)(b:L 17=false):MJc go n sv H T i h tt mh mt w (fun q=>decide (17=q)||L q) (W.setCell ⟨go,i*3+2,none⟩ (ag mt)):=by
 refine⟨?_,a.hi,a.eH,a.eT,a.kept.trans (iJ W go (i*3+2) _)⟩;have:=a.st.setT mt a.hi;simp only[b,Bool.false_eq_true,if_false]at this;simpa using this
theorem MJc.fin (c:MJc go n sv H T i h tt mh mt w L W)(a:L 14=true)(b:L 17=true):fH go n sv (upI H i mh) (upI T i mt) W:=by
 have:=c.st;rw[a,b,aB rfl,aB rfl]at this;exact this
end
theorem uB (C:List (List In))(ρ:Nat->Nat)(a:Nat->Int×Int)(hR:sT C ρ)(aS:rS (eY C a))(n go c:Nat)(hn:n=C.length)(cZ:n<=1000)(sv:Nat->Value)(Ss:Nat->List (In×Value))(hS: ∀k,k<n->(Ss k).map (fun u=>u.1)=C.getD k [])(hL: ∀k,k<n->1<=(Ss k).length/\(Ss k).length<=700)(hV: ∀k,k<n-> ∀u∈Ss k,∃p m c,u.2= .slice p m c)(i:Nat)(hi:i<n)(cr:a i=mz C a i)(h1:1<=(a i).2)
  (IH: ∀k,k<n->ρ k<ρ i-> ∀(H T:Nat->Int) (w:World),fH go n sv H T w->(∀q,q<n->j7 w (sv q) (Ss q))->(∀q,q<n->ρ q<=ρ k->Okm a H T q)->Calls prog 133 #[.slice (some (ae go 0)) n c,ag (k:Int)] w (xn a ρ go n sv k H T w))
  (H0 T0:Nat->Int) (w:World) (S:fH go n sv H0 T0 w) (hq: ∀q,q<n->j7 w (sv q) (Ss q)) (aD: ∀q,q<n->ρ q<=ρ i->Okm a H0 T0 q):
  Calls prog 133 #[.slice (some (ae go 0)) n c,ag (i:Int)] w (xn a ρ go n sv i H0 T0 w):=by
 obtain⟨g1,c1,a0,_⟩:=(hq i hi).form (hL i hi).1;obtain⟨Q,bs⟩:=au ((Ss i).length);have cg:=hL i hi;rw[bs]at a0 cg;have cD:(C.getD i []).length=Q:=by rw[<-hS i hi,ba,bs]
 have c0:QR (i<C.length):=hn▸hi;have aV:=bc hn;have HQ:=bc hq;have b0:=bc S;have bA:=am w (.cells #[af,ag 0,ag 0] 195);have nA:=aG w (.cells #[af,ag 0,ag 0] 195);have an:=S.below bA;have cn:=S.lt;obtain⟨P,bh⟩:=au w.heap.size;have cy:QR (w.heap.size<=P):=jx bh;have b:P≠go:=by omega
 have b9:=bo.of_below (g:=go) bA;generalize cK:w.alloc (.cells #[af,ag 0,ag 0] 195)=wA at*;rw[bh]at nA;have x0:=(an.cells hi).1;have x1:=(an.cells hi).2.1;have x2:=(an.cells hi).2.2.1;rw[a0]at x0;have cS:(0:Int)<=(i:Int):=by omega
 have cT:(i:Int)<(n:Int):=by omega
 have cU:(n:Int)<=1000:=by omega
 rcases aD i hi (aE _) with⟨zh,zt⟩|⟨zh,zt⟩
 ·rw[zh]at x1;rw[zt]at x2;have bZ:=bc (lD.refl (n:=n) (i:=i) aD);have bW:=bc an;have bT:=bc b9;have bY:=bc nA;have cd:=bc zh;have ce:=bc zt;clear S hq aD an b9 bA zh zt hn nA;go_enter func133,ntmps133;go_wp2_with fail;clear x0 x1 x2 bh;go_loopw [6,8,9,26] (fun y _ _ t wr=> ∃(j:Nat) (H T:Nat->Int),t=ag (j:Int)/\j<=Q/\y=ag (hAt (C.getD i []) j)/\fH go n sv H T wr/\H i=mxH (eY C a) (C.getD i []) j/\T i=stS (eY C a) (C.getD i []) j/\lD a ρ n i H0 T0 H T/\bo go w wr/\wr.heap[P]? =ah #[af,ag 0,ag 0] 195) (fun _ _ _ t _=>Q-(intOf t).toNat);case atStart=>exact⟨0,H0,T0,rfl,by omega,rfl,bW.o,cd.o,ce.o,bZ.o,bT.o,bY.o⟩
  case round=>
   clear bW bT bY cd ce bZ cK;obtain⟨j,H,T,rfl,hj,rfl,aC,bb,a1,bn,a6,ao⟩:=hrel;have cV:(0:Int)<=(j:Int):=(by omega);obtain⟨y,a4⟩:=au (hAt (C.getD i []) j);obtain⟨h,bj⟩:=au (mxH (eY C a) (C.getD i []) j);obtain⟨tt,bq⟩:=au (stS (eY C a) (C.getD i []) j);have cB:=nQ (C.getD i []) j;have c9:=sJ aS (C.getD i []) j;have cA:=sK aS (C.getD i []) j;rw[a4]at cB;rw[bj]at c9 bb;rw[bq]at cA a1;rw[a4];have Z:=bc a4;have X:=bc bj;have ad:=bc bq;have Y:=bc bb;have cW:=cg.2;by_cases cX:j<Q
   ·have cp:(j:Int)<(Q:Int):=(by omega);obtain⟨u,bk⟩: ∃u,(Ss i)[j]? =some u:=⟨(Ss i)[j]'(by omega),ay (by omega)⟩
    have hx:(C.getD i [])[j]? =some u.1:=(by rw[<-hS i hi,aZ,bk];rfl);obtain⟨g',c',e',al⟩:=((HQ.o i hi).kept b0.o a6).form (hL i hi).1;rw[a0]at e';injection e' with e1 e2 e3;injection e1 with e1;injection e1 with e1 _ _;subst e1;clear e2 e3;obtain⟨d0,d1,d2,d3,d4⟩:=al j u bk;obtain⟨pv,nv,cv,cu⟩:=hV i hi u (aM bk);obtain⟨⟨op,xa,xb,xt,xs⟩,vv⟩:=u;dsimp only at d0 d1 d2 d3 d4 cu hx;subst cu;have bI:=am wr (.cells #[ag op,ag xa,ag xb,ag xt,.slice pv nv cv] 216);have nI:=aG wr (.cells #[ag op,ag xa,ag xb,ag xt,.slice pv nv cv] 216);have a7:=aC.below bI;have cm:=ai bI ao;have bB:=a6.trans (bo.of_below bI);have ch: ∀q,q<n->j7 (wr.alloc (.cells #[ag op,ag xa,ag xb,ag xt,.slice pv nv cv] 216)) (sv q) (Ss q):=fun q hq=>(HQ.o q hq).kept b0.o bB;have cn:=aC.lt;obtain⟨g8,cC⟩:=au wr.heap.size;generalize dc:wr.alloc (.cells #[ag op,ag xa,ag xb,ag xt,.slice pv nv cv] 216)=wI at*;rw[cC]at nI;have zT:=(a7.cells hi).2.2.1;have yT:=(a7.cells hi).2.2.2.2;rw[a1]at zT;have bu:=a7.setT (tt+1) hi;have d:=bc bu;have bw:=bc (bB.trans (iJ wI go (i*3+2) (ag (tt+1))));have av:=bc ((aO wI ⟨go,i*3+2,none⟩ P (ag (tt+1)) b).trans cm);have aY:=bc (lD.setT bn (tt+1));have b2:QR (∀q,q<n->j7 (wI.setCell ⟨go,i*3+2,none⟩ (ag (tt+1))) (sv q) (Ss q)):=fun q hq=>(ch q hq).kept a7 (iJ wI go (i*3+2) (ag (tt+1)));have bF:=(aO wI ⟨go,i*3+2,none⟩ g8 (ag (tt+1)) (by show g8≠go;omega)).trans nI;generalize da:wI.setCell ⟨go,i*3+2,none⟩ (ag (tt+1))=U at*;have cL:=ak 0 bF;have O:=bc hx;have aa:=bw;have V:=av;have ac:=aY;clear bI aC ao a6 ch a7 cm bB bu nI bk hx al bn bb a1 a4 bj bq;by_cases aF:op=1
    ·have e1:(op==1)=true:=(by simp[aF])
     have f:QR (hAt (C.getD i []) (j+1)=y+1):=by
      show _=_;rw[jK O.o,Z.o];unfold eff;dsimp only;rw[aB (.inl aF)];try omega
     have I:QR (max h (y+1)=mxH (eY C a) (C.getD i []) (j+1)):=by
      show _=_;rw[kP O.o,f.o,ax (by show¬op=8;omega),X.o]
     have G:QR (upI T i (tt+1) i=stS (eY C a) (C.getD i []) (j+1)):=by
      show _=_;rw[iY,j6 O.o,ax (by show¬op=8;omega),ad.o];try omega
     have zH:=(d.o.cells hi).2.1;have yH:=(d.o.cells hi).2.2.2.1;rw[Y.o]at zH;obtain⟨m1,J⟩:=au (max h (y+1));have B:=bc J;have D:=bc (d.o.setH m1 hi);have A:=bc (aa.o.trans (iJ U go (i*3+1) (ag m1)));have z:=bc ((aO U ⟨go,i*3+1,none⟩ P (ag m1) b).trans V.o);have E:=bc (ac.o.setH m1);generalize aU:U.setCell ⟨go,i*3+1,none⟩ (ag m1)=wZ at*;clear aF;go_wp2_with fail;go_roundw;case rel=>exact⟨j+1,upI H i m1,upI T i (tt+1),by go_num,by omega,by rw[f.o],D.o,(iY _ _ _).trans (B.o.symm.trans I.o),G.o,E.o,A.o,z.o⟩
     case measure=>simp[intOf];omega
    have e1:(op==1)=false:=(by simpa using aF);by_cases ap:op=2
    ·have e2:(op==2)=true:=(by simp[ap])
     have f:QR (hAt (C.getD i []) (j+1)=y-1):=by
      show _=_;rw[jK O.o,Z.o];unfold eff;dsimp only;rw[ax (by omega),aB (by omega)];try omega
     have I:QR (max h (y-1)=mxH (eY C a) (C.getD i []) (j+1)):=by
      show _=_;rw[kP O.o,f.o,ax (by show¬op=8;omega),X.o]
     have G:QR (upI T i (tt+1) i=stS (eY C a) (C.getD i []) (j+1)):=by
      show _=_;rw[iY,j6 O.o,ax (by show¬op=8;omega),ad.o];try omega
     have zH:=(d.o.cells hi).2.1;have yH:=(d.o.cells hi).2.2.2.1;rw[Y.o]at zH;obtain⟨m1,J⟩:=au (max h (y-1));have B:=bc J;have D:=bc (d.o.setH m1 hi);have A:=bc (aa.o.trans (iJ U go (i*3+1) (ag m1)));have z:=bc ((aO U ⟨go,i*3+1,none⟩ P (ag m1) b).trans V.o);have E:=bc (ac.o.setH m1);generalize aU:U.setCell ⟨go,i*3+1,none⟩ (ag m1)=wZ at*;clear ap;go_wp2_with fail;go_roundw;case rel=>exact⟨j+1,upI H i m1,upI T i (tt+1),by go_num,by omega,by rw[f.o],D.o,(iY _ _ _).trans (B.o.symm.trans I.o),G.o,E.o,A.o,z.o⟩
     case measure=>simp[intOf];omega
    have e2:(op==2)=false:=(by simpa using ap);by_cases aq:op=3
    ·have e3:(op==3)=true:=(by simp[aq])
     have f:QR (hAt (C.getD i []) (j+1)=y-1):=by
      show _=_;rw[jK O.o,Z.o];unfold eff;dsimp only;rw[ax (by omega),aB (by omega)];try omega
     have I:QR (max h (y-1)=mxH (eY C a) (C.getD i []) (j+1)):=by
      show _=_;rw[kP O.o,f.o,ax (by show¬op=8;omega),X.o]
     have G:QR (upI T i (tt+1) i=stS (eY C a) (C.getD i []) (j+1)):=by
      show _=_;rw[iY,j6 O.o,ax (by show¬op=8;omega),ad.o];try omega
     have zH:=(d.o.cells hi).2.1;have yH:=(d.o.cells hi).2.2.2.1;rw[Y.o]at zH;obtain⟨m1,J⟩:=au (max h (y-1));have B:=bc J;have D:=bc (d.o.setH m1 hi);have A:=bc (aa.o.trans (iJ U go (i*3+1) (ag m1)));have z:=bc ((aO U ⟨go,i*3+1,none⟩ P (ag m1) b).trans V.o);have E:=bc (ac.o.setH m1);generalize aU:U.setCell ⟨go,i*3+1,none⟩ (ag m1)=wZ at*;clear aq;go_wp2_with fail;go_roundw;case rel=>exact⟨j+1,upI H i m1,upI T i (tt+1),by go_num,by omega,by rw[f.o],D.o,(iY _ _ _).trans (B.o.symm.trans I.o),G.o,E.o,A.o,z.o⟩
     case measure=>simp[intOf];omega
    have e3:(op==3)=false:=(by simpa using aq);by_cases ar:op=4
    ·have e4:(op==4)=true:=(by simp[ar])
     have f:QR (hAt (C.getD i []) (j+1)=y-1):=by
      show _=_;rw[jK O.o,Z.o];unfold eff;dsimp only;rw[ax (by omega),aB (by omega)];try omega
     have I:QR (max h (y-1)=mxH (eY C a) (C.getD i []) (j+1)):=by
      show _=_;rw[kP O.o,f.o,ax (by show¬op=8;omega),X.o]
     have G:QR (upI T i (tt+1) i=stS (eY C a) (C.getD i []) (j+1)):=by
      show _=_;rw[iY,j6 O.o,ax (by show¬op=8;omega),ad.o];try omega
     have zH:=(d.o.cells hi).2.1;have yH:=(d.o.cells hi).2.2.2.1;rw[Y.o]at zH;obtain⟨m1,J⟩:=au (max h (y-1));have B:=bc J;have D:=bc (d.o.setH m1 hi);have A:=bc (aa.o.trans (iJ U go (i*3+1) (ag m1)));have z:=bc ((aO U ⟨go,i*3+1,none⟩ P (ag m1) b).trans V.o);have E:=bc (ac.o.setH m1);generalize aU:U.setCell ⟨go,i*3+1,none⟩ (ag m1)=wZ at*;clear ar;go_wp2_with fail;go_roundw;case rel=>exact⟨j+1,upI H i m1,upI T i (tt+1),by go_num,by omega,by rw[f.o],D.o,(iY _ _ _).trans (B.o.symm.trans I.o),G.o,E.o,A.o,z.o⟩
     case measure=>simp[intOf];omega
    have e4:(op==4)=false:=(by simpa using ar);by_cases x:op=8
    ·have e8:(op==8)=true:=(by simp[x]);obtain⟨cj,bd,bm⟩:=hR.lt i j _ c0.o O.o x;dsimp only at cj bd bm;obtain⟨k0,b7⟩: ∃k0:Nat,xa=(k0:Int):=⟨xa.toNat,by omega⟩
     have L:k0<n:=(by rw[aV.o];rw[b7]at bd;simpa using bd);have aR:ρ k0<ρ i:=(by rw[b7]at bm;simpa using bm);subst b7;have cR:=IH k0 L aR _ _ U d.o (fun q cF=>b2.o q cF) (aY.o.pre aR);obtain⟨h9,bi⟩:=au ((a k0).1);obtain⟨s9,bp⟩:=au ((a k0).2);have b4:=(aS.hi k0)
     have a2:=(aS.st k0)
     rw[mU (by rw[<-aV.o];exact L)]at b4 a2;dsimp only at b4 a2;rw[bi]at b4;rw[bp]at a2;unfold xn at cR;rw[bi,bp]at cR;obtain⟨gk,ck,bv,_⟩:=(b2.o k0 L).form (hL k0 L).1;rw[bv]at cR;obtain⟨lk,co⟩:=au ((Ss k0).length);rw[co]at cR;obtain⟨t9,cG⟩:=au (tt+1+s9);obtain⟨m0,cq⟩:=au (max h (y+h9));have cP:=bc cq;have a3:0<=t9/\t9<=99999999:=(by omega);have cO:IntKind.i64.wrap t9=t9:=(by rw[bO];omega);have cN:IntKind.i64.wrap (y+h9)=y+h9:=(by rw[bO];omega);have c8:=a3.1;have c7:=a3.2
     have f:QR (hAt (C.getD i []) (j+1)=y+1):=by
      show _=_;rw[jK O.o,Z.o];unfold eff;dsimp only;rw[aB (.inr x)]
     have I:QR (max m0 (y+1)=mxH (eY C a) (C.getD i []) (j+1)):=by
      show _=_;rw[kP O.o,f.o,aB x,X.o,Z.o];dsimp only;rw[cY,mU (by rw[<-aV.o];exact L),<-cq,<-bi]
     have c3:QR (t9=stS (eY C a) (C.getD i []) (j+1)):=by
      show _=_;rw[j6 O.o,aB x,ad.o,<-cG];dsimp only;rw[cY,mU (by rw[<-aV.o];exact L),<-bp]
     have cM:=ak 1 bF;clear bi bp cj bd bm x bv co;go_wp2_with fail;refine cR.mono ?_;rintro r w2 ⟨rfl,Hc,Tc,bE,bt,cs,bl⟩;obtain⟨aQ,cf,ci⟩:=aY.o.call aR hi bt cs;have cz:QR (Hc i=h):=cf.trans Y.o;have c5:QR (Tc i=tt+1):=ci.trans (iY _ _ _);have bC:=am w2 (.cells #[.slice (some (ae gk 0)) lk ck,ag h9,ag s9] 195);have n9:=aG w2 (.cells #[.slice (some (ae gk 0)) lk ck,ag h9,ag s9] 195);have bx:=bc (bE.below bC);have bR:=bc ((bw.o.trans bl).trans (bo.of_below bC));have bN:=bc ((bC.block _ (aI ((bl.block _ (aI av.o) (fun e=>b (aN e))).trans av.o))).trans ((bl.block _ (aI av.o) (fun e=>b (aN e))).trans av.o));have ca:=bc aQ;obtain⟨g9,be⟩:=au w2.heap.size;have b5:g9≠go:=(by have:=bE.lt;omega);generalize db:w2.alloc (.cells #[.slice (some (ae gk 0)) lk ck,ag h9,ag s9] 195)=w3 at*;rw[be]at n9;have bX:=bc n9;have bL:=(bx.o.cells hi).2.2.1;rw[c5.o]at bL;have br:=ak 2 n9;have G:QR (upI Tc i t9 i=stS (eY C a) (C.getD i []) (j+1)):=(iY _ _ _).trans c3.o;clear cR bE bt cs bl aQ cf ci bC n9 d b2 aY bw av bF cL cM;go_wp2_with fail;refine jS 9 [kn 55 (ab go (i*3)),kn 56 (ab go (i*3)),kn 57 (ab go (i*3+2)),kn 58 (ag (tt+1)),kn 59 (ab g9 2),kn 60 (ag s9),kn 61 (ag t9),kn 62 (ab go (i*3)),kn 63 (ab go (i*3+2)),nk] (by kernel_rfl) (by kernel_rfl) fun M φ W _ s F l hl hF=> ?_;have bG:=aj s bL;have bH:=aj s br;simp only[kn,nk,dV,aP,aT,Act.put,aA,aK,aJ]at hl;subst hl;simp only[di,Nat.reduceAdd]at hF;dsimp only[kn,nk,du,eG,dY,Act.put];and_intros;all_goals first|exact trivial|intro hw hn S K hK
     all_goals try (go_simp;with_reducible exact hK _ _ ⟨rfl,aH _ _⟩)
     clear bG bH;have N:=bc (bx.o.below s);have zq:=(N.o.cells hi).2.2.1;have yq:=(N.o.cells hi).2.2.2.2;have bD:=N.o.setT t9 hi;have bV:=bc bD;have bK:=(bD.cells hi).2.1;rw[cz.o]at bK;have bS:=bc ((bR.o.trans (bo.of_below s)).trans (iJ W go (i*3+2) (ag t9)));have bP:=bc ((aO W ⟨go,i*3+2,none⟩ P (ag t9) b).trans (ai s bN.o));have cb:=bc (ca.o.setT t9);have cw:=(aO W ⟨go,i*3+2,none⟩ g9 (ag t9) b5).trans (ai s bX.o);generalize cH:W.setCell ⟨go,i*3+2,none⟩ (ag t9)=w4 at*;have bJ:=ak 1 cw;go_simp;refine hK undef _ ⟨trivial,fun c=>by simp at c,fun _=> ?_⟩;simp only[d7,aP,aT,Act.put,aA,aK,aJ];clear hF hw hn S;clear hK s zq yq cH bL br bx bR bN ca N cw bX bD;have br:=bJ;go_wp2_with fail;refine jS 12 [kn 64 (ab go (i*3)),kn 65 (ab go (i*3)),kn 66 (ab go (i*3)),kn 67 (ab go (i*3+1)),kn 68 (ag h),kn 69 (ag y),kn 70 (ab g9 1),kn 71 (ag h9),kn 72 (ag (y+h9)),kn 73 (ag m0),kn 74 (ab go (i*3)),kn 75 (ab go (i*3+1)),nk] (by kernel_rfl) (by kernel_rfl) fun M φ W _ s F ll hl hF=> ?_;have bG:=aj s bK;have bH:=aj s bJ;simp only[kn,nk,dV,aP,aT,Act.put,aA,aK,aJ]at hl;subst hl;simp only[di,Nat.reduceAdd]at hF;dsimp only[kn,nk,du,eG,dY,Act.put];and_intros;all_goals first|exact trivial|intro hw hn S K hK
     all_goals try (go_simp;with_reducible exact hK _ _ ⟨rfl,aH _ _⟩)
     clear bG bH;have N:=bc (bV.o.below s);have zq:=(N.o.cells hi).2.1;have yq:=(N.o.cells hi).2.2.2.1;have bz:=bc (N.o.setH m0 hi);have c2:=bc ((bS.o.trans (bo.of_below s)).trans (iJ W go (i*3+1) (ag m0)));have cx:=bc ((aO W ⟨go,i*3+1,none⟩ P (ag m0) b).trans (ai s bP.o));have ac:=bc (cb.o.setH m0);generalize cI:W.setCell ⟨go,i*3+1,none⟩ (ag m0)=w5 at*;go_simp;refine hK undef _ ⟨trivial,(fun c=>by simp at c),fun _=> ?_⟩;simp only[d7,aP,aT,Act.put,aA,aK,aJ];clear hK hF hw hn S s zq yq cI bK bJ br bV bS bP cb N;have aa:=c2;have V:=cx;have ct:upI Hc i m0 i=m0:=iY _ _ _;have c6:=bc ct;clear ct;have zH:=(bz.o.cells hi).2.1;have yH:=(bz.o.cells hi).2.2.2.1;rw[c6.o]at zH;obtain⟨m1,J⟩:=au (max m0 (y+1));have B:=bc J;have D:=bc (bz.o.setH m1 hi);have A:=bc (aa.o.trans (iJ w5 go (i*3+1) (ag m1)));have z:=bc ((aO w5 ⟨go,i*3+1,none⟩ P (ag m1) b).trans V.o);have E:=bc (ac.o.setH m1);generalize aU:w5.setCell ⟨go,i*3+1,none⟩ (ag m1)=wZ at*;go_wp2_with fail;go_roundw;case rel=>exact⟨j+1,upI (upI Hc i m0) i m1,upI Tc i t9,by go_num,by omega,by rw[f.o],D.o,(iY _ _ _).trans (B.o.symm.trans I.o),G.o,E.o,A.o,z.o⟩
     case measure=>simp[intOf];omega
    have e8:(op==8)=false:=(by simpa using x)
    have f:QR (hAt (C.getD i []) (j+1)=y):=by
     show _=_;rw[jK O.o,Z.o];unfold eff;dsimp only;rw[ax (by omega),ax (by omega)];simp
    have I:QR (max h (y)=mxH (eY C a) (C.getD i []) (j+1)):=by
     show _=_;rw[kP O.o,f.o,ax (by show¬op=8;omega),X.o]
    have G:QR (upI T i (tt+1) i=stS (eY C a) (C.getD i []) (j+1)):=by
     show _=_;rw[iY,j6 O.o,ax (by show¬op=8;omega),ad.o];try omega
    have zH:=(d.o.cells hi).2.1;have yH:=(d.o.cells hi).2.2.2.1;rw[Y.o]at zH;obtain⟨m1,J⟩:=au (max h (y));have B:=bc J;have D:=bc (d.o.setH m1 hi);have A:=bc (aa.o.trans (iJ U go (i*3+1) (ag m1)));have z:=bc ((aO U ⟨go,i*3+1,none⟩ P (ag m1) b).trans V.o);have E:=bc (ac.o.setH m1);generalize aU:U.setCell ⟨go,i*3+1,none⟩ (ag m1)=wZ at*;clear aF ap aq ar x;go_wp2_with fail;go_roundw;case rel=>exact⟨j+1,upI H i m1,upI T i (tt+1),by go_num,by omega,by rw[f.o],D.o,(iY _ _ _).trans (B.o.symm.trans I.o),G.o,E.o,A.o,z.o⟩
    case measure=>simp[intOf];omega
   ·have cp: ¬(j:Int)<(Q:Int):=(by omega);obtain rfl:Q=j:=(by omega);obtain⟨mh,a9⟩:=au (min h 101);obtain⟨mt,aw⟩:=au (min tt 20001)
    have b3:QR (a i=(mh,mt)):=by
     show _=_;rw[cr];unfold mz;rw[cD,X.o,ad.o,a9,aw]
    have c4:=bc a1;have bQ:=bc aC;have cc:=bc bn;have bU:=bc a6;have bM:=bc ao;clear aC bn a6 ao a4 bj bq bb a1;go_wp2_with fail;refine dh (fun M _ W=>MJc go n sv H T i h tt mh mt wr M W) [kn 88 (ab go (i*3)),kn 89 (ab go (i*3)),kn 90 (ab go (i*3)),kn 91 (ab go (i*3)),kn 92 (ab go (i*3+1)),dk 93 (ag h),dk 94 (ag mh),kn 95 (ab go (i*3)),kn 96 (ab go (i*3)),kn 97 (ab go (i*3+2)),dk 98 (ag tt),dk 99 (ag mt),kn 100 (ab go (i*3)),kn 101 (ab go (i*3+1)),nk,kn 102 (ab go (i*3)),kn 103 (ab go (i*3+2)),nk] (fun _=>MJc.start bQ.o hi Y.o c4.o) (fun _ _ _ _ hb h=>h.below hb) (by kernel_rfl) (fun M φ W2 s al F ll hl hF=> ?_) (fun M φ W2 hM s=> ?_)
    ·simp only[kn,dk,nk,dV,aP,aT,Act.put,aA,aK,aJ]at hl;subst hl;simp only[di,Nat.reduceAdd]at hF;dsimp only[kn,dk,nk,du,eG,dY,Act.put];and_intros;all_goals first|exact trivial|intro hw hn S K hK
     all_goals try (go_simp;with_reducible exact hK _ _ ⟨rfl,aH _ _⟩)
     ·have zz:=s.loadH (by
       cases q:M 14 with
       |false=>rfl
       |true=>rw[al 6 _ rfl (al 14 _ rfl q ⟨6,.data⟩ (by simp) rfl rfl) ⟨5,.data⟩ (by simp) rfl rfl]at S;cases S)
      go_simp;exact hK _ _ ⟨rfl,s.other 5 (by decide) (by decide)⟩
     ·go_simp;exact hK _ _ ⟨rfl,s.other 6 (by decide) (by decide)⟩
     ·have zz:=s.loadT (by
       cases q:M 17 with
       |false=>rfl
       |true=>rw[al 11 _ rfl (al 17 _ rfl q ⟨11,.data⟩ (by simp) rfl rfl) ⟨10,.data⟩ (by simp) rfl rfl]at S;cases S)
      go_simp;exact hK _ _ ⟨rfl,s.other 10 (by decide) (by decide)⟩
     ·go_simp;exact hK _ _ ⟨rfl,s.other 11 (by decide) (by decide)⟩
     ·obtain⟨v9,zz,yy⟩:=s.cellH;have b6:=s.storeH S;generalize cJ:W2.setCell ⟨go,i*3+1,none⟩ (ag mh)=w9 at*;go_simp;exact hK undef _ ⟨trivial,b6⟩
     ·obtain⟨v9,zz,yy⟩:=s.cellT;have b6:=s.storeT S;generalize cJ:W2.setCell ⟨go,i*3+2,none⟩ (ag mt)=w9 at*;go_simp;exact hK undef _ ⟨trivial,b6⟩
    ·have R:=s.fin (hM 14 (by decide) rfl) (hM 17 (by decide) rfl);have b8:=s.kept;have be:=(b8.block _ (aI bM.o) (fun e=>b (aN e))).trans bM.o;have y0:=(R.cells hi).1;have y1:=(R.cells hi).2.1;have y2:=(R.cells hi).2.2.1;rw[iY]at y1 y2;rw[a0]at y0;have nR:=aL _ _ _ #[.slice (some (ae g1 0)) Q c1,ag mh,ag mt] _ _ be;have a8:=R.same (aW W2 P go #[.slice (some (ae g1 0)) Q c1,ag mh,ag mt] (fun e=>b e.symm))
     have HN:QR (xn a ρ go n sv i H0 T0 w (.returned (.agg #[.slice (some (ae g1 0)) Q c1,ag mh,ag mt])) (W2.setRow P #[.slice (some (ae g1 0)) Q c1,ag mh,ag mt])):=by
      refine⟨by rw[a0,b3.o],_,_,a8,⟨by rw[b3.o];exact iY _ _ _,by rw[b3.o];exact iY _ _ _⟩,(cc.o.setH mh).setT mt,?_⟩;have a5:=bU.o.trans b8;exact⟨a5.os,a5.tape,a5.output,bg a5.size (by simp),fun q hq cE=>(aW W2 P q _ (fun e=>by have:=cy.o;omega)).trans (a5.block q hq cE)⟩
     have b1:=bc nR;clear s hM R b8 a8 cc bU bQ nR;simp only[kn,dk,nk,d7,aP,aT,Act.put,aA,aK,aJ];go_wp2_with(refine az rfl 195 _ _ rfl _ _ rfl rfl _ _ be (by kernel_rfl) (by simp) (by simp[Value.oneCell']) ?_)
     refine aX (v:= .agg #[.slice (some (ae g1 0)) Q c1,ag mh,ag mt]) ?_ rfl HN.o;exact bf rfl _ _ P _ _ _ _ rfl b1.o A4 rfl (by kernel_rfl)
 ·obtain⟨mh,a9⟩:=au ((a i).1);obtain⟨mt,aw⟩:=au ((a i).2);rw[zh,a9]at x1;rw[zt,aw]at x2;rw[aw]at h1;have cQ:0<mt:=(by omega);have nR:=aL _ _ _ #[.slice (some (ae g1 0)) Q c1,ag mh,ag mt] _ _ nA;have a8:=an.same (aW wA P go #[.slice (some (ae g1 0)) Q c1,ag mh,ag mt] (fun e=>b e.symm));have cl:=below_setRow bA (jx bh) #[.slice (some (ae g1 0)) Q c1,ag mh,ag mt]
  have HN:QR (xn a ρ go n sv i H0 T0 w (.returned (.agg #[.slice (some (ae g1 0)) Q c1,ag mh,ag mt])) (wA.setRow P #[.slice (some (ae g1 0)) Q c1,ag mh,ag mt])):=
   ⟨by rw[a0,a9,aw],H0,T0,a8,⟨zh,zt⟩,lD.refl aD,bo.of_below cl⟩
  have b1:=bc nR;clear S hq aD an b9 bA zh zt hn nR a8 cl h1 a9 aw cr HQ b0 IH hS hL hV hR aS;go_enter func133,ntmps133;go_wp2_with(refine az rfl 195 _ _ rfl _ _ rfl rfl _ _ nA (by kernel_rfl) (by simp) (by simp[Value.oneCell']) ?_)
  refine aX (v:= .agg #[.slice (some (ae g1 0)) Q c1,ag mh,ag mt]) ?_ rfl HN.o;exact bf rfl _ _ P _ _ _ _ rfl b1.o A4 rfl (by kernel_rfl)
end
theorem v6 (w0:World)(gm:Nat)(mp:Value)(l:List Ru)(k:Ex)(p:Option Addr)(q:Nat)(op a b:Int)(S:List (In×Value))(w:World)(h:WOk w0 gm mp S w)(hC:Gn w0 gm mp l k (.slice p k.kids.length q))(hS:S.length+1+jf k<=700)(R:(cj (atP5 l) k (S.length+1)).length<=700):
  Calls prog 159 #[ab gm 0,.agg #[ag op,ag a,ag b,ag 0,af],.agg #[ag k.kind,ag k.a,ag k.b,.string ⟨k.name.toArray⟩,.slice p k.kids.length q]] w (oy w0 gm mp S (⟨op,a,b,((S.length+1+(cj (atP5 l) k (S.length+1)).length:Nat):Int),[]⟩::cj (atP5 l) k (S.length+1)) w):=by
 have ay:QR ((cj (atP5 l) k (S.length+1)).length<=700):=R;have av:=bc h.lt;have bA:=am w (.cells #[ag op,ag a,ag b,ag 0,af] 216);have nA:=aG w (.cells #[ag op,ag a,ag b,ag 0,af] 216);have hA:=h.below bA;obtain⟨gA,a0⟩:=au w.heap.size;generalize a7:w.alloc (.cells #[ag op,ag a,ag b,ag 0,af] 216)=wA at*;rw[a0]at nA;have bB:=am wA (.cells #[ag k.kind,ag k.a,ag k.b,.string ⟨k.name.toArray⟩,.slice p k.kids.length q] 84);have nB:=aG wA (.cells #[ag k.kind,ag k.a,ag k.b,.string ⟨k.name.toArray⟩,.slice p k.kids.length q] 84);have hB:=hA.below bB;have an:=ai bB nA;have aE:=hA.lt;obtain⟨gB,a1⟩:=au wA.heap.size;generalize a9:wA.alloc (.cells #[ag k.kind,ag k.a,ag k.b,.string ⟨k.name.toArray⟩,.slice p k.kids.length q] 84)=wB at*;rw[a1]at nB;have a3:gB≠gm:=by omega
 have P:QR (Fr2 gm w wB):=Fr2.below av.o (aw bA bB);obtain⟨_,hgt,sv,n1,D⟩:=id hB.st;obtain⟨p0,c0,a4⟩:=bK D;subst a4;have z1:=ak 1 n1;have cP:=vJ hB ⟨op,a,b,0,[]⟩ (af) (ik.nil _ _ _) (by omega);dsimp only at cP;have aM:(0:Int)<=(S.length:Int):=by omega
 have aN:(S.length:Int)<=700:=by omega
 have ax:=bc hgt;have ar:=bc hB.st;clear bA bB hA hB D nA hgt n1 h;go_enter func159,ntmps159
 go_wp2_with(first
  |(refine aR rfl 216 _ rfl _ rfl _ _ _ _ an xm rfl (by kernel_rfl) ?_))
 refine cP.mono ?_;rintro L w2 ⟨rfl,C,n⟩;have ao:=(Fr2.fr ar.o n) _ _ _ nB (by decide) a3;have cE:=hC _ w2 C (by rw[aQ,dZ];exact hS);unfold exV at cE;have O:=bc (P.o.trans n);clear cP C n z1 nB an a9 a7
 go_wp2_with(first
  |(refine aR rfl 84 _ rfl _ rfl _ _ _ _ ao fh rfl (by kernel_rfl) ?_))
 refine cE.mono ?_;rintro e2 w3 ⟨rfl,G,x,ad,B⟩;rw[aQ,dZ]at x;have U:=bc x;have Q:=bc (O.o.trans B);obtain⟨⟨W,_,aB,J,own3⟩,s⟩:=ad;have eS:(S++[((⟨op,a,b,0,[]⟩:In),af)])++G=S++((⟨op,a,b,0,[]⟩,af)::G):=by simp
 rw[eS]at own3 s;obtain⟨f,H⟩:=au ((S++(((⟨op,a,b,0,[]⟩:In),af)::G)).length);rw[H]at own3;have v:QR (f=S.length+1+G.length):=by show _=_;rw[<-H];simp;omega
 obtain⟨d,c3,a5⟩: ∃d c3,aB= .slice (some (ae d 0)) f c3:=by
  rcases own3.2 with⟨_,e⟩|⟨g',cap,i,e,_⟩
  ·have:=v.o;omega
  ·exact⟨g',cap,e⟩
 subst a5;have aD:=ak 1 J;have az:=bc own3;have y:=bc s;have ap:=bc W
 have a2:f<=2000:=by
  have h1:=v.o;have V:=congrArg List.length x;rw[ba]at V;have h3:=ay.o;omega
 have aF:(S.length:Int)<(f:Int):=by have:=v.o;omega
 have aL:(f:Int)<=2000:=by omega
 clear cE x B own3 s W eS H ao O P;go_wp2_with fail;refine jS 12 [kn 18 (ab gm 0),kn 19 (ab gm 0),kn 20 (ab gm 1),kn 21 (.slice (some (ae d 0)) f c3),kn 22 (ag (S.length:Int)),kn 23 (ab gm 0),kn 24 (ab gm 0),kn 25 (ab gm 1),kn 26 (.slice (some (ae d 0)) f c3),kn 27 (ag (f:Int)),kn 28 (ab d (S.length*5)),kn 29 (ab d (S.length*5+3)),nk] (by kernel_rfl) (by kernel_rfl) fun M φ m _ z F l hl hF=> ?_;have aC:=aj z aD;simp only[kn,nk,dV,aP,aT,Act.put,aA,aK,aJ]at hl;subst hl;simp only[di,Nat.reduceAdd]at hF;dsimp only[kn,nk,du,eG,dY,Act.put];and_intros;all_goals first|exact trivial|intro hw hn hm K hK
 all_goals try (go_simp;with_reducible exact hK _ _ ⟨rfl,aH _ _⟩)
 clear aC;have j:=iy az.o z;have E:=O6 (f:Int) j
 have al: ∃i,m.heap[d]? =ah i 216/\S.length*5+3<i.size:=by
  rcases j.2 with⟨e,_⟩|⟨g',cap,i,e,_,hg,hn,_,hs,_⟩
  ·cases e
  ·injection e with L _ e3;injection L with L;injection L with L _ _;subst L e3;exact⟨i,hg,by omega⟩
 obtain⟨i,g,Y⟩:=al;have ck:m.cell? (ae d (S.length*5+3))=some (i[S.length*5+3]'Y):=(a8 _ _ _ _ _ _ g).trans (fW Y);have yk:m.frozen? (ae d (S.length*5+3))=false:=bn _ _ _ _ _ g;have t:=ai z J
 have Z:gm≠d:=fun e=>by
  rw[e,g]at t;injection t with t;injection t with _ V _;exact absurd V (by decide)
 have n5:=(aO m ⟨d,S.length*5+3,none⟩ gm (ag (f:Int)) Z).trans t;have X:aq w0 (m.setCell ⟨d,S.length*5+3,none⟩ (ag (f:Int))):=(aw ap.o z).setCell (p:=⟨d,S.length*5+3,none⟩) ((j.lt d rfl).1) _
 have r:Fr gm m (m.setCell ⟨d,S.length*5+3,none⟩ (ag (f:Int))):=fun q c T N hT _=>by
  refine(aO m ⟨d,S.length*5+3,none⟩ q _ (fun e=> ?_)).trans N;rw[show q=d from e,g]at N;injection N with N;injection N with _ V _;exact absurd V.symm hT
 have A:Fr2 gm m (m.setCell ⟨d,S.length*5+3,none⟩ (ag (f:Int))):=by
  refine⟨fun q N _ hr=>aO m ⟨d,S.length*5+3,none⟩ q _ (fun e=>hr ?_),.inl ?_,by simp⟩
  ·rw[o5 t,show q=d from e];rfl
  ·rw[o5 n5,o5 t]
 have ac:=v.o
 have HN:QR (oy w0 gm mp S (⟨op,a,b,((S.length+1+(cj (atP5 l) k (S.length+1)).length:Nat):Int),[]⟩::cj (atP5 l) k (S.length+1)) w (.returned (.tuple #[])) (m.setCell ⟨d,S.length*5+3,none⟩ (ag (f:Int)))):=by
  refine⟨rfl,(⟨op,a,b,(f:Int),[]⟩,af)::G,?_,⟨⟨X,ax.o,_,n5,?_⟩,fun u I=> ?_⟩,(Q.o.trans (Fr2.below (aI J) z)).trans A⟩
  ·rw[dK,U.o];have hl:=congrArg List.length U.o;rw[ba]at hl;rw[<-hl,show S.length+1+G.length=f by omega]
  ·have aa:(S++((⟨op,a,b,(f:Int),[]⟩,af)::G)).length=f:=(by simp;omega);rw[aa];exact E
  ·rcases cg.1 I with I|I
   ·exact(((y.o u (by simp[I])).below z).fr t r)
   ·rcases bz.1 I with rfl|I
    ·exact ik.nil _ _ _
    ·exact(((y.o u (by simp[I])).below z).fr t r)
 clear j E t n5 X r A ac g;generalize a6:m.setCell ⟨d,S.length*5+3,none⟩ (ag (f:Int))=w9 at*;go_simp;refine hK undef _ ⟨trivial,fun c=>by simp at c,fun _=> ?_⟩;simp only[d7,aP,aT,Act.put,aA,aK,aJ];clear hF hw hn hm;clear hK z ck yk a6;go_wp2_with fail;exact⟨rfl,_,eQ rfl _ _ _,HN.o⟩
theorem A5: ∀(a:List (Nat->List In)) (f:Nat->List In) (b:Nat),ko (a++[f]) b=ko a b++f (b+(ko a b).length)
 |[],f,b=>by simp[ko]
 |g::a,f,b=>by
  have c:=A5 a f (b+(g b).length);show g b++ko (a++[f]) (b+(g b).length)=(g b++ko a (b+(g b).length))++_;rw[c,d8];congr 2;show f _=f (b+(g b++ko a (b+(g b).length)).length);rw[aQ,<-Nat.add_assoc]
def LY (d:World)(gm:Nat)(f:Value)(l:List Ru)(sl:Value)(e:List Ex):Prop:=
 ∃g o c:Nat,sl= .slice (some (ae g o)) e.length c/\g<d.heap.size/\e.length<9223372036854775808/\ ∀(j:Nat) (k:Ex),e[j]? =some k-> ∃(p:Option Addr) (q:Nat),
  d.cell? (ae g (o+j*5))=some (ag k.kind)/\d.cell? (ae g (o+j*5+1))=some (ag k.a)/\d.cell? (ae g (o+j*5+2))=some (ag k.b)/\
  d.cell? (ae g (o+j*5+3))=some (.string ⟨k.name.toArray⟩)/\d.cell? (ae g (o+j*5+4))=some (.slice p k.kids.length q)/\Gn d gm f l k (.slice p k.kids.length q)
def li (l:List Ru)(a:List Ex)(j b:Nat):List In:=ko ((a.take j).map (cj (atP5 l))) b
theorem DY {l:List Ru}{a:List Ex}{j b:Nat}{k:Ex}(h:a[j]? =some k):li l a (j+1) b=li l a j b++cj (atP5 l) k (b+(li l a j b).length):=by
 unfold li;rw[eR,h,dW];exact A5 _ _ _
theorem qr (E:World)(gm:Nat)(D:Value)(l:List Ru)(d:List Ex)(sl:Value)(op a:Int)(S:List (In×Value))(q:World)(h:WOk E gm D S q)(hk:LY E gm D l sl d)(L: ∀(j:Nat) (k:Ex),d[j]? =some k->S.length+(li l d j S.length).length+jf k<=700)(N:S.length+(li l d d.length S.length).length<=700):
  Calls prog 160 #[ab gm 0,sl,.agg #[ag op,ag a,ag 0,ag 0,af]] q (oy E gm D S (ko (d.map (cj (atP5 l))) S.length++[⟨op,a,0,0,[]⟩]) q):=by
 have X:=bc L;have Y:=bc N;obtain⟨g,o,c,ah,ao,aq,y⟩:=hk;subst ah;have G:=bc y;have R:=am q (.cells #[ag op,ag a,ag 0,ag 0,af] 216);have U:=aG q (.cells #[ag op,ag a,ag 0,ag 0,af] 216);have hA:=h.below R;obtain⟨T,K⟩:=au q.heap.size;have an:gm<T:=by rw[<-K];exact h.lt
 have W:=bc (Fr2.below h.lt R)
 have ac:QR (uA gm (q.alloc (.cells #[ag op,ag a,ag 0,ag 0,af] 216))≠some T):=by
  show _≠_;obtain⟨_,_,sv,n1,Q⟩:=h.st;rw[o5 (ai R n1)];intro e;have:=(Q.lt _ e).2;omega
 generalize ak:q.alloc (.cells #[ag op,ag a,ag 0,ag 0,af] 216)=wA at*;rw[K]at U;have aa:=bc U;have HA:=bc hA;have ad:T<wA.heap.size:=aI U;clear R U hA h L N y;go_enter func160,ntmps160;go_wp2_with fail;go_loopw [7,10] (fun _ t wr=> ∃(j:Nat) (i:List (In×Value)),t=ag (j:Int)/\j<=d.length/\i.map (fun u=>u.1)=li l d j S.length/\WOk E gm D (S++i) wr/\Fr2 gm wA wr) (fun _ t _=>d.length-(intOf t).toNat);case atStart=>exact⟨0,[],rfl,by omega,rfl,by rw[gu];exact HA.o,Fr2.below (by omega) (aH _ _)⟩
 case round=>
  obtain⟨j,i,rfl,hj,m,f,n⟩:=hrel;clear HA ak;have ap:(0:Int)<=(j:Int):=(by omega);have p:i.length=(li l d j S.length).length:=(by rw[<-m,ba]);by_cases ae:j<d.length
  ·have M:(j:Int)<(d.length:Int):=(by omega);obtain⟨k,s⟩: ∃k,d[j]? =some k:=⟨d[j],ay ae⟩
   obtain⟨pk,ck,d0,d1,d2,d3,d4,O⟩:=G.o j k s;have C:=f.st.bel;have f0:=aj C d0;have f1:=aj C d1;have f2:=aj C d2;have f3:=aj C d3;have f4:=aj C d4;have bB:=am wr (.cells #[ag k.kind,ag k.a,ag k.b,.string ⟨k.name.toArray⟩,.slice pk k.kids.length ck] 84);have nB:=aG wr (.cells #[ag k.kind,ag k.a,ag k.b,.string ⟨k.name.toArray⟩,.slice pk k.kids.length ck] 84);have B:=f.below bB;have x:=n.trans (Fr2.below f.lt bB);have cE:=O _ _ B (by rw[aQ,p];exact X.o j k s);unfold exV at cE
   have I:QR (i.map (fun u=>u.1)++cj (atP5 l) k (S++i).length=li l d (j+1) S.length):=by
    show _=_;rw[DY s,m,aQ,p]
   generalize al:wr.alloc (.cells #[ag k.kind,ag k.a,ag k.b,.string ⟨k.name.toArray⟩,.slice pk k.kids.length ck] 84)=wB at*;have F:=bc x;clear d0 d1 d2 d3 d4 O s bB f n B x m C p;go_wp2_with(refine aR rfl 84 _ rfl _ rfl _ _ _ _ nB fh rfl (by kernel_rfl) ?_)
   refine cE.mono ?_;rintro r w3 ⟨rfl,S2,J,z,v⟩
   have H:QR (WOk E gm D (S++(i++S2)) w3):=by
    show WOk _ _ _ _ _;rw[<-d8];exact z
   have Z:QR ((i++S2).map (fun u=>u.1)=li l d (j+1) S.length):=by
    show _=_;rw[dW,J];exact I.o
   have V:=bc (F.o.trans v);clear cE nB al f0 f1 f2 f3 f4 J z v I F;go_wp2_with fail;go_roundw;case rel=>exact⟨j+1,i++S2,by go_num,by omega,Z.o,H.o,V.o⟩
   case measure=>simp[intOf];omega
  ·have M: ¬(j:Int)<(d.length:Int):=(by omega);obtain rfl:j=d.length:=(by omega);have P:=(n.blk T ad (by omega) ac.o).trans aa.o;have cP:=vJ f ⟨op,a,0,0,[]⟩ (af) (ik.nil _ _ _) (by rw[aQ,p];have:=Y.o;omega);dsimp only at cP
   have HM:QR (i.map (fun u=>u.1)=ko (d.map (cj (atP5 l))) S.length):=by
    show _=_;rw[m];unfold li;rw[gz]
   have HF:=bc (W.o.trans n);clear f n m p;go_wp2_with(refine aR rfl 216 _ rfl _ rfl _ _ _ _ P xm rfl (by kernel_rfl) ?_)
   refine cP.mono ?_;rintro r w4 ⟨rfl,A,w⟩
   have HN:QR (oy E gm D S (ko (d.map (cj (atP5 l))) S.length++[⟨op,a,0,0,[]⟩]) q (.returned (.tuple #[])) w4):=by
    refine⟨rfl,i++[(⟨op,a,0,0,[]⟩,af)],?_,?_,HF.o.trans w⟩
    ·rw[dW,HM.o];rfl
    ·rw[<-d8];exact A
   clear cP P A w HM HF;go_wp2_with fail;exact⟨rfl,_,eQ rfl _ _ _,HN.o⟩
end Go.Proofs.YtlkehieagdkgiaaGreatDoor
