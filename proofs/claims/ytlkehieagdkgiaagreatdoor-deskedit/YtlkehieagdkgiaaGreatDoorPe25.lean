/- Texts of the proof. -/
import Derived.Test.YtlkehieagdkgiaaGreatDoorPe24
set_option maxRecDepth 100000
set_option maxHeartbeats 8000000
namespace Go.Proofs.YtlkehieagdkgiaaGreatDoor
open Go.Proofs.Tryz Go.RowKit Lx Vx Mx Msk
section
structure MJc (go n:Nat)(sv:Nat->Value)(H T:Nat->Int)(i:Nat)(h tt mh mt:Int)(w:World)(L:Nat->Bool)(W:World):Prop where
 st:fL go n sv (if L 14=true then upI H i mh else H) (if L 17=true then upI T i mt else T) W
 hi:i<n
 eH:H i=h
 eT:T i=tt
 kept:bp go w W
section
variable {go n i:Nat} {sv:Nat->Value} {H T:Nat->Int} {h tt mh mt:Int} {w W:World} {L:Nat->Bool}
theorem MJc.start (a:fL go n sv H T w)(hi:i<n)(eH:H i=h)(eT:T i=tt):MJc go n sv H T i h tt mh mt w (fun _=>false) w.drew:=⟨a.below (aH _ _).drew,hi,eH,eT,bp.of_below (aH _ _).drew⟩
theorem MJc.below {b:World}(a:MJc go n sv H T i h tt mh mt w L W)(c:aq W b):MJc go n sv H T i h tt mh mt w L b:=⟨a.st.below c,a.hi,a.eH,a.eT,a.kept.trans (bp.of_below c)⟩
theorem MJc.other (a:MJc go n sv H T i h tt mh mt w L W)(k:Nat)(b:k≠14)(c:k≠17):MJc go n sv H T i h tt mh mt w (fun q=>decide (k=q)||L q) W:=by
 refine⟨?_,a.hi,a.eH,a.eT,a.kept⟩;simpa[b,c] using a.st
theorem MJc.loadH (a:MJc go n sv H T i h tt mh mt w L W)(b:L 14=false):W.cell? (ae go (i*3+1))=some (ag h):=by
 have:=(a.st.cells a.hi).2.1;rw[b,ax (by simp),a.eH]at this;exact this
theorem MJc.loadT (a:MJc go n sv H T i h tt mh mt w L W)(b:L 17=false):W.cell? (ae go (i*3+2))=some (ag tt):=by
 have:=(a.st.cells a.hi).2.2.1;rw[b,ax (by simp),a.eT]at this;exact this
theorem MJc.cellH (a:MJc go n sv H T i h tt mh mt w L W): ∃v,W.cell? (ae go (i*3+1))=some (ag v)/\W.frozen? (ae go (i*3+1))=false:=⟨_,(a.st.cells a.hi).2.1,(a.st.cells a.hi).2.2.2.1⟩
theorem MJc.cellT (a:MJc go n sv H T i h tt mh mt w L W): ∃v,W.cell? (ae go (i*3+2))=some (ag v)/\W.frozen? (ae go (i*3+2))=false:=⟨_,(a.st.cells a.hi).2.2.1,(a.st.cells a.hi).2.2.2.2⟩
theorem MJc.storeH (a:MJc go n sv H T i h tt mh mt w L W)(b:L 14=false):MJc go n sv H T i h tt mh mt w (fun q=>decide (14=q)||L q) (W.setCell ⟨go,i*3+1,none⟩ (ag mh)):=by
 refine⟨?_,a.hi,a.eH,a.eT,a.kept.trans (iP W go (i*3+1) _)⟩;have:=a.st.setH mh a.hi;simp only[b,Bool.false_eq_true,if_false]at this;simpa using this
theorem MJc.storeT (a:MJc go n sv H T i h tt mh mt w L W)(b:L 17=false):MJc go n sv H T i h tt mh mt w (fun q=>decide (17=q)||L q) (W.setCell ⟨go,i*3+2,none⟩ (ag mt)):=by
 refine⟨?_,a.hi,a.eH,a.eT,a.kept.trans (iP W go (i*3+2) _)⟩;have:=a.st.setT mt a.hi;simp only[b,Bool.false_eq_true,if_false]at this;simpa using this
theorem MJc.fin (c:MJc go n sv H T i h tt mh mt w L W)(a:L 14=true)(b:L 17=true):fL go n sv (upI H i mh) (upI T i mt) W:=by
 have:=c.st;rw[a,b,aB rfl,aB rfl]at this;exact this
end
theorem uH (C:List (List In))(ρ:Nat->Nat)(a:Nat->Int×Int)(hR:sX C ρ)(aU:rV (fc C a))(n go c:Nat)(hn:n=C.length)(cY:n<=1000)(sv:Nat->Value)(Ss:Nat->List (In×Value))(hS: ∀k,k<n->(Ss k).map (fun u=>u.1)=C.getD k [])(hL: ∀k,k<n->1<=(Ss k).length/\(Ss k).length<=700)(hV: ∀k,k<n-> ∀u∈Ss k,∃p m c,u.2= .slice p m c)(i:Nat)(hi:i<n)(cr:a i=mG C a i)(h1:1<=(a i).2)
  (IH: ∀k,k<n->ρ k<ρ i-> ∀(H T:Nat->Int) (w:World),fL go n sv H T w->(∀q,q<n->kj w (sv q) (Ss q))->(∀q,q<n->ρ q<=ρ k->Okm a H T q)->Calls prog 133 #[.slice (some (ae go 0)) n c,ag (k:Int)] w (xu a ρ go n sv k H T w))
  (H0 T0:Nat->Int) (w:World) (S:fL go n sv H0 T0 w) (hq: ∀q,q<n->kj w (sv q) (Ss q)) (aF: ∀q,q<n->ρ q<=ρ i->Okm a H0 T0 q):
  Calls prog 133 #[.slice (some (ae go 0)) n c,ag (i:Int)] w (xu a ρ go n sv i H0 T0 w):=by
 obtain⟨g1,c1,a0,_⟩:=(hq i hi).form (hL i hi).1;obtain⟨Q,bs⟩:=au ((Ss i).length);have cg:=hL i hi;rw[bs]at a0 cg;have cD:(C.getD i []).length=Q:=by rw[<-hS i hi,bc,bs]
 have c0:Rb (i<C.length):=hn▸hi;have aY:=ba hn;have HQ:=ba hq;have b0:=ba S;have bA:=am w (.cells #[af,ag 0,ag 0] 195);have nA:=aG w (.cells #[af,ag 0,ag 0] 195);have an:=S.below bA;have cn:=S.lt;obtain⟨P,bh⟩:=au w.heap.size;have cy:Rb (w.heap.size<=P):=j9 bh;have b:P≠go:=by omega
 have b9:=bp.of_below (g:=go) bA;generalize cK:w.alloc (.cells #[af,ag 0,ag 0] 195)=wA at*;rw[bh]at nA;have x0:=(an.cells hi).1;have x1:=(an.cells hi).2.1;have x2:=(an.cells hi).2.2.1;rw[a0]at x0;have cS:(0:Int)<=(i:Int):=by omega
 have cT:(i:Int)<(n:Int):=by omega
 have cU:(n:Int)<=1000:=by omega
 rcases aF i hi (aD _) with⟨zh,zt⟩|⟨zh,zt⟩
 ·rw[zh]at x1;rw[zt]at x2;have bZ:=ba (lG.refl (n:=n) (i:=i) aF);have bW:=ba an;have bS:=ba b9;have bY:=ba nA;have cd:=ba zh;have ce:=ba zt;clear S hq aF an b9 bA zh zt hn nA;go_enter func133,ntmps133;go_wp2_with fail;clear x0 x1 x2 bh;go_loopw [6,8,9,26] (fun y _ _ t wr=> ∃(j:Nat) (H T:Nat->Int),t=ag (j:Int)/\j<=Q/\y=ag (hAt (C.getD i []) j)/\fL go n sv H T wr/\H i=mxH (fc C a) (C.getD i []) j/\T i=stS (fc C a) (C.getD i []) j/\lG a ρ n i H0 T0 H T/\bp go w wr/\wr.heap[P]? =ah #[af,ag 0,ag 0] 195) (fun _ _ _ t _=>Q-(intOf t).toNat);case atStart=>exact⟨0,H0,T0,rfl,by omega,rfl,bW.o,cd.o,ce.o,bZ.o,bS.o,bY.o⟩
  case round=>
   clear bW bS bY cd ce bZ cK;obtain⟨j,H,T,rfl,hj,rfl,aE,bb,a1,bn,a6,ao⟩:=hrel;have cV:(0:Int)<=(j:Int):=(by omega);obtain⟨y,a4⟩:=au (hAt (C.getD i []) j);obtain⟨h,bj⟩:=au (mxH (fc C a) (C.getD i []) j);obtain⟨tt,bq⟩:=au (stS (fc C a) (C.getD i []) j);have cB:=oj (C.getD i []) j;have c9:=sN aU (C.getD i []) j;have cA:=sP aU (C.getD i []) j;rw[a4]at cB;rw[bj]at c9 bb;rw[bq]at cA a1;rw[a4];have Z:=ba a4;have X:=ba bj;have ad:=ba bq;have Y:=ba bb;have cW:=cg.2;by_cases cX:j<Q
   ·have cp:(j:Int)<(Q:Int):=(by omega);obtain⟨u,bk⟩: ∃u,(Ss i)[j]? =some u:=⟨(Ss i)[j]'(by omega),ay (by omega)⟩
    have hx:(C.getD i [])[j]? =some u.1:=(by rw[<-hS i hi,a8,bk];rfl);obtain⟨g',c',e',al⟩:=((HQ.o i hi).kept b0.o a6).form (hL i hi).1;rw[a0]at e';injection e' with e1 e2 e3;injection e1 with e1;injection e1 with e1 _ _;subst e1;clear e2 e3;obtain⟨d0,d1,d2,d3,d4⟩:=al j u bk;obtain⟨pv,nv,cv,cu⟩:=hV i hi u (aM bk);obtain⟨⟨op,xa,xb,xt,xs⟩,vv⟩:=u;dsimp only at d0 d1 d2 d3 d4 cu hx;subst cu;have bI:=am wr (.cells #[ag op,ag xa,ag xb,ag xt,.slice pv nv cv] 216);have nI:=aG wr (.cells #[ag op,ag xa,ag xb,ag xt,.slice pv nv cv] 216);have a7:=aE.below bI;have cm:=ai bI ao;have bB:=a6.trans (bp.of_below bI);have ch: ∀q,q<n->kj (wr.alloc (.cells #[ag op,ag xa,ag xb,ag xt,.slice pv nv cv] 216)) (sv q) (Ss q):=fun q hq=>(HQ.o q hq).kept b0.o bB;have cn:=aE.lt;obtain⟨g8,cC⟩:=au wr.heap.size;generalize db:wr.alloc (.cells #[ag op,ag xa,ag xb,ag xt,.slice pv nv cv] 216)=wI at*;rw[cC]at nI;have zT:=(a7.cells hi).2.2.1;have yT:=(a7.cells hi).2.2.2.2;rw[a1]at zT;have bu:=a7.setT (tt+1) hi;have d:=ba bu;have bw:=ba (bB.trans (iP wI go (i*3+2) (ag (tt+1))));have av:=ba ((aO wI ⟨go,i*3+2,none⟩ P (ag (tt+1)) b).trans cm);have aZ:=ba (lG.setT bn (tt+1));have b2:Rb (∀q,q<n->kj (wI.setCell ⟨go,i*3+2,none⟩ (ag (tt+1))) (sv q) (Ss q)):=fun q hq=>(ch q hq).kept a7 (iP wI go (i*3+2) (ag (tt+1)));have bF:=(aO wI ⟨go,i*3+2,none⟩ g8 (ag (tt+1)) (by show g8≠go;omega)).trans nI;generalize cZ:wI.setCell ⟨go,i*3+2,none⟩ (ag (tt+1))=U at*;have cL:=ak 0 bF;have O:=ba hx;have aa:=bw;have V:=av;have ac:=aZ;clear bI aE ao a6 ch a7 cm bB bu nI bk hx al bn bb a1 a4 bj bq;by_cases aP:op=1
    ·have e1:(op==1)=true:=(by simp[aP])
     have f:Rb (hAt (C.getD i []) (j+1)=y+1):=by
      show _=_;rw[jN O.o,Z.o];unfold eff;dsimp only;rw[aB (.inl aP)];try omega
     have I:Rb (max h (y+1)=mxH (fc C a) (C.getD i []) (j+1)):=by
      show _=_;rw[kT O.o,f.o,ax (by show¬op=8;omega),X.o]
     have G:Rb (upI T i (tt+1) i=stS (fc C a) (C.getD i []) (j+1)):=by
      show _=_;rw[jc,kh O.o,ax (by show¬op=8;omega),ad.o];try omega
     have zH:=(d.o.cells hi).2.1;have yH:=(d.o.cells hi).2.2.2.1;rw[Y.o]at zH;obtain⟨m1,J⟩:=au (max h (y+1));have B:=ba J;have D:=ba (d.o.setH m1 hi);have A:=ba (aa.o.trans (iP U go (i*3+1) (ag m1)));have z:=ba ((aO U ⟨go,i*3+1,none⟩ P (ag m1) b).trans V.o);have E:=ba (ac.o.setH m1);generalize aV:U.setCell ⟨go,i*3+1,none⟩ (ag m1)=wZ at*;clear aP;go_wp2_with fail;go_roundw;case rel=>exact⟨j+1,upI H i m1,upI T i (tt+1),by go_num,by omega,by rw[f.o],D.o,(jc _ _ _).trans (B.o.symm.trans I.o),G.o,E.o,A.o,z.o⟩
     case measure=>simp[intOf];omega
    have e1:(op==1)=false:=(by simpa using aP);by_cases ap:op=2
    ·have e2:(op==2)=true:=(by simp[ap])
     have f:Rb (hAt (C.getD i []) (j+1)=y-1):=by
      show _=_;rw[jN O.o,Z.o];unfold eff;dsimp only;rw[ax (by omega),aB (by omega)];try omega
     have I:Rb (max h (y-1)=mxH (fc C a) (C.getD i []) (j+1)):=by
      show _=_;rw[kT O.o,f.o,ax (by show¬op=8;omega),X.o]
     have G:Rb (upI T i (tt+1) i=stS (fc C a) (C.getD i []) (j+1)):=by
      show _=_;rw[jc,kh O.o,ax (by show¬op=8;omega),ad.o];try omega
     have zH:=(d.o.cells hi).2.1;have yH:=(d.o.cells hi).2.2.2.1;rw[Y.o]at zH;obtain⟨m1,J⟩:=au (max h (y-1));have B:=ba J;have D:=ba (d.o.setH m1 hi);have A:=ba (aa.o.trans (iP U go (i*3+1) (ag m1)));have z:=ba ((aO U ⟨go,i*3+1,none⟩ P (ag m1) b).trans V.o);have E:=ba (ac.o.setH m1);generalize aV:U.setCell ⟨go,i*3+1,none⟩ (ag m1)=wZ at*;clear ap;go_wp2_with fail;go_roundw;case rel=>exact⟨j+1,upI H i m1,upI T i (tt+1),by go_num,by omega,by rw[f.o],D.o,(jc _ _ _).trans (B.o.symm.trans I.o),G.o,E.o,A.o,z.o⟩
     case measure=>simp[intOf];omega
    have e2:(op==2)=false:=(by simpa using ap);by_cases aq:op=3
    ·have e3:(op==3)=true:=(by simp[aq])
     have f:Rb (hAt (C.getD i []) (j+1)=y-1):=by
      show _=_;rw[jN O.o,Z.o];unfold eff;dsimp only;rw[ax (by omega),aB (by omega)];try omega
     have I:Rb (max h (y-1)=mxH (fc C a) (C.getD i []) (j+1)):=by
      show _=_;rw[kT O.o,f.o,ax (by show¬op=8;omega),X.o]
     have G:Rb (upI T i (tt+1) i=stS (fc C a) (C.getD i []) (j+1)):=by
      show _=_;rw[jc,kh O.o,ax (by show¬op=8;omega),ad.o];try omega
     have zH:=(d.o.cells hi).2.1;have yH:=(d.o.cells hi).2.2.2.1;rw[Y.o]at zH;obtain⟨m1,J⟩:=au (max h (y-1));have B:=ba J;have D:=ba (d.o.setH m1 hi);have A:=ba (aa.o.trans (iP U go (i*3+1) (ag m1)));have z:=ba ((aO U ⟨go,i*3+1,none⟩ P (ag m1) b).trans V.o);have E:=ba (ac.o.setH m1);generalize aV:U.setCell ⟨go,i*3+1,none⟩ (ag m1)=wZ at*;clear aq;go_wp2_with fail;go_roundw;case rel=>exact⟨j+1,upI H i m1,upI T i (tt+1),by go_num,by omega,by rw[f.o],D.o,(jc _ _ _).trans (B.o.symm.trans I.o),G.o,E.o,A.o,z.o⟩
     case measure=>simp[intOf];omega
    have e3:(op==3)=false:=(by simpa using aq);by_cases ar:op=4
    ·have e4:(op==4)=true:=(by simp[ar])
     have f:Rb (hAt (C.getD i []) (j+1)=y-1):=by
      show _=_;rw[jN O.o,Z.o];unfold eff;dsimp only;rw[ax (by omega),aB (by omega)];try omega
     have I:Rb (max h (y-1)=mxH (fc C a) (C.getD i []) (j+1)):=by
      show _=_;rw[kT O.o,f.o,ax (by show¬op=8;omega),X.o]
     have G:Rb (upI T i (tt+1) i=stS (fc C a) (C.getD i []) (j+1)):=by
      show _=_;rw[jc,kh O.o,ax (by show¬op=8;omega),ad.o];try omega
     have zH:=(d.o.cells hi).2.1;have yH:=(d.o.cells hi).2.2.2.1;rw[Y.o]at zH;obtain⟨m1,J⟩:=au (max h (y-1));have B:=ba J;have D:=ba (d.o.setH m1 hi);have A:=ba (aa.o.trans (iP U go (i*3+1) (ag m1)));have z:=ba ((aO U ⟨go,i*3+1,none⟩ P (ag m1) b).trans V.o);have E:=ba (ac.o.setH m1);generalize aV:U.setCell ⟨go,i*3+1,none⟩ (ag m1)=wZ at*;clear ar;go_wp2_with fail;go_roundw;case rel=>exact⟨j+1,upI H i m1,upI T i (tt+1),by go_num,by omega,by rw[f.o],D.o,(jc _ _ _).trans (B.o.symm.trans I.o),G.o,E.o,A.o,z.o⟩
     case measure=>simp[intOf];omega
    have e4:(op==4)=false:=(by simpa using ar);by_cases x:op=8
    ·have e8:(op==8)=true:=(by simp[x]);obtain⟨cj,bd,bm⟩:=hR.lt i j _ c0.o O.o x;dsimp only at cj bd bm;obtain⟨k0,b7⟩: ∃k0:Nat,xa=(k0:Int):=⟨xa.toNat,by omega⟩
     have L:k0<n:=(by rw[aY.o];rw[b7]at bd;simpa using bd);have aS:ρ k0<ρ i:=(by rw[b7]at bm;simpa using bm);subst b7;have cR:=IH k0 L aS _ _ U d.o (fun q cF=>b2.o q cF) (aZ.o.pre aS);obtain⟨h9,bi⟩:=au ((a k0).1);obtain⟨s9,bo⟩:=au ((a k0).2);have b4:=(aU.hi k0)
     have a2:=(aU.st k0)
     rw[mZ (by rw[<-aY.o];exact L)]at b4 a2;dsimp only at b4 a2;rw[bi]at b4;rw[bo]at a2;unfold xu at cR;rw[bi,bo]at cR;obtain⟨gk,ck,bv,_⟩:=(b2.o k0 L).form (hL k0 L).1;rw[bv]at cR;obtain⟨lk,co⟩:=au ((Ss k0).length);rw[co]at cR;obtain⟨t9,cG⟩:=au (tt+1+s9);obtain⟨m0,cq⟩:=au (max h (y+h9));have cP:=ba cq;have a3:0<=t9/\t9<=99999999:=(by omega);have cO:IntKind.i64.wrap t9=t9:=(by rw[bU];omega);have cN:IntKind.i64.wrap (y+h9)=y+h9:=(by rw[bU];omega);have c8:=a3.1;have c7:=a3.2
     have f:Rb (hAt (C.getD i []) (j+1)=y+1):=by
      show _=_;rw[jN O.o,Z.o];unfold eff;dsimp only;rw[aB (.inr x)]
     have I:Rb (max m0 (y+1)=mxH (fc C a) (C.getD i []) (j+1)):=by
      show _=_;rw[kT O.o,f.o,aB x,X.o,Z.o];dsimp only;rw[dj,mZ (by rw[<-aY.o];exact L),<-cq,<-bi]
     have c3:Rb (t9=stS (fc C a) (C.getD i []) (j+1)):=by
      show _=_;rw[kh O.o,aB x,ad.o,<-cG];dsimp only;rw[dj,mZ (by rw[<-aY.o];exact L),<-bo]
     have cM:=ak 1 bF;clear bi bo cj bd bm x bv co;go_wp2_with fail;refine cR.mono ?_;rintro r w2 ⟨rfl,Hc,Tc,bE,bt,cs,bl⟩;obtain⟨aR,cf,ci⟩:=aZ.o.call aS hi bt cs;have cz:Rb (Hc i=h):=cf.trans Y.o;have c5:Rb (Tc i=tt+1):=ci.trans (jc _ _ _);have bC:=am w2 (.cells #[.slice (some (ae gk 0)) lk ck,ag h9,ag s9] 195);have n9:=aG w2 (.cells #[.slice (some (ae gk 0)) lk ck,ag h9,ag s9] 195);have bx:=ba (bE.below bC);have bQ:=ba ((bw.o.trans bl).trans (bp.of_below bC));have bN:=ba ((bC.block _ (aI ((bl.block _ (aI av.o) (fun e=>b (aN e))).trans av.o))).trans ((bl.block _ (aI av.o) (fun e=>b (aN e))).trans av.o));have ca:=ba aR;obtain⟨g9,be⟩:=au w2.heap.size;have b5:g9≠go:=(by have:=bE.lt;omega);generalize da:w2.alloc (.cells #[.slice (some (ae gk 0)) lk ck,ag h9,ag s9] 195)=w3 at*;rw[be]at n9;have bX:=ba n9;have bL:=(bx.o.cells hi).2.2.1;rw[c5.o]at bL;have br:=ak 2 n9;have G:Rb (upI Tc i t9 i=stS (fc C a) (C.getD i []) (j+1)):=(jc _ _ _).trans c3.o;clear cR bE bt cs bl aR cf ci bC n9 d b2 aZ bw av bF cL cM;go_wp2_with fail;refine jV 9 [kn 55 (ab go (i*3)),kn 56 (ab go (i*3)),kn 57 (ab go (i*3+2)),kn 58 (ag (tt+1)),kn 59 (ab g9 2),kn 60 (ag s9),kn 61 (ag t9),kn 62 (ab go (i*3)),kn 63 (ab go (i*3+2)),nk] (by kernel_rfl) (by kernel_rfl) fun M φ W _ s F l hl hF=> ?_;have bG:=aj s bL;have bH:=aj s br;simp only[kn,nk,dX,aQ,aT,Act.put,aA,aK,aJ]at hl;subst hl;simp only[dn,Nat.reduceAdd]at hF;dsimp only[kn,nk,dy,eJ,dY,Act.put];and_intros;all_goals first|exact trivial|intro hw hn S K hK
     all_goals try (go_simp;with_reducible exact hK _ _ ⟨rfl,aH _ _⟩)
     clear bG bH;have N:=ba (bx.o.below s);have zq:=(N.o.cells hi).2.2.1;have yq:=(N.o.cells hi).2.2.2.2;have bD:=N.o.setT t9 hi;have bV:=ba bD;have bK:=(bD.cells hi).2.1;rw[cz.o]at bK;have bR:=ba ((bQ.o.trans (bp.of_below s)).trans (iP W go (i*3+2) (ag t9)));have bO:=ba ((aO W ⟨go,i*3+2,none⟩ P (ag t9) b).trans (ai s bN.o));have cb:=ba (ca.o.setT t9);have cw:=(aO W ⟨go,i*3+2,none⟩ g9 (ag t9) b5).trans (ai s bX.o);generalize cH:W.setCell ⟨go,i*3+2,none⟩ (ag t9)=w4 at*;have bJ:=ak 1 cw;go_simp;refine hK undef _ ⟨trivial,fun c=>by simp at c,fun _=> ?_⟩;simp only[d8,aQ,aT,Act.put,aA,aK,aJ];clear hF hw hn S;clear hK s zq yq cH bL br bx bQ bN ca N cw bX bD;have br:=bJ;go_wp2_with fail;refine jV 12 [kn 64 (ab go (i*3)),kn 65 (ab go (i*3)),kn 66 (ab go (i*3)),kn 67 (ab go (i*3+1)),kn 68 (ag h),kn 69 (ag y),kn 70 (ab g9 1),kn 71 (ag h9),kn 72 (ag (y+h9)),kn 73 (ag m0),kn 74 (ab go (i*3)),kn 75 (ab go (i*3+1)),nk] (by kernel_rfl) (by kernel_rfl) fun M φ W _ s F ll hl hF=> ?_;have bG:=aj s bK;have bH:=aj s bJ;simp only[kn,nk,dX,aQ,aT,Act.put,aA,aK,aJ]at hl;subst hl;simp only[dn,Nat.reduceAdd]at hF;dsimp only[kn,nk,dy,eJ,dY,Act.put];and_intros;all_goals first|exact trivial|intro hw hn S K hK
     all_goals try (go_simp;with_reducible exact hK _ _ ⟨rfl,aH _ _⟩)
     clear bG bH;have N:=ba (bV.o.below s);have zq:=(N.o.cells hi).2.1;have yq:=(N.o.cells hi).2.2.2.1;have bz:=ba (N.o.setH m0 hi);have c2:=ba ((bR.o.trans (bp.of_below s)).trans (iP W go (i*3+1) (ag m0)));have cx:=ba ((aO W ⟨go,i*3+1,none⟩ P (ag m0) b).trans (ai s bO.o));have ac:=ba (cb.o.setH m0);generalize cI:W.setCell ⟨go,i*3+1,none⟩ (ag m0)=w5 at*;go_simp;refine hK undef _ ⟨trivial,(fun c=>by simp at c),fun _=> ?_⟩;simp only[d8,aQ,aT,Act.put,aA,aK,aJ];clear hK hF hw hn S s zq yq cI bK bJ br bV bR bO cb N;have aa:=c2;have V:=cx;have ct:upI Hc i m0 i=m0:=jc _ _ _;have c6:=ba ct;clear ct;have zH:=(bz.o.cells hi).2.1;have yH:=(bz.o.cells hi).2.2.2.1;rw[c6.o]at zH;obtain⟨m1,J⟩:=au (max m0 (y+1));have B:=ba J;have D:=ba (bz.o.setH m1 hi);have A:=ba (aa.o.trans (iP w5 go (i*3+1) (ag m1)));have z:=ba ((aO w5 ⟨go,i*3+1,none⟩ P (ag m1) b).trans V.o);have E:=ba (ac.o.setH m1);generalize aV:w5.setCell ⟨go,i*3+1,none⟩ (ag m1)=wZ at*;go_wp2_with fail;go_roundw;case rel=>exact⟨j+1,upI (upI Hc i m0) i m1,upI Tc i t9,by go_num,by omega,by rw[f.o],D.o,(jc _ _ _).trans (B.o.symm.trans I.o),G.o,E.o,A.o,z.o⟩
     case measure=>simp[intOf];omega
    have e8:(op==8)=false:=(by simpa using x)
    have f:Rb (hAt (C.getD i []) (j+1)=y):=by
     show _=_;rw[jN O.o,Z.o];unfold eff;dsimp only;rw[ax (by omega),ax (by omega)];simp
    have I:Rb (max h (y)=mxH (fc C a) (C.getD i []) (j+1)):=by
     show _=_;rw[kT O.o,f.o,ax (by show¬op=8;omega),X.o]
    have G:Rb (upI T i (tt+1) i=stS (fc C a) (C.getD i []) (j+1)):=by
     show _=_;rw[jc,kh O.o,ax (by show¬op=8;omega),ad.o];try omega
    have zH:=(d.o.cells hi).2.1;have yH:=(d.o.cells hi).2.2.2.1;rw[Y.o]at zH;obtain⟨m1,J⟩:=au (max h (y));have B:=ba J;have D:=ba (d.o.setH m1 hi);have A:=ba (aa.o.trans (iP U go (i*3+1) (ag m1)));have z:=ba ((aO U ⟨go,i*3+1,none⟩ P (ag m1) b).trans V.o);have E:=ba (ac.o.setH m1);generalize aV:U.setCell ⟨go,i*3+1,none⟩ (ag m1)=wZ at*;clear aP ap aq ar x;go_wp2_with fail;go_roundw;case rel=>exact⟨j+1,upI H i m1,upI T i (tt+1),by go_num,by omega,by rw[f.o],D.o,(jc _ _ _).trans (B.o.symm.trans I.o),G.o,E.o,A.o,z.o⟩
    case measure=>simp[intOf];omega
   ·have cp: ¬(j:Int)<(Q:Int):=(by omega);obtain rfl:Q=j:=(by omega);obtain⟨mh,aC⟩:=au (min h 101);obtain⟨mt,aw⟩:=au (min tt 20001)
    have b3:Rb (a i=(mh,mt)):=by
     show _=_;rw[cr];unfold mG;rw[cD,X.o,ad.o,aC,aw]
    have c4:=ba a1;have bP:=ba aE;have cc:=ba bn;have bT:=ba a6;have bM:=ba ao;clear aE bn a6 ao a4 bj bq bb a1;go_wp2_with fail;refine dl (fun M _ W=>MJc go n sv H T i h tt mh mt wr M W) [kn 88 (ab go (i*3)),kn 89 (ab go (i*3)),kn 90 (ab go (i*3)),kn 91 (ab go (i*3)),kn 92 (ab go (i*3+1)),dk 93 (ag h),dk 94 (ag mh),kn 95 (ab go (i*3)),kn 96 (ab go (i*3)),kn 97 (ab go (i*3+2)),dk 98 (ag tt),dk 99 (ag mt),kn 100 (ab go (i*3)),kn 101 (ab go (i*3+1)),nk,kn 102 (ab go (i*3)),kn 103 (ab go (i*3+2)),nk] (fun _=>MJc.start bP.o hi Y.o c4.o) (fun _ _ _ _ hb h=>h.below hb) (by kernel_rfl) (fun M φ W2 s al F ll hl hF=> ?_) (fun M φ W2 hM s=> ?_)
    ·simp only[kn,dk,nk,dX,aQ,aT,Act.put,aA,aK,aJ]at hl;subst hl;simp only[dn,Nat.reduceAdd]at hF;dsimp only[kn,dk,nk,dy,eJ,dY,Act.put];and_intros;all_goals first|exact trivial|intro hw hn S K hK
     all_goals try (go_simp;with_reducible exact hK _ _ ⟨rfl,aH _ _⟩)
     ·have zz:=s.loadH (by
       cases q:M 14 with
       |false=>rfl
       |true=>rw[al 6 _ rfl (al 14 _ rfl q ⟨6,.data⟩ (by simp) rfl rfl) ⟨5,.data⟩ (by simp) rfl rfl]at S;cases S)
      go_simp;exact hK _ _ ⟨rfl,s.other 5 (by decide) (by decide)⟩
     ·go_simp;exact hK _ _ ⟨rfl,s.other 6 (by decide) (by decide)⟩
     ·have zz:=s.loadT (by
       cases q:M 17 with
       |false=>rfl
       |true=>rw[al 11 _ rfl (al 17 _ rfl q ⟨11,.data⟩ (by simp) rfl rfl) ⟨10,.data⟩ (by simp) rfl rfl]at S;cases S)
      go_simp;exact hK _ _ ⟨rfl,s.other 10 (by decide) (by decide)⟩
     ·go_simp;exact hK _ _ ⟨rfl,s.other 11 (by decide) (by decide)⟩
     ·obtain⟨v9,zz,yy⟩:=s.cellH;have b6:=s.storeH S;generalize cJ:W2.setCell ⟨go,i*3+1,none⟩ (ag mh)=w9 at*;go_simp;exact hK undef _ ⟨trivial,b6⟩
     ·obtain⟨v9,zz,yy⟩:=s.cellT;have b6:=s.storeT S;generalize cJ:W2.setCell ⟨go,i*3+2,none⟩ (ag mt)=w9 at*;go_simp;exact hK undef _ ⟨trivial,b6⟩
    ·have R:=s.fin (hM 14 (by decide) rfl) (hM 17 (by decide) rfl);have b8:=s.kept;have be:=(b8.block _ (aI bM.o) (fun e=>b (aN e))).trans bM.o;have y0:=(R.cells hi).1;have y1:=(R.cells hi).2.1;have y2:=(R.cells hi).2.2.1;rw[jc]at y1 y2;rw[a0]at y0;have nR:=aL _ _ _ #[.slice (some (ae g1 0)) Q c1,ag mh,ag mt] _ _ be;have a9:=R.same (aW W2 P go #[.slice (some (ae g1 0)) Q c1,ag mh,ag mt] (fun e=>b e.symm))
     have HN:Rb (xu a ρ go n sv i H0 T0 w (.returned (.agg #[.slice (some (ae g1 0)) Q c1,ag mh,ag mt])) (W2.setRow P #[.slice (some (ae g1 0)) Q c1,ag mh,ag mt])):=by
      refine⟨by rw[a0,b3.o],_,_,a9,⟨by rw[b3.o];exact jc _ _ _,by rw[b3.o];exact jc _ _ _⟩,(cc.o.setH mh).setT mt,?_⟩;have a5:=bT.o.trans b8;exact⟨a5.os,a5.tape,a5.output,bg a5.size (by simp),fun q hq cE=>(aW W2 P q _ (fun e=>by have:=cy.o;omega)).trans (a5.block q hq cE)⟩
     have b1:=ba nR;clear s hM R b8 a9 cc bT bP nR;simp only[kn,dk,nk,d8,aQ,aT,Act.put,aA,aK,aJ];go_wp2_with(refine az rfl 195 _ _ rfl _ _ rfl rfl _ _ be (by kernel_rfl) (by simp) (by simp[Value.oneCell']) ?_)
     refine aX (v:= .agg #[.slice (some (ae g1 0)) Q c1,ag mh,ag mt]) ?_ rfl HN.o;exact bf rfl _ _ P _ _ _ _ rfl b1.o Bc rfl (by kernel_rfl)
 ·obtain⟨mh,aC⟩:=au ((a i).1);obtain⟨mt,aw⟩:=au ((a i).2);rw[zh,aC]at x1;rw[zt,aw]at x2;rw[aw]at h1;have cQ:0<mt:=(by omega);have nR:=aL _ _ _ #[.slice (some (ae g1 0)) Q c1,ag mh,ag mt] _ _ nA;have a9:=an.same (aW wA P go #[.slice (some (ae g1 0)) Q c1,ag mh,ag mt] (fun e=>b e.symm));have cl:=below_setRow bA (j9 bh) #[.slice (some (ae g1 0)) Q c1,ag mh,ag mt]
  have HN:Rb (xu a ρ go n sv i H0 T0 w (.returned (.agg #[.slice (some (ae g1 0)) Q c1,ag mh,ag mt])) (wA.setRow P #[.slice (some (ae g1 0)) Q c1,ag mh,ag mt])):=
   ⟨by rw[a0,aC,aw],H0,T0,a9,⟨zh,zt⟩,lG.refl aF,bp.of_below cl⟩
  have b1:=ba nR;clear S hq aF an b9 bA zh zt hn nR a9 cl h1 aC aw cr HQ b0 IH hS hL hV hR aU;go_enter func133,ntmps133;go_wp2_with(refine az rfl 195 _ _ rfl _ _ rfl rfl _ _ nA (by kernel_rfl) (by simp) (by simp[Value.oneCell']) ?_)
  refine aX (v:= .agg #[.slice (some (ae g1 0)) Q c1,ag mh,ag mt]) ?_ rfl HN.o;exact bf rfl _ _ P _ _ _ _ rfl b1.o Bc rfl (by kernel_rfl)
end
theorem wf (w0:World)(gm:Nat)(mp:Value)(l:List Ru)(k:Ex)(p:Option Addr)(q:Nat)(op a b:Int)(S:List (In×Value))(w:World)(h:WOk w0 gm mp S w)(hC:Gu w0 gm mp l k (.slice p k.kids.length q))(hS:S.length+1+jj k<=700)(R:(dc (atP5 l) k (S.length+1)).length<=700):
  Calls prog 159 #[ab gm 0,.agg #[ag op,ag a,ag b,ag 0,af],.agg #[ag k.kind,ag k.a,ag k.b,.string ⟨k.name.toArray⟩,.slice p k.kids.length q]] w (oH w0 gm mp S (⟨op,a,b,((S.length+1+(dc (atP5 l) k (S.length+1)).length:Nat):Int),[]⟩::dc (atP5 l) k (S.length+1)) w):=by
 have ay:Rb ((dc (atP5 l) k (S.length+1)).length<=700):=R;have av:=ba h.lt;have bA:=am w (.cells #[ag op,ag a,ag b,ag 0,af] 216);have nA:=aG w (.cells #[ag op,ag a,ag b,ag 0,af] 216);have hA:=h.below bA;obtain⟨gA,a0⟩:=au w.heap.size;generalize a7:w.alloc (.cells #[ag op,ag a,ag b,ag 0,af] 216)=wA at*;rw[a0]at nA;have bB:=am wA (.cells #[ag k.kind,ag k.a,ag k.b,.string ⟨k.name.toArray⟩,.slice p k.kids.length q] 84);have nB:=aG wA (.cells #[ag k.kind,ag k.a,ag k.b,.string ⟨k.name.toArray⟩,.slice p k.kids.length q] 84);have hB:=hA.below bB;have an:=ai bB nA;have aD:=hA.lt;obtain⟨gB,a1⟩:=au wA.heap.size;generalize a8:wA.alloc (.cells #[ag k.kind,ag k.a,ag k.b,.string ⟨k.name.toArray⟩,.slice p k.kids.length q] 84)=wB at*;rw[a1]at nB;have a3:gB≠gm:=by omega
 have P:Rb (Fr2 gm w wB):=Fr2.below av.o (aw bA bB);obtain⟨_,hgt,sv,n1,D⟩:=id hB.st;obtain⟨p0,c0,a4⟩:=cg D;subst a4;have z1:=ak 1 n1;have cP:=vK hB ⟨op,a,b,0,[]⟩ (af) (it.nil _ _ _) (by omega);dsimp only at cP;have aL:(0:Int)<=(S.length:Int):=by omega
 have aM:(S.length:Int)<=700:=by omega
 have ax:=ba hgt;have ar:=ba hB.st;clear bA bB hA hB D nA hgt n1 h;go_enter func159,ntmps159
 go_wp2_with(first
  |(refine aR rfl 216 _ rfl _ rfl _ _ _ _ an xr rfl (by kernel_rfl) ?_))
 refine cP.mono ?_;rintro L w2 ⟨rfl,C,n⟩;have ao:=(Fr2.fr ar.o n) _ _ _ nB (by decide) a3;have cE:=hC _ w2 C (by rw[aP,d9];exact hS);unfold exV at cE;have O:=ba (P.o.trans n);clear cP C n z1 nB an a8 a7
 go_wp2_with(first
  |(refine aR rfl 84 _ rfl _ rfl _ _ _ _ ao fo rfl (by kernel_rfl) ?_))
 refine cE.mono ?_;rintro e2 w3 ⟨rfl,G,x,ad,B⟩;rw[aP,d9]at x;have U:=ba x;have Q:=ba (O.o.trans B);obtain⟨⟨W,_,a9,J,own3⟩,s⟩:=ad;have eS:(S++[((⟨op,a,b,0,[]⟩:In),af)])++G=S++((⟨op,a,b,0,[]⟩,af)::G):=by simp
 rw[eS]at own3 s;obtain⟨f,H⟩:=au ((S++(((⟨op,a,b,0,[]⟩:In),af)::G)).length);rw[H]at own3;have v:Rb (f=S.length+1+G.length):=by show _=_;rw[<-H];simp;omega
 obtain⟨d,c3,a5⟩: ∃d c3,a9= .slice (some (ae d 0)) f c3:=by
  rcases own3.2 with⟨_,e⟩|⟨g',cap,i,e,_⟩
  ·have:=v.o;omega
  ·exact⟨g',cap,e⟩
 subst a5;have aC:=ak 1 J;have az:=ba own3;have y:=ba s;have ap:=ba W
 have a2:f<=2000:=by
  have h1:=v.o;have V:=congrArg List.length x;rw[bc]at V;have h3:=ay.o;omega
 have aE:(S.length:Int)<(f:Int):=by have:=v.o;omega
 have aF:(f:Int)<=2000:=by omega
 clear cE x B own3 s W eS H ao O P;go_wp2_with fail;refine jV 12 [kn 18 (ab gm 0),kn 19 (ab gm 0),kn 20 (ab gm 1),kn 21 (.slice (some (ae d 0)) f c3),kn 22 (ag (S.length:Int)),kn 23 (ab gm 0),kn 24 (ab gm 0),kn 25 (ab gm 1),kn 26 (.slice (some (ae d 0)) f c3),kn 27 (ag (f:Int)),kn 28 (ab d (S.length*5)),kn 29 (ab d (S.length*5+3)),nk] (by kernel_rfl) (by kernel_rfl) fun M φ m _ z F l hl hF=> ?_;have aB:=aj z aC;simp only[kn,nk,dX,aQ,aT,Act.put,aA,aK,aJ]at hl;subst hl;simp only[dn,Nat.reduceAdd]at hF;dsimp only[kn,nk,dy,eJ,dY,Act.put];and_intros;all_goals first|exact trivial|intro hw hn hm K hK
 all_goals try (go_simp;with_reducible exact hK _ _ ⟨rfl,aH _ _⟩)
 clear aB;have j:=iG az.o z;have E:=Pk (f:Int) j
 have al: ∃i,m.heap[d]? =ah i 216/\S.length*5+3<i.size:=by
  rcases j.2 with⟨e,_⟩|⟨g',cap,i,e,_,hg,hn,_,hs,_⟩
  ·cases e
  ·injection e with L _ e3;injection L with L;injection L with L _ _;subst L e3;exact⟨i,hg,by omega⟩
 obtain⟨i,g,Y⟩:=al;have ck:m.cell? (ae d (S.length*5+3))=some (i[S.length*5+3]'Y):=(aZ _ _ _ _ _ _ g).trans (gh Y);have yk:m.frozen? (ae d (S.length*5+3))=false:=bo _ _ _ _ _ g;have t:=ai z J
 have Z:gm≠d:=fun e=>by
  rw[e,g]at t;injection t with t;injection t with _ V _;exact absurd V (by decide)
 have n5:=(aO m ⟨d,S.length*5+3,none⟩ gm (ag (f:Int)) Z).trans t;have X:aq w0 (m.setCell ⟨d,S.length*5+3,none⟩ (ag (f:Int))):=(aw ap.o z).setCell (p:=⟨d,S.length*5+3,none⟩) ((j.lt d rfl).1) _
 have r:Fr gm m (m.setCell ⟨d,S.length*5+3,none⟩ (ag (f:Int))):=fun q c T N hT _=>by
  refine(aO m ⟨d,S.length*5+3,none⟩ q _ (fun e=> ?_)).trans N;rw[show q=d from e,g]at N;injection N with N;injection N with _ V _;exact absurd V.symm hT
 have A:Fr2 gm m (m.setCell ⟨d,S.length*5+3,none⟩ (ag (f:Int))):=by
  refine⟨fun q N _ hr=>aO m ⟨d,S.length*5+3,none⟩ q _ (fun e=>hr ?_),.inl ?_,by simp⟩
  ·rw[pt t,show q=d from e];rfl
  ·rw[pt n5,pt t]
 have ac:=v.o
 have HN:Rb (oH w0 gm mp S (⟨op,a,b,((S.length+1+(dc (atP5 l) k (S.length+1)).length:Nat):Int),[]⟩::dc (atP5 l) k (S.length+1)) w (.returned (.tuple #[])) (m.setCell ⟨d,S.length*5+3,none⟩ (ag (f:Int)))):=by
  refine⟨rfl,(⟨op,a,b,(f:Int),[]⟩,af)::G,?_,⟨⟨X,ax.o,_,n5,?_⟩,fun u I=> ?_⟩,(Q.o.trans (Fr2.below (aI J) z)).trans A⟩
  ·rw[dO,U.o];have hl:=congrArg List.length U.o;rw[bc]at hl;rw[<-hl,show S.length+1+G.length=f by omega]
  ·have aa:(S++((⟨op,a,b,(f:Int),[]⟩,af)::G)).length=f:=(by simp;omega);rw[aa];exact E
  ·rcases da.1 I with I|I
   ·exact(((y.o u (by simp[I])).below z).fr t r)
   ·rcases bO.1 I with rfl|I
    ·exact it.nil _ _ _
    ·exact(((y.o u (by simp[I])).below z).fr t r)
 clear j E t n5 X r A ac g;generalize a6:m.setCell ⟨d,S.length*5+3,none⟩ (ag (f:Int))=w9 at*;go_simp;refine hK undef _ ⟨trivial,fun c=>by simp at c,fun _=> ?_⟩;simp only[d8,aQ,aT,Act.put,aA,aK,aJ];clear hF hw hn hm;clear hK z ck yk a6;go_wp2_with fail;exact⟨rfl,_,eW rfl _ _ _,HN.o⟩
theorem Bd: ∀(a:List (Nat->List In)) (f:Nat->List In) (b:Nat),kG (a++[f]) b=kG a b++f (b+(kG a b).length)
 |[],f,b=>by simp[kG]
 |g::a,f,b=>by
  have c:=Bd a f (b+(g b).length);show g b++kG (a++[f]) (b+(g b).length)=(g b++kG a (b+(g b).length))++_;rw[c,ef];congr 2;show f _=f (b+(g b++kG a (b+(g b).length)).length);rw[aP,<-Nat.add_assoc]
def L8 (d:World)(gm:Nat)(f:Value)(l:List Ru)(sl:Value)(e:List Ex):Prop:=
 ∃g o c:Nat,sl= .slice (some (ae g o)) e.length c/\g<d.heap.size/\e.length<9223372036854775808/\ ∀(j:Nat) (k:Ex),e[j]? =some k-> ∃(p:Option Addr) (q:Nat),
  d.cell? (ae g (o+j*5))=some (ag k.kind)/\d.cell? (ae g (o+j*5+1))=some (ag k.a)/\d.cell? (ae g (o+j*5+2))=some (ag k.b)/\
  d.cell? (ae g (o+j*5+3))=some (.string ⟨k.name.toArray⟩)/\d.cell? (ae g (o+j*5+4))=some (.slice p k.kids.length q)/\Gu d gm f l k (.slice p k.kids.length q)
def lq (l:List Ru)(a:List Ex)(j b:Nat):List In:=kG ((a.take j).map (dc (atP5 l))) b
theorem D2 {l:List Ru}{a:List Ex}{j b:Nat}{k:Ex}(h:a[j]? =some k):lq l a (j+1) b=lq l a j b++dc (atP5 l) k (b+(lq l a j b).length):=by
 unfold lq;rw[eX,h,dZ];exact Bd _ _ _
theorem qz (E:World)(gm:Nat)(D:Value)(l:List Ru)(d:List Ex)(sl:Value)(op a:Int)(S:List (In×Value))(q:World)(h:WOk E gm D S q)(hk:L8 E gm D l sl d)(L: ∀(j:Nat) (k:Ex),d[j]? =some k->S.length+(lq l d j S.length).length+jj k<=700)(N:S.length+(lq l d d.length S.length).length<=700):
  Calls prog 160 #[ab gm 0,sl,.agg #[ag op,ag a,ag 0,ag 0,af]] q (oH E gm D S (kG (d.map (dc (atP5 l))) S.length++[⟨op,a,0,0,[]⟩]) q):=by
 have X:=ba L;have Y:=ba N;obtain⟨g,o,c,ah,ao,aq,y⟩:=hk;subst ah;have G:=ba y;have R:=am q (.cells #[ag op,ag a,ag 0,ag 0,af] 216);have U:=aG q (.cells #[ag op,ag a,ag 0,ag 0,af] 216);have hA:=h.below R;obtain⟨T,K⟩:=au q.heap.size;have an:gm<T:=by rw[<-K];exact h.lt
 have W:=ba (Fr2.below h.lt R)
 have ac:Rb (uG gm (q.alloc (.cells #[ag op,ag a,ag 0,ag 0,af] 216))≠some T):=by
  show _≠_;obtain⟨_,_,sv,n1,Q⟩:=h.st;rw[pt (ai R n1)];intro e;have:=(Q.lt _ e).2;omega
 generalize ak:q.alloc (.cells #[ag op,ag a,ag 0,ag 0,af] 216)=wA at*;rw[K]at U;have aa:=ba U;have HA:=ba hA;have ad:T<wA.heap.size:=aI U;clear R U hA h L N y;go_enter func160,ntmps160;go_wp2_with fail;go_loopw [7,10] (fun _ t wr=> ∃(j:Nat) (i:List (In×Value)),t=ag (j:Int)/\j<=d.length/\i.map (fun u=>u.1)=lq l d j S.length/\WOk E gm D (S++i) wr/\Fr2 gm wA wr) (fun _ t _=>d.length-(intOf t).toNat);case atStart=>exact⟨0,[],rfl,by omega,rfl,by rw[gH];exact HA.o,Fr2.below (by omega) (aH _ _)⟩
 case round=>
  obtain⟨j,i,rfl,hj,m,f,n⟩:=hrel;clear HA ak;have ap:(0:Int)<=(j:Int):=(by omega);have p:i.length=(lq l d j S.length).length:=(by rw[<-m,bc]);by_cases ae:j<d.length
  ·have M:(j:Int)<(d.length:Int):=(by omega);obtain⟨k,s⟩: ∃k,d[j]? =some k:=⟨d[j],ay ae⟩
   obtain⟨pk,ck,d0,d1,d2,d3,d4,O⟩:=G.o j k s;have C:=f.st.bel;have f0:=aj C d0;have f1:=aj C d1;have f2:=aj C d2;have f3:=aj C d3;have f4:=aj C d4;have bB:=am wr (.cells #[ag k.kind,ag k.a,ag k.b,.string ⟨k.name.toArray⟩,.slice pk k.kids.length ck] 84);have nB:=aG wr (.cells #[ag k.kind,ag k.a,ag k.b,.string ⟨k.name.toArray⟩,.slice pk k.kids.length ck] 84);have B:=f.below bB;have x:=n.trans (Fr2.below f.lt bB);have cE:=O _ _ B (by rw[aP,p];exact X.o j k s);unfold exV at cE
   have I:Rb (i.map (fun u=>u.1)++dc (atP5 l) k (S++i).length=lq l d (j+1) S.length):=by
    show _=_;rw[D2 s,m,aP,p]
   generalize al:wr.alloc (.cells #[ag k.kind,ag k.a,ag k.b,.string ⟨k.name.toArray⟩,.slice pk k.kids.length ck] 84)=wB at*;have F:=ba x;clear d0 d1 d2 d3 d4 O s bB f n B x m C p;go_wp2_with(refine aR rfl 84 _ rfl _ rfl _ _ _ _ nB fo rfl (by kernel_rfl) ?_)
   refine cE.mono ?_;rintro r w3 ⟨rfl,S2,J,z,v⟩
   have H:Rb (WOk E gm D (S++(i++S2)) w3):=by
    show WOk _ _ _ _ _;rw[<-ef];exact z
   have Z:Rb ((i++S2).map (fun u=>u.1)=lq l d (j+1) S.length):=by
    show _=_;rw[dZ,J];exact I.o
   have V:=ba (F.o.trans v);clear cE nB al f0 f1 f2 f3 f4 J z v I F;go_wp2_with fail;go_roundw;case rel=>exact⟨j+1,i++S2,by go_num,by omega,Z.o,H.o,V.o⟩
   case measure=>simp[intOf];omega
  ·have M: ¬(j:Int)<(d.length:Int):=(by omega);obtain rfl:j=d.length:=(by omega);have P:=(n.blk T ad (by omega) ac.o).trans aa.o;have cP:=vK f ⟨op,a,0,0,[]⟩ (af) (it.nil _ _ _) (by rw[aP,p];have:=Y.o;omega);dsimp only at cP
   have HM:Rb (i.map (fun u=>u.1)=kG (d.map (dc (atP5 l))) S.length):=by
    show _=_;rw[m];unfold lq;rw[gI]
   have HF:=ba (W.o.trans n);clear f n m p;go_wp2_with(refine aR rfl 216 _ rfl _ rfl _ _ _ _ P xr rfl (by kernel_rfl) ?_)
   refine cP.mono ?_;rintro r w4 ⟨rfl,A,w⟩
   have HN:Rb (oH E gm D S (kG (d.map (dc (atP5 l))) S.length++[⟨op,a,0,0,[]⟩]) q (.returned (.tuple #[])) w4):=by
    refine⟨rfl,i++[(⟨op,a,0,0,[]⟩,af)],?_,?_,HF.o.trans w⟩
    ·rw[dZ,HM.o];rfl
    ·rw[<-ef];exact A
   clear cP P A w HM HF;go_wp2_with fail;exact⟨rfl,_,eW rfl _ _ _,HN.o⟩
end Go.Proofs.YtlkehieagdkgiaaGreatDoor
