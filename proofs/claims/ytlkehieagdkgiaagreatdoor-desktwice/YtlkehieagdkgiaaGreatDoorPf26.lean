/- Texts of the proof. -/
import Derived.Test.YtlkehieagdkgiaaGreatDoorPf25
set_option maxRecDepth 100000
set_option maxHeartbeats 8000000
namespace Go.Proofs.YtlkehieagdkgiaaGreatDoor
open Go.Proofs.Tryz Go.RowKit Lx Vx Mx Msk
section
structure MJc (go n:Nat)(sv:Nat->Value)(H T:Nat->Int)(i:Nat)(h tt mh mt:Int)(w:World)(L:Nat->Bool)(W:World):Prop where
 st:fU go n sv (if L 14=true then upI H i mh else H) (if L 17=true then upI T i mt else T) W
 hi:i<n
 eH:H i=h
 eT:T i=tt
 kept:bq go w W
section
variable {go n i:Nat} {sv:Nat->Value} {H T:Nat->Int} {h tt mh mt:Int} {w W:World} {L:Nat->Bool}
theorem MJc.start (a:fU go n sv H T w)(hi:i<n)(eH:H i=h)(eT:T i=tt):MJc go n sv H T i h tt mh mt w (fun _=>false) w.drew:=⟨a.below (aH _ _).drew,hi,eH,eT,bq.of_below (aH _ _).drew⟩
theorem MJc.below {b:World}(a:MJc go n sv H T i h tt mh mt w L W)(c:aq W b):MJc go n sv H T i h tt mh mt w L b:=⟨a.st.below c,a.hi,a.eH,a.eT,a.kept.trans (bq.of_below c)⟩
theorem MJc.other (a:MJc go n sv H T i h tt mh mt w L W)(k:Nat)(b:k≠14)(c:k≠17):MJc go n sv H T i h tt mh mt w (fun q=>decide (k=q)||L q) W:=by
 refine⟨?_,a.hi,a.eH,a.eT,a.kept⟩;simpa[b,c] using a.st
theorem MJc.loadH (a:MJc go n sv H T i h tt mh mt w L W)(b:L 14=false):W.cell? (ae go (i*3+1))=some (ag h):=by
 have:=(a.st.cells a.hi).2.1;rw[b,ax (by simp),a.eH]at this;exact this
theorem MJc.loadT (a:MJc go n sv H T i h tt mh mt w L W)(b:L 17=false):W.cell? (ae go (i*3+2))=some (ag tt):=by
 have:=(a.st.cells a.hi).2.2.1;rw[b,ax (by simp),a.eT]at this;exact this
theorem MJc.cellH (a:MJc go n sv H T i h tt mh mt w L W): ∃v,W.cell? (ae go (i*3+1))=some (ag v)/\W.frozen? (ae go (i*3+1))=false:=⟨_,(a.st.cells a.hi).2.1,(a.st.cells a.hi).2.2.2.1⟩
theorem MJc.cellT (a:MJc go n sv H T i h tt mh mt w L W): ∃v,W.cell? (ae go (i*3+2))=some (ag v)/\W.frozen? (ae go (i*3+2))=false:=⟨_,(a.st.cells a.hi).2.2.1,(a.st.cells a.hi).2.2.2.2⟩
theorem MJc.storeH (a:MJc go n sv H T i h tt mh mt w L W)(b:L 14=false):MJc go n sv H T i h tt mh mt w (fun q=>decide (14=q)||L q) (W.setCell ⟨go,i*3+1,none⟩ (ag mh)):=by
 refine⟨?_,a.hi,a.eH,a.eT,a.kept.trans (iR W go (i*3+1) _)⟩;have:=a.st.setH mh a.hi;simp only[b,Bool.false_eq_true,if_false]at this;simpa using this
theorem MJc.storeT (a:MJc go n sv H T i h tt mh mt w L W)(b:L 17=false):MJc go n sv H T i h tt mh mt w (fun q=>decide (17=q)||L q) (W.setCell ⟨go,i*3+2,none⟩ (ag mt)):=by
 refine⟨?_,a.hi,a.eH,a.eT,a.kept.trans (iR W go (i*3+2) _)⟩;have:=a.st.setT mt a.hi;simp only[b,Bool.false_eq_true,if_false]at this;simpa using this
theorem MJc.fin (c:MJc go n sv H T i h tt mh mt w L W)(a:L 14=true)(b:L 17=true):fU go n sv (upI H i mh) (upI T i mt) W:=by
 have:=c.st;rw[a,b,aB rfl,aB rfl]at this;exact this
end
theorem uE (C:List (List In))(ρ:Nat->Nat)(a:Nat->Int×Int)(hR:sM C ρ)(aS:rS (fj C a))(n go c:Nat)(hn:n=C.length)(da:n<=1000)(sv:Nat->Value)(Ss:Nat->List (In×Value))(hS: ∀k,k<n->(Ss k).map (fun u=>u.1)=C.getD k [])(hL: ∀k,k<n->1<=(Ss k).length/\(Ss k).length<=700)(hV: ∀k,k<n-> ∀u∈Ss k,∃p m c,u.2= .slice p m c)(i:Nat)(hi:i<n)(cs:a i=mG C a i)(h1:1<=(a i).2)
  (IH: ∀k,k<n->ρ k<ρ i-> ∀(H T:Nat->Int) (w:World),fU go n sv H T w->(∀q,q<n->kB w (sv q) (Ss q))->(∀q,q<n->ρ q<=ρ k->Okm a H T q)->Calls prog 133 #[.slice (some (ae go 0)) n c,ag (k:Int)] w (xl a ρ go n sv k H T w))
  (H0 T0:Nat->Int) (w:World) (S:fU go n sv H0 T0 w) (hq: ∀q,q<n->kB w (sv q) (Ss q)) (aE: ∀q,q<n->ρ q<=ρ i->Okm a H0 T0 q):
  Calls prog 133 #[.slice (some (ae go 0)) n c,ag (i:Int)] w (xl a ρ go n sv i H0 T0 w):=by
 obtain⟨g1,c1,a0,_⟩:=(hq i hi).form (hL i hi).1;obtain⟨Q,bs⟩:=au ((Ss i).length);have cg:=hL i hi;rw[bs]at a0 cg;have cE:(C.getD i []).length=Q:=by rw[<-hS i hi,aX,bs]
 have c2:Rg (i<C.length):=hn▸hi;have aV:=ba hn;have HQ:=ba hq;have b1:=ba S;have bA:=am w (.cells #[af,ag 0,ag 0] 195);have nA:=aG w (.cells #[af,ag 0,ag 0] 195);have an:=S.below bA;have co:=S.lt;obtain⟨P,bf⟩:=au w.heap.size;have cz:Rg (w.heap.size<=P):=kh bf;have b:P≠go:=by omega
 have bB:=bq.of_below (g:=go) bA;generalize cL:w.alloc (.cells #[af,ag 0,ag 0] 195)=wA at*;rw[bf]at nA;have x0:=(an.cells hi).1;have x1:=(an.cells hi).2.1;have x2:=(an.cells hi).2.2.1;rw[a0]at x0;have cT:(0:Int)<=(i:Int):=by omega
 have cU:(i:Int)<(n:Int):=by omega
 have cV:(n:Int)<=1000:=by omega
 rcases aE i hi (aD _) with⟨zh,zt⟩|⟨zh,zt⟩
 ·rw[zh]at x1;rw[zt]at x2;have bZ:=ba (lI.refl (n:=n) (i:=i) aE);have bW:=ba an;have bT:=ba bB;have bY:=ba nA;have cd:=ba zh;have ce:=ba zt;clear S hq aE an bB bA zh zt hn nA;go_enter func133,ntmps133;go_wp2_with fail;clear x0 x1 x2 bf;go_loopw [6,8,9,26] (fun y _ _ t wr=> ∃(j:Nat) (H T:Nat->Int),t=ag (j:Int)/\j<=Q/\y=ag (hAt (C.getD i []) j)/\fU go n sv H T wr/\H i=mxH (fj C a) (C.getD i []) j/\T i=stS (fj C a) (C.getD i []) j/\lI a ρ n i H0 T0 H T/\bq go w wr/\wr.heap[P]? =ah #[af,ag 0,ag 0] 195) (fun _ _ _ t _=>Q-(intOf t).toNat);case atStart=>exact⟨0,H0,T0,rfl,by omega,rfl,bW.o,cd.o,ce.o,bZ.o,bT.o,bY.o⟩
  case round=>
   clear bW bT bY cd ce bZ cL;obtain⟨j,H,T,rfl,hj,rfl,aC,bb,a1,bn,a6,ao⟩:=hrel;have cW:(0:Int)<=(j:Int):=(by omega);obtain⟨y,a4⟩:=au (hAt (C.getD i []) j);obtain⟨h,bi⟩:=au (mxH (fj C a) (C.getD i []) j);obtain⟨tt,bp⟩:=au (stS (fj C a) (C.getD i []) j);have cC:=nV (C.getD i []) j;have cA:=sE aS (C.getD i []) j;have cB:=sF aS (C.getD i []) j;rw[a4]at cC;rw[bi]at cA bb;rw[bp]at cB a1;rw[a4];have Z:=ba a4;have X:=ba bi;have ad:=ba bp;have Y:=ba bb;have cX:=cg.2;by_cases cY:j<Q
   ·have cq:(j:Int)<(Q:Int):=(by omega);obtain⟨u,bk⟩: ∃u,(Ss i)[j]? =some u:=⟨(Ss i)[j]'(by omega),ay (by omega)⟩
    have hx:(C.getD i [])[j]? =some u.1:=(by rw[<-hS i hi,bj,bk];rfl);obtain⟨g',c',e',al⟩:=((HQ.o i hi).kept b1.o a6).form (hL i hi).1;rw[a0]at e';injection e' with e1 e2 e3;injection e1 with e1;injection e1 with e1 _ _;subst e1;clear e2 e3;obtain⟨d0,d1,d2,d3,d4⟩:=al j u bk;obtain⟨pv,nv,cv,cw⟩:=hV i hi u (aN bk);obtain⟨⟨op,xa,xb,xt,xs⟩,vv⟩:=u;dsimp only at d0 d1 d2 d3 d4 cw hx;subst cw;have bI:=am wr (.cells #[ag op,ag xa,ag xb,ag xt,.slice pv nv cv] 216);have nI:=aG wr (.cells #[ag op,ag xa,ag xb,ag xt,.slice pv nv cv] 216);have a7:=aC.below bI;have cn:=ai bI ao;have bD:=a6.trans (bq.of_below bI);have ch: ∀q,q<n->kB (wr.alloc (.cells #[ag op,ag xa,ag xb,ag xt,.slice pv nv cv] 216)) (sv q) (Ss q):=fun q hq=>(HQ.o q hq).kept b1.o bD;have co:=aC.lt;obtain⟨g8,cD⟩:=au wr.heap.size;generalize de:wr.alloc (.cells #[ag op,ag xa,ag xb,ag xt,.slice pv nv cv] 216)=wI at*;rw[cD]at nI;have zT:=(a7.cells hi).2.2.1;have yT:=(a7.cells hi).2.2.2.2;rw[a1]at zT;have bu:=a7.setT (tt+1) hi;have d:=ba bu;have bw:=ba (bD.trans (iR wI go (i*3+2) (ag (tt+1))));have av:=ba ((aP wI ⟨go,i*3+2,none⟩ P (ag (tt+1)) b).trans cn);have aZ:=ba (lI.setT bn (tt+1));have b3:Rg (∀q,q<n->kB (wI.setCell ⟨go,i*3+2,none⟩ (ag (tt+1))) (sv q) (Ss q)):=fun q hq=>(ch q hq).kept a7 (iR wI go (i*3+2) (ag (tt+1)));have bG:=(aP wI ⟨go,i*3+2,none⟩ g8 (ag (tt+1)) (by show g8≠go;omega)).trans nI;generalize db:wI.setCell ⟨go,i*3+2,none⟩ (ag (tt+1))=U at*;have cM:=ak 0 bG;have O:=ba hx;have aa:=bw;have V:=av;have ac:=aZ;clear bI aC ao a6 ch a7 cn bD bu nI bk hx al bn bb a1 a4 bi bp;by_cases aF:op=1
    ·have e1:(op==1)=true:=(by simp[aF])
     have f:Rg (hAt (C.getD i []) (j+1)=y+1):=by
      show _=_;rw[jP O.o,Z.o];unfold eff;dsimp only;rw[aB (.inl aF)];try omega
     have I:Rg (max h (y+1)=mxH (fj C a) (C.getD i []) (j+1)):=by
      show _=_;rw[ld O.o,f.o,ax (by show¬op=8;omega),X.o]
     have G:Rg (upI T i (tt+1) i=stS (fj C a) (C.getD i []) (j+1)):=by
      show _=_;rw[jd,ko O.o,ax (by show¬op=8;omega),ad.o];try omega
     have zH:=(d.o.cells hi).2.1;have yH:=(d.o.cells hi).2.2.2.1;rw[Y.o]at zH;obtain⟨m1,J⟩:=au (max h (y+1));have B:=ba J;have D:=ba (d.o.setH m1 hi);have A:=ba (aa.o.trans (iR U go (i*3+1) (ag m1)));have z:=ba ((aP U ⟨go,i*3+1,none⟩ P (ag m1) b).trans V.o);have E:=ba (ac.o.setH m1);generalize aU:U.setCell ⟨go,i*3+1,none⟩ (ag m1)=wZ at*;clear aF;go_wp2_with fail;go_roundw;case rel=>exact⟨j+1,upI H i m1,upI T i (tt+1),by go_num,by omega,by rw[f.o],D.o,(jd _ _ _).trans (B.o.symm.trans I.o),G.o,E.o,A.o,z.o⟩
     case measure=>simp[intOf];omega
    have e1:(op==1)=false:=(by simpa using aF);by_cases ap:op=2
    ·have e2:(op==2)=true:=(by simp[ap])
     have f:Rg (hAt (C.getD i []) (j+1)=y-1):=by
      show _=_;rw[jP O.o,Z.o];unfold eff;dsimp only;rw[ax (by omega),aB (by omega)];try omega
     have I:Rg (max h (y-1)=mxH (fj C a) (C.getD i []) (j+1)):=by
      show _=_;rw[ld O.o,f.o,ax (by show¬op=8;omega),X.o]
     have G:Rg (upI T i (tt+1) i=stS (fj C a) (C.getD i []) (j+1)):=by
      show _=_;rw[jd,ko O.o,ax (by show¬op=8;omega),ad.o];try omega
     have zH:=(d.o.cells hi).2.1;have yH:=(d.o.cells hi).2.2.2.1;rw[Y.o]at zH;obtain⟨m1,J⟩:=au (max h (y-1));have B:=ba J;have D:=ba (d.o.setH m1 hi);have A:=ba (aa.o.trans (iR U go (i*3+1) (ag m1)));have z:=ba ((aP U ⟨go,i*3+1,none⟩ P (ag m1) b).trans V.o);have E:=ba (ac.o.setH m1);generalize aU:U.setCell ⟨go,i*3+1,none⟩ (ag m1)=wZ at*;clear ap;go_wp2_with fail;go_roundw;case rel=>exact⟨j+1,upI H i m1,upI T i (tt+1),by go_num,by omega,by rw[f.o],D.o,(jd _ _ _).trans (B.o.symm.trans I.o),G.o,E.o,A.o,z.o⟩
     case measure=>simp[intOf];omega
    have e2:(op==2)=false:=(by simpa using ap);by_cases aq:op=3
    ·have e3:(op==3)=true:=(by simp[aq])
     have f:Rg (hAt (C.getD i []) (j+1)=y-1):=by
      show _=_;rw[jP O.o,Z.o];unfold eff;dsimp only;rw[ax (by omega),aB (by omega)];try omega
     have I:Rg (max h (y-1)=mxH (fj C a) (C.getD i []) (j+1)):=by
      show _=_;rw[ld O.o,f.o,ax (by show¬op=8;omega),X.o]
     have G:Rg (upI T i (tt+1) i=stS (fj C a) (C.getD i []) (j+1)):=by
      show _=_;rw[jd,ko O.o,ax (by show¬op=8;omega),ad.o];try omega
     have zH:=(d.o.cells hi).2.1;have yH:=(d.o.cells hi).2.2.2.1;rw[Y.o]at zH;obtain⟨m1,J⟩:=au (max h (y-1));have B:=ba J;have D:=ba (d.o.setH m1 hi);have A:=ba (aa.o.trans (iR U go (i*3+1) (ag m1)));have z:=ba ((aP U ⟨go,i*3+1,none⟩ P (ag m1) b).trans V.o);have E:=ba (ac.o.setH m1);generalize aU:U.setCell ⟨go,i*3+1,none⟩ (ag m1)=wZ at*;clear aq;go_wp2_with fail;go_roundw;case rel=>exact⟨j+1,upI H i m1,upI T i (tt+1),by go_num,by omega,by rw[f.o],D.o,(jd _ _ _).trans (B.o.symm.trans I.o),G.o,E.o,A.o,z.o⟩
     case measure=>simp[intOf];omega
    have e3:(op==3)=false:=(by simpa using aq);by_cases ar:op=4
    ·have e4:(op==4)=true:=(by simp[ar])
     have f:Rg (hAt (C.getD i []) (j+1)=y-1):=by
      show _=_;rw[jP O.o,Z.o];unfold eff;dsimp only;rw[ax (by omega),aB (by omega)];try omega
     have I:Rg (max h (y-1)=mxH (fj C a) (C.getD i []) (j+1)):=by
      show _=_;rw[ld O.o,f.o,ax (by show¬op=8;omega),X.o]
     have G:Rg (upI T i (tt+1) i=stS (fj C a) (C.getD i []) (j+1)):=by
      show _=_;rw[jd,ko O.o,ax (by show¬op=8;omega),ad.o];try omega
     have zH:=(d.o.cells hi).2.1;have yH:=(d.o.cells hi).2.2.2.1;rw[Y.o]at zH;obtain⟨m1,J⟩:=au (max h (y-1));have B:=ba J;have D:=ba (d.o.setH m1 hi);have A:=ba (aa.o.trans (iR U go (i*3+1) (ag m1)));have z:=ba ((aP U ⟨go,i*3+1,none⟩ P (ag m1) b).trans V.o);have E:=ba (ac.o.setH m1);generalize aU:U.setCell ⟨go,i*3+1,none⟩ (ag m1)=wZ at*;clear ar;go_wp2_with fail;go_roundw;case rel=>exact⟨j+1,upI H i m1,upI T i (tt+1),by go_num,by omega,by rw[f.o],D.o,(jd _ _ _).trans (B.o.symm.trans I.o),G.o,E.o,A.o,z.o⟩
     case measure=>simp[intOf];omega
    have e4:(op==4)=false:=(by simpa using ar);by_cases x:op=8
    ·have e8:(op==8)=true:=(by simp[x]);obtain⟨cl,bd,bm⟩:=hR.lt i j _ c2.o O.o x;dsimp only at cl bd bm;obtain⟨k0,b8⟩: ∃k0:Nat,xa=(k0:Int):=⟨xa.toNat,by omega⟩
     have L:k0<n:=(by rw[aV.o];rw[b8]at bd;simpa using bd);have aR:ρ k0<ρ i:=(by rw[b8]at bm;simpa using bm);subst b8;have cR:=IH k0 L aR _ _ U d.o (fun q cG=>b3.o q cG) (aZ.o.pre aR);obtain⟨h9,bh⟩:=au ((a k0).1);obtain⟨s9,bo⟩:=au ((a k0).2);have b5:=(aS.hi k0)
     have a2:=(aS.st k0)
     rw[mZ (by rw[<-aV.o];exact L)]at b5 a2;dsimp only at b5 a2;rw[bh]at b5;rw[bo]at a2;unfold xl at cR;rw[bh,bo]at cR;obtain⟨gk,ck,bv,_⟩:=(b3.o k0 L).form (hL k0 L).1;rw[bv]at cR;obtain⟨lk,cp⟩:=au ((Ss k0).length);rw[cp]at cR;obtain⟨t9,cH⟩:=au (tt+1+s9);obtain⟨m0,cr⟩:=au (max h (y+h9));have cQ:=ba cr;have a3:0<=t9/\t9<=99999999:=(by omega);have cP:IntKind.i64.wrap t9=t9:=(by rw[bx];omega);have cO:IntKind.i64.wrap (y+h9)=y+h9:=(by rw[bx];omega);have c9:=a3.1;have c8:=a3.2
     have f:Rg (hAt (C.getD i []) (j+1)=y+1):=by
      show _=_;rw[jP O.o,Z.o];unfold eff;dsimp only;rw[aB (.inr x)]
     have I:Rg (max m0 (y+1)=mxH (fj C a) (C.getD i []) (j+1)):=by
      show _=_;rw[ld O.o,f.o,aB x,X.o,Z.o];dsimp only;rw[cj,mZ (by rw[<-aV.o];exact L),<-cr,<-bh]
     have c4:Rg (t9=stS (fj C a) (C.getD i []) (j+1)):=by
      show _=_;rw[ko O.o,aB x,ad.o,<-cH];dsimp only;rw[cj,mZ (by rw[<-aV.o];exact L),<-bo]
     have cN:=ak 1 bG;clear bh bo cl bd bm x bv cp;go_wp2_with fail;refine cR.mono ?_;rintro r w2 ⟨rfl,Hc,Tc,bF,bt,ct,bl⟩;obtain⟨aO,cf,ci⟩:=aZ.o.call aR hi bt ct;have c0:Rg (Hc i=h):=cf.trans Y.o;have c6:Rg (Tc i=tt+1):=ci.trans (jd _ _ _);have bC:=am w2 (.cells #[.slice (some (ae gk 0)) lk ck,ag h9,ag s9] 195);have n9:=aG w2 (.cells #[.slice (some (ae gk 0)) lk ck,ag h9,ag s9] 195);have bz:=ba (bF.below bC);have bR:=ba ((bw.o.trans bl).trans (bq.of_below bC));have bO:=ba ((bC.block _ (aI ((bl.block _ (aI av.o) (fun e=>b (aM e))).trans av.o))).trans ((bl.block _ (aI av.o) (fun e=>b (aM e))).trans av.o));have ca:=ba aO;obtain⟨g9,be⟩:=au w2.heap.size;have b6:g9≠go:=(by have:=bF.lt;omega);generalize dd:w2.alloc (.cells #[.slice (some (ae gk 0)) lk ck,ag h9,ag s9] 195)=w3 at*;rw[be]at n9;have bX:=ba n9;have bM:=(bz.o.cells hi).2.2.1;rw[c6.o]at bM;have br:=ak 2 n9;have G:Rg (upI Tc i t9 i=stS (fj C a) (C.getD i []) (j+1)):=(jd _ _ _).trans c4.o;clear cR bF bt ct bl aO cf ci bC n9 d b3 aZ bw av bG cM cN;go_wp2_with fail;refine jY 9 [kn 55 (ab go (i*3)),kn 56 (ab go (i*3)),kn 57 (ab go (i*3+2)),kn 58 (ag (tt+1)),kn 59 (ab g9 2),kn 60 (ag s9),kn 61 (ag t9),kn 62 (ab go (i*3)),kn 63 (ab go (i*3+2)),nk] (by kernel_rfl) (by kernel_rfl) fun M φ W _ s F l hl hF=> ?_;have bH:=aj s bM;have bJ:=aj s br;simp only[kn,nk,eh,aQ,aT,Act.put,az,aK,aJ]at hl;subst hl;simp only[dc,Nat.reduceAdd]at hF;dsimp only[kn,nk,dz,eV,eo,Act.put];and_intros;all_goals first|exact trivial|intro hw hn S K hK
     all_goals try (go_simp;with_reducible exact hK _ _ ⟨rfl,aH _ _⟩)
     clear bH bJ;have N:=ba (bz.o.below s);have zq:=(N.o.cells hi).2.2.1;have yq:=(N.o.cells hi).2.2.2.2;have bE:=N.o.setT t9 hi;have bV:=ba bE;have bL:=(bE.cells hi).2.1;rw[c0.o]at bL;have bS:=ba ((bR.o.trans (bq.of_below s)).trans (iR W go (i*3+2) (ag t9)));have bP:=ba ((aP W ⟨go,i*3+2,none⟩ P (ag t9) b).trans (ai s bO.o));have cb:=ba (ca.o.setT t9);have cx:=(aP W ⟨go,i*3+2,none⟩ g9 (ag t9) b6).trans (ai s bX.o);generalize cI:W.setCell ⟨go,i*3+2,none⟩ (ag t9)=w4 at*;have bK:=ak 1 cx;go_simp;refine hK undef _ ⟨trivial,fun c=>by simp at c,fun _=> ?_⟩;simp only[eD,aQ,aT,Act.put,az,aK,aJ];clear hF hw hn S;clear hK s zq yq cI bM br bz bR bO ca N cx bX bE;have br:=bK;go_wp2_with fail;refine jY 12 [kn 64 (ab go (i*3)),kn 65 (ab go (i*3)),kn 66 (ab go (i*3)),kn 67 (ab go (i*3+1)),kn 68 (ag h),kn 69 (ag y),kn 70 (ab g9 1),kn 71 (ag h9),kn 72 (ag (y+h9)),kn 73 (ag m0),kn 74 (ab go (i*3)),kn 75 (ab go (i*3+1)),nk] (by kernel_rfl) (by kernel_rfl) fun M φ W _ s F ll hl hF=> ?_;have bH:=aj s bL;have bJ:=aj s bK;simp only[kn,nk,eh,aQ,aT,Act.put,az,aK,aJ]at hl;subst hl;simp only[dc,Nat.reduceAdd]at hF;dsimp only[kn,nk,dz,eV,eo,Act.put];and_intros;all_goals first|exact trivial|intro hw hn S K hK
     all_goals try (go_simp;with_reducible exact hK _ _ ⟨rfl,aH _ _⟩)
     clear bH bJ;have N:=ba (bV.o.below s);have zq:=(N.o.cells hi).2.1;have yq:=(N.o.cells hi).2.2.2.1;have b0:=ba (N.o.setH m0 hi);have c3:=ba ((bS.o.trans (bq.of_below s)).trans (iR W go (i*3+1) (ag m0)));have cy:=ba ((aP W ⟨go,i*3+1,none⟩ P (ag m0) b).trans (ai s bP.o));have ac:=ba (cb.o.setH m0);generalize cJ:W.setCell ⟨go,i*3+1,none⟩ (ag m0)=w5 at*;go_simp;refine hK undef _ ⟨trivial,(fun c=>by simp at c),fun _=> ?_⟩;simp only[eD,aQ,aT,Act.put,az,aK,aJ];clear hK hF hw hn S s zq yq cJ bL bK br bV bS bP cb N;have aa:=c3;have V:=cy;have cu:upI Hc i m0 i=m0:=jd _ _ _;have c7:=ba cu;clear cu;have zH:=(b0.o.cells hi).2.1;have yH:=(b0.o.cells hi).2.2.2.1;rw[c7.o]at zH;obtain⟨m1,J⟩:=au (max m0 (y+1));have B:=ba J;have D:=ba (b0.o.setH m1 hi);have A:=ba (aa.o.trans (iR w5 go (i*3+1) (ag m1)));have z:=ba ((aP w5 ⟨go,i*3+1,none⟩ P (ag m1) b).trans V.o);have E:=ba (ac.o.setH m1);generalize aU:w5.setCell ⟨go,i*3+1,none⟩ (ag m1)=wZ at*;go_wp2_with fail;go_roundw;case rel=>exact⟨j+1,upI (upI Hc i m0) i m1,upI Tc i t9,by go_num,by omega,by rw[f.o],D.o,(jd _ _ _).trans (B.o.symm.trans I.o),G.o,E.o,A.o,z.o⟩
     case measure=>simp[intOf];omega
    have e8:(op==8)=false:=(by simpa using x)
    have f:Rg (hAt (C.getD i []) (j+1)=y):=by
     show _=_;rw[jP O.o,Z.o];unfold eff;dsimp only;rw[ax (by omega),ax (by omega)];simp
    have I:Rg (max h (y)=mxH (fj C a) (C.getD i []) (j+1)):=by
     show _=_;rw[ld O.o,f.o,ax (by show¬op=8;omega),X.o]
    have G:Rg (upI T i (tt+1) i=stS (fj C a) (C.getD i []) (j+1)):=by
     show _=_;rw[jd,ko O.o,ax (by show¬op=8;omega),ad.o];try omega
    have zH:=(d.o.cells hi).2.1;have yH:=(d.o.cells hi).2.2.2.1;rw[Y.o]at zH;obtain⟨m1,J⟩:=au (max h (y));have B:=ba J;have D:=ba (d.o.setH m1 hi);have A:=ba (aa.o.trans (iR U go (i*3+1) (ag m1)));have z:=ba ((aP U ⟨go,i*3+1,none⟩ P (ag m1) b).trans V.o);have E:=ba (ac.o.setH m1);generalize aU:U.setCell ⟨go,i*3+1,none⟩ (ag m1)=wZ at*;clear aF ap aq ar x;go_wp2_with fail;go_roundw;case rel=>exact⟨j+1,upI H i m1,upI T i (tt+1),by go_num,by omega,by rw[f.o],D.o,(jd _ _ _).trans (B.o.symm.trans I.o),G.o,E.o,A.o,z.o⟩
    case measure=>simp[intOf];omega
   ·have cq: ¬(j:Int)<(Q:Int):=(by omega);obtain rfl:Q=j:=(by omega);obtain⟨mh,a9⟩:=au (min h 101);obtain⟨mt,aw⟩:=au (min tt 20001)
    have b4:Rg (a i=(mh,mt)):=by
     show _=_;rw[cs];unfold mG;rw[cE,X.o,ad.o,a9,aw]
    have c5:=ba a1;have bQ:=ba aC;have cc:=ba bn;have bU:=ba a6;have bN:=ba ao;clear aC bn a6 ao a4 bi bp bb a1;go_wp2_with fail;refine cZ (fun M _ W=>MJc go n sv H T i h tt mh mt wr M W) [kn 88 (ab go (i*3)),kn 89 (ab go (i*3)),kn 90 (ab go (i*3)),kn 91 (ab go (i*3)),kn 92 (ab go (i*3+1)),dk 93 (ag h),dk 94 (ag mh),kn 95 (ab go (i*3)),kn 96 (ab go (i*3)),kn 97 (ab go (i*3+2)),dk 98 (ag tt),dk 99 (ag mt),kn 100 (ab go (i*3)),kn 101 (ab go (i*3+1)),nk,kn 102 (ab go (i*3)),kn 103 (ab go (i*3+2)),nk] (fun _=>MJc.start bQ.o hi Y.o c5.o) (fun _ _ _ _ hb h=>h.below hb) (by kernel_rfl) (fun M φ W2 s al F ll hl hF=> ?_) (fun M φ W2 hM s=> ?_)
    ·simp only[kn,dk,nk,eh,aQ,aT,Act.put,az,aK,aJ]at hl;subst hl;simp only[dc,Nat.reduceAdd]at hF;dsimp only[kn,dk,nk,dz,eV,eo,Act.put];and_intros;all_goals first|exact trivial|intro hw hn S K hK
     all_goals try (go_simp;with_reducible exact hK _ _ ⟨rfl,aH _ _⟩)
     ·have zz:=s.loadH (by
       cases q:M 14 with
       |false=>rfl
       |true=>rw[al 6 _ rfl (al 14 _ rfl q ⟨6,.data⟩ (by simp) rfl rfl) ⟨5,.data⟩ (by simp) rfl rfl]at S;cases S)
      go_simp;exact hK _ _ ⟨rfl,s.other 5 (by decide) (by decide)⟩
     ·go_simp;exact hK _ _ ⟨rfl,s.other 6 (by decide) (by decide)⟩
     ·have zz:=s.loadT (by
       cases q:M 17 with
       |false=>rfl
       |true=>rw[al 11 _ rfl (al 17 _ rfl q ⟨11,.data⟩ (by simp) rfl rfl) ⟨10,.data⟩ (by simp) rfl rfl]at S;cases S)
      go_simp;exact hK _ _ ⟨rfl,s.other 10 (by decide) (by decide)⟩
     ·go_simp;exact hK _ _ ⟨rfl,s.other 11 (by decide) (by decide)⟩
     ·obtain⟨v9,zz,yy⟩:=s.cellH;have b7:=s.storeH S;generalize cK:W2.setCell ⟨go,i*3+1,none⟩ (ag mh)=w9 at*;go_simp;exact hK undef _ ⟨trivial,b7⟩
     ·obtain⟨v9,zz,yy⟩:=s.cellT;have b7:=s.storeT S;generalize cK:W2.setCell ⟨go,i*3+2,none⟩ (ag mt)=w9 at*;go_simp;exact hK undef _ ⟨trivial,b7⟩
    ·have R:=s.fin (hM 14 (by decide) rfl) (hM 17 (by decide) rfl);have b9:=s.kept;have be:=(b9.block _ (aI bN.o) (fun e=>b (aM e))).trans bN.o;have y0:=(R.cells hi).1;have y1:=(R.cells hi).2.1;have y2:=(R.cells hi).2.2.1;rw[jd]at y1 y2;rw[a0]at y0;have nR:=aL _ _ _ #[.slice (some (ae g1 0)) Q c1,ag mh,ag mt] _ _ be;have a8:=R.same (aW W2 P go #[.slice (some (ae g1 0)) Q c1,ag mh,ag mt] (fun e=>b e.symm))
     have HN:Rg (xl a ρ go n sv i H0 T0 w (.returned (.agg #[.slice (some (ae g1 0)) Q c1,ag mh,ag mt])) (W2.setRow P #[.slice (some (ae g1 0)) Q c1,ag mh,ag mt])):=by
      refine⟨by rw[a0,b4.o],_,_,a8,⟨by rw[b4.o];exact jd _ _ _,by rw[b4.o];exact jd _ _ _⟩,(cc.o.setH mh).setT mt,?_⟩;have a5:=bU.o.trans b9;exact⟨a5.os,a5.tape,a5.output,bg a5.size (by simp),fun q hq cF=>(aW W2 P q _ (fun e=>by have:=cz.o;omega)).trans (a5.block q hq cF)⟩
     have b2:=ba nR;clear s hM R b9 a8 cc bU bQ nR;simp only[kn,dk,nk,eD,aQ,aT,Act.put,az,aK,aJ];go_wp2_with(refine aA rfl 195 _ _ rfl _ _ rfl rfl _ _ be (by kernel_rfl) (by simp) (by simp[Value.oneCell']) ?_)
     refine aY (v:= .agg #[.slice (some (ae g1 0)) Q c1,ag mh,ag mt]) ?_ rfl HN.o;exact bc rfl _ _ P _ _ _ _ rfl b2.o Bg rfl (by kernel_rfl)
 ·obtain⟨mh,a9⟩:=au ((a i).1);obtain⟨mt,aw⟩:=au ((a i).2);rw[zh,a9]at x1;rw[zt,aw]at x2;rw[aw]at h1;have cS:0<mt:=(by omega);have nR:=aL _ _ _ #[.slice (some (ae g1 0)) Q c1,ag mh,ag mt] _ _ nA;have a8:=an.same (aW wA P go #[.slice (some (ae g1 0)) Q c1,ag mh,ag mt] (fun e=>b e.symm));have cm:=below_setRow bA (kh bf) #[.slice (some (ae g1 0)) Q c1,ag mh,ag mt]
  have HN:Rg (xl a ρ go n sv i H0 T0 w (.returned (.agg #[.slice (some (ae g1 0)) Q c1,ag mh,ag mt])) (wA.setRow P #[.slice (some (ae g1 0)) Q c1,ag mh,ag mt])):=
   ⟨by rw[a0,a9,aw],H0,T0,a8,⟨zh,zt⟩,lI.refl aE,bq.of_below cm⟩
  have b2:=ba nR;clear S hq aE an bB bA zh zt hn nR a8 cm h1 a9 aw cs HQ b1 IH hS hL hV hR aS;go_enter func133,ntmps133;go_wp2_with(refine aA rfl 195 _ _ rfl _ _ rfl rfl _ _ nA (by kernel_rfl) (by simp) (by simp[Value.oneCell']) ?_)
  refine aY (v:= .agg #[.slice (some (ae g1 0)) Q c1,ag mh,ag mt]) ?_ rfl HN.o;exact bc rfl _ _ P _ _ _ _ rfl b2.o Bg rfl (by kernel_rfl)
end
theorem wg (w0:World)(gm:Nat)(mp:Value)(l:List Ru)(k:Ex)(p:Option Addr)(q:Nat)(op a b:Int)(S:List (In×Value))(w:World)(h:WOk w0 gm mp S w)(hC:GI w0 gm mp l k (.slice p k.kids.length q))(hS:S.length+1+jm k<=700)(R:(bU (atP5 l) k (S.length+1)).length<=700):
  Calls prog 159 #[ab gm 0,.agg #[ag op,ag a,ag b,ag 0,af],.agg #[ag k.kind,ag k.a,ag k.b,.string ⟨k.name.toArray⟩,.slice p k.kids.length q]] w (oq w0 gm mp S (⟨op,a,b,((S.length+1+(bU (atP5 l) k (S.length+1)).length:Nat):Int),[]⟩::bU (atP5 l) k (S.length+1)) w):=by
 have ay:Rg ((bU (atP5 l) k (S.length+1)).length<=700):=R;have av:=ba h.lt;have bA:=am w (.cells #[ag op,ag a,ag b,ag 0,af] 216);have nA:=aG w (.cells #[ag op,ag a,ag b,ag 0,af] 216);have hA:=h.below bA;obtain⟨gA,a1⟩:=au w.heap.size;generalize a9:w.alloc (.cells #[ag op,ag a,ag b,ag 0,af] 216)=wA at*;rw[a1]at nA;have bB:=am wA (.cells #[ag k.kind,ag k.a,ag k.b,.string ⟨k.name.toArray⟩,.slice p k.kids.length q] 84);have nB:=aG wA (.cells #[ag k.kind,ag k.a,ag k.b,.string ⟨k.name.toArray⟩,.slice p k.kids.length q] 84);have hB:=hA.below bB;have an:=ai bB nA;have aE:=hA.lt;obtain⟨gB,a2⟩:=au wA.heap.size;generalize aA:wA.alloc (.cells #[ag k.kind,ag k.a,ag k.b,.string ⟨k.name.toArray⟩,.slice p k.kids.length q] 84)=wB at*;rw[a2]at nB;have a4:gB≠gm:=by omega
 have P:Rg (Fr2 gm w wB):=Fr2.below av.o (aw bA bB);obtain⟨_,hgt,sv,n1,D⟩:=id hB.st;obtain⟨p0,c0,a5⟩:=dj D;subst a5;have z1:=ak 1 n1;have cP:=vL hB ⟨op,a,b,0,[]⟩ (af) (iA.nil _ _ _) (by omega);dsimp only at cP;have aM:(0:Int)<=(S.length:Int):=by omega
 have aN:(S.length:Int)<=700:=by omega
 have ax:=ba hgt;have ar:=ba hB.st;clear bA bB hA hB D nA hgt n1 h;go_enter func159,ntmps159
 go_wp2_with(first
  |(refine aR rfl 216 _ rfl _ rfl _ _ _ _ an xk rfl (by kernel_rfl) ?_))
 refine cP.mono ?_;rintro L w2 ⟨rfl,C,n⟩;have ao:=(Fr2.fr ar.o n) _ _ _ nB (by decide) a4;have cE:=hC _ w2 C (by rw[aO,eB];exact hS);unfold exV at cE;have O:=ba (P.o.trans n);clear cP C n z1 nB an aA a9
 go_wp2_with(first
  |(refine aR rfl 84 _ rfl _ rfl _ _ _ _ ao ft rfl (by kernel_rfl) ?_))
 refine cE.mono ?_;rintro e2 w3 ⟨rfl,G,x,ad,B⟩;rw[aO,eB]at x;have U:=ba x;have Q:=ba (O.o.trans B);obtain⟨⟨W,_,aB,J,own3⟩,s⟩:=ad;have eS:(S++[((⟨op,a,b,0,[]⟩:In),af)])++G=S++((⟨op,a,b,0,[]⟩,af)::G):=by simp
 rw[eS]at own3 s;obtain⟨f,H⟩:=au ((S++(((⟨op,a,b,0,[]⟩:In),af)::G)).length);rw[H]at own3;have v:Rg (f=S.length+1+G.length):=by show _=_;rw[<-H];simp;omega
 obtain⟨d,c3,a6⟩: ∃d c3,aB= .slice (some (ae d 0)) f c3:=by
  rcases own3.2 with⟨_,e⟩|⟨g',cap,i,e,_⟩
  ·have:=v.o;omega
  ·exact⟨g',cap,e⟩
 subst a6;have aD:=ak 1 J;have a0:=ba own3;have y:=ba s;have ap:=ba W
 have a3:f<=2000:=by
  have h1:=v.o;have V:=congrArg List.length x;rw[aX]at V;have h3:=ay.o;omega
 have aF:(S.length:Int)<(f:Int):=by have:=v.o;omega
 have aL:(f:Int)<=2000:=by omega
 clear cE x B own3 s W eS H ao O P;go_wp2_with fail;refine jY 12 [kn 18 (ab gm 0),kn 19 (ab gm 0),kn 20 (ab gm 1),kn 21 (.slice (some (ae d 0)) f c3),kn 22 (ag (S.length:Int)),kn 23 (ab gm 0),kn 24 (ab gm 0),kn 25 (ab gm 1),kn 26 (.slice (some (ae d 0)) f c3),kn 27 (ag (f:Int)),kn 28 (ab d (S.length*5)),kn 29 (ab d (S.length*5+3)),nk] (by kernel_rfl) (by kernel_rfl) fun M φ m _ z F l hl hF=> ?_;have aC:=aj z aD;simp only[kn,nk,eh,aQ,aT,Act.put,az,aK,aJ]at hl;subst hl;simp only[dc,Nat.reduceAdd]at hF;dsimp only[kn,nk,dz,eV,eo,Act.put];and_intros;all_goals first|exact trivial|intro hw hn hm K hK
 all_goals try (go_simp;with_reducible exact hK _ _ ⟨rfl,aH _ _⟩)
 clear aC;have j:=iI a0.o z;have E:=Pr (f:Int) j
 have al: ∃i,m.heap[d]? =ah i 216/\S.length*5+3<i.size:=by
  rcases j.2 with⟨e,_⟩|⟨g',cap,i,e,_,hg,hn,_,hs,_⟩
  ·cases e
  ·injection e with L _ e3;injection L with L;injection L with L _ _;subst L e3;exact⟨i,hg,by omega⟩
 obtain⟨i,g,Y⟩:=al;have ck:m.cell? (ae d (S.length*5+3))=some (i[S.length*5+3]'Y):=(a8 _ _ _ _ _ _ g).trans (gu Y);have yk:m.frozen? (ae d (S.length*5+3))=false:=bp _ _ _ _ _ g;have t:=ai z J
 have Z:gm≠d:=fun e=>by
  rw[e,g]at t;injection t with t;injection t with _ V _;exact absurd V (by decide)
 have n5:=(aP m ⟨d,S.length*5+3,none⟩ gm (ag (f:Int)) Z).trans t;have X:aq w0 (m.setCell ⟨d,S.length*5+3,none⟩ (ag (f:Int))):=(aw ap.o z).setCell (p:=⟨d,S.length*5+3,none⟩) ((j.lt d rfl).1) _
 have r:Fr gm m (m.setCell ⟨d,S.length*5+3,none⟩ (ag (f:Int))):=fun q c T N hT _=>by
  refine(aP m ⟨d,S.length*5+3,none⟩ q _ (fun e=> ?_)).trans N;rw[show q=d from e,g]at N;injection N with N;injection N with _ V _;exact absurd V.symm hT
 have A:Fr2 gm m (m.setCell ⟨d,S.length*5+3,none⟩ (ag (f:Int))):=by
  refine⟨fun q N _ hr=>aP m ⟨d,S.length*5+3,none⟩ q _ (fun e=>hr ?_),.inl ?_,by simp⟩
  ·rw[oV t,show q=d from e];rfl
  ·rw[oV n5,oV t]
 have ac:=v.o
 have HN:Rg (oq w0 gm mp S (⟨op,a,b,((S.length+1+(bU (atP5 l) k (S.length+1)).length:Nat):Int),[]⟩::bU (atP5 l) k (S.length+1)) w (.returned (.tuple #[])) (m.setCell ⟨d,S.length*5+3,none⟩ (ag (f:Int)))):=by
  refine⟨rfl,(⟨op,a,b,(f:Int),[]⟩,af)::G,?_,⟨⟨X,ax.o,_,n5,?_⟩,fun u I=> ?_⟩,(Q.o.trans (Fr2.below (aI J) z)).trans A⟩
  ·rw[dR,U.o];have hl:=congrArg List.length U.o;rw[aX]at hl;rw[<-hl,show S.length+1+G.length=f by omega]
  ·have aa:(S++((⟨op,a,b,(f:Int),[]⟩,af)::G)).length=f:=(by simp;omega);rw[aa];exact E
  ·rcases bN.1 I with I|I
   ·exact(((y.o u (by simp[I])).below z).fr t r)
   ·rcases bo.1 I with rfl|I
    ·exact iA.nil _ _ _
    ·exact(((y.o u (by simp[I])).below z).fr t r)
 clear j E t n5 X r A ac g;generalize a7:m.setCell ⟨d,S.length*5+3,none⟩ (ag (f:Int))=w9 at*;go_simp;refine hK undef _ ⟨trivial,fun c=>by simp at c,fun _=> ?_⟩;simp only[eD,aQ,aT,Act.put,az,aK,aJ];clear hF hw hn hm;clear hK z ck yk a7;go_wp2_with fail;exact⟨rfl,_,fc rfl _ _ _,HN.o⟩
theorem Bh: ∀(a:List (Nat->List In)) (f:Nat->List In) (b:Nat),kJ (a++[f]) b=kJ a b++f (b+(kJ a b).length)
 |[],f,b=>by simp[kJ]
 |g::a,f,b=>by
  have c:=Bh a f (b+(g b).length);show g b++kJ (a++[f]) (b+(g b).length)=(g b++kJ a (b+(g b).length))++_;rw[c,dD];congr 2;show f _=f (b+(g b++kJ a (b+(g b).length)).length);rw[aO,<-Nat.add_assoc]
def Mt (d:World)(gm:Nat)(f:Value)(l:List Ru)(sl:Value)(e:List Ex):Prop:=
 ∃g o c:Nat,sl= .slice (some (ae g o)) e.length c/\g<d.heap.size/\e.length<9223372036854775808/\ ∀(j:Nat) (k:Ex),e[j]? =some k-> ∃(p:Option Addr) (q:Nat),
  d.cell? (ae g (o+j*5))=some (ag k.kind)/\d.cell? (ae g (o+j*5+1))=some (ag k.a)/\d.cell? (ae g (o+j*5+2))=some (ag k.b)/\
  d.cell? (ae g (o+j*5+3))=some (.string ⟨k.name.toArray⟩)/\d.cell? (ae g (o+j*5+4))=some (.slice p k.kids.length q)/\GI d gm f l k (.slice p k.kids.length q)
def lu (l:List Ru)(a:List Ex)(j b:Nat):List In:=kJ ((a.take j).map (bU (atP5 l))) b
theorem Eg {l:List Ru}{a:List Ex}{j b:Nat}{k:Ex}(h:a[j]? =some k):lu l a (j+1) b=lu l a j b++bU (atP5 l) k (b+(lu l a j b).length):=by
 unfold lu;rw[fV,h,dO];exact Bh _ _ _
theorem qp (E:World)(gm:Nat)(D:Value)(l:List Ru)(d:List Ex)(sl:Value)(op a:Int)(S:List (In×Value))(q:World)(h:WOk E gm D S q)(hk:Mt E gm D l sl d)(L: ∀(j:Nat) (k:Ex),d[j]? =some k->S.length+(lu l d j S.length).length+jm k<=700)(N:S.length+(lu l d d.length S.length).length<=700):
  Calls prog 160 #[ab gm 0,sl,.agg #[ag op,ag a,ag 0,ag 0,af]] q (oq E gm D S (kJ (d.map (bU (atP5 l))) S.length++[⟨op,a,0,0,[]⟩]) q):=by
 have X:=ba L;have Y:=ba N;obtain⟨g,o,c,ah,ao,aq,y⟩:=hk;subst ah;have G:=ba y;have R:=am q (.cells #[ag op,ag a,ag 0,ag 0,af] 216);have U:=aG q (.cells #[ag op,ag a,ag 0,ag 0,af] 216);have hA:=h.below R;obtain⟨T,K⟩:=au q.heap.size;have an:gm<T:=by rw[<-K];exact h.lt
 have W:=ba (Fr2.below h.lt R)
 have ac:Rg (uD gm (q.alloc (.cells #[ag op,ag a,ag 0,ag 0,af] 216))≠some T):=by
  show _≠_;obtain⟨_,_,sv,n1,Q⟩:=h.st;rw[oV (ai R n1)];intro e;have:=(Q.lt _ e).2;omega
 generalize ak:q.alloc (.cells #[ag op,ag a,ag 0,ag 0,af] 216)=wA at*;rw[K]at U;have aa:=ba U;have HA:=ba hA;have ad:T<wA.heap.size:=aI U;clear R U hA h L N y;go_enter func160,ntmps160;go_wp2_with fail;go_loopw [7,10] (fun _ t wr=> ∃(j:Nat) (i:List (In×Value)),t=ag (j:Int)/\j<=d.length/\i.map (fun u=>u.1)=lu l d j S.length/\WOk E gm D (S++i) wr/\Fr2 gm wA wr) (fun _ t _=>d.length-(intOf t).toNat);case atStart=>exact⟨0,[],rfl,by omega,rfl,by rw[gJ];exact HA.o,Fr2.below (by omega) (aH _ _)⟩
 case round=>
  obtain⟨j,i,rfl,hj,m,f,n⟩:=hrel;clear HA ak;have ap:(0:Int)<=(j:Int):=(by omega);have p:i.length=(lu l d j S.length).length:=(by rw[<-m,aX]);by_cases ae:j<d.length
  ·have M:(j:Int)<(d.length:Int):=(by omega);obtain⟨k,s⟩: ∃k,d[j]? =some k:=⟨d[j],ay ae⟩
   obtain⟨pk,ck,d0,d1,d2,d3,d4,O⟩:=G.o j k s;have C:=f.st.bel;have f0:=aj C d0;have f1:=aj C d1;have f2:=aj C d2;have f3:=aj C d3;have f4:=aj C d4;have bB:=am wr (.cells #[ag k.kind,ag k.a,ag k.b,.string ⟨k.name.toArray⟩,.slice pk k.kids.length ck] 84);have nB:=aG wr (.cells #[ag k.kind,ag k.a,ag k.b,.string ⟨k.name.toArray⟩,.slice pk k.kids.length ck] 84);have B:=f.below bB;have x:=n.trans (Fr2.below f.lt bB);have cE:=O _ _ B (by rw[aO,p];exact X.o j k s);unfold exV at cE
   have I:Rg (i.map (fun u=>u.1)++bU (atP5 l) k (S++i).length=lu l d (j+1) S.length):=by
    show _=_;rw[Eg s,m,aO,p]
   generalize al:wr.alloc (.cells #[ag k.kind,ag k.a,ag k.b,.string ⟨k.name.toArray⟩,.slice pk k.kids.length ck] 84)=wB at*;have F:=ba x;clear d0 d1 d2 d3 d4 O s bB f n B x m C p;go_wp2_with(refine aR rfl 84 _ rfl _ rfl _ _ _ _ nB ft rfl (by kernel_rfl) ?_)
   refine cE.mono ?_;rintro r w3 ⟨rfl,S2,J,z,v⟩
   have H:Rg (WOk E gm D (S++(i++S2)) w3):=by
    show WOk _ _ _ _ _;rw[<-dD];exact z
   have Z:Rg ((i++S2).map (fun u=>u.1)=lu l d (j+1) S.length):=by
    show _=_;rw[dO,J];exact I.o
   have V:=ba (F.o.trans v);clear cE nB al f0 f1 f2 f3 f4 J z v I F;go_wp2_with fail;go_roundw;case rel=>exact⟨j+1,i++S2,by go_num,by omega,Z.o,H.o,V.o⟩
   case measure=>simp[intOf];omega
  ·have M: ¬(j:Int)<(d.length:Int):=(by omega);obtain rfl:j=d.length:=(by omega);have P:=(n.blk T ad (by omega) ac.o).trans aa.o;have cP:=vL f ⟨op,a,0,0,[]⟩ (af) (iA.nil _ _ _) (by rw[aO,p];have:=Y.o;omega);dsimp only at cP
   have HM:Rg (i.map (fun u=>u.1)=kJ (d.map (bU (atP5 l))) S.length):=by
    show _=_;rw[m];unfold lu;rw[gM]
   have HF:=ba (W.o.trans n);clear f n m p;go_wp2_with(refine aR rfl 216 _ rfl _ rfl _ _ _ _ P xk rfl (by kernel_rfl) ?_)
   refine cP.mono ?_;rintro r w4 ⟨rfl,A,w⟩
   have HN:Rg (oq E gm D S (kJ (d.map (bU (atP5 l))) S.length++[⟨op,a,0,0,[]⟩]) q (.returned (.tuple #[])) w4):=by
    refine⟨rfl,i++[(⟨op,a,0,0,[]⟩,af)],?_,?_,HF.o.trans w⟩
    ·rw[dO,HM.o];rfl
    ·rw[<-dD];exact A
   clear cP P A w HM HF;go_wp2_with fail;exact⟨rfl,_,fc rfl _ _ _,HN.o⟩
end Go.Proofs.YtlkehieagdkgiaaGreatDoor
