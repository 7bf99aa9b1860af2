/- Texts of the proof. -/
import Derived.Test.YtjkilacmkbmmbaaGreatDoorPe24
set_option maxRecDepth 100000
set_option maxHeartbeats 8000000
namespace Go.Proofs.YtjkilacmkbmmbaaGreatDoor
open Go.Proofs.Tryz Go.RowKit Lx Vx Mx Msk
section
structure MJc (go n:Nat)(sv:Nat->Value)(H T:Nat->Int)(i:Nat)(h tt mh mt:Int)(w:World)(L:Nat->Bool)(W:World):Prop where
 st:eW go n sv (if L 14=true then upI H i mh else H) (if L 17=true then upI T i mt else T) W
 hi:i<n
 eH:H i=h
 eT:T i=tt
 kept:bm go w W
section
variable {go n i:Nat} {sv:Nat->Value} {H T:Nat->Int} {h tt mh mt:Int} {w W:World} {L:Nat->Bool}
theorem MJc.start (hm:eW go n sv H T w)(hi:i<n)(eH:H i=h)(eT:T i=tt):MJc go n sv H T i h tt mh mt w (fun _=>false) w.drew:=⟨hm.below (aG _ _).drew,hi,eH,eT,bm.of_below (aG _ _).drew⟩
theorem MJc.below {W':World}(hJ:MJc go n sv H T i h tt mh mt w L W)(hb:ao W W'):MJc go n sv H T i h tt mh mt w L W':=⟨hJ.st.below hb,hJ.hi,hJ.eH,hJ.eT,hJ.kept.trans (bm.of_below hb)⟩
theorem MJc.other (hJ:MJc go n sv H T i h tt mh mt w L W)(k:Nat)(h1:k≠14)(h2:k≠17):MJc go n sv H T i h tt mh mt w (fun q=>decide (k=q)||L q) W:=by
 refine⟨?_,hJ.hi,hJ.eH,hJ.eT,hJ.kept⟩;simpa[h1,h2] using hJ.st
theorem MJc.loadH (hJ:MJc go n sv H T i h tt mh mt w L W)(h0:L 14=false):W.cell? (ae go (i*3+1))=some (ag h):=by
 have:=(hJ.st.cells hJ.hi).2.1;rw[h0,aw (by simp),hJ.eH]at this;exact this
theorem MJc.loadT (hJ:MJc go n sv H T i h tt mh mt w L W)(h0:L 17=false):W.cell? (ae go (i*3+2))=some (ag tt):=by
 have:=(hJ.st.cells hJ.hi).2.2.1;rw[h0,aw (by simp),hJ.eT]at this;exact this
theorem MJc.cellH (hJ:MJc go n sv H T i h tt mh mt w L W): ∃v,W.cell? (ae go (i*3+1))=some (ag v)/\W.frozen? (ae go (i*3+1))=false:=⟨_,(hJ.st.cells hJ.hi).2.1,(hJ.st.cells hJ.hi).2.2.2.1⟩
theorem MJc.cellT (hJ:MJc go n sv H T i h tt mh mt w L W): ∃v,W.cell? (ae go (i*3+2))=some (ag v)/\W.frozen? (ae go (i*3+2))=false:=⟨_,(hJ.st.cells hJ.hi).2.2.1,(hJ.st.cells hJ.hi).2.2.2.2⟩
theorem MJc.storeH (hJ:MJc go n sv H T i h tt mh mt w L W)(h0:L 14=false):MJc go n sv H T i h tt mh mt w (fun q=>decide (14=q)||L q) (W.setCell ⟨go,i*3+1,none⟩ (ag mh)):=by
 refine⟨?_,hJ.hi,hJ.eH,hJ.eT,hJ.kept.trans (ip W go (i*3+1) _)⟩;have:=hJ.st.setH mh hJ.hi;simp only[h0,Bool.false_eq_true,if_false]at this;simpa using this
theorem MJc.storeT (hJ:MJc go n sv H T i h tt mh mt w L W)(h0:L 17=false):MJc go n sv H T i h tt mh mt w (fun q=>decide (17=q)||L q) (W.setCell ⟨go,i*3+2,none⟩ (ag mt)):=by
 refine⟨?_,hJ.hi,hJ.eH,hJ.eT,hJ.kept.trans (ip W go (i*3+2) _)⟩;have:=hJ.st.setT mt hJ.hi;simp only[h0,Bool.false_eq_true,if_false]at this;simpa using this
theorem MJc.fin (hJ:MJc go n sv H T i h tt mh mt w L W)(h1:L 14=true)(h2:L 17=true):eW go n sv (upI H i mh) (upI T i mt) W:=by
 have:=hJ.st;rw[h1,h2,ay rfl,ay rfl]at this;exact this
end
theorem tL (C:List (List In))(ρ:Nat->Nat)(mea:Nat->Int×Int)(hR:rP C ρ)(hsm:qQ (eh C mea))(n go c:Nat)(hn:n=C.length)(hn9:n<=1000)(sv:Nat->Value)(Ss:Nat->List (In×Value))(hS: ∀k,k<n->(Ss k).map (fun u=>u.1)=C.getD k [])(hL: ∀k,k<n->1<=(Ss k).length/\(Ss k).length<=700)(hV: ∀k,k<n-> ∀u∈Ss k,∃p m c,u.2= .slice p m c)(i:Nat)(hi:i<n)(hme:mea i=lV C mea i)(h1:1<=(mea i).2)
  (IH: ∀k,k<n->ρ k<ρ i-> ∀(H T:Nat->Int) (w:World),eW go n sv H T w->(∀q,q<n->jI w (sv q) (Ss q))->(∀q,q<n->ρ q<=ρ k->Okm mea H T q)->Calls prog 155 #[.slice (some (ae go 0)) n c,ag (k:Int)] w (vU mea ρ go n sv k H T w))
  (H0 T0:Nat->Int) (w:World) (hm:eW go n sv H0 T0 w) (hq: ∀q,q<n->jI w (sv q) (Ss q)) (hok: ∀q,q<n->ρ q<=ρ i->Okm mea H0 T0 q):
  Calls prog 155 #[.slice (some (ae go 0)) n c,ag (i:Int)] w (vU mea ρ go n sv i H0 T0 w):=by
 obtain⟨g1,c1,hsv,_⟩:=(hq i hi).form (hL i hi).1;obtain⟨ln,hlen⟩:=aq ((Ss i).length);have hLi:=hL i hi;rw[hlen]at hsv hLi;have hli:(C.getD i []).length=ln:=by rw[<-hS i hi,aZ,hlen]
 have HIC:P3 (i<C.length):=hn▸hi;have HNC:=aY hn;have HQ:=aY hq;have HMW:=aY hm;have bA:=am w (.cells #[af,ag 0,ag 0] 208);have nA:=aC w (.cells #[af,ag 0,ag 0] 208);have hmA:=hm.below bA;have hlgo:=hm.lt;obtain⟨gr,hgr⟩:=aq w.heap.size;have HGR:P3 (w.heap.size<=gr):=Nat.le_of_eq hgr;have hgrne:gr≠go:=by omega
 have hkA:=bm.of_below (g:=go) bA;generalize hwA:w.alloc (.cells #[af,ag 0,ag 0] 208)=wA at*;rw[hgr]at nA;have x0:=(hmA.cells hi).1;have x1:=(hmA.cells hi).2.1;have x2:=(hmA.cells hi).2.2.1;rw[hsv]at x0;have hi0:(0:Int)<=(i:Int):=by omega
 have hi1:(i:Int)<(n:Int):=by omega
 have hi2:(n:Int)<=1000:=by omega
 rcases hok i hi (aA _) with⟨zh,zt⟩|⟨zh,zt⟩
 ·rw[zh]at x1;rw[zt]at x2;have HR0:=aY (kW.refl (n:=n) (i:=i) hok);have HMA:=aY hmA;have HKA:=aY hkA;have HNA:=aY nA;have HZH:=aY zh;have HZT:=aY zt;clear hm hq hok hmA hkA bA zh zt hn nA;go_enter func155,ntmps155;go_wp2_with fail;clear x0 x1 x2 hgr;go_loopw [6,8,9,26] (fun hy _ _ t wr=> ∃(j:Nat) (H T:Nat->Int),t=ag (j:Int)/\j<=ln/\hy=ag (hAt (C.getD i []) j)/\eW go n sv H T wr/\H i=mxH (eh C mea) (C.getD i []) j/\T i=stS (eh C mea) (C.getD i []) j/\kW mea ρ n i H0 T0 H T/\bm go w wr/\wr.heap[gr]? =ah #[af,ag 0,ag 0] 208) (fun _ _ _ t _=>ln-(intOf t).toNat);case atStart=>exact⟨0,H0,T0,rfl,by omega,rfl,HMA.o,HZH.o,HZT.o,HR0.o,HKA.o,HNA.o⟩
  case round=>
   clear HMA HKA HNA HZH HZT HR0 hwA;obtain⟨j,H,T,rfl,hj,rfl,hms,hHe,hTe,hrs,hkp,hgr2⟩:=hrel;have hj0:(0:Int)<=(j:Int):=(by omega);obtain⟨hy,hhv⟩:=aq (hAt (C.getD i []) j);obtain⟨h,hhh⟩:=aq (mxH (eh C mea) (C.getD i []) j);obtain⟨tt,htt⟩:=aq (stS (eh C mea) (C.getD i []) j);have hbv:=mN (C.getD i []) j;have hbh:=rG hsm (C.getD i []) j;have hbt:=rH hsm (C.getD i []) j;rw[hhv]at hbv;rw[hhh]at hbh hHe;rw[htt]at hbt hTe;rw[hhv];have HHV:=aY hhv;have HHE:=aY hhh;have HTE:=aY htt;have HHI:=aY hHe;have hl7:=hLi.2;by_cases hlt:j<ln
   ·have hlt':(j:Int)<(ln:Int):=(by omega);obtain⟨u,hju⟩: ∃u,(Ss i)[j]? =some u:=⟨(Ss i)[j]'(by omega),ax (by omega)⟩
    have hx:(C.getD i [])[j]? =some u.1:=(by rw[<-hS i hi,bg,hju];rfl);obtain⟨g',c',e',hcl⟩:=((HQ.o i hi).kept HMW.o hkp).form (hL i hi).1;rw[hsv]at e';injection e' with e1 e2 e3;injection e1 with e1;injection e1 with e1 _ _;subst e1;clear e2 e3;obtain⟨d0,d1,d2,d3,d4⟩:=hcl j u hju;obtain⟨pv,nv,cv,hv2⟩:=hV i hi u (aM hju);obtain⟨⟨op,xa,xb,xt,xs⟩,vv⟩:=u;dsimp only at d0 d1 d2 d3 d4 hv2 hx;subst hv2;have bI:=am wr (.cells #[ag op,ag xa,ag xb,ag xt,.slice pv nv cv] 234);have nI:=aC wr (.cells #[ag op,ag xa,ag xb,ag xt,.slice pv nv cv] 234);have hmI:=hms.below bI;have hgI:=ai bI hgr2;have hkI:=hkp.trans (bm.of_below bI);have hQI: ∀q,q<n->jI (wr.alloc (.cells #[ag op,ag xa,ag xb,ag xt,.slice pv nv cv] 234)) (sv q) (Ss q):=fun q hq=>(HQ.o q hq).kept HMW.o hkI;have hlgo:=hms.lt;obtain⟨g8,hg8⟩:=aq wr.heap.size;generalize hwI:wr.alloc (.cells #[ag op,ag xa,ag xb,ag xt,.slice pv nv cv] 234)=wI at*;rw[hg8]at nI;have zT:=(hmI.cells hi).2.2.1;have yT:=(hmI.cells hi).2.2.2.2;rw[hTe]at zT;have hms1:=hmI.setT (tt+1) hi;have HM1s:=aY hms1;have HK1:=aY (hkI.trans (ip wI go (i*3+2) (ag (tt+1))));have HG1:=aY ((aN wI ⟨go,i*3+2,none⟩ gr (ag (tt+1)) hgrne).trans hgI);have HR1:=aY (kW.setT hrs (tt+1));have HQ1:P3 (∀q,q<n->jI (wI.setCell ⟨go,i*3+2,none⟩ (ag (tt+1))) (sv q) (Ss q)):=fun q hq=>(hQI q hq).kept hmI (ip wI go (i*3+2) (ag (tt+1)));have nI1:=(aN wI ⟨go,i*3+2,none⟩ g8 (ag (tt+1)) (by show g8≠go;omega)).trans nI;generalize hw1:wI.setCell ⟨go,i*3+2,none⟩ (ag (tt+1))=w1 at*;have z80:=ak 0 nI1;have HX:=aY hx;have HKN:=HK1;have HGN:=HG1;have HRN:=HR1;clear bI hms hgr2 hkp hQI hmI hgI hkI hms1 nI hju hx hcl hrs hHe hTe hhv hhh htt;by_cases hop:op=1
    ·have e1:(op==1)=true:=(by simp[hop])
     have HH1:P3 (hAt (C.getD i []) (j+1)=hy+1):=by
      show _=_;rw[jp HX.o,HHV.o];unfold eff;dsimp only;rw[ay (.inl hop)];try omega
     have HX1:P3 (max h (hy+1)=mxH (eh C mea) (C.getD i []) (j+1)):=by
      show _=_;rw[ku HX.o,HH1.o,aw (by show¬op=8;omega),HHE.o]
     have HT1:P3 (upI T i (tt+1) i=stS (eh C mea) (C.getD i []) (j+1)):=by
      show _=_;rw[iI,jH HX.o,aw (by show¬op=8;omega),HTE.o];try omega
     have zH:=(HM1s.o.cells hi).2.1;have yH:=(HM1s.o.cells hi).2.2.2.1;rw[HHI.o]at zH;obtain⟨m1,hm1⟩:=aq (max h (hy+1));have HM1:=aY hm1;have HMZ:=aY (HM1s.o.setH m1 hi);have HKZ:=aY (HKN.o.trans (ip w1 go (i*3+1) (ag m1)));have HGZ:=aY ((aN w1 ⟨go,i*3+1,none⟩ gr (ag m1) hgrne).trans HGN.o);have HRZ:=aY (HRN.o.setH m1);generalize hwZ:w1.setCell ⟨go,i*3+1,none⟩ (ag m1)=wZ at*;clear hop;go_wp2_with fail;go_roundw;case rel=>exact⟨j+1,upI H i m1,upI T i (tt+1),by go_num,by omega,by rw[HH1.o],HMZ.o,(iI _ _ _).trans (HM1.o.symm.trans HX1.o),HT1.o,HRZ.o,HKZ.o,HGZ.o⟩
     case measure=>simp[intOf];omega
    have e1:(op==1)=false:=(by simpa using hop);by_cases hop2:op=2
    ·have e2:(op==2)=true:=(by simp[hop2])
     have HH1:P3 (hAt (C.getD i []) (j+1)=hy-1):=by
      show _=_;rw[jp HX.o,HHV.o];unfold eff;dsimp only;rw[aw (by omega),ay (by omega)];try omega
     have HX1:P3 (max h (hy-1)=mxH (eh C mea) (C.getD i []) (j+1)):=by
      show _=_;rw[ku HX.o,HH1.o,aw (by show¬op=8;omega),HHE.o]
     have HT1:P3 (upI T i (tt+1) i=stS (eh C mea) (C.getD i []) (j+1)):=by
      show _=_;rw[iI,jH HX.o,aw (by show¬op=8;omega),HTE.o];try omega
     have zH:=(HM1s.o.cells hi).2.1;have yH:=(HM1s.o.cells hi).2.2.2.1;rw[HHI.o]at zH;obtain⟨m1,hm1⟩:=aq (max h (hy-1));have HM1:=aY hm1;have HMZ:=aY (HM1s.o.setH m1 hi);have HKZ:=aY (HKN.o.trans (ip w1 go (i*3+1) (ag m1)));have HGZ:=aY ((aN w1 ⟨go,i*3+1,none⟩ gr (ag m1) hgrne).trans HGN.o);have HRZ:=aY (HRN.o.setH m1);generalize hwZ:w1.setCell ⟨go,i*3+1,none⟩ (ag m1)=wZ at*;clear hop2;go_wp2_with fail;go_roundw;case rel=>exact⟨j+1,upI H i m1,upI T i (tt+1),by go_num,by omega,by rw[HH1.o],HMZ.o,(iI _ _ _).trans (HM1.o.symm.trans HX1.o),HT1.o,HRZ.o,HKZ.o,HGZ.o⟩
     case measure=>simp[intOf];omega
    have e2:(op==2)=false:=(by simpa using hop2);by_cases hop3:op=3
    ·have e3:(op==3)=true:=(by simp[hop3])
     have HH1:P3 (hAt (C.getD i []) (j+1)=hy-1):=by
      show _=_;rw[jp HX.o,HHV.o];unfold eff;dsimp only;rw[aw (by omega),ay (by omega)];try omega
     have HX1:P3 (max h (hy-1)=mxH (eh C mea) (C.getD i []) (j+1)):=by
      show _=_;rw[ku HX.o,HH1.o,aw (by show¬op=8;omega),HHE.o]
     have HT1:P3 (upI T i (tt+1) i=stS (eh C mea) (C.getD i []) (j+1)):=by
      show _=_;rw[iI,jH HX.o,aw (by show¬op=8;omega),HTE.o];try omega
     have zH:=(HM1s.o.cells hi).2.1;have yH:=(HM1s.o.cells hi).2.2.2.1;rw[HHI.o]at zH;obtain⟨m1,hm1⟩:=aq (max h (hy-1));have HM1:=aY hm1;have HMZ:=aY (HM1s.o.setH m1 hi);have HKZ:=aY (HKN.o.trans (ip w1 go (i*3+1) (ag m1)));have HGZ:=aY ((aN w1 ⟨go,i*3+1,none⟩ gr (ag m1) hgrne).trans HGN.o);have HRZ:=aY (HRN.o.setH m1);generalize hwZ:w1.setCell ⟨go,i*3+1,none⟩ (ag m1)=wZ at*;clear hop3;go_wp2_with fail;go_roundw;case rel=>exact⟨j+1,upI H i m1,upI T i (tt+1),by go_num,by omega,by rw[HH1.o],HMZ.o,(iI _ _ _).trans (HM1.o.symm.trans HX1.o),HT1.o,HRZ.o,HKZ.o,HGZ.o⟩
     case measure=>simp[intOf];omega
    have e3:(op==3)=false:=(by simpa using hop3);by_cases hop4:op=4
    ·have e4:(op==4)=true:=(by simp[hop4])
     have HH1:P3 (hAt (C.getD i []) (j+1)=hy-1):=by
      show _=_;rw[jp HX.o,HHV.o];unfold eff;dsimp only;rw[aw (by omega),ay (by omega)];try omega
     have HX1:P3 (max h (hy-1)=mxH (eh C mea) (C.getD i []) (j+1)):=by
      show _=_;rw[ku HX.o,HH1.o,aw (by show¬op=8;omega),HHE.o]
     have HT1:P3 (upI T i (tt+1) i=stS (eh C mea) (C.getD i []) (j+1)):=by
      show _=_;rw[iI,jH HX.o,aw (by show¬op=8;omega),HTE.o];try omega
     have zH:=(HM1s.o.cells hi).2.1;have yH:=(HM1s.o.cells hi).2.2.2.1;rw[HHI.o]at zH;obtain⟨m1,hm1⟩:=aq (max h (hy-1));have HM1:=aY hm1;have HMZ:=aY (HM1s.o.setH m1 hi);have HKZ:=aY (HKN.o.trans (ip w1 go (i*3+1) (ag m1)));have HGZ:=aY ((aN w1 ⟨go,i*3+1,none⟩ gr (ag m1) hgrne).trans HGN.o);have HRZ:=aY (HRN.o.setH m1);generalize hwZ:w1.setCell ⟨go,i*3+1,none⟩ (ag m1)=wZ at*;clear hop4;go_wp2_with fail;go_roundw;case rel=>exact⟨j+1,upI H i m1,upI T i (tt+1),by go_num,by omega,by rw[HH1.o],HMZ.o,(iI _ _ _).trans (HM1.o.symm.trans HX1.o),HT1.o,HRZ.o,HKZ.o,HGZ.o⟩
     case measure=>simp[intOf];omega
    have e4:(op==4)=false:=(by simpa using hop4);by_cases hop8:op=8
    ·have e8:(op==8)=true:=(by simp[hop8]);obtain⟨ha0,han,hrk⟩:=hR.lt i j _ HIC.o HX.o hop8;dsimp only at ha0 han hrk;obtain⟨k0,hk0⟩: ∃k0:Nat,xa=(k0:Int):=⟨xa.toNat,by omega⟩
     have hk0n:k0<n:=(by rw[HNC.o];rw[hk0]at han;simpa using han);have hrk0:ρ k0<ρ i:=(by rw[hk0]at hrk;simpa using hrk);subst hk0;have cR:=IH k0 hk0n hrk0 _ _ w1 HM1s.o (fun q hq1=>HQ1.o q hq1) (HR1.o.pre hrk0);obtain⟨h9,hh9⟩:=aq ((mea k0).1);obtain⟨s9,hs9⟩:=aq ((mea k0).2);have hb9:=(hsm.hi k0)
     have hb9s:=(hsm.st k0)
     rw[mq (by rw[<-HNC.o];exact hk0n)]at hb9 hb9s;dsimp only at hb9 hb9s;rw[hh9]at hb9;rw[hs9]at hb9s;unfold vU at cR;rw[hh9,hs9]at cR;obtain⟨gk,ck,hsvk,_⟩:=(HQ1.o k0 hk0n).form (hL k0 hk0n).1;rw[hsvk]at cR;obtain⟨lk,hlk⟩:=aq ((Ss k0).length);rw[hlk]at cR;obtain⟨t9,ht9⟩:=aq (tt+1+s9);obtain⟨m0,hm0⟩:=aq (max h (hy+h9));have HM0:=aY hm0;have hb_t9:0<=t9/\t9<=99999999:=(by omega);have hwt9:IntKind.i64.wrap t9=t9:=(by rw[bG];omega);have hwh9:IntKind.i64.wrap (hy+h9)=hy+h9:=(by rw[bG];omega);have hb_t8:=hb_t9.1;have hb_t7:=hb_t9.2
     have HH1:P3 (hAt (C.getD i []) (j+1)=hy+1):=by
      show _=_;rw[jp HX.o,HHV.o];unfold eff;dsimp only;rw[ay (.inr hop8)]
     have HX1:P3 (max m0 (hy+1)=mxH (eh C mea) (C.getD i []) (j+1)):=by
      show _=_;rw[ku HX.o,HH1.o,ay hop8,HHE.o,HHV.o];dsimp only;rw[cg,mq (by rw[<-HNC.o];exact hk0n),<-hm0,<-hh9]
     have HT0:P3 (t9=stS (eh C mea) (C.getD i []) (j+1)):=by
      show _=_;rw[jH HX.o,ay hop8,HTE.o,<-ht9];dsimp only;rw[cg,mq (by rw[<-HNC.o];exact hk0n),<-hs9]
     have z81:=ak 1 nI1;clear hh9 hs9 ha0 han hrk hop8 hsvk hlk;go_wp2_with fail;refine cR.mono ?_;rintro r w2 ⟨rfl,Hc,Tc,hmc,hmek,hrc,hkc⟩;obtain⟨hrest,hHi,hTi⟩:=HR1.o.call hrk0 hi hmek hrc;have HHc:P3 (Hc i=h):=hHi.trans HHI.o;have HTc:P3 (Tc i=tt+1):=hTi.trans (iI _ _ _);have bC:=am w2 (.cells #[.slice (some (ae gk 0)) lk ck,ag h9,ag s9] 208);have n9:=aC w2 (.cells #[.slice (some (ae gk 0)) lk ck,ag h9,ag s9] 208);have HM3:=aY (hmc.below bC);have HK3:=aY ((HK1.o.trans hkc).trans (bm.of_below bC));have HG3:=aY ((bC.block _ (aF ((hkc.block _ (aF HG1.o) (fun e=>hgrne (aK e))).trans HG1.o))).trans ((hkc.block _ (aF HG1.o) (fun e=>hgrne (aK e))).trans HG1.o));have HR3:=aY hrest;obtain⟨g9,hg9⟩:=aq w2.heap.size;have hg9ne:g9≠go:=(by have:=hmc.lt;omega);generalize hw3:w2.alloc (.cells #[.slice (some (ae gk 0)) lk ck,ag h9,ag s9] 208)=w3 at*;rw[hg9]at n9;have HN9:=aY n9;have zT2:=(HM3.o.cells hi).2.2.1;rw[HTc.o]at zT2;have y92:=ak 2 n9;have HT1:P3 (upI Tc i t9 i=stS (eh C mea) (C.getD i []) (j+1)):=(iI _ _ _).trans HT0.o;clear cR hmc hmek hrc hkc hrest hHi hTi bC n9 HM1s HQ1 HR1 HK1 HG1 nI1 z80 z81;go_wp2_with fail;refine jz 9 [kn 55 (ab go (i*3)),kn 56 (ab go (i*3)),kn 57 (ab go (i*3+2)),kn 58 (ag (tt+1)),kn 59 (ab g9 2),kn 60 (ag s9),kn 61 (ag t9),kn 62 (ab go (i*3)),kn 63 (ab go (i*3+2)),nk] (by kernel_rfl) (by kernel_rfl) fun M φ W _ hJ F l hl hF=> ?_;have y0_:=aj hJ zT2;have y1_:=aj hJ y92;simp only[kn,nk,dN,aQ,aW,Act.put,aB,aI,aH]at hl;subst hl;simp only[dg,Nat.reduceAdd]at hF;dsimp only[kn,nk,dC,en,dS,Act.put];and_intros;all_goals first|exact trivial|intro hw hn hm K hK
     all_goals try (go_simp;with_reducible exact hK _ _ ⟨rfl,aG _ _⟩)
     clear y0_ y1_;have HMX:=aY (HM3.o.below hJ);have zq:=(HMX.o.cells hi).2.2.1;have yq:=(HMX.o.cells hi).2.2.2.2;have hm4:=HMX.o.setT t9 hi;have HM4:=aY hm4;have zH3:=(hm4.cells hi).2.1;rw[HHc.o]at zH3;have HK4:=aY ((HK3.o.trans (bm.of_below hJ)).trans (ip W go (i*3+2) (ag t9)));have HG4:=aY ((aN W ⟨go,i*3+2,none⟩ gr (ag t9) hgrne).trans (ai hJ HG3.o));have HR4:=aY (HR3.o.setT t9);have n9b:=(aN W ⟨go,i*3+2,none⟩ g9 (ag t9) hg9ne).trans (ai hJ HN9.o);generalize hw4:W.setCell ⟨go,i*3+2,none⟩ (ag t9)=w4 at*;have y91:=ak 1 n9b;go_simp;refine hK undef _ ⟨trivial,fun c=>by simp at c,fun _=> ?_⟩;simp only[dP,aQ,aW,Act.put,aB,aI,aH];clear hF hw hn hm;clear hK hJ zq yq hw4 zT2 y92 HM3 HK3 HG3 HR3 HMX n9b HN9 hm4;have y92:=y91;go_wp2_with fail;refine jz 12 [kn 64 (ab go (i*3)),kn 65 (ab go (i*3)),kn 66 (ab go (i*3)),kn 67 (ab go (i*3+1)),kn 68 (ag h),kn 69 (ag hy),kn 70 (ab g9 1),kn 71 (ag h9),kn 72 (ag (hy+h9)),kn 73 (ag m0),kn 74 (ab go (i*3)),kn 75 (ab go (i*3+1)),nk] (by kernel_rfl) (by kernel_rfl) fun M φ W _ hJ F ll hl hF=> ?_;have y0_:=aj hJ zH3;have y1_:=aj hJ y91;simp only[kn,nk,dN,aQ,aW,Act.put,aB,aI,aH]at hl;subst hl;simp only[dg,Nat.reduceAdd]at hF;dsimp only[kn,nk,dC,en,dS,Act.put];and_intros;all_goals first|exact trivial|intro hw hn hm K hK
     all_goals try (go_simp;with_reducible exact hK _ _ ⟨rfl,aG _ _⟩)
     clear y0_ y1_;have HMX:=aY (HM4.o.below hJ);have zq:=(HMX.o.cells hi).2.1;have yq:=(HMX.o.cells hi).2.2.2.1;have HM5:=aY (HMX.o.setH m0 hi);have HK5:=aY ((HK4.o.trans (bm.of_below hJ)).trans (ip W go (i*3+1) (ag m0)));have HG5:=aY ((aN W ⟨go,i*3+1,none⟩ gr (ag m0) hgrne).trans (ai hJ HG4.o));have HRN:=aY (HR4.o.setH m0);generalize hw5:W.setCell ⟨go,i*3+1,none⟩ (ag m0)=w5 at*;go_simp;refine hK undef _ ⟨trivial,(fun c=>by simp at c),fun _=> ?_⟩;simp only[dP,aQ,aW,Act.put,aB,aI,aH];clear hK hF hw hn hm hJ zq yq hw5 zH3 y91 y92 HM4 HK4 HG4 HR4 HMX;have HKN:=HK5;have HGN:=HG5;have hup:upI Hc i m0 i=m0:=iI _ _ _;have HUP:=aY hup;clear hup;have zH:=(HM5.o.cells hi).2.1;have yH:=(HM5.o.cells hi).2.2.2.1;rw[HUP.o]at zH;obtain⟨m1,hm1⟩:=aq (max m0 (hy+1));have HM1:=aY hm1;have HMZ:=aY (HM5.o.setH m1 hi);have HKZ:=aY (HKN.o.trans (ip w5 go (i*3+1) (ag m1)));have HGZ:=aY ((aN w5 ⟨go,i*3+1,none⟩ gr (ag m1) hgrne).trans HGN.o);have HRZ:=aY (HRN.o.setH m1);generalize hwZ:w5.setCell ⟨go,i*3+1,none⟩ (ag m1)=wZ at*;go_wp2_with fail;go_roundw;case rel=>exact⟨j+1,upI (upI Hc i m0) i m1,upI Tc i t9,by go_num,by omega,by rw[HH1.o],HMZ.o,(iI _ _ _).trans (HM1.o.symm.trans HX1.o),HT1.o,HRZ.o,HKZ.o,HGZ.o⟩
     case measure=>simp[intOf];omega
    have e8:(op==8)=false:=(by simpa using hop8)
    have HH1:P3 (hAt (C.getD i []) (j+1)=hy):=by
     show _=_;rw[jp HX.o,HHV.o];unfold eff;dsimp only;rw[aw (by omega),aw (by omega)];simp
    have HX1:P3 (max h (hy)=mxH (eh C mea) (C.getD i []) (j+1)):=by
     show _=_;rw[ku HX.o,HH1.o,aw (by show¬op=8;omega),HHE.o]
    have HT1:P3 (upI T i (tt+1) i=stS (eh C mea) (C.getD i []) (j+1)):=by
     show _=_;rw[iI,jH HX.o,aw (by show¬op=8;omega),HTE.o];try omega
    have zH:=(HM1s.o.cells hi).2.1;have yH:=(HM1s.o.cells hi).2.2.2.1;rw[HHI.o]at zH;obtain⟨m1,hm1⟩:=aq (max h (hy));have HM1:=aY hm1;have HMZ:=aY (HM1s.o.setH m1 hi);have HKZ:=aY (HKN.o.trans (ip w1 go (i*3+1) (ag m1)));have HGZ:=aY ((aN w1 ⟨go,i*3+1,none⟩ gr (ag m1) hgrne).trans HGN.o);have HRZ:=aY (HRN.o.setH m1);generalize hwZ:w1.setCell ⟨go,i*3+1,none⟩ (ag m1)=wZ at*;clear hop hop2 hop3 hop4 hop8;go_wp2_with fail;go_roundw;case rel=>exact⟨j+1,upI H i m1,upI T i (tt+1),by go_num,by omega,by rw[HH1.o],HMZ.o,(iI _ _ _).trans (HM1.o.symm.trans HX1.o),HT1.o,HRZ.o,HKZ.o,HGZ.o⟩
    case measure=>simp[intOf];omega
   ·have hlt': ¬(j:Int)<(ln:Int):=(by omega);obtain rfl:ln=j:=(by omega);obtain⟨mh,hmh⟩:=aq (min h 101);obtain⟨mt,hmt⟩:=aq (min tt 20001)
    have HRE:P3 (mea i=(mh,mt)):=by
     show _=_;rw[hme];unfold lV;rw[hli,HHE.o,HTE.o,hmh,hmt]
    have HTI:=aY hTe;have HJ0:=aY hms;have HRS:=aY hrs;have HKP:=aY hkp;have HG2:=aY hgr2;clear hms hrs hkp hgr2 hhv hhh htt hHe hTe;go_wp2_with fail;refine dt (fun M _ W=>MJc go n sv H T i h tt mh mt wr M W) [kn 88 (ab go (i*3)),kn 89 (ab go (i*3)),kn 90 (ab go (i*3)),kn 91 (ab go (i*3)),kn 92 (ab go (i*3+1)),dk 93 (ag h),dk 94 (ag mh),kn 95 (ab go (i*3)),kn 96 (ab go (i*3)),kn 97 (ab go (i*3+2)),dk 98 (ag tt),dk 99 (ag mt),kn 100 (ab go (i*3)),kn 101 (ab go (i*3+1)),nk,kn 102 (ab go (i*3)),kn 103 (ab go (i*3+2)),nk] (fun _=>MJc.start HJ0.o hi HHI.o HTI.o) (fun _ _ _ _ hb h=>h.below hb) (by kernel_rfl) (fun M φ W2 hJ hcl F ll hl hF=> ?_) (fun M φ W2 hM hJ=> ?_)
    ·simp only[kn,dk,nk,dN,aQ,aW,Act.put,aB,aI,aH]at hl;subst hl;simp only[dg,Nat.reduceAdd]at hF;dsimp only[kn,dk,nk,dC,en,dS,Act.put];and_intros;all_goals first|exact trivial|intro hw hn hm K hK
     all_goals try (go_simp;with_reducible exact hK _ _ ⟨rfl,aG _ _⟩)
     ·have zz:=hJ.loadH (by
       cases q:M 14 with
       |false=>rfl
       |true=>rw[hcl 6 _ rfl (hcl 14 _ rfl q ⟨6,.data⟩ (by simp) rfl rfl) ⟨5,.data⟩ (by simp) rfl rfl]at hm;cases hm)
      go_simp;exact hK _ _ ⟨rfl,hJ.other 5 (by decide) (by decide)⟩
     ·go_simp;exact hK _ _ ⟨rfl,hJ.other 6 (by decide) (by decide)⟩
     ·have zz:=hJ.loadT (by
       cases q:M 17 with
       |false=>rfl
       |true=>rw[hcl 11 _ rfl (hcl 17 _ rfl q ⟨11,.data⟩ (by simp) rfl rfl) ⟨10,.data⟩ (by simp) rfl rfl]at hm;cases hm)
      go_simp;exact hK _ _ ⟨rfl,hJ.other 10 (by decide) (by decide)⟩
     ·go_simp;exact hK _ _ ⟨rfl,hJ.other 11 (by decide) (by decide)⟩
     ·obtain⟨v9,zz,yy⟩:=hJ.cellH;have hj2:=hJ.storeH hm;generalize hw9:W2.setCell ⟨go,i*3+1,none⟩ (ag mh)=w9 at*;go_simp;exact hK undef _ ⟨trivial,hj2⟩
     ·obtain⟨v9,zz,yy⟩:=hJ.cellT;have hj2:=hJ.storeT hm;generalize hw9:W2.setCell ⟨go,i*3+2,none⟩ (ag mt)=w9 at*;go_simp;exact hK undef _ ⟨trivial,hj2⟩
    ·have hms9:=hJ.fin (hM 14 (by decide) rfl) (hM 17 (by decide) rfl);have hk9:=hJ.kept;have hg9:=(hk9.block _ (aF HG2.o) (fun e=>hgrne (aK e))).trans HG2.o;have y0:=(hms9.cells hi).1;have y1:=(hms9.cells hi).2.1;have y2:=(hms9.cells hi).2.2.1;rw[iI]at y1 y2;rw[hsv]at y0;have nR:=aJ _ _ _ #[.slice (some (ae g1 0)) ln c1,ag mh,ag mt] _ _ hg9;have hmR:=hms9.same (aT W2 gr go #[.slice (some (ae g1 0)) ln c1,ag mh,ag mt] (fun e=>hgrne e.symm))
     have HN:P3 (vU mea ρ go n sv i H0 T0 w (.returned (.agg #[.slice (some (ae g1 0)) ln c1,ag mh,ag mt])) (W2.setRow gr #[.slice (some (ae g1 0)) ln c1,ag mh,ag mt])):=by
      refine⟨by rw[hsv,HRE.o],_,_,hmR,⟨by rw[HRE.o];exact iI _ _ _,by rw[HRE.o];exact iI _ _ _⟩,(HRS.o.setH mh).setT mt,?_⟩;have hk8:=HKP.o.trans hk9;exact⟨hk8.os,hk8.tape,hk8.output,a6 hk8.size (by simp),fun q hq hne=>(aT W2 gr q _ (fun e=>by have:=HGR.o;omega)).trans (hk8.block q hq hne)⟩
     have HNR:=aY nR;clear hJ hM hms9 hk9 hmR HRS HKP HJ0 nR;simp only[kn,dk,nk,dP,aQ,aW,Act.put,aB,aI,aH];go_wp2_with(refine az rfl 208 _ _ rfl _ _ rfl rfl _ _ hg9 (by kernel_rfl) (by simp) (by simp[Value.oneCell']) ?_)
     refine aU (v:= .agg #[.slice (some (ae g1 0)) ln c1,ag mh,ag mt]) ?_ rfl HN.o;exact a8 rfl _ _ gr _ _ _ _ rfl HNR.o Af rfl (by kernel_rfl)
 ·obtain⟨mh,hmh⟩:=aq ((mea i).1);obtain⟨mt,hmt⟩:=aq ((mea i).2);rw[zh,hmh]at x1;rw[zt,hmt]at x2;rw[hmt]at h1;have h1':0<mt:=(by omega);have nR:=aJ _ _ _ #[.slice (some (ae g1 0)) ln c1,ag mh,ag mt] _ _ nA;have hmR:=hmA.same (aT wA gr go #[.slice (some (ae g1 0)) ln c1,ag mh,ag mt] (fun e=>hgrne e.symm));have hbR:=below_setRow bA (Nat.le_of_eq hgr) #[.slice (some (ae g1 0)) ln c1,ag mh,ag mt]
  have HN:P3 (vU mea ρ go n sv i H0 T0 w (.returned (.agg #[.slice (some (ae g1 0)) ln c1,ag mh,ag mt])) (wA.setRow gr #[.slice (some (ae g1 0)) ln c1,ag mh,ag mt])):=
   ⟨by rw[hsv,hmh,hmt],H0,T0,hmR,⟨zh,zt⟩,kW.refl hok,bm.of_below hbR⟩
  have HNR:=aY nR;clear hm hq hok hmA hkA bA zh zt hn nR hmR hbR h1 hmh hmt hme HQ HMW IH hS hL hV hR hsm;go_enter func155,ntmps155;go_wp2_with(refine az rfl 208 _ _ rfl _ _ rfl rfl _ _ nA (by kernel_rfl) (by simp) (by simp[Value.oneCell']) ?_)
  refine aU (v:= .agg #[.slice (some (ae g1 0)) ln c1,ag mh,ag mt]) ?_ rfl HN.o;exact a8 rfl _ _ gr _ _ _ _ rfl HNR.o Af rfl (by kernel_rfl)
end
theorem vo (w0:World)(gm:Nat)(mp:Value)(l:List Ru)(k:Ex)(p:Option Addr)(q:Nat)(op a b:Int)(S:List (In×Value))(W0:World)(h:WOk w0 gm mp S W0)(hC:Fm w0 gm mp l k (.slice p k.kids.length q))(hS:S.length+1+iN k<=700)(HLN0:(bN (atP5 l) k (S.length+1)).length<=700):
  Calls prog 181 #[ab gm 0,.agg #[ag op,ag a,ag b,ag 0,af],.agg #[ag k.kind,ag k.a,ag k.b,.string ⟨k.name.toArray⟩,.slice p k.kids.length q]] W0 (mX w0 gm mp S (⟨op,a,b,((S.length+1+(bN (atP5 l) k (S.length+1)).length:Nat):Int),[]⟩::bN (atP5 l) k (S.length+1)) W0):=by
 have HLN:P3 ((bN (atP5 l) k (S.length+1)).length<=700):=HLN0;have HGM:=aY h.lt;have bA:=am W0 (.cells #[ag op,ag a,ag b,ag 0,af] 234);have nA:=aC W0 (.cells #[ag op,ag a,ag b,ag 0,af] 234);have hA:=h.below bA;obtain⟨gA,hgA⟩:=aq W0.heap.size;generalize hwA:W0.alloc (.cells #[ag op,ag a,ag b,ag 0,af] 234)=wA at*;rw[hgA]at nA;have bB:=am wA (.cells #[ag k.kind,ag k.a,ag k.b,.string ⟨k.name.toArray⟩,.slice p k.kids.length q] 52);have nB:=aC wA (.cells #[ag k.kind,ag k.a,ag k.b,.string ⟨k.name.toArray⟩,.slice p k.kids.length q] 52);have hB:=hA.below bB;have nA1:=ai bB nA;have hgm:=hA.lt;obtain⟨gB,hgB⟩:=aq wA.heap.size;generalize hwB:wA.alloc (.cells #[ag k.kind,ag k.a,ag k.b,.string ⟨k.name.toArray⟩,.slice p k.kids.length q] 52)=wB at*;rw[hgB]at nB;have hne:gB≠gm:=by omega
 have HFB:P3 (Fr2 gm W0 wB):=Fr2.below HGM.o (au bA bB);obtain⟨_,hgt,sv,n1,own1⟩:=id hB.st;obtain⟨p0,c0,hsv⟩:=bU own1;subst hsv;have z1:=ak 1 n1;have cP:=uJ hB ⟨op,a,b,0,[]⟩ (af) (gU.nil _ _ _) (by omega);dsimp only at cP;have hs0:(0:Int)<=(S.length:Int):=by omega
 have hs1:(S.length:Int)<=700:=by omega
 have HGT:=aY hgt;have HBS:=aY hB.st;clear bA bB hA hB own1 nA hgt n1 h;go_enter func181,ntmps181
 go_wp2_with(first
  |(refine aR rfl 234 _ rfl _ rfl _ _ _ _ nA1 vT rfl (by kernel_rfl) ?_))
 refine cP.mono ?_;rintro e1 w2 ⟨rfl,hok2,hfr2⟩;have nB2:=(Fr2.fr HBS.o hfr2) _ _ _ nB (by decide) hne;have cE:=hC _ w2 hok2 (by rw[aL,dX];exact hS);unfold exV at cE;have HF2:=aY (HFB.o.trans hfr2);clear cP hok2 hfr2 z1 nB nA1 hwB hwA
 go_wp2_with(first
  |(refine aR rfl 52 _ rfl _ rfl _ _ _ _ nB2 eD rfl (by kernel_rfl) ?_))
 refine cE.mono ?_;rintro e2 w3 ⟨rfl,S',hS',hok3,hfr3⟩;rw[aL,dX]at hS';have HS':=aY hS';have HFR3:=aY (HF2.o.trans hfr3);obtain⟨⟨hb3,_,sv3,n13,own3⟩,hsp3⟩:=hok3;have eS:(S++[((⟨op,a,b,0,[]⟩:In),af)])++S'=S++((⟨op,a,b,0,[]⟩,af)::S'):=by simp
 rw[eS]at own3 hsp3;obtain⟨n3,hn3⟩:=aq ((S++(((⟨op,a,b,0,[]⟩:In),af)::S')).length);rw[hn3]at own3;have HN3:P3 (n3=S.length+1+S'.length):=by show _=_;rw[<-hn3];simp;omega
 obtain⟨g3,c3,hv3⟩: ∃g3 c3,sv3= .slice (some (ae g3 0)) n3 c3:=by
  rcases own3.2 with⟨_,e⟩|⟨g',cap,cur,e,_⟩
  ·have:=HN3.o;omega
  ·exact⟨g',cap,e⟩
 subst hv3;have z13:=ak 1 n13;have HO3:=aY own3;have HSP3:=aY hsp3;have HB3:=aY hb3
 have hlen':n3<=2000:=by
  have h1:=HN3.o;have h2:=congrArg List.length hS';rw[aZ]at h2;have h3:=HLN.o;omega
 have hi1:(S.length:Int)<(n3:Int):=by have:=HN3.o;omega
 have hi2:(n3:Int)<=2000:=by omega
 clear cE hS' hfr3 own3 hsp3 hb3 eS hn3 nB2 HF2 HFB;go_wp2_with fail;refine jz 12 [kn 18 (ab gm 0),kn 19 (ab gm 0),kn 20 (ab gm 1),kn 21 (.slice (some (ae g3 0)) n3 c3),kn 22 (ag (S.length:Int)),kn 23 (ab gm 0),kn 24 (ab gm 0),kn 25 (ab gm 1),kn 26 (.slice (some (ae g3 0)) n3 c3),kn 27 (ag (n3:Int)),kn 28 (ab g3 (S.length*5)),kn 29 (ab g3 (S.length*5+3)),nk] (by kernel_rfl) (by kernel_rfl) fun M φ WX _ hJ F l hl hF=> ?_;have y0_:=aj hJ z13;simp only[kn,nk,dN,aQ,aW,Act.put,aB,aI,aH]at hl;subst hl;simp only[dg,Nat.reduceAdd]at hF;dsimp only[kn,nk,dC,en,dS,Act.put];and_intros;all_goals first|exact trivial|intro hw hn hm K hK
 all_goals try (go_simp;with_reducible exact hK _ _ ⟨rfl,aG _ _⟩)
 clear y0_;have own4:=g6 HO3.o hJ;have own5:=Og (n3:Int) own4
 have hrow: ∃cur,WX.heap[g3]? =ah cur 234/\S.length*5+3<cur.size:=by
  rcases own4.2 with⟨e,_⟩|⟨g',cap,cur,e,_,hg,hn,_,hs,_⟩
  ·cases e
  ·injection e with e1 _ e3;injection e1 with e1;injection e1 with e1 _ _;subst e1 e3;exact⟨cur,hg,by omega⟩
 obtain⟨cur,hcur,hcl⟩:=hrow;have ck:WX.cell? (ae g3 (S.length*5+3))=some (cur[S.length*5+3]'hcl):=(aV _ _ _ _ _ _ hcur).trans (fk hcl);have yk:WX.frozen? (ae g3 (S.length*5+3))=false:=bl _ _ _ _ _ hcur;have n4:=ai hJ n13
 have hgne:gm≠g3:=fun e=>by
  rw[e,hcur]at n4;injection n4 with n4;injection n4 with _ h2 _;exact absurd h2 (by decide)
 have n5:=(aN WX ⟨g3,S.length*5+3,none⟩ gm (ag (n3:Int)) hgne).trans n4;have hb5:ao w0 (WX.setCell ⟨g3,S.length*5+3,none⟩ (ag (n3:Int))):=(au HB3.o hJ).setCell (p:=⟨g3,S.length*5+3,none⟩) ((own4.lt g3 rfl).1) _
 have hfr5:Fr gm WX (WX.setCell ⟨g3,S.length*5+3,none⟩ (ag (n3:Int))):=fun q c T hq hT _=>by
  refine(aN WX ⟨g3,S.length*5+3,none⟩ q _ (fun e=> ?_)).trans hq;rw[show q=g3 from e,hcur]at hq;injection hq with hq;injection hq with _ h2 _;exact absurd h2.symm hT
 have hf25:Fr2 gm WX (WX.setCell ⟨g3,S.length*5+3,none⟩ (ag (n3:Int))):=by
  refine⟨fun q hq _ hr=>aN WX ⟨g3,S.length*5+3,none⟩ q _ (fun e=>hr ?_),.inl ?_,by simp⟩
  ·rw[oh n4,show q=g3 from e];rfl
  ·rw[oh n5,oh n4]
 have hn3e:=HN3.o
 have HN:P3 (mX w0 gm mp S (⟨op,a,b,((S.length+1+(bN (atP5 l) k (S.length+1)).length:Nat):Int),[]⟩::bN (atP5 l) k (S.length+1)) W0 (.returned (.tuple #[])) (WX.setCell ⟨g3,S.length*5+3,none⟩ (ag (n3:Int)))):=by
  refine⟨rfl,(⟨op,a,b,(n3:Int),[]⟩,af)::S',?_,⟨⟨hb5,HGT.o,_,n5,?_⟩,fun u hu=> ?_⟩,(HFR3.o.trans (Fr2.below (aF n13) hJ)).trans hf25⟩
  ·rw[dl,HS'.o];have hl:=congrArg List.length HS'.o;rw[aZ]at hl;rw[<-hl,show S.length+1+S'.length=n3 by omega]
  ·have hlen:(S++((⟨op,a,b,(n3:Int),[]⟩,af)::S')).length=n3:=(by simp;omega);rw[hlen];exact own5
  ·rcases bJ.1 hu with hu|hu
   ·exact(((HSP3.o u (by simp[hu])).below hJ).fr n4 hfr5)
   ·rcases bh.1 hu with rfl|hu
    ·exact gU.nil _ _ _
    ·exact(((HSP3.o u (by simp[hu])).below hJ).fr n4 hfr5)
 clear own4 own5 n4 n5 hb5 hfr5 hf25 hn3e hcur;generalize hw9:WX.setCell ⟨g3,S.length*5+3,none⟩ (ag (n3:Int))=w9 at*;go_simp;refine hK undef _ ⟨trivial,fun c=>by simp at c,fun _=> ?_⟩;simp only[dP,aQ,aW,Act.put,aB,aI,aH];clear hF hw hn hm;clear hK hJ ck yk hw9;go_wp2_with fail;exact⟨rfl,_,dY rfl _ _ _,HN.o⟩
theorem Ag: ∀(fs:List (Nat->List In)) (f:Nat->List In) (b:Nat),jU (fs++[f]) b=jU fs b++f (b+(jU fs b).length)
 |[],f,b=>by simp[jU]
 |g::fs,f,b=>by
  have ih:=Ag fs f (b+(g b).length);show g b++jU (fs++[f]) (b+(g b).length)=(g b++jU fs (b+(g b).length))++_;rw[ih,dm];congr 2;show f _=f (b+(g b++jU fs (b+(g b).length)).length);rw[aL,<-Nat.add_assoc]
def Li (w0:World)(gm:Nat)(mp:Value)(l:List Ru)(sl:Value)(ks:List Ex):Prop:=
 ∃g o c:Nat,sl= .slice (some (ae g o)) ks.length c/\g<w0.heap.size/\ks.length<9223372036854775808/\ ∀(j:Nat) (k:Ex),ks[j]? =some k-> ∃(p:Option Addr) (q:Nat),
  w0.cell? (ae g (o+j*5))=some (ag k.kind)/\w0.cell? (ae g (o+j*5+1))=some (ag k.a)/\w0.cell? (ae g (o+j*5+2))=some (ag k.b)/\
  w0.cell? (ae g (o+j*5+3))=some (.string ⟨k.name.toArray⟩)/\w0.cell? (ae g (o+j*5+4))=some (.slice p k.kids.length q)/\Fm w0 gm mp l k (.slice p k.kids.length q)
def kI (l:List Ru)(ks:List Ex)(j b:Nat):List In:=jU ((ks.take j).map (bN (atP5 l))) b
theorem C9 {l:List Ru}{ks:List Ex}{j b:Nat}{k:Ex}(h:ks[j]? =some k):kI l ks (j+1) b=kI l ks j b++bN (atP5 l) k (b+(kI l ks j b).length):=by
 unfold kI;rw[ft,h,dh];exact Ag _ _ _
theorem pE (w0:World)(gm:Nat)(mp:Value)(l:List Ru)(ks:List Ex)(sl:Value)(op a:Int)(S:List (In×Value))(W0:World)(h:WOk w0 gm mp S W0)(hk:Li w0 gm mp l sl ks)(hlc: ∀(j:Nat) (k:Ex),ks[j]? =some k->S.length+(kI l ks j S.length).length+iN k<=700)(hlz:S.length+(kI l ks ks.length S.length).length<=700):
  Calls prog 182 #[ab gm 0,sl,.agg #[ag op,ag a,ag 0,ag 0,af]] W0 (mX w0 gm mp S (jU (ks.map (bN (atP5 l))) S.length++[⟨op,a,0,0,[]⟩]) W0):=by
 have HLC:=aY hlc;have HLZ:=aY hlz;obtain⟨g,o,c,hsl,hg0,hkl,hkid⟩:=hk;subst hsl;have HKID:=aY hkid;have bA:=am W0 (.cells #[ag op,ag a,ag 0,ag 0,af] 234);have nA:=aC W0 (.cells #[ag op,ag a,ag 0,ag 0,af] 234);have hA:=h.below bA;obtain⟨gA,hgA⟩:=aq W0.heap.size;have hgmA:gm<gA:=by rw[<-hgA];exact h.lt
 have HFA:=aY (Fr2.below h.lt bA)
 have HRA:P3 (tK gm (W0.alloc (.cells #[ag op,ag a,ag 0,ag 0,af] 234))≠some gA):=by
  show _≠_;obtain⟨_,_,sv,n1,own1⟩:=h.st;rw[oh (ai bA n1)];intro e;have:=(own1.lt _ e).2;omega
 generalize hwA:W0.alloc (.cells #[ag op,ag a,ag 0,ag 0,af] 234)=wA at*;rw[hgA]at nA;have HNA:=aY nA;have HA:=aY hA;have hgl:gA<wA.heap.size:=aF nA;clear bA nA hA h hlc hlz hkid;go_enter func182,ntmps182;go_wp2_with fail;go_loopw [7,10] (fun _ t wr=> ∃(j:Nat) (S':List (In×Value)),t=ag (j:Int)/\j<=ks.length/\S'.map (fun u=>u.1)=kI l ks j S.length/\WOk w0 gm mp (S++S') wr/\Fr2 gm wA wr) (fun _ t _=>ks.length-(intOf t).toNat);case atStart=>exact⟨0,[],rfl,by omega,rfl,by rw[gZ];exact HA.o,Fr2.below (by omega) (aG _ _)⟩
 case round=>
  obtain⟨j,S',rfl,hj,hS',hok,hfr⟩:=hrel;clear HA hwA;have hj0:(0:Int)<=(j:Int):=(by omega);have hlS:S'.length=(kI l ks j S.length).length:=(by rw[<-hS',aZ]);by_cases hlt:j<ks.length
  ·have hlt':(j:Int)<(ks.length:Int):=(by omega);obtain⟨k,hjk⟩: ∃k,ks[j]? =some k:=⟨ks[j],ax hlt⟩
   obtain⟨pk,ck,d0,d1,d2,d3,d4,ihk⟩:=HKID.o j k hjk;have hb:=hok.st.bel;have f0:=aj hb d0;have f1:=aj hb d1;have f2:=aj hb d2;have f3:=aj hb d3;have f4:=aj hb d4;have bB:=am wr (.cells #[ag k.kind,ag k.a,ag k.b,.string ⟨k.name.toArray⟩,.slice pk k.kids.length ck] 52);have nB:=aC wr (.cells #[ag k.kind,ag k.a,ag k.b,.string ⟨k.name.toArray⟩,.slice pk k.kids.length ck] 52);have hokB:=hok.below bB;have hfrB:=hfr.trans (Fr2.below hok.lt bB);have cE:=ihk _ _ hokB (by rw[aL,hlS];exact HLC.o j k hjk);unfold exV at cE
   have HST:P3 (S'.map (fun u=>u.1)++bN (atP5 l) k (S++S').length=kI l ks (j+1) S.length):=by
    show _=_;rw[C9 hjk,hS',aL,hlS]
   generalize hwB:wr.alloc (.cells #[ag k.kind,ag k.a,ag k.b,.string ⟨k.name.toArray⟩,.slice pk k.kids.length ck] 52)=wB at*;have HFB:=aY hfrB;clear d0 d1 d2 d3 d4 ihk hjk bB hok hfr hokB hfrB hS' hb hlS;go_wp2_with(refine aR rfl 52 _ rfl _ rfl _ _ _ _ nB eD rfl (by kernel_rfl) ?_)
   refine cE.mono ?_;rintro r w3 ⟨rfl,S2,hS2,hok3,hfr3⟩
   have HOK3:P3 (WOk w0 gm mp (S++(S'++S2)) w3):=by
    show WOk _ _ _ _ _;rw[<-dm];exact hok3
   have HM3:P3 ((S'++S2).map (fun u=>u.1)=kI l ks (j+1) S.length):=by
    show _=_;rw[dh,hS2];exact HST.o
   have HF3:=aY (HFB.o.trans hfr3);clear cE nB hwB f0 f1 f2 f3 f4 hS2 hok3 hfr3 HST HFB;go_wp2_with fail;go_roundw;case rel=>exact⟨j+1,S'++S2,by go_num,by omega,HM3.o,HOK3.o,HF3.o⟩
   case measure=>simp[intOf];omega
  ·have hlt': ¬(j:Int)<(ks.length:Int):=(by omega);obtain rfl:j=ks.length:=(by omega);have nA2:=(hfr.blk gA hgl (by omega) HRA.o).trans HNA.o;have cP:=uJ hok ⟨op,a,0,0,[]⟩ (af) (gU.nil _ _ _) (by rw[aL,hlS];have:=HLZ.o;omega);dsimp only at cP
   have HM:P3 (S'.map (fun u=>u.1)=jU (ks.map (bN (atP5 l))) S.length):=by
    show _=_;rw[hS'];unfold kI;rw[fI]
   have HF:=aY (HFA.o.trans hfr);clear hok hfr hS' hlS;go_wp2_with(refine aR rfl 234 _ rfl _ rfl _ _ _ _ nA2 vT rfl (by kernel_rfl) ?_)
   refine cP.mono ?_;rintro r w4 ⟨rfl,hok4,hfr4⟩
   have HN:P3 (mX w0 gm mp S (jU (ks.map (bN (atP5 l))) S.length++[⟨op,a,0,0,[]⟩]) W0 (.returned (.tuple #[])) w4):=by
    refine⟨rfl,S'++[(⟨op,a,0,0,[]⟩,af)],?_,?_,HF.o.trans hfr4⟩
    ·rw[dh,HM.o];rfl
    ·rw[<-dm];exact hok4
   clear cP nA2 hok4 hfr4 HM HF;go_wp2_with fail;exact⟨rfl,_,dY rfl _ _ _,HN.o⟩
end Go.Proofs.YtjkilacmkbmmbaaGreatDoor
