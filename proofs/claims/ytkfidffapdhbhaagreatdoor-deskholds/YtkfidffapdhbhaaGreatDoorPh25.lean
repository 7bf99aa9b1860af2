/- Texts of the proof. -/
import Derived.Test.YtkfidffapdhbhaaGreatDoorPh24
set_option maxRecDepth 100000
set_option maxHeartbeats 8000000
namespace Go.Proofs.YtkfidffapdhbhaaGreatDoor
open Go.Proofs.Tryz Go.RowKit Lx Vx Mx Msk
section
structure MJc (go n:Nat)(sv:Nat->Value)(H T:Nat->Int)(i:Nat)(h tt mh mt:Int)(w:World)(L:Nat->Bool)(W:World):Prop where
 st:fC go n sv (if L 14=true then upI H i mh else H) (if L 17=true then upI T i mt else T) W
 hi:i<n
 eH:H i=h
 eT:T i=tt
 kept:bo go w W
section
variable {go n i:Nat} {sv:Nat->Value} {H T:Nat->Int} {h tt mh mt:Int} {w W:World} {L:Nat->Bool}
theorem MJc.start (hm:fC go n sv H T w)(hi:i<n)(eH:H i=h)(eT:T i=tt):MJc go n sv H T i h tt mh mt w (fun _=>false) w.drew:=⟨hm.below (aI _ _).drew,hi,eH,eT,bo.of_below (aI _ _).drew⟩
theorem MJc.below {W':World}(hJ:MJc go n sv H T i h tt mh mt w L W)(hb:aq W W'):MJc go n sv H T i h tt mh mt w L W':=⟨hJ.st.below hb,hJ.hi,hJ.eH,hJ.eT,hJ.kept.trans (bo.of_below hb)⟩
theorem MJc.other (hJ:MJc go n sv H T i h tt mh mt w L W)(k:Nat)(h1:k≠14)(h2:k≠17):MJc go n sv H T i h tt mh mt w (fun q=>decide (k=q)||L q) W:=by
 refine⟨?_,hJ.hi,hJ.eH,hJ.eT,hJ.kept⟩;simpa[h1,h2] using hJ.st
theorem MJc.loadH (hJ:MJc go n sv H T i h tt mh mt w L W)(h0:L 14=false):W.cell? (ae go (i*3+1))=some (ag h):=by
 have:=(hJ.st.cells hJ.hi).2.1;rw[h0,ax (by simp),hJ.eH]at this;exact this
theorem MJc.loadT (hJ:MJc go n sv H T i h tt mh mt w L W)(h0:L 17=false):W.cell? (ae go (i*3+2))=some (ag tt):=by
 have:=(hJ.st.cells hJ.hi).2.2.1;rw[h0,ax (by simp),hJ.eT]at this;exact this
theorem MJc.cellH (hJ:MJc go n sv H T i h tt mh mt w L W): ∃v,W.cell? (ae go (i*3+1))=some (ag v)/\W.frozen? (ae go (i*3+1))=false:=⟨_,(hJ.st.cells hJ.hi).2.1,(hJ.st.cells hJ.hi).2.2.2.1⟩
theorem MJc.cellT (hJ:MJc go n sv H T i h tt mh mt w L W): ∃v,W.cell? (ae go (i*3+2))=some (ag v)/\W.frozen? (ae go (i*3+2))=false:=⟨_,(hJ.st.cells hJ.hi).2.2.1,(hJ.st.cells hJ.hi).2.2.2.2⟩
theorem MJc.storeH (hJ:MJc go n sv H T i h tt mh mt w L W)(h0:L 14=false):MJc go n sv H T i h tt mh mt w (fun q=>decide (14=q)||L q) (W.setCell ⟨go,i*3+1,none⟩ (ag mh)):=by
 refine⟨?_,hJ.hi,hJ.eH,hJ.eT,hJ.kept.trans (iD W go (i*3+1) _)⟩;have:=hJ.st.setH mh hJ.hi;simp only[h0,Bool.false_eq_true,if_false]at this;simpa using this
theorem MJc.storeT (hJ:MJc go n sv H T i h tt mh mt w L W)(h0:L 17=false):MJc go n sv H T i h tt mh mt w (fun q=>decide (17=q)||L q) (W.setCell ⟨go,i*3+2,none⟩ (ag mt)):=by
 refine⟨?_,hJ.hi,hJ.eH,hJ.eT,hJ.kept.trans (iD W go (i*3+2) _)⟩;have:=hJ.st.setT mt hJ.hi;simp only[h0,Bool.false_eq_true,if_false]at this;simpa using this
theorem MJc.fin (hJ:MJc go n sv H T i h tt mh mt w L W)(h1:L 14=true)(h2:L 17=true):fC go n sv (upI H i mh) (upI T i mt) W:=by
 have:=hJ.st;rw[h1,h2,aD rfl,aD rfl]at this;exact this
end
theorem tO (C:List (List In))(ρ:Nat->Nat)(mea:Nat->Int×Int)(hR:rV C ρ)(hsm:qT (eR C mea))(n go c:Nat)(hn:n=C.length)(hn9:n<=1000)(sv:Nat->Value)(Ss:Nat->List (In×Value))(hS: ∀k,k<n->(Ss k).map (fun u=>u.1)=C.getD k [])(hL: ∀k,k<n->1<=(Ss k).length/\(Ss k).length<=700)(hV: ∀k,k<n-> ∀u∈Ss k,∃p m c,u.2= .slice p m c)(i:Nat)(hi:i<n)(hme:mea i=mg C mea i)(h1:1<=(mea i).2)
  (IH: ∀k,k<n->ρ k<ρ i-> ∀(H T:Nat->Int) (w:World),fC go n sv H T w->(∀q,q<n->jY w (sv q) (Ss q))->(∀q,q<n->ρ q<=ρ k->Okm mea H T q)->Calls prog 70 #[.slice (some (ae go 0)) n c,ag (k:Int)] w (vV mea ρ go n sv k H T w))
  (H0 T0:Nat->Int) (w:World) (hm:fC go n sv H0 T0 w) (hq: ∀q,q<n->jY w (sv q) (Ss q)) (hok: ∀q,q<n->ρ q<=ρ i->Okm mea H0 T0 q):
  Calls prog 70 #[.slice (some (ae go 0)) n c,ag (i:Int)] w (vV mea ρ go n sv i H0 T0 w):=by
 obtain⟨g1,c1,hsv,_⟩:=(hq i hi).form (hL i hi).1;obtain⟨ln,hlen⟩:=au ((Ss i).length);have hLi:=hL i hi;rw[hlen]at hsv hLi;have hli:(C.getD i []).length=ln:=by rw[<-hS i hi,ba,hlen]
 have HIC:PH (i<C.length):=hn▸hi;have HNC:=a8 hn;have HQ:=a8 hq;have HMW:=a8 hm;have bA:=am w (.cells #[af,ag 0,ag 0] 142);have nA:=aE w (.cells #[af,ag 0,ag 0] 142);have hmA:=hm.below bA;have hlgo:=hm.lt;obtain⟨gr,hgr⟩:=au w.heap.size;have HGR:PH (w.heap.size<=gr):=jV hgr;have hgrne:gr≠go:=by omega
 have hkA:=bo.of_below (g:=go) bA;generalize hwA:w.alloc (.cells #[af,ag 0,ag 0] 142)=wA at*;rw[hgr]at nA;have x0:=(hmA.cells hi).1;have x1:=(hmA.cells hi).2.1;have x2:=(hmA.cells hi).2.2.1;rw[hsv]at x0;have hi0:(0:Int)<=(i:Int):=by omega
 have hi1:(i:Int)<(n:Int):=by omega
 have hi2:(n:Int)<=1000:=by omega
 rcases hok i hi (aB _) with⟨zh,zt⟩|⟨zh,zt⟩
 ·rw[zh]at x1;rw[zt]at x2;have HR0:=a8 (lq.refl (n:=n) (i:=i) hok);have HMA:=a8 hmA;have HKA:=a8 hkA;have HNA:=a8 nA;have HZH:=a8 zh;have HZT:=a8 zt;clear hm hq hok hmA hkA bA zh zt hn nA;go_enter func70,ntmps70;go_wp2_with fail;clear x0 x1 x2 hgr;go_loopw [6,8,9,26] (fun hy _ _ t wr=> ∃(j:Nat) (H T:Nat->Int),t=ag (j:Int)/\j<=ln/\hy=ag (hAt (C.getD i []) j)/\fC go n sv H T wr/\H i=mxH (eR C mea) (C.getD i []) j/\T i=stS (eR C mea) (C.getD i []) j/\lq mea ρ n i H0 T0 H T/\bo go w wr/\wr.heap[gr]? =ah #[af,ag 0,ag 0] 142) (fun _ _ _ t _=>ln-(intOf t).toNat);case atStart=>exact⟨0,H0,T0,rfl,by omega,rfl,HMA.o,HZH.o,HZT.o,HR0.o,HKA.o,HNA.o⟩
  case round=>
   clear HMA HKA HNA HZH HZT HR0 hwA;obtain⟨j,H,T,rfl,hj,rfl,hms,hHe,hTe,hrs,hkp,hgr2⟩:=hrel;have hj0:(0:Int)<=(j:Int):=(by omega);obtain⟨hy,hhv⟩:=au (hAt (C.getD i []) j);obtain⟨h,hhh⟩:=au (mxH (eR C mea) (C.getD i []) j);obtain⟨tt,htt⟩:=au (stS (eR C mea) (C.getD i []) j);have hbv:=mW (C.getD i []) j;have hbh:=rL hsm (C.getD i []) j;have hbt:=rN hsm (C.getD i []) j;rw[hhv]at hbv;rw[hhh]at hbh hHe;rw[htt]at hbt hTe;rw[hhv];have HHV:=a8 hhv;have HHE:=a8 hhh;have HTE:=a8 htt;have HHI:=a8 hHe;have hl7:=hLi.2;by_cases hlt:j<ln
   ·have hlt':(j:Int)<(ln:Int):=(by omega);obtain⟨u,hju⟩: ∃u,(Ss i)[j]? =some u:=⟨(Ss i)[j]'(by omega),az (by omega)⟩
    have hx:(C.getD i [])[j]? =some u.1:=(by rw[<-hS i hi,bg,hju];rfl);obtain⟨g',c',e',hcl⟩:=((HQ.o i hi).kept HMW.o hkp).form (hL i hi).1;rw[hsv]at e';injection e' with e1 e2 e3;injection e1 with e1;injection e1 with e1 _ _;subst e1;clear e2 e3;obtain⟨d0,d1,d2,d3,d4⟩:=hcl j u hju;obtain⟨pv,nv,cv,hv2⟩:=hV i hi u (aM hju);obtain⟨⟨op,xa,xb,xt,xs⟩,vv⟩:=u;dsimp only at d0 d1 d2 d3 d4 hv2 hx;subst hv2;have bI:=am wr (.cells #[ag op,ag xa,ag xb,ag xt,.slice pv nv cv] 179);have nI:=aE wr (.cells #[ag op,ag xa,ag xb,ag xt,.slice pv nv cv] 179);have hmI:=hms.below bI;have hgI:=ai bI hgr2;have hkI:=hkp.trans (bo.of_below bI);have hQI: ∀q,q<n->jY (wr.alloc (.cells #[ag op,ag xa,ag xb,ag xt,.slice pv nv cv] 179)) (sv q) (Ss q):=fun q hq=>(HQ.o q hq).kept HMW.o hkI;have hlgo:=hms.lt;obtain⟨g8,hg8⟩:=au wr.heap.size;generalize hwI:wr.alloc (.cells #[ag op,ag xa,ag xb,ag xt,.slice pv nv cv] 179)=wI at*;rw[hg8]at nI;have zT:=(hmI.cells hi).2.2.1;have yT:=(hmI.cells hi).2.2.2.2;rw[hTe]at zT;have hms1:=hmI.setT (tt+1) hi;have HM1s:=a8 hms1;have HK1:=a8 (hkI.trans (iD wI go (i*3+2) (ag (tt+1))));have HG1:=a8 ((aO wI ⟨go,i*3+2,none⟩ gr (ag (tt+1)) hgrne).trans hgI);have HR1:=a8 (lq.setT hrs (tt+1));have HQ1:PH (∀q,q<n->jY (wI.setCell ⟨go,i*3+2,none⟩ (ag (tt+1))) (sv q) (Ss q)):=fun q hq=>(hQI q hq).kept hmI (iD wI go (i*3+2) (ag (tt+1)));have nI1:=(aO wI ⟨go,i*3+2,none⟩ g8 (ag (tt+1)) (by show g8≠go;omega)).trans nI;generalize hw1:wI.setCell ⟨go,i*3+2,none⟩ (ag (tt+1))=w1 at*;have z80:=ak 0 nI1;have HX:=a8 hx;have HKN:=HK1;have HGN:=HG1;have HRN:=HR1;clear bI hms hgr2 hkp hQI hmI hgI hkI hms1 nI hju hx hcl hrs hHe hTe hhv hhh htt;by_cases hop:op=1
    ·have e1:(op==1)=true:=(by simp[hop])
     have HH1:PH (hAt (C.getD i []) (j+1)=hy+1):=by
      show _=_;rw[jH HX.o,HHV.o];unfold eff;dsimp only;rw[aD (.inl hop)];try omega
     have HX1:PH (max h (hy+1)=mxH (eR C mea) (C.getD i []) (j+1)):=by
      show _=_;rw[kM HX.o,HH1.o,ax (by show¬op=8;omega),HHE.o]
     have HT1:PH (upI T i (tt+1) i=stS (eR C mea) (C.getD i []) (j+1)):=by
      show _=_;rw[iU,jX HX.o,ax (by show¬op=8;omega),HTE.o];try omega
     have zH:=(HM1s.o.cells hi).2.1;have yH:=(HM1s.o.cells hi).2.2.2.1;rw[HHI.o]at zH;obtain⟨m1,hm1⟩:=au (max h (hy+1));have HM1:=a8 hm1;have HMZ:=a8 (HM1s.o.setH m1 hi);have HKZ:=a8 (HKN.o.trans (iD w1 go (i*3+1) (ag m1)));have HGZ:=a8 ((aO w1 ⟨go,i*3+1,none⟩ gr (ag m1) hgrne).trans HGN.o);have HRZ:=a8 (HRN.o.setH m1);generalize hwZ:w1.setCell ⟨go,i*3+1,none⟩ (ag m1)=wZ at*;clear hop;go_wp2_with fail;go_roundw;case rel=>exact⟨j+1,upI H i m1,upI T i (tt+1),by go_num,by omega,by rw[HH1.o],HMZ.o,(iU _ _ _).trans (HM1.o.symm.trans HX1.o),HT1.o,HRZ.o,HKZ.o,HGZ.o⟩
     case measure=>simp[intOf];omega
    have e1:(op==1)=false:=(by simpa using hop);by_cases hop2:op=2
    ·have e2:(op==2)=true:=(by simp[hop2])
     have HH1:PH (hAt (C.getD i []) (j+1)=hy-1):=by
      show _=_;rw[jH HX.o,HHV.o];unfold eff;dsimp only;rw[ax (by omega),aD (by omega)];try omega
     have HX1:PH (max h (hy-1)=mxH (eR C mea) (C.getD i []) (j+1)):=by
      show _=_;rw[kM HX.o,HH1.o,ax (by show¬op=8;omega),HHE.o]
     have HT1:PH (upI T i (tt+1) i=stS (eR C mea) (C.getD i []) (j+1)):=by
      show _=_;rw[iU,jX HX.o,ax (by show¬op=8;omega),HTE.o];try omega
     have zH:=(HM1s.o.cells hi).2.1;have yH:=(HM1s.o.cells hi).2.2.2.1;rw[HHI.o]at zH;obtain⟨m1,hm1⟩:=au (max h (hy-1));have HM1:=a8 hm1;have HMZ:=a8 (HM1s.o.setH m1 hi);have HKZ:=a8 (HKN.o.trans (iD w1 go (i*3+1) (ag m1)));have HGZ:=a8 ((aO w1 ⟨go,i*3+1,none⟩ gr (ag m1) hgrne).trans HGN.o);have HRZ:=a8 (HRN.o.setH m1);generalize hwZ:w1.setCell ⟨go,i*3+1,none⟩ (ag m1)=wZ at*;clear hop2;go_wp2_with fail;go_roundw;case rel=>exact⟨j+1,upI H i m1,upI T i (tt+1),by go_num,by omega,by rw[HH1.o],HMZ.o,(iU _ _ _).trans (HM1.o.symm.trans HX1.o),HT1.o,HRZ.o,HKZ.o,HGZ.o⟩
     case measure=>simp[intOf];omega
    have e2:(op==2)=false:=(by simpa using hop2);by_cases hop3:op=3
    ·have e3:(op==3)=true:=(by simp[hop3])
     have HH1:PH (hAt (C.getD i []) (j+1)=hy-1):=by
      show _=_;rw[jH HX.o,HHV.o];unfold eff;dsimp only;rw[ax (by omega),aD (by omega)];try omega
     have HX1:PH (max h (hy-1)=mxH (eR C mea) (C.getD i []) (j+1)):=by
      show _=_;rw[kM HX.o,HH1.o,ax (by show¬op=8;omega),HHE.o]
     have HT1:PH (upI T i (tt+1) i=stS (eR C mea) (C.getD i []) (j+1)):=by
      show _=_;rw[iU,jX HX.o,ax (by show¬op=8;omega),HTE.o];try omega
     have zH:=(HM1s.o.cells hi).2.1;have yH:=(HM1s.o.cells hi).2.2.2.1;rw[HHI.o]at zH;obtain⟨m1,hm1⟩:=au (max h (hy-1));have HM1:=a8 hm1;have HMZ:=a8 (HM1s.o.setH m1 hi);have HKZ:=a8 (HKN.o.trans (iD w1 go (i*3+1) (ag m1)));have HGZ:=a8 ((aO w1 ⟨go,i*3+1,none⟩ gr (ag m1) hgrne).trans HGN.o);have HRZ:=a8 (HRN.o.setH m1);generalize hwZ:w1.setCell ⟨go,i*3+1,none⟩ (ag m1)=wZ at*;clear hop3;go_wp2_with fail;go_roundw;case rel=>exact⟨j+1,upI H i m1,upI T i (tt+1),by go_num,by omega,by rw[HH1.o],HMZ.o,(iU _ _ _).trans (HM1.o.symm.trans HX1.o),HT1.o,HRZ.o,HKZ.o,HGZ.o⟩
     case measure=>simp[intOf];omega
    have e3:(op==3)=false:=(by simpa using hop3);by_cases hop4:op=4
    ·have e4:(op==4)=true:=(by simp[hop4])
     have HH1:PH (hAt (C.getD i []) (j+1)=hy-1):=by
      show _=_;rw[jH HX.o,HHV.o];unfold eff;dsimp only;rw[ax (by omega),aD (by omega)];try omega
     have HX1:PH (max h (hy-1)=mxH (eR C mea) (C.getD i []) (j+1)):=by
      show _=_;rw[kM HX.o,HH1.o,ax (by show¬op=8;omega),HHE.o]
     have HT1:PH (upI T i (tt+1) i=stS (eR C mea) (C.getD i []) (j+1)):=by
      show _=_;rw[iU,jX HX.o,ax (by show¬op=8;omega),HTE.o];try omega
     have zH:=(HM1s.o.cells hi).2.1;have yH:=(HM1s.o.cells hi).2.2.2.1;rw[HHI.o]at zH;obtain⟨m1,hm1⟩:=au (max h (hy-1));have HM1:=a8 hm1;have HMZ:=a8 (HM1s.o.setH m1 hi);have HKZ:=a8 (HKN.o.trans (iD w1 go (i*3+1) (ag m1)));have HGZ:=a8 ((aO w1 ⟨go,i*3+1,none⟩ gr (ag m1) hgrne).trans HGN.o);have HRZ:=a8 (HRN.o.setH m1);generalize hwZ:w1.setCell ⟨go,i*3+1,none⟩ (ag m1)=wZ at*;clear hop4;go_wp2_with fail;go_roundw;case rel=>exact⟨j+1,upI H i m1,upI T i (tt+1),by go_num,by omega,by rw[HH1.o],HMZ.o,(iU _ _ _).trans (HM1.o.symm.trans HX1.o),HT1.o,HRZ.o,HKZ.o,HGZ.o⟩
     case measure=>simp[intOf];omega
    have e4:(op==4)=false:=(by simpa using hop4);by_cases hop8:op=8
    ·have e8:(op==8)=true:=(by simp[hop8]);obtain⟨ha0,han,hrk⟩:=hR.lt i j _ HIC.o HX.o hop8;dsimp only at ha0 han hrk;obtain⟨k0,hk0⟩: ∃k0:Nat,xa=(k0:Int):=⟨xa.toNat,by omega⟩
     have hk0n:k0<n:=(by rw[HNC.o];rw[hk0]at han;simpa using han);have hrk0:ρ k0<ρ i:=(by rw[hk0]at hrk;simpa using hrk);subst hk0;have cR:=IH k0 hk0n hrk0 _ _ w1 HM1s.o (fun q hq1=>HQ1.o q hq1) (HR1.o.pre hrk0);obtain⟨h9,hh9⟩:=au ((mea k0).1);obtain⟨s9,hs9⟩:=au ((mea k0).2);have hb9:=(hsm.hi k0)
     have hb9s:=(hsm.st k0)
     rw[mF (by rw[<-HNC.o];exact hk0n)]at hb9 hb9s;dsimp only at hb9 hb9s;rw[hh9]at hb9;rw[hs9]at hb9s;unfold vV at cR;rw[hh9,hs9]at cR;obtain⟨gk,ck,hsvk,_⟩:=(HQ1.o k0 hk0n).form (hL k0 hk0n).1;rw[hsvk]at cR;obtain⟨lk,hlk⟩:=au ((Ss k0).length);rw[hlk]at cR;obtain⟨t9,ht9⟩:=au (tt+1+s9);obtain⟨m0,hm0⟩:=au (max h (hy+h9));have HM0:=a8 hm0;have hb_t9:0<=t9/\t9<=99999999:=(by omega);have hwt9:IntKind.i64.wrap t9=t9:=(by rw[bG];omega);have hwh9:IntKind.i64.wrap (hy+h9)=hy+h9:=(by rw[bG];omega);have hb_t8:=hb_t9.1;have hb_t7:=hb_t9.2
     have HH1:PH (hAt (C.getD i []) (j+1)=hy+1):=by
      show _=_;rw[jH HX.o,HHV.o];unfold eff;dsimp only;rw[aD (.inr hop8)]
     have HX1:PH (max m0 (hy+1)=mxH (eR C mea) (C.getD i []) (j+1)):=by
      show _=_;rw[kM HX.o,HH1.o,aD hop8,HHE.o,HHV.o];dsimp only;rw[cZ,mF (by rw[<-HNC.o];exact hk0n),<-hm0,<-hh9]
     have HT0:PH (t9=stS (eR C mea) (C.getD i []) (j+1)):=by
      show _=_;rw[jX HX.o,aD hop8,HTE.o,<-ht9];dsimp only;rw[cZ,mF (by rw[<-HNC.o];exact hk0n),<-hs9]
     have z81:=ak 1 nI1;clear hh9 hs9 ha0 han hrk hop8 hsvk hlk;go_wp2_with fail;refine cR.mono ?_;rintro r w2 ⟨rfl,Hc,Tc,hmc,hmek,hrc,hkc⟩;obtain⟨hrest,hHi,hTi⟩:=HR1.o.call hrk0 hi hmek hrc;have HHc:PH (Hc i=h):=hHi.trans HHI.o;have HTc:PH (Tc i=tt+1):=hTi.trans (iU _ _ _);have bC:=am w2 (.cells #[.slice (some (ae gk 0)) lk ck,ag h9,ag s9] 142);have n9:=aE w2 (.cells #[.slice (some (ae gk 0)) lk ck,ag h9,ag s9] 142);have HM3:=a8 (hmc.below bC);have HK3:=a8 ((HK1.o.trans hkc).trans (bo.of_below bC));have HG3:=a8 ((bC.block _ (aH ((hkc.block _ (aH HG1.o) (fun e=>hgrne (aN e))).trans HG1.o))).trans ((hkc.block _ (aH HG1.o) (fun e=>hgrne (aN e))).trans HG1.o));have HR3:=a8 hrest;obtain⟨g9,hg9⟩:=au w2.heap.size;have hg9ne:g9≠go:=(by have:=hmc.lt;omega);generalize hw3:w2.alloc (.cells #[.slice (some (ae gk 0)) lk ck,ag h9,ag s9] 142)=w3 at*;rw[hg9]at n9;have HN9:=a8 n9;have zT2:=(HM3.o.cells hi).2.2.1;rw[HTc.o]at zT2;have y92:=ak 2 n9;have HT1:PH (upI Tc i t9 i=stS (eR C mea) (C.getD i []) (j+1)):=(iU _ _ _).trans HT0.o;clear cR hmc hmek hrc hkc hrest hHi hTi bC n9 HM1s HQ1 HR1 HK1 HG1 nI1 z80 z81;go_wp2_with fail;refine jO 9 [kn 55 (ab go (i*3)),kn 56 (ab go (i*3)),kn 57 (ab go (i*3+2)),kn 58 (ag (tt+1)),kn 59 (ab g9 2),kn 60 (ag s9),kn 61 (ag t9),kn 62 (ab go (i*3)),kn 63 (ab go (i*3+2)),nk] (by kernel_rfl) (by kernel_rfl) fun M φ W _ hJ F l hl hF=> ?_;have y0_:=aj hJ zT2;have y1_:=aj hJ y92;simp only[kn,nk,dX,aR,aX,Act.put,aA,aK,aJ]at hl;subst hl;simp only[dc,Nat.reduceAdd]at hF;dsimp only[kn,nk,dC,eJ,eg,Act.put];and_intros;all_goals first|exact trivial|intro hw hn hm K hK
     all_goals try (go_simp;with_reducible exact hK _ _ ⟨rfl,aI _ _⟩)
     clear y0_ y1_;have HMX:=a8 (HM3.o.below hJ);have zq:=(HMX.o.cells hi).2.2.1;have yq:=(HMX.o.cells hi).2.2.2.2;have hm4:=HMX.o.setT t9 hi;have HM4:=a8 hm4;have zH3:=(hm4.cells hi).2.1;rw[HHc.o]at zH3;have HK4:=a8 ((HK3.o.trans (bo.of_below hJ)).trans (iD W go (i*3+2) (ag t9)));have HG4:=a8 ((aO W ⟨go,i*3+2,none⟩ gr (ag t9) hgrne).trans (ai hJ HG3.o));have HR4:=a8 (HR3.o.setT t9);have n9b:=(aO W ⟨go,i*3+2,none⟩ g9 (ag t9) hg9ne).trans (ai hJ HN9.o);generalize hw4:W.setCell ⟨go,i*3+2,none⟩ (ag t9)=w4 at*;have y91:=ak 1 n9b;go_simp;refine hK undef _ ⟨trivial,fun c=>by simp at c,fun _=> ?_⟩;simp only[en,aR,aX,Act.put,aA,aK,aJ];clear hF hw hn hm;clear hK hJ zq yq hw4 zT2 y92 HM3 HK3 HG3 HR3 HMX n9b HN9 hm4;have y92:=y91;go_wp2_with fail;refine jO 12 [kn 64 (ab go (i*3)),kn 65 (ab go (i*3)),kn 66 (ab go (i*3)),kn 67 (ab go (i*3+1)),kn 68 (ag h),kn 69 (ag hy),kn 70 (ab g9 1),kn 71 (ag h9),kn 72 (ag (hy+h9)),kn 73 (ag m0),kn 74 (ab go (i*3)),kn 75 (ab go (i*3+1)),nk] (by kernel_rfl) (by kernel_rfl) fun M φ W _ hJ F ll hl hF=> ?_;have y0_:=aj hJ zH3;have y1_:=aj hJ y91;simp only[kn,nk,dX,aR,aX,Act.put,aA,aK,aJ]at hl;subst hl;simp only[dc,Nat.reduceAdd]at hF;dsimp only[kn,nk,dC,eJ,eg,Act.put];and_intros;all_goals first|exact trivial|intro hw hn hm K hK
     all_goals try (go_simp;with_reducible exact hK _ _ ⟨rfl,aI _ _⟩)
     clear y0_ y1_;have HMX:=a8 (HM4.o.below hJ);have zq:=(HMX.o.cells hi).2.1;have yq:=(HMX.o.cells hi).2.2.2.1;have HM5:=a8 (HMX.o.setH m0 hi);have HK5:=a8 ((HK4.o.trans (bo.of_below hJ)).trans (iD W go (i*3+1) (ag m0)));have HG5:=a8 ((aO W ⟨go,i*3+1,none⟩ gr (ag m0) hgrne).trans (ai hJ HG4.o));have HRN:=a8 (HR4.o.setH m0);generalize hw5:W.setCell ⟨go,i*3+1,none⟩ (ag m0)=w5 at*;go_simp;refine hK undef _ ⟨trivial,(fun c=>by simp at c),fun _=> ?_⟩;simp only[en,aR,aX,Act.put,aA,aK,aJ];clear hK hF hw hn hm hJ zq yq hw5 zH3 y91 y92 HM4 HK4 HG4 HR4 HMX;have HKN:=HK5;have HGN:=HG5;have hup:upI Hc i m0 i=m0:=iU _ _ _;have HUP:=a8 hup;clear hup;have zH:=(HM5.o.cells hi).2.1;have yH:=(HM5.o.cells hi).2.2.2.1;rw[HUP.o]at zH;obtain⟨m1,hm1⟩:=au (max m0 (hy+1));have HM1:=a8 hm1;have HMZ:=a8 (HM5.o.setH m1 hi);have HKZ:=a8 (HKN.o.trans (iD w5 go (i*3+1) (ag m1)));have HGZ:=a8 ((aO w5 ⟨go,i*3+1,none⟩ gr (ag m1) hgrne).trans HGN.o);have HRZ:=a8 (HRN.o.setH m1);generalize hwZ:w5.setCell ⟨go,i*3+1,none⟩ (ag m1)=wZ at*;go_wp2_with fail;go_roundw;case rel=>exact⟨j+1,upI (upI Hc i m0) i m1,upI Tc i t9,by go_num,by omega,by rw[HH1.o],HMZ.o,(iU _ _ _).trans (HM1.o.symm.trans HX1.o),HT1.o,HRZ.o,HKZ.o,HGZ.o⟩
     case measure=>simp[intOf];omega
    have e8:(op==8)=false:=(by simpa using hop8)
    have HH1:PH (hAt (C.getD i []) (j+1)=hy):=by
     show _=_;rw[jH HX.o,HHV.o];unfold eff;dsimp only;rw[ax (by omega),ax (by omega)];simp
    have HX1:PH (max h (hy)=mxH (eR C mea) (C.getD i []) (j+1)):=by
     show _=_;rw[kM HX.o,HH1.o,ax (by show¬op=8;omega),HHE.o]
    have HT1:PH (upI T i (tt+1) i=stS (eR C mea) (C.getD i []) (j+1)):=by
     show _=_;rw[iU,jX HX.o,ax (by show¬op=8;omega),HTE.o];try omega
    have zH:=(HM1s.o.cells hi).2.1;have yH:=(HM1s.o.cells hi).2.2.2.1;rw[HHI.o]at zH;obtain⟨m1,hm1⟩:=au (max h (hy));have HM1:=a8 hm1;have HMZ:=a8 (HM1s.o.setH m1 hi);have HKZ:=a8 (HKN.o.trans (iD w1 go (i*3+1) (ag m1)));have HGZ:=a8 ((aO w1 ⟨go,i*3+1,none⟩ gr (ag m1) hgrne).trans HGN.o);have HRZ:=a8 (HRN.o.setH m1);generalize hwZ:w1.setCell ⟨go,i*3+1,none⟩ (ag m1)=wZ at*;clear hop hop2 hop3 hop4 hop8;go_wp2_with fail;go_roundw;case rel=>exact⟨j+1,upI H i m1,upI T i (tt+1),by go_num,by omega,by rw[HH1.o],HMZ.o,(iU _ _ _).trans (HM1.o.symm.trans HX1.o),HT1.o,HRZ.o,HKZ.o,HGZ.o⟩
    case measure=>simp[intOf];omega
   ·have hlt': ¬(j:Int)<(ln:Int):=(by omega);obtain rfl:ln=j:=(by omega);obtain⟨mh,hmh⟩:=au (min h 101);obtain⟨mt,hmt⟩:=au (min tt 20001)
    have HRE:PH (mea i=(mh,mt)):=by
     show _=_;rw[hme];unfold mg;rw[hli,HHE.o,HTE.o,hmh,hmt]
    have HTI:=a8 hTe;have HJ0:=a8 hms;have HRS:=a8 hrs;have HKP:=a8 hkp;have HG2:=a8 hgr2;clear hms hrs hkp hgr2 hhv hhh htt hHe hTe;go_wp2_with fail;refine dn (fun M _ W=>MJc go n sv H T i h tt mh mt wr M W) [kn 88 (ab go (i*3)),kn 89 (ab go (i*3)),kn 90 (ab go (i*3)),kn 91 (ab go (i*3)),kn 92 (ab go (i*3+1)),dk 93 (ag h),dk 94 (ag mh),kn 95 (ab go (i*3)),kn 96 (ab go (i*3)),kn 97 (ab go (i*3+2)),dk 98 (ag tt),dk 99 (ag mt),kn 100 (ab go (i*3)),kn 101 (ab go (i*3+1)),nk,kn 102 (ab go (i*3)),kn 103 (ab go (i*3+2)),nk] (fun _=>MJc.start HJ0.o hi HHI.o HTI.o) (fun _ _ _ _ hb h=>h.below hb) (by kernel_rfl) (fun M φ W2 hJ hcl F ll hl hF=> ?_) (fun M φ W2 hM hJ=> ?_)
    ·simp only[kn,dk,nk,dX,aR,aX,Act.put,aA,aK,aJ]at hl;subst hl;simp only[dc,Nat.reduceAdd]at hF;dsimp only[kn,dk,nk,dC,eJ,eg,Act.put];and_intros;all_goals first|exact trivial|intro hw hn hm K hK
     all_goals try (go_simp;with_reducible exact hK _ _ ⟨rfl,aI _ _⟩)
     ·have zz:=hJ.loadH (by
       cases q:M 14 with
       |false=>rfl
       |true=>rw[hcl 6 _ rfl (hcl 14 _ rfl q ⟨6,.data⟩ (by simp) rfl rfl) ⟨5,.data⟩ (by simp) rfl rfl]at hm;cases hm)
      go_simp;exact hK _ _ ⟨rfl,hJ.other 5 (by decide) (by decide)⟩
     ·go_simp;exact hK _ _ ⟨rfl,hJ.other 6 (by decide) (by decide)⟩
     ·have zz:=hJ.loadT (by
       cases q:M 17 with
       |false=>rfl
       |true=>rw[hcl 11 _ rfl (hcl 17 _ rfl q ⟨11,.data⟩ (by simp) rfl rfl) ⟨10,.data⟩ (by simp) rfl rfl]at hm;cases hm)
      go_simp;exact hK _ _ ⟨rfl,hJ.other 10 (by decide) (by decide)⟩
     ·go_simp;exact hK _ _ ⟨rfl,hJ.other 11 (by decide) (by decide)⟩
     ·obtain⟨v9,zz,yy⟩:=hJ.cellH;have hj2:=hJ.storeH hm;generalize hw9:W2.setCell ⟨go,i*3+1,none⟩ (ag mh)=w9 at*;go_simp;exact hK undef _ ⟨trivial,hj2⟩
     ·obtain⟨v9,zz,yy⟩:=hJ.cellT;have hj2:=hJ.storeT hm;generalize hw9:W2.setCell ⟨go,i*3+2,none⟩ (ag mt)=w9 at*;go_simp;exact hK undef _ ⟨trivial,hj2⟩
    ·have hms9:=hJ.fin (hM 14 (by decide) rfl) (hM 17 (by decide) rfl);have hk9:=hJ.kept;have hg9:=(hk9.block _ (aH HG2.o) (fun e=>hgrne (aN e))).trans HG2.o;have y0:=(hms9.cells hi).1;have y1:=(hms9.cells hi).2.1;have y2:=(hms9.cells hi).2.2.1;rw[iU]at y1 y2;rw[hsv]at y0;have nR:=aL _ _ _ #[.slice (some (ae g1 0)) ln c1,ag mh,ag mt] _ _ hg9;have hmR:=hms9.same (aV W2 gr go #[.slice (some (ae g1 0)) ln c1,ag mh,ag mt] (fun e=>hgrne e.symm))
     have HN:PH (vV mea ρ go n sv i H0 T0 w (.returned (.agg #[.slice (some (ae g1 0)) ln c1,ag mh,ag mt])) (W2.setRow gr #[.slice (some (ae g1 0)) ln c1,ag mh,ag mt])):=by
      refine⟨by rw[hsv,HRE.o],_,_,hmR,⟨by rw[HRE.o];exact iU _ _ _,by rw[HRE.o];exact iU _ _ _⟩,(HRS.o.setH mh).setT mt,?_⟩;have hk8:=HKP.o.trans hk9;exact⟨hk8.os,hk8.tape,hk8.output,bf hk8.size (by simp),fun q hq hne=>(aV W2 gr q _ (fun e=>by have:=HGR.o;omega)).trans (hk8.block q hq hne)⟩
     have HNR:=a8 nR;clear hJ hM hms9 hk9 hmR HRS HKP HJ0 nR;simp only[kn,dk,nk,en,aR,aX,Act.put,aA,aK,aJ];go_wp2_with(refine ay rfl 142 _ _ rfl _ _ rfl rfl _ _ hg9 (by kernel_rfl) (by simp) (by simp[Value.oneCell']) ?_)
     refine aW (v:= .agg #[.slice (some (ae g1 0)) ln c1,ag mh,ag mt]) ?_ rfl HN.o;exact bc rfl _ _ gr _ _ _ _ rfl HNR.o Aa rfl (by kernel_rfl)
 ·obtain⟨mh,hmh⟩:=au ((mea i).1);obtain⟨mt,hmt⟩:=au ((mea i).2);rw[zh,hmh]at x1;rw[zt,hmt]at x2;rw[hmt]at h1;have h1':0<mt:=(by omega);have nR:=aL _ _ _ #[.slice (some (ae g1 0)) ln c1,ag mh,ag mt] _ _ nA;have hmR:=hmA.same (aV wA gr go #[.slice (some (ae g1 0)) ln c1,ag mh,ag mt] (fun e=>hgrne e.symm));have hbR:=below_setRow bA (jV hgr) #[.slice (some (ae g1 0)) ln c1,ag mh,ag mt]
  have HN:PH (vV mea ρ go n sv i H0 T0 w (.returned (.agg #[.slice (some (ae g1 0)) ln c1,ag mh,ag mt])) (wA.setRow gr #[.slice (some (ae g1 0)) ln c1,ag mh,ag mt])):=
   ⟨by rw[hsv,hmh,hmt],H0,T0,hmR,⟨zh,zt⟩,lq.refl hok,bo.of_below hbR⟩
  have HNR:=a8 nR;clear hm hq hok hmA hkA bA zh zt hn nR hmR hbR h1 hmh hmt hme HQ HMW IH hS hL hV hR hsm;go_enter func70,ntmps70;go_wp2_with(refine ay rfl 142 _ _ rfl _ _ rfl rfl _ _ nA (by kernel_rfl) (by simp) (by simp[Value.oneCell']) ?_)
  refine aW (v:= .agg #[.slice (some (ae g1 0)) ln c1,ag mh,ag mt]) ?_ rfl HN.o;exact bc rfl _ _ gr _ _ _ _ rfl HNR.o Aa rfl (by kernel_rfl)
end
theorem vn (w0:World)(gm:Nat)(mp:Value)(l:List Ru)(k:Ex)(p:Option Addr)(q:Nat)(op a b:Int)(S:List (In×Value))(W0:World)(h:WOk w0 gm mp S W0)(hC:Ff w0 gm mp l k (.slice p k.kids.length q))(hS:S.length+1+jc k<=700)(HLN0:(bL (atP5 l) k (S.length+1)).length<=700):
  Calls prog 97 #[ab gm 0,.agg #[ag op,ag a,ag b,ag 0,af],.agg #[ag k.kind,ag k.a,ag k.b,.string ⟨k.name.toArray⟩,.slice p k.kids.length q]] W0 (nJ w0 gm mp S (⟨op,a,b,((S.length+1+(bL (atP5 l) k (S.length+1)).length:Nat):Int),[]⟩::bL (atP5 l) k (S.length+1)) W0):=by
 have HLN:PH ((bL (atP5 l) k (S.length+1)).length<=700):=HLN0;have HGM:=a8 h.lt;have bA:=am W0 (.cells #[ag op,ag a,ag b,ag 0,af] 179);have nA:=aE W0 (.cells #[ag op,ag a,ag b,ag 0,af] 179);have hA:=h.below bA;obtain⟨gA,hgA⟩:=au W0.heap.size;generalize hwA:W0.alloc (.cells #[ag op,ag a,ag b,ag 0,af] 179)=wA at*;rw[hgA]at nA;have bB:=am wA (.cells #[ag k.kind,ag k.a,ag k.b,.string ⟨k.name.toArray⟩,.slice p k.kids.length q] 104);have nB:=aE wA (.cells #[ag k.kind,ag k.a,ag k.b,.string ⟨k.name.toArray⟩,.slice p k.kids.length q] 104);have hB:=hA.below bB;have nA1:=ai bB nA;have hgm:=hA.lt;obtain⟨gB,hgB⟩:=au wA.heap.size;generalize hwB:wA.alloc (.cells #[ag k.kind,ag k.a,ag k.b,.string ⟨k.name.toArray⟩,.slice p k.kids.length q] 104)=wB at*;rw[hgB]at nB;have hne:gB≠gm:=by omega
 have HFB:PH (Fr2 gm W0 wB):=Fr2.below HGM.o (aw bA bB);obtain⟨_,hgt,sv,n1,own1⟩:=id hB.st;obtain⟨p0,c0,hsv⟩:=di own1;subst hsv;have z1:=ak 1 n1;have cP:=uO hB ⟨op,a,b,0,[]⟩ (af) (ia.nil _ _ _) (by omega);dsimp only at cP;have hs0:(0:Int)<=(S.length:Int):=by omega
 have hs1:(S.length:Int)<=700:=by omega
 have HGT:=a8 hgt;have HBS:=a8 hB.st;clear bA bB hA hB own1 nA hgt n1 h;go_enter func97,ntmps97
 go_wp2_with(first
  |(refine aQ rfl 179 _ rfl _ rfl _ _ _ _ nA1 vU rfl (by kernel_rfl) ?_))
 refine cP.mono ?_;rintro e1 w2 ⟨rfl,hok2,hfr2⟩;have nB2:=(Fr2.fr HBS.o hfr2) _ _ _ nB (by decide) hne;have cE:=hC _ w2 hok2 (by rw[aP,dP];exact hS);unfold exV at cE;have HF2:=a8 (HFB.o.trans hfr2);clear cP hok2 hfr2 z1 nB nA1 hwB hwA
 go_wp2_with(first
  |(refine aQ rfl 104 _ rfl _ rfl _ _ _ _ nB2 fc rfl (by kernel_rfl) ?_))
 refine cE.mono ?_;rintro e2 w3 ⟨rfl,S',hS',hok3,hfr3⟩;rw[aP,dP]at hS';have HS':=a8 hS';have HFR3:=a8 (HF2.o.trans hfr3);obtain⟨⟨hb3,_,sv3,n13,own3⟩,hsp3⟩:=hok3;have eS:(S++[((⟨op,a,b,0,[]⟩:In),af)])++S'=S++((⟨op,a,b,0,[]⟩,af)::S'):=by simp
 rw[eS]at own3 hsp3;obtain⟨n3,hn3⟩:=au ((S++(((⟨op,a,b,0,[]⟩:In),af)::S')).length);rw[hn3]at own3;have HN3:PH (n3=S.length+1+S'.length):=by show _=_;rw[<-hn3];simp;omega
 obtain⟨g3,c3,hv3⟩: ∃g3 c3,sv3= .slice (some (ae g3 0)) n3 c3:=by
  rcases own3.2 with⟨_,e⟩|⟨g',cap,cur,e,_⟩
  ·have:=HN3.o;omega
  ·exact⟨g',cap,e⟩
 subst hv3;have z13:=ak 1 n13;have HO3:=a8 own3;have HSP3:=a8 hsp3;have HB3:=a8 hb3
 have hlen':n3<=2000:=by
  have h1:=HN3.o;have h2:=congrArg List.length hS';rw[ba]at h2;have h3:=HLN.o;omega
 have hi1:(S.length:Int)<(n3:Int):=by have:=HN3.o;omega
 have hi2:(n3:Int)<=2000:=by omega
 clear cE hS' hfr3 own3 hsp3 hb3 eS hn3 nB2 HF2 HFB;go_wp2_with fail;refine jO 12 [kn 18 (ab gm 0),kn 19 (ab gm 0),kn 20 (ab gm 1),kn 21 (.slice (some (ae g3 0)) n3 c3),kn 22 (ag (S.length:Int)),kn 23 (ab gm 0),kn 24 (ab gm 0),kn 25 (ab gm 1),kn 26 (.slice (some (ae g3 0)) n3 c3),kn 27 (ag (n3:Int)),kn 28 (ab g3 (S.length*5)),kn 29 (ab g3 (S.length*5+3)),nk] (by kernel_rfl) (by kernel_rfl) fun M φ WX _ hJ F l hl hF=> ?_;have y0_:=aj hJ z13;simp only[kn,nk,dX,aR,aX,Act.put,aA,aK,aJ]at hl;subst hl;simp only[dc,Nat.reduceAdd]at hF;dsimp only[kn,nk,dC,eJ,eg,Act.put];and_intros;all_goals first|exact trivial|intro hw hn hm K hK
 all_goals try (go_simp;with_reducible exact hK _ _ ⟨rfl,aI _ _⟩)
 clear y0_;have own4:=il HO3.o hJ;have own5:=NR (n3:Int) own4
 have hrow: ∃cur,WX.heap[g3]? =ah cur 179/\S.length*5+3<cur.size:=by
  rcases own4.2 with⟨e,_⟩|⟨g',cap,cur,e,_,hg,hn,_,hs,_⟩
  ·cases e
  ·injection e with e1 _ e3;injection e1 with e1;injection e1 with e1 _ _;subst e1 e3;exact⟨cur,hg,by omega⟩
 obtain⟨cur,hcur,hcl⟩:=hrow;have ck:WX.cell? (ae g3 (S.length*5+3))=some (cur[S.length*5+3]'hcl):=(aZ _ _ _ _ _ _ hcur).trans (fQ hcl);have yk:WX.frozen? (ae g3 (S.length*5+3))=false:=bl _ _ _ _ _ hcur;have n4:=ai hJ n13
 have hgne:gm≠g3:=fun e=>by
  rw[e,hcur]at n4;injection n4 with n4;injection n4 with _ h2 _;exact absurd h2 (by decide)
 have n5:=(aO WX ⟨g3,S.length*5+3,none⟩ gm (ag (n3:Int)) hgne).trans n4;have hb5:aq w0 (WX.setCell ⟨g3,S.length*5+3,none⟩ (ag (n3:Int))):=(aw HB3.o hJ).setCell (p:=⟨g3,S.length*5+3,none⟩) ((own4.lt g3 rfl).1) _
 have hfr5:Fr gm WX (WX.setCell ⟨g3,S.length*5+3,none⟩ (ag (n3:Int))):=fun q c T hq hT _=>by
  refine(aO WX ⟨g3,S.length*5+3,none⟩ q _ (fun e=> ?_)).trans hq;rw[show q=g3 from e,hcur]at hq;injection hq with hq;injection hq with _ h2 _;exact absurd h2.symm hT
 have hf25:Fr2 gm WX (WX.setCell ⟨g3,S.length*5+3,none⟩ (ag (n3:Int))):=by
  refine⟨fun q hq _ hr=>aO WX ⟨g3,S.length*5+3,none⟩ q _ (fun e=>hr ?_),.inl ?_,by simp⟩
  ·rw[oB n4,show q=g3 from e];rfl
  ·rw[oB n5,oB n4]
 have hn3e:=HN3.o
 have HN:PH (nJ w0 gm mp S (⟨op,a,b,((S.length+1+(bL (atP5 l) k (S.length+1)).length:Nat):Int),[]⟩::bL (atP5 l) k (S.length+1)) W0 (.returned (.tuple #[])) (WX.setCell ⟨g3,S.length*5+3,none⟩ (ag (n3:Int)))):=by
  refine⟨rfl,(⟨op,a,b,(n3:Int),[]⟩,af)::S',?_,⟨⟨hb5,HGT.o,_,n5,?_⟩,fun u hu=> ?_⟩,(HFR3.o.trans (Fr2.below (aH n13) hJ)).trans hf25⟩
  ·rw[dH,HS'.o];have hl:=congrArg List.length HS'.o;rw[ba]at hl;rw[<-hl,show S.length+1+S'.length=n3 by omega]
  ·have hlen:(S++((⟨op,a,b,(n3:Int),[]⟩,af)::S')).length=n3:=(by simp;omega);rw[hlen];exact own5
  ·rcases bU.1 hu with hu|hu
   ·exact(((HSP3.o u (by simp[hu])).below hJ).fr n4 hfr5)
   ·rcases bz.1 hu with rfl|hu
    ·exact ia.nil _ _ _
    ·exact(((HSP3.o u (by simp[hu])).below hJ).fr n4 hfr5)
 clear own4 own5 n4 n5 hb5 hfr5 hf25 hn3e hcur;generalize hw9:WX.setCell ⟨g3,S.length*5+3,none⟩ (ag (n3:Int))=w9 at*;go_simp;refine hK undef _ ⟨trivial,fun c=>by simp at c,fun _=> ?_⟩;simp only[en,aR,aX,Act.put,aA,aK,aJ];clear hF hw hn hm;clear hK hJ ck yk hw9;go_wp2_with fail;exact⟨rfl,_,eN rfl _ _ _,HN.o⟩
theorem Ab: ∀(fs:List (Nat->List In)) (f:Nat->List In) (b:Nat),kb (fs++[f]) b=kb fs b++f (b+(kb fs b).length)
 |[],f,b=>by simp[kb]
 |g::fs,f,b=>by
  have ih:=Ab fs f (b+(g b).length);show g b++kb (fs++[f]) (b+(g b).length)=(g b++kb fs (b+(g b).length))++_;rw[ih,eh];congr 2;show f _=f (b+(g b++kb fs (b+(g b).length)).length);rw[aP,<-Nat.add_assoc]
def KQ (w0:World)(gm:Nat)(mp:Value)(l:List Ru)(sl:Value)(ks:List Ex):Prop:=
 ∃g o c:Nat,sl= .slice (some (ae g o)) ks.length c/\g<w0.heap.size/\ks.length<9223372036854775808/\ ∀(j:Nat) (k:Ex),ks[j]? =some k-> ∃(p:Option Addr) (q:Nat),
  w0.cell? (ae g (o+j*5))=some (ag k.kind)/\w0.cell? (ae g (o+j*5+1))=some (ag k.a)/\w0.cell? (ae g (o+j*5+2))=some (ag k.b)/\
  w0.cell? (ae g (o+j*5+3))=some (.string ⟨k.name.toArray⟩)/\w0.cell? (ae g (o+j*5+4))=some (.slice p k.kids.length q)/\Ff w0 gm mp l k (.slice p k.kids.length q)
def kX (l:List Ru)(ks:List Ex)(j b:Nat):List In:=kb ((ks.take j).map (bL (atP5 l))) b
theorem C0 {l:List Ru}{ks:List Ex}{j b:Nat}{k:Ex}(h:ks[j]? =some k):kX l ks (j+1) b=kX l ks j b++bL (atP5 l) k (b+(kX l ks j b).length):=by
 unfold kX;rw[fD,h,dT];exact Ab _ _ _
theorem pM (w0:World)(gm:Nat)(mp:Value)(l:List Ru)(ks:List Ex)(sl:Value)(op a:Int)(S:List (In×Value))(W0:World)(h:WOk w0 gm mp S W0)(hk:KQ w0 gm mp l sl ks)(hlc: ∀(j:Nat) (k:Ex),ks[j]? =some k->S.length+(kX l ks j S.length).length+jc k<=700)(hlz:S.length+(kX l ks ks.length S.length).length<=700):
  Calls prog 98 #[ab gm 0,sl,.agg #[ag op,ag a,ag 0,ag 0,af]] W0 (nJ w0 gm mp S (kb (ks.map (bL (atP5 l))) S.length++[⟨op,a,0,0,[]⟩]) W0):=by
 have HLC:=a8 hlc;have HLZ:=a8 hlz;obtain⟨g,o,c,hsl,hg0,hkl,hkid⟩:=hk;subst hsl;have HKID:=a8 hkid;have bA:=am W0 (.cells #[ag op,ag a,ag 0,ag 0,af] 179);have nA:=aE W0 (.cells #[ag op,ag a,ag 0,ag 0,af] 179);have hA:=h.below bA;obtain⟨gA,hgA⟩:=au W0.heap.size;have hgmA:gm<gA:=by rw[<-hgA];exact h.lt
 have HFA:=a8 (Fr2.below h.lt bA)
 have HRA:PH (tN gm (W0.alloc (.cells #[ag op,ag a,ag 0,ag 0,af] 179))≠some gA):=by
  show _≠_;obtain⟨_,_,sv,n1,own1⟩:=h.st;rw[oB (ai bA n1)];intro e;have:=(own1.lt _ e).2;omega
 generalize hwA:W0.alloc (.cells #[ag op,ag a,ag 0,ag 0,af] 179)=wA at*;rw[hgA]at nA;have HNA:=a8 nA;have HA:=a8 hA;have hgl:gA<wA.heap.size:=aH nA;clear bA nA hA h hlc hlz hkid;go_enter func98,ntmps98;go_wp2_with fail;go_loopw [7,10] (fun _ t wr=> ∃(j:Nat) (S':List (In×Value)),t=ag (j:Int)/\j<=ks.length/\S'.map (fun u=>u.1)=kX l ks j S.length/\WOk w0 gm mp (S++S') wr/\Fr2 gm wA wr) (fun _ t _=>ks.length-(intOf t).toNat);case atStart=>exact⟨0,[],rfl,by omega,rfl,by rw[ik];exact HA.o,Fr2.below (by omega) (aI _ _)⟩
 case round=>
  obtain⟨j,S',rfl,hj,hS',hok,hfr⟩:=hrel;clear HA hwA;have hj0:(0:Int)<=(j:Int):=(by omega);have hlS:S'.length=(kX l ks j S.length).length:=(by rw[<-hS',ba]);by_cases hlt:j<ks.length
  ·have hlt':(j:Int)<(ks.length:Int):=(by omega);obtain⟨k,hjk⟩: ∃k,ks[j]? =some k:=⟨ks[j],az hlt⟩
   obtain⟨pk,ck,d0,d1,d2,d3,d4,ihk⟩:=HKID.o j k hjk;have hb:=hok.st.bel;have f0:=aj hb d0;have f1:=aj hb d1;have f2:=aj hb d2;have f3:=aj hb d3;have f4:=aj hb d4;have bB:=am wr (.cells #[ag k.kind,ag k.a,ag k.b,.string ⟨k.name.toArray⟩,.slice pk k.kids.length ck] 104);have nB:=aE wr (.cells #[ag k.kind,ag k.a,ag k.b,.string ⟨k.name.toArray⟩,.slice pk k.kids.length ck] 104);have hokB:=hok.below bB;have hfrB:=hfr.trans (Fr2.below hok.lt bB);have cE:=ihk _ _ hokB (by rw[aP,hlS];exact HLC.o j k hjk);unfold exV at cE
   have HST:PH (S'.map (fun u=>u.1)++bL (atP5 l) k (S++S').length=kX l ks (j+1) S.length):=by
    show _=_;rw[C0 hjk,hS',aP,hlS]
   generalize hwB:wr.alloc (.cells #[ag k.kind,ag k.a,ag k.b,.string ⟨k.name.toArray⟩,.slice pk k.kids.length ck] 104)=wB at*;have HFB:=a8 hfrB;clear d0 d1 d2 d3 d4 ihk hjk bB hok hfr hokB hfrB hS' hb hlS;go_wp2_with(refine aQ rfl 104 _ rfl _ rfl _ _ _ _ nB fc rfl (by kernel_rfl) ?_)
   refine cE.mono ?_;rintro r w3 ⟨rfl,S2,hS2,hok3,hfr3⟩
   have HOK3:PH (WOk w0 gm mp (S++(S'++S2)) w3):=by
    show WOk _ _ _ _ _;rw[<-eh];exact hok3
   have HM3:PH ((S'++S2).map (fun u=>u.1)=kX l ks (j+1) S.length):=by
    show _=_;rw[dT,hS2];exact HST.o
   have HF3:=a8 (HFB.o.trans hfr3);clear cE nB hwB f0 f1 f2 f3 f4 hS2 hok3 hfr3 HST HFB;go_wp2_with fail;go_roundw;case rel=>exact⟨j+1,S'++S2,by go_num,by omega,HM3.o,HOK3.o,HF3.o⟩
   case measure=>simp[intOf];omega
  ·have hlt': ¬(j:Int)<(ks.length:Int):=(by omega);obtain rfl:j=ks.length:=(by omega);have nA2:=(hfr.blk gA hgl (by omega) HRA.o).trans HNA.o;have cP:=uO hok ⟨op,a,0,0,[]⟩ (af) (ia.nil _ _ _) (by rw[aP,hlS];have:=HLZ.o;omega);dsimp only at cP
   have HM:PH (S'.map (fun u=>u.1)=kb (ks.map (bL (atP5 l))) S.length):=by
    show _=_;rw[hS'];unfold kX;rw[gd]
   have HF:=a8 (HFA.o.trans hfr);clear hok hfr hS' hlS;go_wp2_with(refine aQ rfl 179 _ rfl _ rfl _ _ _ _ nA2 vU rfl (by kernel_rfl) ?_)
   refine cP.mono ?_;rintro r w4 ⟨rfl,hok4,hfr4⟩
   have HN:PH (nJ w0 gm mp S (kb (ks.map (bL (atP5 l))) S.length++[⟨op,a,0,0,[]⟩]) W0 (.returned (.tuple #[])) w4):=by
    refine⟨rfl,S'++[(⟨op,a,0,0,[]⟩,af)],?_,?_,HF.o.trans hfr4⟩
    ·rw[dT,HM.o];rfl
    ·rw[<-eh];exact hok4
   clear cP nA2 hok4 hfr4 HM HF;go_wp2_with fail;exact⟨rfl,_,eN rfl _ _ _,HN.o⟩
end Go.Proofs.YtkfidffapdhbhaaGreatDoor
