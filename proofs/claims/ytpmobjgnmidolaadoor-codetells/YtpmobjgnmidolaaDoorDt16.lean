/- What measure comes to, of what it comes to for those that are called. Written by gencwi.py. -/
import Derived.Test.YtpmobjgnmidolaaDoorDt15
namespace Go.Proofs.YtpmobjgnmidolaaDoor
open Go.RowKit Lx Vx Msk
structure MJc (go n:Nat)(sv:Nat→Value)(H T:Nat→Int)(i:Nat)(h tt mh mt:Int)(w:World)(L:Nat→Bool)(W:World):Prop where
 st:MeSt go n sv (if L 14=true then upI H i mh else H) (if L 17=true then upI T i mt else T) W
 hi:i<n
 eH:H i=h
 eT:T i=tt
 kept:Kept go w W
section
variable {go n i:Nat} {sv:Nat→Value} {H T:Nat→Int} {h tt mh mt:Int} {w W:World} {L:Nat→Bool}
theorem MJc.start (hm:MeSt go n sv H T w)(hi:i<n)(eH:H i=h)(eT:T i=tt)(h14:L 14=false)(h17:L 17=false):MJc go n sv H T i h tt mh mt w L w.drew:=by
 refine⟨?_,hi,eH,eT,Kept.of_below (Below.refl _ _).drew⟩;rw[h14,h17,if_neg (by simp),if_neg (by simp)];exact hm.below (Below.refl _ _).drew
theorem MJc.other (hJ:MJc go n sv H T i h tt mh mt w L W)(k:Nat)(h1:k≠14)(h2:k≠17):MJc go n sv H T i h tt mh mt w (fun q=>decide (k=q)||L q) W:=by
 refine⟨?_,hJ.hi,hJ.eH,hJ.eT,hJ.kept⟩;simpa[h1,h2] using hJ.st
theorem MJc.loadH (hJ:MJc go n sv H T i h tt mh mt w L W)(h0:L 14=false):W.cell? ⟨go,i*3+1,none⟩=some (.int .i64 h):=by
 have:=(hJ.st.cells hJ.hi).2.1;rw[h0,if_neg (by simp),hJ.eH]at this;exact this
theorem MJc.loadT (hJ:MJc go n sv H T i h tt mh mt w L W)(h0:L 17=false):W.cell? ⟨go,i*3+2,none⟩=some (.int .i64 tt):=by
 have:=(hJ.st.cells hJ.hi).2.2.1;rw[h0,if_neg (by simp),hJ.eT]at this;exact this
theorem MJc.cellH (hJ:MJc go n sv H T i h tt mh mt w L W): ∃v,W.cell? ⟨go,i*3+1,none⟩=some (.int .i64 v)∧W.frozen? ⟨go,i*3+1,none⟩=false:=⟨_,(hJ.st.cells hJ.hi).2.1,(hJ.st.cells hJ.hi).2.2.2.1⟩
theorem MJc.cellT (hJ:MJc go n sv H T i h tt mh mt w L W): ∃v,W.cell? ⟨go,i*3+2,none⟩=some (.int .i64 v)∧W.frozen? ⟨go,i*3+2,none⟩=false:=⟨_,(hJ.st.cells hJ.hi).2.2.1,(hJ.st.cells hJ.hi).2.2.2.2⟩
theorem MJc.storeH (hJ:MJc go n sv H T i h tt mh mt w L W)(h0:L 14=false):MJc go n sv H T i h tt mh mt w (fun q=>decide (14=q)||L q) (W.setCell ⟨go,i*3+1,none⟩ (.int .i64 mh)):=by
 refine⟨?_,hJ.hi,hJ.eH,hJ.eT,hJ.kept.trans (kept_set W go (i*3+1) _)⟩;have:=hJ.st.setH mh hJ.hi;simp only[h0,Bool.false_eq_true,if_false]at this;simpa using this
theorem MJc.storeT (hJ:MJc go n sv H T i h tt mh mt w L W)(h0:L 17=false):MJc go n sv H T i h tt mh mt w (fun q=>decide (17=q)||L q) (W.setCell ⟨go,i*3+2,none⟩ (.int .i64 mt)):=by
 refine⟨?_,hJ.hi,hJ.eH,hJ.eT,hJ.kept.trans (kept_set W go (i*3+2) _)⟩;have:=hJ.st.setT mt hJ.hi;simp only[h0,Bool.false_eq_true,if_false]at this;simpa using this
theorem MJc.fin (hJ:MJc go n sv H T i h tt mh mt w L W)(h1:L 14=true)(h2:L 17=true):MeSt go n sv (upI H i mh) (upI T i mt) W:=by
 have:=hJ.st;rw[h1,h2,if_pos rfl,if_pos rfl]at this;exact this
end
set_option maxRecDepth 100000 in
set_option maxHeartbeats 8000000 in
theorem measure_step (C:List (List In))(ρ:Nat→Nat)(mea:Nat→Int×Int)(hR:Ranked C ρ)(hsm:Small (withM C mea))(n go c:Nat)(hn:n=C.length)(hn9:n≤1000)(sv:Nat→Value)(Ss:Nat→List (In×Value))(hS: ∀k,k<n→(Ss k).map (fun u=>u.1)=C.getD k [])(hL: ∀k,k<n→1≤(Ss k).length∧(Ss k).length≤700)(hV: ∀k,k<n→ ∀u∈Ss k,∃p m c,u.2= .slice p m c)(i:Nat)(hi:i<n)(hme:mea i=reck C mea i)(h1:1≤(mea i).2)
  (IH: ∀k,k<n→ρ k<ρ i→ ∀(H T:Nat→Int) (w:World),MeSt go n sv H T w→(∀q,q<n→InsQ w (sv q) (Ss q))→(∀q,q<n→ρ q≤ρ k→Okm mea H T q)→Calls Tryd.prog 16 #[.slice (some ⟨go,0,none⟩) n c,.int .i64 (k:Int)] w (OutM mea ρ go n sv k H T w))
  (H0 T0:Nat→Int) (w:World) (hm:MeSt go n sv H0 T0 w) (hq: ∀q,q<n→InsQ w (sv q) (Ss q)) (hok: ∀q,q<n→ρ q≤ρ i→Okm mea H0 T0 q):
  Calls Tryd.prog 16 #[.slice (some ⟨go,0,none⟩) n c,.int .i64 (i:Int)] w (OutM mea ρ go n sv i H0 T0 w):=by
 obtain⟨g1,c1,hsv,_⟩:=(hq i hi).form (hL i hi).1;obtain⟨ln,hlen⟩: ∃q,(Ss i).length=q:=⟨_,rfl⟩
 have hLi:=hL i hi;rw[hlen]at hsv hLi;have hli:(C.getD i []).length=ln:=by rw[←hS i hi,List.length_map,hlen]
 have HIC:Hid (i<C.length):=hn▸hi;have HNC:=hidv hn;have HQ:=hidv hq;have HMW:=hidv hm;have bA:=(Below.refl w.heap.size w).alloc (Nat.le_refl _) (.cells #[.slice none 0 0,.int .i64 0,.int .i64 0] 42);have nA:=heap_alloc_new w (.cells #[.slice none 0 0,.int .i64 0,.int .i64 0] 42);have hmA:=hm.below bA;have hlgo:=hm.lt;obtain⟨gr,hgr⟩: ∃q,w.heap.size=q:=⟨_,rfl⟩
 have HGR:Hid (w.heap.size≤gr):=Nat.le_of_eq hgr;have hgrne:gr≠go:=by omega
 have hkA:=Kept.of_below (g:=go) bA;generalize hwA:w.alloc (.cells #[.slice none 0 0,.int .i64 0,.int .i64 0] 42)=wA at*;rw[hgr]at nA;have x0:=(hmA.cells hi).1;have x1:=(hmA.cells hi).2.1;have x2:=(hmA.cells hi).2.2.1;rw[hsv]at x0;have hi0:(0:Int)≤(i:Int):=by omega
 have hi1:(i:Int)<(n:Int):=by omega
 have hi2:(n:Int)≤1000:=by omega
 rcases hok i hi (Nat.le_refl _) with⟨zh,zt⟩|⟨zh,zt⟩
 ·rw[zh]at x1;rw[zt]at x2;have HR0:=hidv (Rest.refl (n:=n) (i:=i) hok);have HMA:=hidv hmA;have HKA:=hidv hkA;have HNA:=hidv nA;have HZH:=hidv zh;have HZT:=hidv zt;clear hm hq hok hmA hkA bA zh zt hn nA;go_enter Tryd.func16,Tryd.ntmps16;go_wp2_with fail;clear x0 x1 x2 hgr;go_loopw [6,8,9,26] (fun hy _ _ t wr=> ∃(j:Nat) (H T:Nat→Int),t= .int .i64 (j:Int)∧j≤ln∧hy= .int .i64 (hAt (C.getD i []) j)∧MeSt go n sv H T wr∧H i=mxH (withM C mea) (C.getD i []) j∧T i=stS (withM C mea) (C.getD i []) j∧Rest mea ρ n i H0 T0 H T∧Kept go w wr∧wr.heap[gr]? =some (.cells #[.slice none 0 0,.int .i64 0,.int .i64 0] 42 (0,0))) (fun _ _ _ t _=>ln-(intOf t).toNat);case atStart=>exact⟨0,H0,T0,rfl,by omega,rfl,HMA.out,HZH.out,HZT.out,HR0.out,HKA.out,HNA.out⟩
  case round=>
   clear HMA HKA HNA HZH HZT HR0 hwA;obtain⟨j,H,T,rfl,hj,rfl,hms,hHe,hTe,hrs,hkp,hgr2⟩:=hrel;have hj0:(0:Int)≤(j:Int):=(by omega);obtain⟨hy,hhv⟩: ∃q,hAt (C.getD i []) j=q:=⟨_,rfl⟩
   obtain⟨h,hhh⟩: ∃q,mxH (withM C mea) (C.getD i []) j=q:=⟨_,rfl⟩
   obtain⟨tt,htt⟩: ∃q,stS (withM C mea) (C.getD i []) j=q:=⟨_,rfl⟩
   have hbv:=hAt_bd (C.getD i []) j;have hbh:=mxH_bd hsm (C.getD i []) j;have hbt:=stS_bd hsm (C.getD i []) j;rw[hhv]at hbv;rw[hhh]at hbh hHe;rw[htt]at hbt hTe;rw[hhv];have HHV:=hidv hhv;have HHE:=hidv hhh;have HTE:=hidv htt;have HHI:=hidv hHe;have hl7:=hLi.2;by_cases hlt:j<ln
   ·have hlt':(j:Int)<(ln:Int):=(by omega);obtain⟨u,hju⟩: ∃u,(Ss i)[j]? =some u:=⟨(Ss i)[j]'(by omega),List.getElem?_eq_getElem (by omega)⟩
    have hx:(C.getD i [])[j]? =some u.1:=(by rw[←hS i hi,List.getElem?_map,hju];rfl);obtain⟨g',c',e',hcl⟩:=((HQ.out i hi).kept HMW.out hkp).form (hL i hi).1;rw[hsv]at e';injection e' with e1 e2 e3;injection e1 with e1;injection e1 with e1 _ _;subst e1;clear e2 e3;obtain⟨d0,d1,d2,d3,d4⟩:=hcl j u hju;obtain⟨pv,nv,cv,hv2⟩:=hV i hi u (List.mem_of_getElem? hju);obtain⟨⟨op,xa,xb,xt,xs⟩,vv⟩:=u;dsimp only at d0 d1 d2 d3 d4 hv2 hx;subst hv2;have bI:=(Below.refl wr.heap.size wr).alloc (Nat.le_refl _) (.cells #[.int .i64 op,.int .i64 xa,.int .i64 xb,.int .i64 xt,.slice pv nv cv] 66);have nI:=heap_alloc_new wr (.cells #[.int .i64 op,.int .i64 xa,.int .i64 xb,.int .i64 xt,.slice pv nv cv] 66);have hmI:=hms.below bI;have hgI:=(bI.block _ (lt_of_block hgr2)).trans hgr2;have hkI:=hkp.trans (Kept.of_below bI);have hQI: ∀q,q<n→InsQ (wr.alloc (.cells #[.int .i64 op,.int .i64 xa,.int .i64 xb,.int .i64 xt,.slice pv nv cv] 66)) (sv q) (Ss q):=fun q hq=>(HQ.out q hq).kept HMW.out hkI;have hlgo:=hms.lt;obtain⟨g8,hg8⟩: ∃q,wr.heap.size=q:=⟨_,rfl⟩
    generalize hwI:wr.alloc (.cells #[.int .i64 op,.int .i64 xa,.int .i64 xb,.int .i64 xt,.slice pv nv cv] 66)=wI at*;rw[hg8]at nI;have zT:=(hmI.cells hi).2.2.1;have yT:=(hmI.cells hi).2.2.2.2;rw[hTe]at zT;have hms1:=hmI.setT (tt+1) hi;have HM1s:=hidv hms1;have HK1:=hidv (hkI.trans (kept_set wI go (i*3+2) (.int .i64 (tt+1))));have HG1:=hidv ((heap_setCell_other wI ⟨go,i*3+2,none⟩ gr (.int .i64 (tt+1)) hgrne).trans hgI);have HR1:=hidv (Rest.setT hrs (tt+1));have HQ1:Hid (∀q,q<n→InsQ (wI.setCell ⟨go,i*3+2,none⟩ (.int .i64 (tt+1))) (sv q) (Ss q)):=fun q hq=>(hQI q hq).kept hmI (kept_set wI go (i*3+2) (.int .i64 (tt+1)));have nI1:=(heap_setCell_other wI ⟨go,i*3+2,none⟩ g8 (.int .i64 (tt+1)) (by show g8≠go;omega)).trans nI;generalize hw1:wI.setCell ⟨go,i*3+2,none⟩ (.int .i64 (tt+1))=w1 at*;have z80:=(cell_of_row _ _ 0 _ _ _ nI1).trans rfl;have HX:=hidv hx;have HKN:=HK1;have HGN:=HG1;have HRN:=HR1;clear bI hms hgr2 hkp hQI hmI hgI hkI hms1 nI hju hx hcl hrs hHe hTe hhv hhh htt;by_cases hop:op=1
    ·have e1:(op==1)=true:=(by simp[hop])
     have HH1:Hid (hAt (C.getD i []) (j+1)=hy+1):=by
      show _=_;rw[hAt_step HX.out,HHV.out];unfold eff;dsimp only;rw[if_pos (.inl hop)];try omega
     have HX1:Hid (max h (hy+1)=mxH (withM C mea) (C.getD i []) (j+1)):=by
      show _=_;rw[mxH_step HX.out,HH1.out,if_neg (by show¬op=8;omega),HHE.out]
     have HT1:Hid (upI T i (tt+1) i=stS (withM C mea) (C.getD i []) (j+1)):=by
      show _=_;rw[upI_at,stS_step HX.out,if_neg (by show¬op=8;omega),HTE.out];try omega
     have zH:=(HM1s.out.cells hi).2.1;have yH:=(HM1s.out.cells hi).2.2.2.1;rw[HHI.out]at zH;obtain⟨m1,hm1⟩: ∃q,max h (hy+1)=q:=⟨_,rfl⟩
     have HM1:=hidv hm1;have HMZ:=hidv (HM1s.out.setH m1 hi);have HKZ:=hidv (HKN.out.trans (kept_set w1 go (i*3+1) (.int .i64 m1)));have HGZ:=hidv ((heap_setCell_other w1 ⟨go,i*3+1,none⟩ gr (.int .i64 m1) hgrne).trans HGN.out);have HRZ:=hidv (HRN.out.setH m1);generalize hwZ:w1.setCell ⟨go,i*3+1,none⟩ (.int .i64 m1)=wZ at*;clear hop;go_wp2_with fail;go_roundw;case rel=>exact⟨j+1,upI H i m1,upI T i (tt+1),by go_num,by omega,by rw[HH1.out],HMZ.out,(upI_at _ _ _).trans (HM1.out.symm.trans HX1.out),HT1.out,HRZ.out,HKZ.out,HGZ.out⟩
     case measure=>simp[intOf];omega
    have e1:(op==1)=false:=(by simpa using hop);by_cases hop2:op=2
    ·have e2:(op==2)=true:=(by simp[hop2])
     have HH1:Hid (hAt (C.getD i []) (j+1)=hy-1):=by
      show _=_;rw[hAt_step HX.out,HHV.out];unfold eff;dsimp only;rw[if_neg (by omega),if_pos (by omega)];try omega
     have HX1:Hid (max h (hy-1)=mxH (withM C mea) (C.getD i []) (j+1)):=by
      show _=_;rw[mxH_step HX.out,HH1.out,if_neg (by show¬op=8;omega),HHE.out]
     have HT1:Hid (upI T i (tt+1) i=stS (withM C mea) (C.getD i []) (j+1)):=by
      show _=_;rw[upI_at,stS_step HX.out,if_neg (by show¬op=8;omega),HTE.out];try omega
     have zH:=(HM1s.out.cells hi).2.1;have yH:=(HM1s.out.cells hi).2.2.2.1;rw[HHI.out]at zH;obtain⟨m1,hm1⟩: ∃q,max h (hy-1)=q:=⟨_,rfl⟩
     have HM1:=hidv hm1;have HMZ:=hidv (HM1s.out.setH m1 hi);have HKZ:=hidv (HKN.out.trans (kept_set w1 go (i*3+1) (.int .i64 m1)));have HGZ:=hidv ((heap_setCell_other w1 ⟨go,i*3+1,none⟩ gr (.int .i64 m1) hgrne).trans HGN.out);have HRZ:=hidv (HRN.out.setH m1);generalize hwZ:w1.setCell ⟨go,i*3+1,none⟩ (.int .i64 m1)=wZ at*;clear hop2;go_wp2_with fail;go_roundw;case rel=>exact⟨j+1,upI H i m1,upI T i (tt+1),by go_num,by omega,by rw[HH1.out],HMZ.out,(upI_at _ _ _).trans (HM1.out.symm.trans HX1.out),HT1.out,HRZ.out,HKZ.out,HGZ.out⟩
     case measure=>simp[intOf];omega
    have e2:(op==2)=false:=(by simpa using hop2);by_cases hop3:op=3
    ·have e3:(op==3)=true:=(by simp[hop3])
     have HH1:Hid (hAt (C.getD i []) (j+1)=hy-1):=by
      show _=_;rw[hAt_step HX.out,HHV.out];unfold eff;dsimp only;rw[if_neg (by omega),if_pos (by omega)];try omega
     have HX1:Hid (max h (hy-1)=mxH (withM C mea) (C.getD i []) (j+1)):=by
      show _=_;rw[mxH_step HX.out,HH1.out,if_neg (by show¬op=8;omega),HHE.out]
     have HT1:Hid (upI T i (tt+1) i=stS (withM C mea) (C.getD i []) (j+1)):=by
      show _=_;rw[upI_at,stS_step HX.out,if_neg (by show¬op=8;omega),HTE.out];try omega
     have zH:=(HM1s.out.cells hi).2.1;have yH:=(HM1s.out.cells hi).2.2.2.1;rw[HHI.out]at zH;obtain⟨m1,hm1⟩: ∃q,max h (hy-1)=q:=⟨_,rfl⟩
     have HM1:=hidv hm1;have HMZ:=hidv (HM1s.out.setH m1 hi);have HKZ:=hidv (HKN.out.trans (kept_set w1 go (i*3+1) (.int .i64 m1)));have HGZ:=hidv ((heap_setCell_other w1 ⟨go,i*3+1,none⟩ gr (.int .i64 m1) hgrne).trans HGN.out);have HRZ:=hidv (HRN.out.setH m1);generalize hwZ:w1.setCell ⟨go,i*3+1,none⟩ (.int .i64 m1)=wZ at*;clear hop3;go_wp2_with fail;go_roundw;case rel=>exact⟨j+1,upI H i m1,upI T i (tt+1),by go_num,by omega,by rw[HH1.out],HMZ.out,(upI_at _ _ _).trans (HM1.out.symm.trans HX1.out),HT1.out,HRZ.out,HKZ.out,HGZ.out⟩
     case measure=>simp[intOf];omega
    have e3:(op==3)=false:=(by simpa using hop3);by_cases hop4:op=4
    ·have e4:(op==4)=true:=(by simp[hop4])
     have HH1:Hid (hAt (C.getD i []) (j+1)=hy-1):=by
      show _=_;rw[hAt_step HX.out,HHV.out];unfold eff;dsimp only;rw[if_neg (by omega),if_pos (by omega)];try omega
     have HX1:Hid (max h (hy-1)=mxH (withM C mea) (C.getD i []) (j+1)):=by
      show _=_;rw[mxH_step HX.out,HH1.out,if_neg (by show¬op=8;omega),HHE.out]
     have HT1:Hid (upI T i (tt+1) i=stS (withM C mea) (C.getD i []) (j+1)):=by
      show _=_;rw[upI_at,stS_step HX.out,if_neg (by show¬op=8;omega),HTE.out];try omega
     have zH:=(HM1s.out.cells hi).2.1;have yH:=(HM1s.out.cells hi).2.2.2.1;rw[HHI.out]at zH;obtain⟨m1,hm1⟩: ∃q,max h (hy-1)=q:=⟨_,rfl⟩
     have HM1:=hidv hm1;have HMZ:=hidv (HM1s.out.setH m1 hi);have HKZ:=hidv (HKN.out.trans (kept_set w1 go (i*3+1) (.int .i64 m1)));have HGZ:=hidv ((heap_setCell_other w1 ⟨go,i*3+1,none⟩ gr (.int .i64 m1) hgrne).trans HGN.out);have HRZ:=hidv (HRN.out.setH m1);generalize hwZ:w1.setCell ⟨go,i*3+1,none⟩ (.int .i64 m1)=wZ at*;clear hop4;go_wp2_with fail;go_roundw;case rel=>exact⟨j+1,upI H i m1,upI T i (tt+1),by go_num,by omega,by rw[HH1.out],HMZ.out,(upI_at _ _ _).trans (HM1.out.symm.trans HX1.out),HT1.out,HRZ.out,HKZ.out,HGZ.out⟩
     case measure=>simp[intOf];omega
    have e4:(op==4)=false:=(by simpa using hop4);by_cases hop8:op=8
    ·have e8:(op==8)=true:=(by simp[hop8]);obtain⟨ha0,han,hrk⟩:=hR.lt i j _ HIC.out HX.out hop8;dsimp only at ha0 han hrk;obtain⟨k0,hk0⟩: ∃k0:Nat,xa=(k0:Int):=⟨xa.toNat,by omega⟩
     have hk0n:k0<n:=(by rw[HNC.out];rw[hk0]at han;simpa using han);have hrk0:ρ k0<ρ i:=(by rw[hk0]at hrk;simpa using hrk);subst hk0;have cR:=IH k0 hk0n hrk0 _ _ w1 HM1s.out (fun q hq1=>HQ1.out q hq1) (HR1.out.pre hrk0);obtain⟨h9,hh9⟩: ∃q,(mea k0).1=q:=⟨_,rfl⟩
     obtain⟨s9,hs9⟩: ∃q,(mea k0).2=q:=⟨_,rfl⟩
     have hb9:=(hsm.hi k0)
     have hb9s:=(hsm.st k0)
     rw[withM_at (by rw[←HNC.out];exact hk0n)]at hb9 hb9s;dsimp only at hb9 hb9s;rw[hh9]at hb9;rw[hs9]at hb9s;unfold OutM at cR;rw[hh9,hs9]at cR;obtain⟨gk,ck,hsvk,_⟩:=(HQ1.out k0 hk0n).form (hL k0 hk0n).1;rw[hsvk]at cR;obtain⟨lk,hlk⟩: ∃q,(Ss k0).length=q:=⟨_,rfl⟩
     rw[hlk]at cR;obtain⟨t9,ht9⟩: ∃q,tt+1+s9=q:=⟨_,rfl⟩
     obtain⟨m0,hm0⟩: ∃q,max h (hy+h9)=q:=⟨_,rfl⟩
     have HM0:=hidv hm0;have hb_t9:0≤t9∧t9≤99999999:=(by omega);have hwt9:IntKind.i64.wrap t9=t9:=(by rw[IntKind.wrap_i64];omega);have hwh9:IntKind.i64.wrap (hy+h9)=hy+h9:=(by rw[IntKind.wrap_i64];omega);have hb_t8:=hb_t9.1;have hb_t7:=hb_t9.2
     have HH1:Hid (hAt (C.getD i []) (j+1)=hy+1):=by
      show _=_;rw[hAt_step HX.out,HHV.out];unfold eff;dsimp only;rw[if_pos (.inr hop8)]
     have HX1:Hid (max m0 (hy+1)=mxH (withM C mea) (C.getD i []) (j+1)):=by
      show _=_;rw[mxH_step HX.out,HH1.out,if_pos hop8,HHE.out,HHV.out];dsimp only;rw[Int.toNat_natCast,withM_at (by rw[←HNC.out];exact hk0n),←hm0,←hh9]
     have HT0:Hid (t9=stS (withM C mea) (C.getD i []) (j+1)):=by
      show _=_;rw[stS_step HX.out,if_pos hop8,HTE.out,←ht9];dsimp only;rw[Int.toNat_natCast,withM_at (by rw[←HNC.out];exact hk0n),←hs9]
     have z81:=(cell_of_row _ _ 1 _ _ _ nI1).trans rfl;clear hh9 hs9 ha0 han hrk hop8 hsvk hlk;go_wp2_with fail;refine cR.mono ?_;rintro r w2 ⟨rfl,Hc,Tc,hmc,hmek,hrc,hkc⟩;obtain⟨hrest,hHi,hTi⟩:=HR1.out.call hrk0 hi hmek hrc;have HHc:Hid (Hc i=h):=hHi.trans HHI.out;have HTc:Hid (Tc i=tt+1):=hTi.trans (upI_at _ _ _);have bC:=(Below.refl w2.heap.size w2).alloc (Nat.le_refl _) (.cells #[.slice (some ⟨gk,0,none⟩) lk ck,.int .i64 h9,.int .i64 s9] 42);have n9:=heap_alloc_new w2 (.cells #[.slice (some ⟨gk,0,none⟩) lk ck,.int .i64 h9,.int .i64 s9] 42);have HM3:=hidv (hmc.below bC);have HK3:=hidv ((HK1.out.trans hkc).trans (Kept.of_below bC));have HG3:=hidv ((bC.block _ (lt_of_block ((hkc.block _ (lt_of_block HG1.out) (fun e=>hgrne (Option.some.inj e))).trans HG1.out))).trans ((hkc.block _ (lt_of_block HG1.out) (fun e=>hgrne (Option.some.inj e))).trans HG1.out));have HR3:=hidv hrest;obtain⟨g9,hg9⟩: ∃q,w2.heap.size=q:=⟨_,rfl⟩
     have hg9ne:g9≠go:=(by have:=hmc.lt;omega);generalize hw3:w2.alloc (.cells #[.slice (some ⟨gk,0,none⟩) lk ck,.int .i64 h9,.int .i64 s9] 42)=w3 at*;rw[hg9]at n9;have HN9:=hidv n9;have zT2:=(HM3.out.cells hi).2.2.1;rw[HTc.out]at zT2;have y92:=(cell_of_row _ _ 2 _ _ _ n9).trans rfl;have HT1:Hid (upI Tc i t9 i=stS (withM C mea) (C.getD i []) (j+1)):=(upI_at _ _ _).trans HT0.out;clear cR hmc hmek hrc hkc hrest hHi hTi bC n9 HM1s HQ1 HR1 HK1 HG1 nI1 z80 z81;go_wp2_with fail;refine wp_region_last (by kernel_rfl) (by kernel_rfl) (by kernel_rfl) (by kernel_rfl) 9 (by kernel_rfl) (by kernel_rfl) [(55,.pointer (some ⟨go,i*3,none⟩)),(56,.pointer (some ⟨go,i*3,none⟩)),(57,.pointer (some ⟨go,i*3+2,none⟩)),(58,.int .i64 (tt+1)),(59,.pointer (some ⟨g9,2,none⟩)),(60,.int .i64 s9),(61,.int .i64 t9),(62,.pointer (some ⟨go,i*3,none⟩)),(63,.pointer (some ⟨go,i*3+2,none⟩))] (by kernel_rfl) (by kernel_rfl) ?_ ?_
     ·intro i' s v o' L A W ho hv hdep hJ hkept hhas;match i',ho,hv with
      |0,ho,hv=>
       cases Option.some.inj ho;cases Option.some.inj hv;have h5:A.tmps[5]?.getD undef= .pointer (some ⟨go,i*3,none⟩):=(gd A 5).trans (hkept 5 (by kernel_rfl));refine wpOp_step rfl (fun K hK=> ?_);go_simp;exact hK _ _ ⟨rfl,Below.refl _ _⟩
      |1,ho,hv=>
       cases Option.some.inj ho;cases Option.some.inj hv;have h55:A.tmps[55]?.getD undef= .pointer (some ⟨go,i*3,none⟩):=(gd A 55).trans (hhas 0 55 _ rfl (hdep ⟨0,.data⟩ (by simp) rfl));refine wpOp_step rfl (fun K hK=> ?_);go_simp;exact hK _ _ ⟨rfl,Below.refl _ _⟩
      |2,ho,hv=>
       cases Option.some.inj ho;cases Option.some.inj hv;have h56:A.tmps[56]?.getD undef= .pointer (some ⟨go,i*3,none⟩):=(gd A 56).trans (hhas 1 56 _ rfl (hdep ⟨1,.data⟩ (by simp) rfl));refine wpOp_step rfl (fun K hK=> ?_);go_simp;exact hK _ _ ⟨rfl,Below.refl _ _⟩
      |3,ho,hv=>
       cases Option.some.inj ho;cases Option.some.inj hv;have h57:A.tmps[57]?.getD undef= .pointer (some ⟨go,i*3+2,none⟩):=(gd A 57).trans (hhas 2 57 _ rfl (hdep ⟨2,.data⟩ (by simp) rfl));have zz:=(hJ.cell (block_lt_of_cell zT2)).trans zT2;refine wpOp_step rfl (fun K hK=> ?_);go_simp;exact hK _ _ ⟨rfl,Below.refl _ _⟩
      |4,ho,hv=>
       cases Option.some.inj ho;cases Option.some.inj hv;have h9:A.tmps[9]?.getD undef= .pointer (some ⟨g9,0,none⟩):=(gd A 9).trans (hkept 9 (by kernel_rfl));refine wpOp_step rfl (fun K hK=> ?_);go_simp;exact hK _ _ ⟨rfl,Below.refl _ _⟩
      |5,ho,hv=>
       cases Option.some.inj ho;cases Option.some.inj hv;have h59:A.tmps[59]?.getD undef= .pointer (some ⟨g9,2,none⟩):=(gd A 59).trans (hhas 4 59 _ rfl (hdep ⟨4,.data⟩ (by simp) rfl));have zz:=(hJ.cell (block_lt_of_cell y92)).trans y92;refine wpOp_step rfl (fun K hK=> ?_);go_simp;exact hK _ _ ⟨rfl,Below.refl _ _⟩
      |6,ho,hv=>
       cases Option.some.inj ho;cases Option.some.inj hv;have h58:A.tmps[58]?.getD undef= .int .i64 (tt+1):=(gd A 58).trans (hhas 3 58 _ rfl (hdep ⟨3,.data⟩ (by simp) rfl));have h60:A.tmps[60]?.getD undef= .int .i64 s9:=(gd A 60).trans (hhas 5 60 _ rfl (hdep ⟨5,.data⟩ (by simp) rfl));refine wpOp_step rfl (fun K hK=> ?_);go_simp;exact hK _ _ ⟨rfl,Below.refl _ _⟩
      |7,ho,hv=>
       cases Option.some.inj ho;cases Option.some.inj hv;have h55:A.tmps[55]?.getD undef= .pointer (some ⟨go,i*3,none⟩):=(gd A 55).trans (hhas 0 55 _ rfl (hdep ⟨0,.data⟩ (by simp) rfl));refine wpOp_step rfl (fun K hK=> ?_);go_simp;exact hK _ _ ⟨rfl,Below.refl _ _⟩
      |8,ho,hv=>
       cases Option.some.inj ho;cases Option.some.inj hv;have h62:A.tmps[62]?.getD undef= .pointer (some ⟨go,i*3,none⟩):=(gd A 62).trans (hhas 7 62 _ rfl (hdep ⟨7,.data⟩ (by simp) rfl));refine wpOp_step rfl (fun K hK=> ?_);go_simp;exact hK _ _ ⟨rfl,Below.refl _ _⟩
      |kk+9,ho,hv=>simp at hv
     ·intro o' W ho hJ;cases Option.some.inj ho;simp only[putAll_cons,putAll_nil,Act.put,List.setIfInBounds_toArray,List.set_cons_succ,List.set_cons_zero];refine wpOp_step rfl (fun K hK=> ?_);have HMX:=hidv (HM3.out.below hJ);have zq:=(HMX.out.cells hi).2.2.1;have yq:=(HMX.out.cells hi).2.2.2.2;have hm4:=HMX.out.setT t9 hi;have HM4:=hidv hm4;have zH3:=(hm4.cells hi).2.1;rw[HHc.out]at zH3;have HK4:=hidv ((HK3.out.trans (Kept.of_below hJ)).trans (kept_set W go (i*3+2) (.int .i64 t9)));have HG4:=hidv ((heap_setCell_other W ⟨go,i*3+2,none⟩ gr (.int .i64 t9) hgrne).trans ((hJ.block _ (lt_of_block HG3.out)).trans HG3.out));have HR4:=hidv (HR3.out.setT t9);have n9b:=(heap_setCell_other W ⟨go,i*3+2,none⟩ g9 (.int .i64 t9) hg9ne).trans ((hJ.block _ (lt_of_block HN9.out)).trans HN9.out);generalize hw4:W.setCell ⟨go,i*3+2,none⟩ (.int .i64 t9)=w4 at*;have y91:=(cell_of_row _ _ 1 _ _ _ n9b).trans rfl;go_simp;refine hK _ _ ⟨⟨undef,rfl⟩,?_⟩;clear hK hJ zq yq hw4 zT2 y92 HM3 HK3 HG3 HR3 HMX n9b HN9 hm4;have y92:=y91;go_wp2_with fail;refine wp_region_last (by kernel_rfl) (by kernel_rfl) (by kernel_rfl) (by kernel_rfl) 12 (by kernel_rfl) (by kernel_rfl) [(64,.pointer (some ⟨go,i*3,none⟩)),(65,.pointer (some ⟨go,i*3,none⟩)),(66,.pointer (some ⟨go,i*3,none⟩)),(67,.pointer (some ⟨go,i*3+1,none⟩)),(68,.int .i64 h),(69,.int .i64 hy),(70,.pointer (some ⟨g9,1,none⟩)),(71,.int .i64 h9),(72,.int .i64 (hy+h9)),(73,.int .i64 m0),(74,.pointer (some ⟨go,i*3,none⟩)),(75,.pointer (some ⟨go,i*3+1,none⟩))] (by kernel_rfl) (by kernel_rfl) ?_ ?_
      ·intro i' s v o' L A W ho hv hdep hJ hkept hhas;match i',ho,hv with
       |0,ho,hv=>
        cases Option.some.inj ho;cases Option.some.inj hv;have h5:A.tmps[5]?.getD undef= .pointer (some ⟨go,i*3,none⟩):=(gd A 5).trans (hkept 5 (by kernel_rfl));refine wpOp_step rfl (fun K hK=> ?_);go_simp;exact hK _ _ ⟨rfl,Below.refl _ _⟩
       |1,ho,hv=>
        cases Option.some.inj ho;cases Option.some.inj hv;have h5:A.tmps[5]?.getD undef= .pointer (some ⟨go,i*3,none⟩):=(gd A 5).trans (hkept 5 (by kernel_rfl));refine wpOp_step rfl (fun K hK=> ?_);go_simp;exact hK _ _ ⟨rfl,Below.refl _ _⟩
       |2,ho,hv=>
        cases Option.some.inj ho;cases Option.some.inj hv;have h65:A.tmps[65]?.getD undef= .pointer (some ⟨go,i*3,none⟩):=(gd A 65).trans (hhas 1 65 _ rfl (hdep ⟨1,.data⟩ (by simp) rfl));refine wpOp_step rfl (fun K hK=> ?_);go_simp;exact hK _ _ ⟨rfl,Below.refl _ _⟩
       |3,ho,hv=>
        cases Option.some.inj ho;cases Option.some.inj hv;have h66:A.tmps[66]?.getD undef= .pointer (some ⟨go,i*3,none⟩):=(gd A 66).trans (hhas 2 66 _ rfl (hdep ⟨2,.data⟩ (by simp) rfl));refine wpOp_step rfl (fun K hK=> ?_);go_simp;exact hK _ _ ⟨rfl,Below.refl _ _⟩
       |4,ho,hv=>
        cases Option.some.inj ho;cases Option.some.inj hv;have h67:A.tmps[67]?.getD undef= .pointer (some ⟨go,i*3+1,none⟩):=(gd A 67).trans (hhas 3 67 _ rfl (hdep ⟨3,.data⟩ (by simp) rfl));have zz:=(hJ.cell (block_lt_of_cell zH3)).trans zH3;refine wpOp_step rfl (fun K hK=> ?_);go_simp;exact hK _ _ ⟨rfl,Below.refl _ _⟩
       |5,ho,hv=>
        cases Option.some.inj ho;cases Option.some.inj hv;have h6:A.tmps[6]?.getD undef= .int .i64 hy:=(gd A 6).trans (hkept 6 (by kernel_rfl));refine wpOp_step rfl (fun K hK=> ?_);go_simp;exact hK _ _ ⟨rfl,Below.refl _ _⟩
       |6,ho,hv=>
        cases Option.some.inj ho;cases Option.some.inj hv;have h9:A.tmps[9]?.getD undef= .pointer (some ⟨g9,0,none⟩):=(gd A 9).trans (hkept 9 (by kernel_rfl));refine wpOp_step rfl (fun K hK=> ?_);go_simp;exact hK _ _ ⟨rfl,Below.refl _ _⟩
       |7,ho,hv=>
        cases Option.some.inj ho;cases Option.some.inj hv;have h70:A.tmps[70]?.getD undef= .pointer (some ⟨g9,1,none⟩):=(gd A 70).trans (hhas 6 70 _ rfl (hdep ⟨6,.data⟩ (by simp) rfl));have zz:=(hJ.cell (block_lt_of_cell y91)).trans y91;refine wpOp_step rfl (fun K hK=> ?_);go_simp;exact hK _ _ ⟨rfl,Below.refl _ _⟩
       |8,ho,hv=>
        cases Option.some.inj ho;cases Option.some.inj hv;have h69:A.tmps[69]?.getD undef= .int .i64 hy:=(gd A 69).trans (hhas 5 69 _ rfl (hdep ⟨5,.data⟩ (by simp) rfl));have h71:A.tmps[71]?.getD undef= .int .i64 h9:=(gd A 71).trans (hhas 7 71 _ rfl (hdep ⟨7,.data⟩ (by simp) rfl));refine wpOp_step rfl (fun K hK=> ?_);go_simp;exact hK _ _ ⟨rfl,Below.refl _ _⟩
       |9,ho,hv=>
        cases Option.some.inj ho;cases Option.some.inj hv;have h68:A.tmps[68]?.getD undef= .int .i64 h:=(gd A 68).trans (hhas 4 68 _ rfl (hdep ⟨4,.data⟩ (by simp) rfl));have h72:A.tmps[72]?.getD undef= .int .i64 (hy+h9):=(gd A 72).trans (hhas 8 72 _ rfl (hdep ⟨8,.data⟩ (by simp) rfl));refine wpOp_step rfl (fun K hK=> ?_);go_simp;exact hK _ _ ⟨rfl,Below.refl _ _⟩
       |10,ho,hv=>
        cases Option.some.inj ho;cases Option.some.inj hv;have h64:A.tmps[64]?.getD undef= .pointer (some ⟨go,i*3,none⟩):=(gd A 64).trans (hhas 0 64 _ rfl (hdep ⟨0,.data⟩ (by simp) rfl));refine wpOp_step rfl (fun K hK=> ?_);go_simp;exact hK _ _ ⟨rfl,Below.refl _ _⟩
       |11,ho,hv=>
        cases Option.some.inj ho;cases Option.some.inj hv;have h74:A.tmps[74]?.getD undef= .pointer (some ⟨go,i*3,none⟩):=(gd A 74).trans (hhas 10 74 _ rfl (hdep ⟨10,.data⟩ (by simp) rfl));refine wpOp_step rfl (fun K hK=> ?_);go_simp;exact hK _ _ ⟨rfl,Below.refl _ _⟩
       |kk+12,ho,hv=>simp at hv
      ·intro o' W ho hJ;cases Option.some.inj ho;simp only[putAll_cons,putAll_nil,Act.put,List.setIfInBounds_toArray,List.set_cons_succ,List.set_cons_zero];refine wpOp_step rfl (fun K hK=> ?_);have HMX:=hidv (HM4.out.below hJ);have zq:=(HMX.out.cells hi).2.1;have yq:=(HMX.out.cells hi).2.2.2.1;have HM5:=hidv (HMX.out.setH m0 hi);have HK5:=hidv ((HK4.out.trans (Kept.of_below hJ)).trans (kept_set W go (i*3+1) (.int .i64 m0)));have HG5:=hidv ((heap_setCell_other W ⟨go,i*3+1,none⟩ gr (.int .i64 m0) hgrne).trans ((hJ.block _ (lt_of_block HG4.out)).trans HG4.out));have HRN:=hidv (HR4.out.setH m0);generalize hw5:W.setCell ⟨go,i*3+1,none⟩ (.int .i64 m0)=w5 at*;go_simp;refine hK _ _ ⟨⟨undef,rfl⟩,?_⟩;clear hK hJ zq yq hw5 zH3 y91 y92 HM4 HK4 HG4 HR4 HMX;have HKN:=HK5;have HGN:=HG5;have hup:upI Hc i m0 i=m0:=upI_at _ _ _;have HUP:=hidv hup;clear hup;have zH:=(HM5.out.cells hi).2.1;have yH:=(HM5.out.cells hi).2.2.2.1;rw[HUP.out]at zH;obtain⟨m1,hm1⟩: ∃q,max m0 (hy+1)=q:=⟨_,rfl⟩
       have HM1:=hidv hm1;have HMZ:=hidv (HM5.out.setH m1 hi);have HKZ:=hidv (HKN.out.trans (kept_set w5 go (i*3+1) (.int .i64 m1)));have HGZ:=hidv ((heap_setCell_other w5 ⟨go,i*3+1,none⟩ gr (.int .i64 m1) hgrne).trans HGN.out);have HRZ:=hidv (HRN.out.setH m1);generalize hwZ:w5.setCell ⟨go,i*3+1,none⟩ (.int .i64 m1)=wZ at*;go_wp2_with fail;go_roundw;case rel=>exact⟨j+1,upI (upI Hc i m0) i m1,upI Tc i t9,by go_num,by omega,by rw[HH1.out],HMZ.out,(upI_at _ _ _).trans (HM1.out.symm.trans HX1.out),HT1.out,HRZ.out,HKZ.out,HGZ.out⟩
       case measure=>simp[intOf];omega
    have e8:(op==8)=false:=(by simpa using hop8)
    have HH1:Hid (hAt (C.getD i []) (j+1)=hy):=by
     show _=_;rw[hAt_step HX.out,HHV.out];unfold eff;dsimp only;rw[if_neg (by omega),if_neg (by omega)];simp
    have HX1:Hid (max h (hy)=mxH (withM C mea) (C.getD i []) (j+1)):=by
     show _=_;rw[mxH_step HX.out,HH1.out,if_neg (by show¬op=8;omega),HHE.out]
    have HT1:Hid (upI T i (tt+1) i=stS (withM C mea) (C.getD i []) (j+1)):=by
     show _=_;rw[upI_at,stS_step HX.out,if_neg (by show¬op=8;omega),HTE.out];try omega
    have zH:=(HM1s.out.cells hi).2.1;have yH:=(HM1s.out.cells hi).2.2.2.1;rw[HHI.out]at zH;obtain⟨m1,hm1⟩: ∃q,max h (hy)=q:=⟨_,rfl⟩
    have HM1:=hidv hm1;have HMZ:=hidv (HM1s.out.setH m1 hi);have HKZ:=hidv (HKN.out.trans (kept_set w1 go (i*3+1) (.int .i64 m1)));have HGZ:=hidv ((heap_setCell_other w1 ⟨go,i*3+1,none⟩ gr (.int .i64 m1) hgrne).trans HGN.out);have HRZ:=hidv (HRN.out.setH m1);generalize hwZ:w1.setCell ⟨go,i*3+1,none⟩ (.int .i64 m1)=wZ at*;clear hop hop2 hop3 hop4 hop8;go_wp2_with fail;go_roundw;case rel=>exact⟨j+1,upI H i m1,upI T i (tt+1),by go_num,by omega,by rw[HH1.out],HMZ.out,(upI_at _ _ _).trans (HM1.out.symm.trans HX1.out),HT1.out,HRZ.out,HKZ.out,HGZ.out⟩
    case measure=>simp[intOf];omega
   ·have hlt': ¬(j:Int)<(ln:Int):=(by omega);obtain rfl:ln=j:=(by omega);obtain⟨mh,hmh⟩: ∃q,min h 101=q:=⟨_,rfl⟩
    obtain⟨mt,hmt⟩: ∃q,min tt 20001=q:=⟨_,rfl⟩
    have HRE:Hid (mea i=(mh,mt)):=by
     show _=_;rw[hme];unfold reck;rw[hli,HHE.out,HTE.out,hmh,hmt]
    have HTI:=hidv hTe;have HJ0:=hidv hms;have HRS:=hidv hrs;have HKP:=hidv hkp;have HG2:=hidv hgr2;clear hms hrs hkp hgr2 hhv hhh htt hHe hTe;go_wp2_with fail;refine wp_region_Z (fun L _ W=>MJc go n sv H T i h tt mh mt wr L W) (fun L hL=>MJc.start HJ0.out hi HHI.out HTI.out (hL 14 (by decide)) (hL 17 (by decide))) (by kernel_rfl) (by kernel_rfl) (by kernel_rfl) (by kernel_rfl) [(some 88,some (.pointer (some ⟨go,i*3,none⟩))),(some 89,some (.pointer (some ⟨go,i*3,none⟩))),(some 90,some (.pointer (some ⟨go,i*3,none⟩))),(some 91,some (.pointer (some ⟨go,i*3,none⟩))),(some 92,some (.pointer (some ⟨go,i*3+1,none⟩))),(some 93,some (.int .i64 h)),(some 94,some (.int .i64 mh)),(some 95,some (.pointer (some ⟨go,i*3,none⟩))),(some 96,some (.pointer (some ⟨go,i*3,none⟩))),(some 97,some (.pointer (some ⟨go,i*3+2,none⟩))),(some 98,some (.int .i64 tt)),(some 99,some (.int .i64 mt)),(some 100,some (.pointer (some ⟨go,i*3,none⟩))),(some 101,some (.pointer (some ⟨go,i*3+1,none⟩))),(none,none),(some 102,some (.pointer (some ⟨go,i*3,none⟩))),(some 103,some (.pointer (some ⟨go,i*3+2,none⟩))),(none,none)] (by kernel_rfl) (by kernel_rfl) [88,89,90,91,92,93,94,95,96,97,98,99,100,101,102,103] (by kernel_rfl) ?_ ?_
    ·intro i' d x o' L A W2 ho hd hLi hdep hc hJ hkept hhas;match i',ho,hd,hLi with
     |0,ho,hd,hLi=>
      cases Option.some.inj ho;cases Option.some.inj hd;have h5:A.tmps[5]?.getD undef= .pointer (some ⟨go,i*3,none⟩):=(gd A 5).trans (hkept 5 (by kernel_rfl));refine wpOp_step rfl (fun K hK=> ?_);go_simp;exact hK _ _ ⟨_,rfl,fun u e=>by cases Option.some.inj e;rfl,hJ.other 0 (by decide) (by decide)⟩
     |1,ho,hd,hLi=>
      cases Option.some.inj ho;cases Option.some.inj hd;have h5:A.tmps[5]?.getD undef= .pointer (some ⟨go,i*3,none⟩):=(gd A 5).trans (hkept 5 (by kernel_rfl));refine wpOp_step rfl (fun K hK=> ?_);go_simp;exact hK _ _ ⟨_,rfl,fun u e=>by cases Option.some.inj e;rfl,hJ.other 1 (by decide) (by decide)⟩
     |2,ho,hd,hLi=>
      cases Option.some.inj ho;cases Option.some.inj hd;have h5:A.tmps[5]?.getD undef= .pointer (some ⟨go,i*3,none⟩):=(gd A 5).trans (hkept 5 (by kernel_rfl));refine wpOp_step rfl (fun K hK=> ?_);go_simp;exact hK _ _ ⟨_,rfl,fun u e=>by cases Option.some.inj e;rfl,hJ.other 2 (by decide) (by decide)⟩
     |3,ho,hd,hLi=>
      cases Option.some.inj ho;cases Option.some.inj hd;have h90:A.tmps[90]?.getD undef= .pointer (some ⟨go,i*3,none⟩):=(gd A 90).trans (hhas 2 90 _ rfl (hdep ⟨2,.data⟩ (by simp) rfl));refine wpOp_step rfl (fun K hK=> ?_);go_simp;exact hK _ _ ⟨_,rfl,fun u e=>by cases Option.some.inj e;rfl,hJ.other 3 (by decide) (by decide)⟩
     |4,ho,hd,hLi=>
      cases Option.some.inj ho;cases Option.some.inj hd;have h91:A.tmps[91]?.getD undef= .pointer (some ⟨go,i*3,none⟩):=(gd A 91).trans (hhas 3 91 _ rfl (hdep ⟨3,.data⟩ (by simp) rfl));refine wpOp_step rfl (fun K hK=> ?_);go_simp;exact hK _ _ ⟨_,rfl,fun u e=>by cases Option.some.inj e;rfl,hJ.other 4 (by decide) (by decide)⟩
     |5,ho,hd,hLi=>
      cases Option.some.inj ho;cases Option.some.inj hd
      have no14:L 14=false:=by
       cases q:L 14 with
       |false=>rfl
       |true=>
        have q6:=hc 14 _ rfl q ⟨6,.data⟩ (by simp) rfl;have q5:=hc 6 _ rfl q6 ⟨5,.data⟩ (by simp) rfl;rw[hLi]at q5;cases q5
      have h92:A.tmps[92]?.getD undef= .pointer (some ⟨go,i*3+1,none⟩):=(gd A 92).trans (hhas 4 92 _ rfl (hdep ⟨4,.data⟩ (by simp) rfl));have zz:=hJ.loadH no14;refine wpOp_step rfl (fun K hK=> ?_);go_simp;exact hK _ _ ⟨_,rfl,fun u e=>by cases Option.some.inj e;rfl,hJ.other 5 (by decide) (by decide)⟩
     |6,ho,hd,hLi=>
      cases Option.some.inj ho;cases Option.some.inj hd;have h93:A.tmps[93]?.getD undef= .int .i64 h:=(gd A 93).trans (hhas 5 93 _ rfl (hdep ⟨5,.data⟩ (by simp) rfl));refine wpOp_step rfl (fun K hK=> ?_);go_simp;exact hK _ _ ⟨_,rfl,fun u e=>by cases Option.some.inj e;rfl,hJ.other 6 (by decide) (by decide)⟩
     |7,ho,hd,hLi=>
      cases Option.some.inj ho;cases Option.some.inj hd;have h5:A.tmps[5]?.getD undef= .pointer (some ⟨go,i*3,none⟩):=(gd A 5).trans (hkept 5 (by kernel_rfl));refine wpOp_step rfl (fun K hK=> ?_);go_simp;exact hK _ _ ⟨_,rfl,fun u e=>by cases Option.some.inj e;rfl,hJ.other 7 (by decide) (by decide)⟩
     |8,ho,hd,hLi=>
      cases Option.some.inj ho;cases Option.some.inj hd;have h95:A.tmps[95]?.getD undef= .pointer (some ⟨go,i*3,none⟩):=(gd A 95).trans (hhas 7 95 _ rfl (hdep ⟨7,.data⟩ (by simp) rfl));refine wpOp_step rfl (fun K hK=> ?_);go_simp;exact hK _ _ ⟨_,rfl,fun u e=>by cases Option.some.inj e;rfl,hJ.other 8 (by decide) (by decide)⟩
     |9,ho,hd,hLi=>
      cases Option.some.inj ho;cases Option.some.inj hd;have h96:A.tmps[96]?.getD undef= .pointer (some ⟨go,i*3,none⟩):=(gd A 96).trans (hhas 8 96 _ rfl (hdep ⟨8,.data⟩ (by simp) rfl));refine wpOp_step rfl (fun K hK=> ?_);go_simp;exact hK _ _ ⟨_,rfl,fun u e=>by cases Option.some.inj e;rfl,hJ.other 9 (by decide) (by decide)⟩
     |10,ho,hd,hLi=>
      cases Option.some.inj ho;cases Option.some.inj hd
      have no17:L 17=false:=by
       cases q:L 17 with
       |false=>rfl
       |true=>
        have q11:=hc 17 _ rfl q ⟨11,.data⟩ (by simp) rfl;have q10:=hc 11 _ rfl q11 ⟨10,.data⟩ (by simp) rfl;rw[hLi]at q10;cases q10
      have h97:A.tmps[97]?.getD undef= .pointer (some ⟨go,i*3+2,none⟩):=(gd A 97).trans (hhas 9 97 _ rfl (hdep ⟨9,.data⟩ (by simp) rfl));have zz:=hJ.loadT no17;refine wpOp_step rfl (fun K hK=> ?_);go_simp;exact hK _ _ ⟨_,rfl,fun u e=>by cases Option.some.inj e;rfl,hJ.other 10 (by decide) (by decide)⟩
     |11,ho,hd,hLi=>
      cases Option.some.inj ho;cases Option.some.inj hd;have h98:A.tmps[98]?.getD undef= .int .i64 tt:=(gd A 98).trans (hhas 10 98 _ rfl (hdep ⟨10,.data⟩ (by simp) rfl));refine wpOp_step rfl (fun K hK=> ?_);go_simp;exact hK _ _ ⟨_,rfl,fun u e=>by cases Option.some.inj e;rfl,hJ.other 11 (by decide) (by decide)⟩
     |12,ho,hd,hLi=>
      cases Option.some.inj ho;cases Option.some.inj hd;have h88:A.tmps[88]?.getD undef= .pointer (some ⟨go,i*3,none⟩):=(gd A 88).trans (hhas 0 88 _ rfl (hdep ⟨0,.data⟩ (by simp) rfl));refine wpOp_step rfl (fun K hK=> ?_);go_simp;exact hK _ _ ⟨_,rfl,fun u e=>by cases Option.some.inj e;rfl,hJ.other 12 (by decide) (by decide)⟩
     |13,ho,hd,hLi=>
      cases Option.some.inj ho;cases Option.some.inj hd;have h100:A.tmps[100]?.getD undef= .pointer (some ⟨go,i*3,none⟩):=(gd A 100).trans (hhas 12 100 _ rfl (hdep ⟨12,.data⟩ (by simp) rfl));refine wpOp_step rfl (fun K hK=> ?_);go_simp;exact hK _ _ ⟨_,rfl,fun u e=>by cases Option.some.inj e;rfl,hJ.other 13 (by decide) (by decide)⟩
     |14,ho,hd,hLi=>
      cases Option.some.inj ho;cases Option.some.inj hd;have h94:A.tmps[94]?.getD undef= .int .i64 mh:=(gd A 94).trans (hhas 6 94 _ rfl (hdep ⟨6,.data⟩ (by simp) rfl));have h101:A.tmps[101]?.getD undef= .pointer (some ⟨go,i*3+1,none⟩):=(gd A 101).trans (hhas 13 101 _ rfl (hdep ⟨13,.data⟩ (by simp) rfl));obtain⟨v9,zz,yy⟩:=hJ.cellH;have hj2:=hJ.storeH hLi;generalize hw9:W2.setCell ⟨go,i*3+1,none⟩ (.int .i64 mh)=w9 at*;refine wpOp_step rfl (fun K hK=> ?_);go_simp;exact hK _ _ ⟨undef,rfl,(fun u e=>by cases e),hj2⟩
     |15,ho,hd,hLi=>
      cases Option.some.inj ho;cases Option.some.inj hd;have h89:A.tmps[89]?.getD undef= .pointer (some ⟨go,i*3,none⟩):=(gd A 89).trans (hhas 1 89 _ rfl (hdep ⟨1,.data⟩ (by simp) rfl));refine wpOp_step rfl (fun K hK=> ?_);go_simp;exact hK _ _ ⟨_,rfl,fun u e=>by cases Option.some.inj e;rfl,hJ.other 15 (by decide) (by decide)⟩
     |16,ho,hd,hLi=>
      cases Option.some.inj ho;cases Option.some.inj hd;have h102:A.tmps[102]?.getD undef= .pointer (some ⟨go,i*3,none⟩):=(gd A 102).trans (hhas 15 102 _ rfl (hdep ⟨15,.data⟩ (by simp) rfl));refine wpOp_step rfl (fun K hK=> ?_);go_simp;exact hK _ _ ⟨_,rfl,fun u e=>by cases Option.some.inj e;rfl,hJ.other 16 (by decide) (by decide)⟩
     |17,ho,hd,hLi=>
      cases Option.some.inj ho;cases Option.some.inj hd;have h99:A.tmps[99]?.getD undef= .int .i64 mt:=(gd A 99).trans (hhas 11 99 _ rfl (hdep ⟨11,.data⟩ (by simp) rfl));have h103:A.tmps[103]?.getD undef= .pointer (some ⟨go,i*3+2,none⟩):=(gd A 103).trans (hhas 16 103 _ rfl (hdep ⟨16,.data⟩ (by simp) rfl));obtain⟨v9,zz,yy⟩:=hJ.cellT;have hj2:=hJ.storeT hLi;generalize hw9:W2.setCell ⟨go,i*3+2,none⟩ (.int .i64 mt)=w9 at*;refine wpOp_step rfl (fun K hK=> ?_);go_simp;exact hK _ _ ⟨undef,rfl,(fun u e=>by cases e),hj2⟩
     |kk+18,ho,hd,hLi=>simp at hd
    ·intro L A W2 hL hJ hhas hput
     have hA:A=putAll [(88,.pointer (some ⟨go,i*3,none⟩)),(89,.pointer (some ⟨go,i*3,none⟩)),(90,.pointer (some ⟨go,i*3,none⟩)),(91,.pointer (some ⟨go,i*3,none⟩)),(92,.pointer (some ⟨go,i*3+1,none⟩)),(93,.int .i64 h),(94,.int .i64 mh),(95,.pointer (some ⟨go,i*3,none⟩)),(96,.pointer (some ⟨go,i*3,none⟩)),(97,.pointer (some ⟨go,i*3+2,none⟩)),(98,.int .i64 tt),(99,.int .i64 mt),(100,.pointer (some ⟨go,i*3,none⟩)),(101,.pointer (some ⟨go,i*3+1,none⟩)),(102,.pointer (some ⟨go,i*3,none⟩)),(103,.pointer (some ⟨go,i*3+2,none⟩))] _:=hput _ (by kernel_rfl) (fun j s v hj=>match j,hj with
      |0,hj=>by cases Option.some.inj hj;exact hhas 0 88 _ rfl
      |1,hj=>by cases Option.some.inj hj;exact hhas 1 89 _ rfl
      |2,hj=>by cases Option.some.inj hj;exact hhas 2 90 _ rfl
      |3,hj=>by cases Option.some.inj hj;exact hhas 3 91 _ rfl
      |4,hj=>by cases Option.some.inj hj;exact hhas 4 92 _ rfl
      |5,hj=>by cases Option.some.inj hj;exact hhas 5 93 _ rfl
      |6,hj=>by cases Option.some.inj hj;exact hhas 6 94 _ rfl
      |7,hj=>by cases Option.some.inj hj;exact hhas 7 95 _ rfl
      |8,hj=>by cases Option.some.inj hj;exact hhas 8 96 _ rfl
      |9,hj=>by cases Option.some.inj hj;exact hhas 9 97 _ rfl
      |10,hj=>by cases Option.some.inj hj;exact hhas 10 98 _ rfl
      |11,hj=>by cases Option.some.inj hj;exact hhas 11 99 _ rfl
      |12,hj=>by cases Option.some.inj hj;exact hhas 12 100 _ rfl
      |13,hj=>by cases Option.some.inj hj;exact hhas 13 101 _ rfl
      |14,hj=>by cases Option.some.inj hj;exact hhas 15 102 _ rfl
      |15,hj=>by cases Option.some.inj hj;exact hhas 16 103 _ rfl
      |kk+16,hj=>by simp at hj)
     have hms9:=hJ.fin (hL 14 (by decide)) (hL 17 (by decide));have hk9:=hJ.kept;have hg9:=(hk9.block _ (lt_of_block HG2.out) (fun e=>hgrne (Option.some.inj e))).trans HG2.out;have y0:=(hms9.cells hi).1;have y1:=(hms9.cells hi).2.1;have y2:=(hms9.cells hi).2.2.1;rw[upI_at]at y1 y2;rw[hsv]at y0;have nR:=setRow_heap _ _ _ #[.slice (some ⟨g1,0,none⟩) ln c1,.int .i64 mh,.int .i64 mt] _ _ hg9;have hmR:=hms9.same (setRow_other W2 gr go #[.slice (some ⟨g1,0,none⟩) ln c1,.int .i64 mh,.int .i64 mt] (fun e=>hgrne e.symm))
     have HN:Hid (OutM mea ρ go n sv i H0 T0 w (.returned (.agg #[.slice (some ⟨g1,0,none⟩) ln c1,.int .i64 mh,.int .i64 mt])) (W2.setRow gr #[.slice (some ⟨g1,0,none⟩) ln c1,.int .i64 mh,.int .i64 mt])):=by
      refine⟨by rw[hsv,HRE.out],_,_,hmR,⟨by rw[HRE.out];exact upI_at _ _ _,by rw[HRE.out];exact upI_at _ _ _⟩,(HRS.out.setH mh).setT mt,?_⟩;have hk8:=HKP.out.trans hk9;exact⟨hk8.os,hk8.tape,hk8.output,Nat.le_trans hk8.size (by simp),fun q hq hne=>(setRow_other W2 gr q _ (fun e=>by have:=HGR.out;omega)).trans (hk8.block q hq hne)⟩
     have HNR:=hidv nR;clear hJ hhas hput hms9 hk9 hmR HRS HKP HJ0 nR;subst hA;simp only[putAll_cons,putAll_nil,Act.put,List.setIfInBounds_toArray,List.set_cons_succ,List.set_cons_zero];go_wp2_with(refine wpList_store_row rfl 42 _ _ rfl _ _ rfl rfl _ _ hg9 (by kernel_rfl) (by simp) (by simp[Value.oneCell']) ?_)
     refine bodyPost_ret (v:= .agg #[.slice (some ⟨g1,0,none⟩) ln c1,.int .i64 mh,.int .i64 mt]) ?_ rfl HN.out;exact results_cell_row rfl _ _ gr _ _ _ _ rfl HNR.out codeType7 rfl (by kernel_rfl)
 ·obtain⟨mh,hmh⟩: ∃q,(mea i).1=q:=⟨_,rfl⟩
  obtain⟨mt,hmt⟩: ∃q,(mea i).2=q:=⟨_,rfl⟩
  rw[zh,hmh]at x1;rw[zt,hmt]at x2;rw[hmt]at h1;have h1':0<mt:=(by omega);have nR:=setRow_heap _ _ _ #[.slice (some ⟨g1,0,none⟩) ln c1,.int .i64 mh,.int .i64 mt] _ _ nA;have hmR:=hmA.same (setRow_other wA gr go #[.slice (some ⟨g1,0,none⟩) ln c1,.int .i64 mh,.int .i64 mt] (fun e=>hgrne e.symm));have hbR:=below_setRow bA (Nat.le_of_eq hgr) #[.slice (some ⟨g1,0,none⟩) ln c1,.int .i64 mh,.int .i64 mt]
  have HN:Hid (OutM mea ρ go n sv i H0 T0 w (.returned (.agg #[.slice (some ⟨g1,0,none⟩) ln c1,.int .i64 mh,.int .i64 mt])) (wA.setRow gr #[.slice (some ⟨g1,0,none⟩) ln c1,.int .i64 mh,.int .i64 mt])):=
   ⟨by rw[hsv,hmh,hmt],H0,T0,hmR,⟨zh,zt⟩,Rest.refl hok,Kept.of_below hbR⟩
  have HNR:=hidv nR;clear hm hq hok hmA hkA bA zh zt hn nR hmR hbR h1 hmh hmt hme HQ HMW IH hS hL hV hR hsm;go_enter Tryd.func16,Tryd.ntmps16;go_wp2_with(refine wpList_store_row rfl 42 _ _ rfl _ _ rfl rfl _ _ nA (by kernel_rfl) (by simp) (by simp[Value.oneCell']) ?_)
  refine bodyPost_ret (v:= .agg #[.slice (some ⟨g1,0,none⟩) ln c1,.int .i64 mh,.int .i64 mt]) ?_ rfl HN.out;exact results_cell_row rfl _ _ gr _ _ _ _ rfl HNR.out codeType7 rfl (by kernel_rfl)
end Go.Proofs.YtpmobjgnmidolaaDoor
