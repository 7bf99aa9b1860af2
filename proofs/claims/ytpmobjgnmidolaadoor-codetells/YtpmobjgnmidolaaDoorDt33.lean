/- What the document's Compile comes to. -/
import Derived.Test.YtpmobjgnmidolaaDoorDt32
import Derived.Test.YtpmobjgnmidolaaDoorDt23
namespace Go.Proofs.YtpmobjgnmidolaaDoor
open Go.RowKit Lx Vx Msk
theorem rcomp_post {R:Ending→World→Prop}{a:Act}{w:World}(g:Nat)(v:Value)(er at_:Int)(hd:a.defers=[])(h2:a.tmps.getD 2 undef=v)(h3:a.tmps.getD 3 undef= .pointer (some ⟨g,0,none⟩))
  (hg:w.heap[g]? =some (.cells #[.int .i64 er,.int .i64 at_] 26 (0,0))) (hR:R (.returned (.tuple #[v,.agg #[.int .i64 er,.int .i64 at_]])) w):bodyPost Tryd.prog Tryd.f7 R .ret a w:=by
 refine bodyPost_ret (v:= .tuple #[v,.agg #[.int .i64 er,.int .i64 at_]]) ?_ hd hR;have h2':a.tmps[2]?.getD undef=v:=by simpa using h2
 have h3':a.tmps[3]?.getD undef= .pointer (some ⟨g,0,none⟩):=by simpa using h3
 have hv:=run_loadVar_row (P:=Tryd.prog) w g 26 26 _ _ _ hg faultType rfl (by kernel_rfl);simp[results,Tryd.results7,h2',h3',asAddr,hv]
def goodB (dn bd:Nat→Bool):Nat→Bool:=fun k=>dn k&& !bd k
theorem good_skip {dn bd:Nat→Bool}{i k:Nat}(h:goodB (updB dn i true) (updB bd i true) k=true):goodB dn bd k=true:=by
 unfold goodB updB at*;by_cases e:k=i
 ·rw[if_pos e,if_pos e]at h;cases h
 ·rw[if_neg e,if_neg e]at h;exact h
theorem good_ne {dn bd:Nat→Bool}{i k:Nat}{b:Bool}(e:k≠i)(h:goodB (updB dn i true) (updB bd i b) k=true):goodB dn bd k=true:=by
 unfold goodB updB at*;rw[if_neg e,if_neg e]at h;exact h
theorem good_at {dn bd:Nat→Bool}{i:Nat}{b:Bool}(h:goodB (updB dn i true) (updB bd i b) i=true):b=false:=by
 unfold goodB updB at h;rw[if_pos rfl,if_pos rfl]at h;simpa using h
set_option maxRecDepth 100000 in
set_option maxHeartbeats 8000000 in
theorem rcompile_any (us:List (Ru×Value))(v:Value)(w:World)(h:InR w v us):Calls Tryd.prog 7 #[v] w (OutC (us.map (fun p=>p.1)) w):=by
 obtain⟨l,hl⟩: ∃l,us.map (fun p=>p.1)=l:=⟨_,rfl⟩
 obtain⟨n,hn⟩: ∃n,us.length=n:=⟨_,rfl⟩
 have hll:l.length=n:=by rw[←hl,List.length_map,hn]
 obtain⟨pv,cv,rfl⟩:=h.form;have bA:=(Below.refl w.heap.size w).alloc (Nat.le_refl _) (.cells #[.int .i64 0,.int .i64 0] 26);have n1:=heap_alloc_new w (.cells #[.int .i64 0,.int .i64 0] 26);generalize hwA:w.alloc (.cells #[.int .i64 0,.int .i64 0] 26)=wA at*;have cW:=refW_any us _ wA (h.below bA);rw[hl,refW_same]at cW;rw[hl,hn];have HL:=hid5 hl;have HLN:=hid5 hn;have HLL:=hid5 hll;have HI0:=hid5 h;rw[hn]at cW;clear hl hll h hn;go_enter Tryd.func7,Tryd.ntmps7;go_wp2_with fail;refine cW.mono ?_;rintro r w1 ⟨rfl,hb1⟩;have m2:=(hb1.block _ (lt_of_block n1)).trans n1;have hb1w:=bA.trans (hb1.mono bA.size);clear cW n1 hb1 bA hwA;by_cases h0:(chkW l).1=0
 ·obtain⟨hw0,_⟩:=chk_lk2 h0;have h40:=(wrongR_oke hw0).1;rw[HLL.out]at h40;have H0:=hid5 h0;rw[h0];generalize (((chkW l).2:Nat):Int)=at0 at*;have bC:=(Below.refl w1.heap.size w1).alloc (Nat.le_refl _) (.cells #[.int .i64 0,.int .i64 at0] 26);have HBw:=hid5 (hb1w.trans (bC.mono hb1w.size));have HR:=hid5 ((bC.block _ (lt_of_block m2)).trans m2);have m3:=heap_alloc_new w1 (.cells #[.int .i64 0,.int .i64 at0] 26);have Hn40:=hid5 h40;have hI40:(n:Int)≤40:=(by omega);have hI0:(0:Int)≤(n:Int):=(by omega);clear bC hb1w m2 h0 h40 hw0;generalize hw2:w1.alloc (.cells #[.int .i64 0,.int .i64 at0] 26)=wB at*;have z0:=(cell_of_row _ _ 0 _ _ _ m3).trans rfl;have cR:=reach_any us _ wB (HI0.out.below HBw.out) (by have:=HLN.out;have:=Hn40.out;omega);unfold OutRc at cR;rw[HL.out,HLN.out]at cR;clear m3;go_wp2_with fail;refine cR.mono ?_;rintro r wE ⟨rs,rfl,hrc⟩;have HRC:=hid5 hrc;have HBE:=hid5 (HBw.out.trans (hrc.bel.mono HBw.out.size));have HRE:=hid5 ((hrc.bel.block _ (lt_of_block HR.out)).trans HR.out);have hBl:wB.heap.size<wE.heap.size:=lt_of_block hrc.outer;obtain⟨gr,hgr⟩: ∃q,wB.heap.size=q:=⟨_,rfl⟩
  clear cR hrc z0 hw2;have hmk:=make_codes n (by omega) wE;have k1:=heap_alloc_new wE (.cells (zcodes n) 42);have b1:=(Below.refl wE.heap.size wE).alloc (Nat.le_refl _) (.cells (zcodes n) 42);generalize hwM:wE.alloc (.cells (zcodes n) 42)=wM at*;have hmr:=run_make_row' (P:=Tryd.prog) 61 4 (.bool false) 1 boolsType boolInfo rfl .i64 .i64 n (by omega) (by omega);rw[bcells_none]at hmr;have hmd:=hmr wM;have k2:=heap_alloc_new wM (.cells (bcells n fun _=>false) 4);have b2:=(Below.refl wM.heap.size wM).alloc (Nat.le_refl _) (.cells (bcells n fun _=>false) 4);generalize hwD:wM.alloc (.cells (bcells n fun _=>false) 4)=wD at*;have hme:=hmr wD;have k3:=heap_alloc_new wD (.cells (bcells n fun _=>false) 4);have b3:=(Below.refl wD.heap.size wD).alloc (Nat.le_refl _) (.cells (bcells n fun _=>false) 4);generalize hwF:wD.alloc (.cells (bcells n fun _=>false) 4)=wF at*;have bDF:=b2.trans (b3.mono b2.size);have HST:=hid5 (CSt.begin (l:=l) (b1.trans (bDF.mono b1.size)) (Nat.le_refl _) ((bDF.block _ (lt_of_block k1)).trans k1) b1.size ((b3.block _ (lt_of_block k2)).trans k2) (Nat.le_trans b1.size b2.size) k3 (by have:=lt_of_block k2;omega));clear k1 b1 k2 b2 k3 b3 bDF hmr;obtain⟨gq,hgq⟩: ∃q,wE.heap.size=q:=⟨_,rfl⟩
  obtain⟨gd,hgd⟩: ∃q,wM.heap.size=q:=⟨_,rfl⟩
  obtain⟨gb,hgb⟩: ∃q,wD.heap.size=q:=⟨_,rfl⟩
  rw[hgq,hgd,hgb]at HST;rw[hgq]at hmk;rw[hgd]at hmd;rw[hgb]at hme;have HGR:=hid5 hgr;have HGQ:=hid5 hgq;rw[hgr];clear hgr hgq hgd hgb;go_wp2_with fail;clear hmk hmd hme hwM hwD hwF;go_loopw [9,10,11,12,13,34,38,48] (fun _ _ _ _ _ t _ _ wr=> ∃j:Nat,t= .int .i64 (j:Int)∧j≤n∧ ∃dn bd,CSt l wE n gq gd gb dn bd (goodB dn bd) wr∧CInv l j 0 dn bd) (fun _ _ _ _ _ t _ _ _=>n-(intOf t).toNat);case atStart=>exact⟨0,rfl,by omega,_,_,HST.out,CInv.begin l⟩
  case round=>
   clear HST;obtain⟨t,rfl,ht,dn,bd,hs,hi⟩:=hrel;have ht0:(0:Int)≤(t:Int):=(by omega);by_cases hlt:t<n
   ·have hlt':(t:Int)<(n:Int):=(by omega);have HS:=hid5 hs;have HI:=hid5 hi;clear hs hi;go_wp2_with fail;go_loopw [9,10,11,12,13,38,48] (fun _ _ _ _ _ q _ wr=> ∃j:Nat,q= .int .i64 (j:Int)∧j≤n∧ ∃dn bd,CSt l wE n gq gd gb dn bd (goodB dn bd) wr∧CInv l t j dn bd) (fun _ _ _ _ _ q _ _=>n-(intOf q).toNat);case atStart=>exact⟨0,rfl,by omega,dn,bd,HS.out,HI.out⟩
    case round=>
     clear HS HI;obtain⟨i,rfl,hi',dn,bd,hs,hv⟩:=hrel;have hi0:(0:Int)≤(i:Int):=(by omega);by_cases hil:i<n
     ·have hil':(i:Int)<(n:Int):=(by omega);have hrW:=HRC.out.below hs.bel;have x0:=hrW.out hil;rw[HGR.out]at x0;have xj:=fun(j:Nat) (hj:j<n)=>hrW.cell hil hj;have yj:=fun(j:Nat) (hj:j<n)=>(cell_of_row _ _ j _ _ _ hs.done).trans (bcells_at hj);have vj:=fun(j:Nat) (hj:j<n)=>(cell_of_row _ _ j _ _ _ hs.bads).trans (bcells_at hj);have ydi:=yj i hil;have XJ:=hid5 xj;have YJ:=hid5 yj;have VJ:=hid5 vj;have HS:=hid5 hs;have HV:=hid5 hv;obtain⟨R,hR⟩: ∃R,Lx.wars (edgE l) n=R:=⟨_,rfl⟩
      rw[hR]at XJ;have HRR:=hid5 hR;have HR0:Hid ((!dn i)=rdyE R dn i 0):=(by show _=_;simp[rdyE]);have HM0:Hid (false=mchE R bd i 0):=(by show _=_;simp[mchE]);clear hrW xj yj vj hs hv hR;go_wp2_with fail;go_loop [10,11,12,48] (fun r m _ q=> ∃j:Nat,q= .int .i64 (j:Int)∧j≤n∧r= .bool (rdyE R dn i j)∧m= .bool (mchE R bd i j)) (fun _ _ _ q=>n-(intOf q).toNat);case atStart=>exact⟨0,rfl,by omega,by rw[←HR0.out],by rw[←HM0.out]⟩
      case round=>
       clear HR0 HM0 ydi;obtain⟨j,rfl,hj,rfl,rfl⟩:=hrel;have hj0:(0:Int)≤(j:Int):=(by omega);by_cases hjl:j<n
       ·have hjl':(j:Int)<(n:Int):=(by omega);have xx:=XJ.out j hjl;have yy:=YJ.out j hjl;have vv:=VJ.out j hjl;have HA:=hid5 (rdy_next R dn i j);have HB:=hid5 (mch_next R bd i j);generalize rdyE R dn i j=rd at*;generalize mchE R bd i j=mc at*;generalize R i j=Rb at*;generalize dn j=db at*;generalize bd j=bb at*
        cases rd<;>cases Rb<;>cases mc<;>
         (go_wp2_with fail
          go_round
          case rel=>exact⟨j+1,by go_num,by omega,by rw[HA.out];rfl,by rw[HB.out];rfl⟩
          case measure=>simp[intOf];omega)
       ·have hjl': ¬(j:Int)<(n:Int):=(by omega);obtain rfl:n=j:=(by omega);have hnl:l.length=n:=HLL.out;have ha:=HS.out;have hb:=HV.out;rw[←HRR.out];cases hrd:rdyE (Lx.wars (edgE l) n) dn i n with
        |false=>
         have HN:Hid (∃dn bd,CSt l wE n gq gd gb dn bd (goodB dn bd) wr∧CInv l t (i+1) dn bd):=⟨dn,bd,ha,hb.skip H0.out (by omega) (by rw[hnl];exact hrd)⟩
         clear ha hb hrd hnl x0;go_wp2_with fail;go_roundw;case rel=>exact⟨i+1,by go_num,by omega,HN.out⟩
         case measure=>simp[intOf];omega
        |true=>
         have hdi:=rdy_not hrd;have yi:=YJ.out i hil;have yf:=frozen_of_row _ _ i _ _ ha.done;have hc:=ha.markD i true;generalize hwG:wr.setCell ⟨gd,i,none⟩ (.bool true)=wG at*;cases hmc:mchE (Lx.wars (edgE l) n) bd i n with
         |true=>
          have hmu:=hb.much H0.out (by omega) (by rw[hnl];exact hrd) (by rw[hnl];exact hmc);have vi:=(cell_of_row _ _ i _ _ _ hc.bads).trans (bcells_at hil);have vf:=frozen_of_row _ _ i _ _ hc.bads;have hd:=(hc.markB i true).weak (G':=goodB (updB dn i true) (updB bd i true)) fun k _ h=>good_skip h;have HN:Hid (∃dn bd,CSt l wE n gq gd gb dn bd (goodB dn bd) (wG.setCell ⟨gb,i,none⟩ (.bool true))∧CInv l t (i+1) dn bd):=⟨_,_,hd,hb.put hdi hmu.symm⟩
          clear ha hb hc hd hrd hmc hnl x0 hmu hdi;go_wp2_with fail;go_roundw;case rel=>exact⟨i+1,by go_num,by omega,HN.out⟩
          case measure=>simp[intOf];omega
         |false=>
          obtain⟨⟨u,sk⟩,hik⟩: ∃p,us[i]? =some p:=⟨us[i]'(by have:=HLN.out;omega),List.getElem?_eq_getElem _⟩
          have hul:l[i]? =some u:=(by rw[←HL.out,List.getElem?_map,hik];rfl);have hbG:=HBE.out.trans (hc.bel.mono HBE.out.size);have hin:=HI0.out.below hbG;have hin2:=hin;rw[HLN.out]at hin;obtain⟨g,o,hpe,c0,c1,c2,c3,c4,c5⟩:=InR.cells (by rw[HLN.out];exact hin) i _ hik;obtain⟨_,_,dd,hkk⟩:=hin.all _ (List.mem_of_getElem? hik);dsimp only at c0 c1 c2 c3 c4 c5 hkk;obtain⟨ps,cs,rfl⟩:=hkk.form;subst hpe;have hrt:=(chk_rt H0.out).2 u (List.mem_of_getElem? hul)
          have hnm: ∀x∈nms u.2,0≤atP5 l x∧(atP5 l x).toNat<n∧goodB dn bd (atP5 l x).toNat=true:=fun x hx=>by
           obtain⟨q1,q2⟩:=names_in H0.out hul hx;exact⟨q1,by omega,rdy_names H0.out hul (by rw[hnl];exact hrd) (by rw[hnl];exact hmc) hx⟩
          have cM:=mk_any (us:=us) (l:=l) (cs:=cmpL l) (G:=goodB dn bd) (gq:=gq) (n:=n) (nl:=n) (cl:=cv) HL.out (by omega) (cmpM_small l) dd u.2 _ wG (hc.mkIn hnl hin) hkk hrt.ok hnm hrt.nod;unfold exV OutMk at cM;have hhs:=cmpM_hs H0.out hul;have hcl:=(part_bd (num:=atP5 l) (cmpM_small l) hrt.ok hrt.nod)
          have hcd:=codeL_at hul;obtain⟨hh,ehh⟩: ∃q,(hsE (cmpL l) (atP5 l) u.2).1=q:=⟨_,rfl⟩
          obtain⟨ss,ess⟩: ∃q,(hsE (cmpL l) (atP5 l) u.2).2=q:=⟨_,rfl⟩
          unfold cmpL at ehh ess;unfold cmpL at cM hhs;rw[ehh,ess]at cM hhs;obtain⟨b,hb0⟩: ∃q,much (cmpM l i)=q:=⟨_,rfl⟩
          have HMB:Hid (b=false→hh=(cmpM l i).1∧ss=(cmpM l i).2):=fun e=>by
           rw[e,hhs]at hb0;rw[hhs];unfold much at hb0;rw[Bool.or_eq_false_iff,decide_eq_false_iff_not,decide_eq_false_iff_not]at hb0;dsimp only at hb0⊢;omega
          have key:(100<hh∧b=true)∨(¬100<hh∧20000<ss∧b=true)∨(¬100<hh∧ ¬20000<ss∧b=false):=by
           rw[←hb0,hhs];unfold much;dsimp only;by_cases q1:100<hh
           ·exact .inl ⟨q1,by rw[decide_eq_true (show 100<min hh 101 by omega)];rfl⟩
           ·by_cases q2:20000<ss
            ·exact .inr (.inl ⟨q1,q2,by rw[decide_eq_true (show 20000<min ss 20001 by omega),Bool.or_true]⟩)
            ·exact .inr (.inr ⟨q1,q2,by rw[decide_eq_false (show¬100<min hh 101 by omega),decide_eq_false (show¬20000<min ss 20001 by omega)];rfl⟩)
          have HV2:=hid5 (hb.put hdi hb0.symm);have HC:=hid5 hc;have HCD:=hid5 hcd;have HCL:=hid5 hcl.2.1;have hbh:0≤hh∧hh≤1000000∧0≤ss∧ss≤1000000000:=(by rw[←ehh,←ess];exact hcl.1);have HNL:=hid5 hnl;clear hnm hrt hkk hin hin2 hbG hik hul hmc hrd hnl ha hb hc hhs hcl hcd ehh ess hb0 hdi x0;go_wp2_with fail;refine cM.mono ?_;rintro r w5 ⟨slv,xs,rfl,hT5,hx5,hb5⟩;have hlx:xs.length=(codeE (atP5 l) u.2 0).length:=(by rw[←hx5,List.length_map]);have hx1:xs.length≤600:=(by have:=HCL.out;omega);have hx2:(xs.length:Int)≤600:=(by omega);obtain⟨pS,cS,hsv⟩:=row_formZ hT5.q;subst hsv;have HC5:=hid5 (HC.out.later hb5);have HX5:=hid5 hx5;clear cM hlx hx5 c0 c1 c2 c3 c4 c5 HCL HC;have bZ:=(Below.refl w5.heap.size w5).alloc (Nat.le_refl _) (.cells #[.slice none 0 0,.int .i64 0,.int .i64 0] 62);have nZ:=heap_alloc_new w5 (.cells #[.slice none 0 0,.int .i64 0,.int .i64 0] 62);generalize hwZ:w5.alloc (.cells #[.slice none 0 0,.int .i64 0,.int .i64 0] 62)=wZ at*;have bP:=below_setRow bZ (Nat.le_refl _) #[.slice pS xs.length cS,.int .i64 hh,.int .i64 ss];have nP:=setRow_heap _ _ _ #[.slice pS xs.length cS,.int .i64 hh,.int .i64 ss] _ _ nZ;generalize hwP:wZ.setRow w5.heap.size #[.slice pS xs.length cS,.int .i64 hh,.int .i64 ss]=wP at*;have hsP:=HC5.out.later bP;have hTP:=hT5.below bP;have e0:=(cell_of_row _ _ 0 _ _ _ nP).trans rfl;have e1:=(cell_of_row _ _ 1 _ _ _ nP).trans rfl;have e2:=(cell_of_row _ _ 2 _ _ _ nP).trans rfl;have vi:=(cell_of_row _ _ i _ _ _ hsP.bads).trans (bcells_at hil);have vf:=frozen_of_row _ _ i _ _ hsP.bads;have hs7:=hsP.markB i b
          have nbp:gb≠w5.heap.size:=by
           have:=lt_of_block HC5.out.bads;omega
          have hT7:InsT (wP.setCell ⟨gb,i,none⟩ (.bool b)) (.slice pS xs.length cS) xs:=by
           have hk:=kept_set wP gb i (.bool b);have h1:Laid l wP (fun _=> .slice pS xs.length cS) (fun _=>xs) i:=⟨hTP.q,by rw[HCD.out];exact HX5.out,hTP.sp⟩
           have h2:=h1.bools hsP.bads hk;exact⟨h2.1,h2.2.2⟩
          have nP7:=(heap_setCell_other wP ⟨gb,i,none⟩ w5.heap.size (.bool b) (fun e=>nbp e.symm)).trans nP;generalize hw7:wP.setCell ⟨gb,i,none⟩ (.bool b)=w7 at*;have f0:=(cell_of_row _ _ 0 _ _ _ nP7).trans rfl;have f1:=(cell_of_row _ _ 1 _ _ _ nP7).trans rfl;have f2:=(cell_of_row _ _ 2 _ _ _ nP7).trans rfl;have HTH:=hid5 (hs7.there hil)
          have HN:Hid (∃dn bd,CSt l wE n gq gd gb dn bd (goodB dn bd) (w7.setCells gq (i*3) [.slice pS xs.length cS,.int .i64 hh,.int .i64 ss])∧CInv l t (i+1) dn bd):=
           ⟨_,_,hs7.put hil hT7 (by rw[HCD.out];exact HX5.out) (fun k e h=>good_ne e h) (fun h=>HMB.out (good_at h)),HV2.out⟩
          clear hsP hTP hs7 hT7 nP7 nP bP bZ hT5 hb5 HC5 nbp;have hx3: ¬2000<(xs.length:Int):=(by omega);have HQ:Hid (¬(100:Int)<hh→ ¬(20000:Int)<ss→(decide (100<hh)||decide (20000<ss)||decide (2000<(xs.length:Int)))=false):=fun q1 q2=>(by rw[decide_eq_false q1,decide_eq_false q2,decide_eq_false hx3];rfl);rcases key with⟨q1,rfl⟩|⟨q1,q2,rfl⟩|⟨q1,q2,rfl⟩
          ·go_wp2_with(first|(refine wpList_store_row rfl 62 _ _ rfl _ _ rfl rfl _ _ nZ (by kernel_rfl) (by simp) (by simp[Value.oneCell']) ?_;rw[hwP];clear nZ hwZ hwP)|(refine wpList_store_mid rfl 42 _ _ rfl gq (i*3) #[.slice pS xs.length cS,.int .i64 hh,.int .i64 ss] rfl rfl ?th (by kernel_rfl) (by simp[Value.oneCell']) ?_;(case th=>exact HTH.out)))
           go_roundw;case rel=>exact⟨i+1,by go_num,by omega,HN.out⟩
           case measure=>simp[intOf];omega
          ·go_wp2_with(first|(refine wpList_store_row rfl 62 _ _ rfl _ _ rfl rfl _ _ nZ (by kernel_rfl) (by simp) (by simp[Value.oneCell']) ?_;rw[hwP];clear nZ hwZ hwP)|(refine wpList_store_mid rfl 42 _ _ rfl gq (i*3) #[.slice pS xs.length cS,.int .i64 hh,.int .i64 ss] rfl rfl ?th (by kernel_rfl) (by simp[Value.oneCell']) ?_;(case th=>exact HTH.out)))
           go_roundw;case rel=>exact⟨i+1,by go_num,by omega,HN.out⟩
           case measure=>simp[intOf];omega
          ·have hbv:=HQ.out (by omega) (by omega);go_wp2_with(first|(refine wpList_store_row rfl 62 _ _ rfl _ _ rfl rfl _ _ nZ (by kernel_rfl) (by simp) (by simp[Value.oneCell']) ?_;rw[hwP];clear nZ hwZ hwP)|(refine wpList_store_mid rfl 42 _ _ rfl gq (i*3) #[.slice pS xs.length cS,.int .i64 hh,.int .i64 ss] rfl rfl ?th (by kernel_rfl) (by simp[Value.oneCell']) ?_;(case th=>exact HTH.out)))
           go_roundw;case rel=>exact⟨i+1,by go_num,by omega,HN.out⟩
           case measure=>simp[intOf];omega
     ·have ej:i=n:=(by omega);have hil': ¬(i:Int)<(n:Int):=(by omega);subst ej;have HN:Hid (∃dn bd,CSt l wE i gq gd gb dn bd (goodB dn bd) wr∧CInv l (t+1) 0 dn bd):=⟨dn,bd,hs,hv.round HLL.out⟩
      clear hs hv;go_wp2_with fail;go_roundw;case rel=>exact⟨t+1,by go_num,by omega,HN.out⟩
      case measure=>simp[intOf];omega
   ·have ej:t=n:=(by omega);have hlt': ¬(t:Int)<(n:Int):=(by omega);subst ej;have hnl:l.length=t:=HLL.out;have hdn: ∀k,k<t→dn k=true:=fun k hk=>hi.past k (by omega) (by have:=muR_ltn H0.out (i:=k) (by omega);omega);have HBD:Hid (∀k,k<t→bd k=much (cmpM l k)):=fun k hk=>hi.bad k (by omega) (hdn k hk);have HDN:=hid5 hdn;have HS:=hid5 hs;have hbR:=HBE.out.trans (hs.bel.mono HBE.out.size);have n9:=(hs.bel.block _ (lt_of_block HRE.out)).trans HRE.out;have vj:=fun(j:Nat) (hj:j<t)=>(cell_of_row _ _ j _ _ _ hs.bads).trans (bcells_at hj);have VJ:=hid5 vj;have HBR:=hid5 hbR;have HNL:=hid5 hnl;clear hnl hdn hbR vj hs hi;go_wp2_with fail;go_loop [14,133] (fun _ q=> ∃j:Nat,q= .int .i64 (j:Int)∧j≤t∧ ∀k,k<j→bd k=false) (fun _ q=>t-(intOf q).toNat);case atStart=>exact⟨0,rfl,by omega,fun k hk=>by omega⟩
    case round=>
     obtain⟨j,rfl,hj,hno⟩:=hrel;have HNO:=hid5 hno;clear hno;have hj0:(0:Int)≤(j:Int):=(by omega);by_cases hjl:j<t
     ·have hjl':(j:Int)<(t:Int):=(by omega);have vv:=VJ.out j hjl;cases hbj:bd j with
      |false=>
       rw[hbj]at vv
       have HN2:Hid (∀k,k<j+1→bd k=false):=fun k hk=>by
        by_cases e:k=j
        ·subst e;exact hbj
        ·exact HNO.out k (by omega)
       clear hbj n9;go_wp2_with fail;go_round;case rel=>exact⟨j+1,by go_num,by omega,HN2.out⟩
       case measure=>simp[intOf];omega
      |true=>
       rw[hbj]at vv
       have HCF:Hid (cflt l=(4,(j:Int))):=by
        show _=_;have hf:=cfst_some (m:=cmpM l) t 0 j (by omega) (by omega) (fun q _ hq=>by rw[←HBD.out q (by omega)];exact HNO.out q hq) (by rw[←HBD.out j hjl];exact hbj);unfold cflt;rw[if_neg (by simpa using H0.out),HLL.out,hf,if_pos hj0]
       have HO:Hid (OutC l w (.returned (.tuple #[.slice none 0 0,.agg #[.int .i64 4,.int .i64 (j:Int)]])) (wr.setRow w.heap.size #[.int .i64 4,.int .i64 (j:Int)])):=by
        refine⟨_,by rw[HCF.out],fun e=> ?_,fun _=>rfl,below_setRow HBR.out (Nat.le_refl _) _⟩;rw[HCF.out]at e;exact absurd e (by show¬(4:Int)=0;omega)
       have HNN:=hid5 (setRow_heap _ _ _ #[.int .i64 4,.int .i64 (j:Int)] _ _ n9);clear hbj;go_wp2_with(refine wpList_store_row rfl 26 _ _ rfl _ _ rfl rfl _ _ n9 (by kernel_rfl) (by simp) (by simp[Value.oneCell']) ?_)
       exact rcomp_post w.heap.size _ 4 j rfl rfl rfl HNN.out HO.out
     ·have hjl': ¬(j:Int)<(t:Int):=(by omega);obtain rfl:t=j:=(by omega)
      have HCF:Hid (cflt l=(0,0)):=by
       show _=_;have hf:=cfst_none (m:=cmpM l) t 0 (fun q _ hq=>by rw[←HBD.out q (by omega)];exact HNO.out q (by omega));unfold cflt;rw[if_neg (by simpa using H0.out),HLL.out,hf,if_neg (by omega)]
      have HO:Hid (OutC l w (.returned (.tuple #[.slice (some ⟨gq,0,none⟩) t t,.agg #[.int .i64 0,.int .i64 0]])) (wr.setRow w.heap.size #[.int .i64 0,.int .i64 0])):=by
       refine⟨_,by rw[HCF.out],fun _=> ?_,fun e=> ?_,below_setRow HBR.out (Nat.le_refl _) _⟩
       ·exact HS.out.fin HNL.out Hn40.out H0.out (fun k hk=>by unfold goodB;rw[HDN.out k hk,HNO.out k hk];rfl) n9 _
       ·rw[HCF.out]at e;exact absurd rfl e
      have HNN:=hid5 (setRow_heap _ _ _ #[.int .i64 0,.int .i64 0] _ _ n9);go_wp2_with(refine wpList_store_row rfl 26 _ _ rfl _ _ rfl rfl _ _ n9 (by kernel_rfl) (by simp) (by simp[Value.oneCell']) ?_)
      exact rcomp_post w.heap.size _ 0 0 rfl rfl rfl HNN.out HO.out
 ·have H0:=hid5 h0
  have HF:Hid (cflt l=((chkW l).1,((chkW l).2:Int))):=by
   show _=_;unfold cflt;rw[if_pos h0]
  have hne:((chkW l).1 !=0)=true:=(by simpa using h0);have bC:=(Below.refl w1.heap.size w1).alloc (Nat.le_refl _) (.cells #[.int .i64 (chkW l).1,.int .i64 ((chkW l).2:Int)] 26);have HBw:=hid5 (hb1w.trans (bC.mono hb1w.size));have n9:=(bC.block _ (lt_of_block m2)).trans m2;have m3:=heap_alloc_new w1 (.cells #[.int .i64 (chkW l).1,.int .i64 ((chkW l).2:Int)] 26);clear bC hb1w m2 h0;generalize hw2:w1.alloc (.cells #[.int .i64 (chkW l).1,.int .i64 ((chkW l).2:Int)] 26)=wB at*
  have HO:Hid (∀W,Below w.heap.size w W→OutC l w (.returned (.tuple #[.slice none 0 0,.agg #[.int .i64 (chkW l).1,.int .i64 ((chkW l).2:Int)]])) W):=fun W hW=>by
   refine⟨_,by rw[HF.out],fun e=> ?_,fun _=>rfl,hW⟩;rw[HF.out]at e;exact absurd e H0.out
  have z0:=(cell_of_row _ _ 0 _ _ _ m3).trans rfl;have z1:=(cell_of_row _ _ 1 _ _ _ m3).trans rfl;have y0:=(cell_of_row _ _ 0 _ _ _ n9).trans rfl;have y1:=(cell_of_row _ _ 1 _ _ _ n9).trans rfl;have x0:=frozen_of_row _ _ 0 _ _ n9;have x1:=frozen_of_row _ _ 1 _ _ n9;have hmm:=heap_setCell_same _ _ 1 _ _ (.int .i64 ((chkW l).2:Int)) (heap_setCell_same _ _ 0 _ _ (.int .i64 (chkW l).1) n9);have HBB:=hid5 ((HBw.out.setCell (p:=⟨w.heap.size,0,none⟩) (Nat.le_refl _) (.int .i64 (chkW l).1)).setCell (p:=⟨w.heap.size,1,none⟩) (Nat.le_refl _) (.int .i64 ((chkW l).2:Int)));have HMM:=hid5 hmm;clear hmm n9 m3;clear HF H0;generalize (chkW l).1=er at*;generalize (((chkW l).2:Nat):Int)=at0 at*;go_wp2_with fail;go_region;go_wp2_with fail;exact rcomp_post w.heap.size _ er at0 rfl rfl rfl HMM.out (HO.out _ (below_drewN HBB.out 1))
end Go.Proofs.YtpmobjgnmidolaaDoor
