/- Texts of the proof. -/
import Derived.Test.YtjkilacmkbmmbaaGreatDoorPe25
set_option maxRecDepth 100000
set_option maxHeartbeats 8000000
namespace Go.Proofs.YtjkilacmkbmmbaaGreatDoor
open Go.Proofs.Tryz Go.RowKit Lx Vx Mx Msk
theorem lF {l:List Ru}{ks:List Ex}{j b:Nat}(h: ∀k∈ks,OKE k):(kI l ks j b).length<=((ks.take j).map iN).sum:=by
 unfold kI;have h': ∀k∈ks.take j,OKE k:=fun k hk=>h k (List.mem_of_mem_take hk);generalize ks.take j=ks' at*;clear h;induction ks' generalizing b with
 |nil=>simp[jU]
 |cons k ks ih=>
  have h1:=(lE (atP5 l) _ k (aA _) (h' k bc) b).2;have h2:=ih (b:=b+(bN (atP5 l) k b).length) fun k' hk'=>h' k' (bn _ hk');simp only[dl,jU,aL,iL];omega
theorem sD {ks:List Ex}{j:Nat}{k:Ex}(h:ks[j]? =some k):((ks.take j).map iN).sum+iN k<=(ks.map iN).sum:=by
 have h1:ks=ks.take j++(k::ks.drop (j+1)):=by
  conv=>lhs;rw[<-gy j ks]
  congr 1;have hj:=(aE.1 h).1;rw[bx hj,(aE.1 h).2]
 conv=>rhs;rw[h1]
 rw[dh,List.sum_append,dl,iL];omega
theorem MM {w w':World}(h:Tab w)(hb:ao w w'):Tab w':=kh h hb
theorem Ah (w0:World)(gm mb d:Nat)(l:List Ru)(e:Ex)(p:Option Addr)(c:Nat)(S:List (In×Value))(W0:World)(h:WOk w0 gm (.map (some mb)) S W0)(hmp:iT w0 mb l)(hT:Tab w0)(hr:Rt e)(hn:e.name.length<=9223372036854775807)(hkb:fD (fun k=>k<w0.heap.size) d w0 (.slice p e.kids.length c) e.kids)(hk:e.kids=[]\/Li w0 gm (.map (some mb)) l (.slice p e.kids.length c) e.kids)(hnm: ∀x∈nms e,0<=atP5 l x)(hS:S.length+iN e<=700):
  Calls prog 154 #[ab gm 0,.agg #[ag e.kind,ag e.a,ag e.b,.string ⟨e.name.toArray⟩,.slice p e.kids.length c]] W0 (mX w0 gm (.map (some mb)) S (bN (atP5 l) e S.length) W0):=by
 have HKB:=aY hkb;have bA:=am W0 (.cells #[ag e.kind,ag e.a,ag e.b,.string ⟨e.name.toArray⟩,.slice p e.kids.length c] 52);have nA:=aC W0 (.cells #[ag e.kind,ag e.a,ag e.b,.string ⟨e.name.toArray⟩,.slice p e.kids.length c] 52);have hA:=h.below bA;have hfA:=Fr2.below h.lt bA;obtain⟨gE,hgE⟩:=aq W0.heap.size;generalize hwA:W0.alloc (.cells #[ag e.kind,ag e.a,ag e.b,.string ⟨e.name.toArray⟩,.slice p e.kids.length c] 52)=wA at*;rw[hgE]at nA;have hkA:fD (fun k=>k<w0.heap.size) d wA (.slice p e.kids.length c) e.kids:=HKB.o.kept fun g hg _=>hA.st.bel.block g hg;have cS:=Fl d e _ wA hkA;unfold exV uI at cS;have HA:=aY hA;have HFA:=aY hfA;have HMP:=aY hmp;have HT:=aY hT;clear bA hA hfA hkA h hkb hmp hT;go_enter func154,ntmps154;go_wp2_with(refine aR rfl 52 _ rfl _ rfl _ _ _ _ nA eD rfl (by kernel_rfl) ?_)
 refine cS.mono ?_;rintro r w1 ⟨rfl,b1⟩;have HOK1:=aY (HA.o.below b1);have HF1:=aY (HFA.o.trans (Fr2.below HA.o.lt b1));have nA1:=ai b1 nA;clear cS nA hwA HA HFA b1;cases hstd:stdE e with
 |true=>
  have hb1:=HOK1.o.st.bel;have cM:=C8 d e (.slice p e.kids.length c) w1 hr hstd hn ((HKB.o.kept fun g hg _=>hb1.block g hg).mono fun g hg=>aO hg hb1.size);unfold exV at cM;have HCD:=aY (oe (num:=atP5 l) hstd S.length);have HT1:=aY (MM HT.o hb1);clear hb1 hk hr hn hnm hstd;go_wp2_with(refine aR rfl 52 _ rfl _ rfl _ _ _ _ nA1 eD rfl (by kernel_rfl) ?_)
  refine cM.mono ?_;rintro r w2 ⟨rfl,b2⟩;have cP:=zO (mnE e) w2 (kh HT1.o b2);have HOK2:=aY (HOK1.o.below b2);have HF2:=aY (HF1.o.trans (Fr2.below HOK1.o.lt b2));clear cM nA1 b2;go_wp2_with fail;refine cP.mono ?_;rintro r w3 ⟨⟨v3,rfl,own3⟩,_,b3⟩;have hsp:=gU.of_own own3;have hok3:=HOK2.o.below b3;have HF3:=aY (HF2.o.trans (Fr2.below HOK2.o.lt b3));have cW:=uJ hok3 ⟨1,0,0,0,rs (mnE e) 1440⟩ v3 hsp (by omega);dsimp only at cW;obtain⟨p3,n3,c3,hv3⟩:=hsp.form;subst hv3;clear cP own3 hsp hok3 b3;go_wp2_with fail;refine cW.mono ?_;rintro r w9 ⟨rfl,hok9,hfr9⟩;have HN:P3 (mX w0 gm (.map (some mb)) S (bN (atP5 l) e S.length) W0 (.returned (.tuple #[])) w9):=⟨rfl,_,by rw[HCD.o];rfl,hok9,HF3.o.trans hfr9⟩
  clear cW hok9 hfr9;go_wp2_with fail;exact⟨rfl,_,dY rfl _ _ _,HN.o⟩
 |false=>
  have z0:=ak 0 nA1;have z1:=ak 1 nA1;have z2:=ak 2 nA1;have z3:=ak 3 nA1;have z4:=ak 4 nA1;clear nA1 hn;rcases mV hr.ok hstd with⟨hkd,hkx⟩|⟨hkd,hkx⟩|⟨hkd,hkx⟩|hkd|⟨hkd,hkx⟩
  ·have e4:(e.kind==4)=true:=(by simp[hkd]);obtain⟨k,hk1⟩:=hkx;obtain⟨g,o,c',hsl,hg0,hkl,hkid⟩:=hk.resolve_left (by rw[hk1];simp);injection hsl with e1 e2 e3;subst e1 e3;have hk0:e.kids[0]? =some k:=(by rw[hk1];rfl);obtain⟨pk,qk,d0,d1,d2,d3,d4,ihk⟩:=hkid 0 k hk0;simp only[Nat.zero_mul,Nat.add_zero]at d0 d1 d2 d3 d4;have hb1:=HOK1.o.st.bel;have f0:=aj hb1 d0;have f1:=aj hb1 d1;have f2:=aj hb1 d2;have f3:=aj hb1 d3;have f4:=aj hb1 d4;have hl1:(e.kids.length:Int)=1:=(by rw[hk1];rfl);have hkm:k∈e.kids:=(by rw[hk1];simp)
   have hnk:S.length+1+iN k<=700:=by
    have:=lS e;rw[hk1]at this;simp only[dl,eO,iL,List.sum_nil]at this;omega
   have hln:=(lE (atP5 l) _ k (aA _) (hr.ok.kid hkm) (S.length+1)).2;have HCD:=aY (oS (num:=atP5 l) hkd hk0 S.length);have HIH:=aY ihk;clear d0 d1 d2 d3 d4 ihk hkid hb1 hk hk1 hk0 hkm hr hstd hkl hg0;go_wp2_with fail;refine jz 8 [kn 16 (ab gm 0),kn 17 (ab gE 1),kn 18 (ag e.a),kn 19 (.agg #[ag 6,ag e.a,ag 0,ag 0,af]),kn 20 (ab gE 4),kn 21 (.slice (some (ae g o)) e.kids.length c),kn 22 (ab g o),kn 23 (.agg #[ag k.kind,ag k.a,ag k.b,.string ⟨k.name.toArray⟩,.slice pk k.kids.length qk]),td 24] (by kernel_rfl) (by kernel_rfl) fun M φ W _ hJ F l hl hF=> ?_;have y0_:=aj hJ z1;have y1_:=aj hJ z4;have y2_:=aj hJ f0;have y3_:=aj hJ f1;have y4_:=aj hJ f2;have y5_:=aj hJ f3;have y6_:=aj hJ f4;simp only[kn,td,dN,aQ,aW,Act.put,aB,aI,aH]at hl;subst hl;simp only[dg,Nat.reduceAdd]at hF;dsimp only[kn,td,dC,en,dS,Act.put];and_intros;all_goals first|exact trivial|intro hw hn hm K hK
   all_goals try (go_simp;with_reducible exact hK _ _ ⟨rfl,aG _ _⟩)
   clear y0_ y1_ y2_ y3_ y4_ y5_ y6_;have hokW:=HOK1.o.below hJ;have hgmW:=HOK1.o.lt;have cC:=vo w0 gm (.map (some mb)) l k pk qk 6 e.a 0 S W hokW HIH.o hnk (by omega);go_simp;refine cC.mono ?_;rintro r w9 ⟨rfl,S',hS',hok9,hfr9⟩;have HN:P3 (mX w0 gm (.map (some mb)) S (bN (atP5 l) e S.length) W0 (.returned (.tuple #[])) w9):=⟨rfl,S',hS'.trans HCD.o.symm,hok9,(HF1.o.trans (Fr2.below hgmW hJ)).trans hfr9⟩
   refine hK _ _ ⟨trivial,fun c=>by simp at c,fun _=> ?_⟩;simp only[dP,aQ,aW,Act.put,aB,aI,aH];clear hF hw hn hm;clear hK hJ cC hokW hS' hok9 hfr9;go_wp2_with fail;exact⟨rfl,_,dY rfl _ _ _,HN.o⟩
  ·have e4:(e.kind==4)=false:=(by simp[hkd]);have e5:(e.kind==5)=true:=(by simp[hkd]);obtain⟨k,hk1⟩:=hkx;obtain⟨g,o,c',hsl,hg0,hkl,hkid⟩:=hk.resolve_left (by rw[hk1];simp);injection hsl with e1 e2 e3;subst e1 e3;have hk0:e.kids[0]? =some k:=(by rw[hk1];rfl);obtain⟨pk,qk,d0,d1,d2,d3,d4,ihk⟩:=hkid 0 k hk0;simp only[Nat.zero_mul,Nat.add_zero]at d0 d1 d2 d3 d4;have hb1:=HOK1.o.st.bel;have f0:=aj hb1 d0;have f1:=aj hb1 d1;have f2:=aj hb1 d2;have f3:=aj hb1 d3;have f4:=aj hb1 d4;have hl1:(e.kids.length:Int)=1:=(by rw[hk1];rfl);have hkm:k∈e.kids:=(by rw[hk1];simp)
   have hnk:S.length+1+iN k<=700:=by
    have:=lS e;rw[hk1]at this;simp only[dl,eO,iL,List.sum_nil]at this;omega
   have hln:=(lE (atP5 l) _ k (aA _) (hr.ok.kid hkm) (S.length+1)).2;have HCD:=aY (mU (num:=atP5 l) hkd hk0 S.length);have HIH:=aY ihk;clear d0 d1 d2 d3 d4 ihk hkid hb1 hk hk1 hk0 hkm hr hstd hkl hg0;go_wp2_with fail;refine jz 10 [kn 27 (ab gm 0),kn 28 (ab gE 1),kn 29 (ag e.a),kn 30 (ab gE 2),kn 31 (ag e.b),kn 32 (.agg #[ag 7,ag e.a,ag e.b,ag 0,af]),kn 33 (ab gE 4),kn 34 (.slice (some (ae g o)) e.kids.length c),kn 35 (ab g o),kn 36 (.agg #[ag k.kind,ag k.a,ag k.b,.string ⟨k.name.toArray⟩,.slice pk k.kids.length qk]),td 37] (by kernel_rfl) (by kernel_rfl) fun M φ W _ hJ F l hl hF=> ?_;have y0_:=aj hJ z1;have y1_:=aj hJ z2;have y2_:=aj hJ z4;have y3_:=aj hJ f0;have y4_:=aj hJ f1;have y5_:=aj hJ f2;have y6_:=aj hJ f3;have y7_:=aj hJ f4;simp only[kn,td,dN,aQ,aW,Act.put,aB,aI,aH]at hl;subst hl;simp only[dg,Nat.reduceAdd]at hF;dsimp only[kn,td,dC,en,dS,Act.put];and_intros;all_goals first|exact trivial|intro hw hn hm K hK
   all_goals try (go_simp;with_reducible exact hK _ _ ⟨rfl,aG _ _⟩)
   clear y0_ y1_ y2_ y3_ y4_ y5_ y6_ y7_;have hokW:=HOK1.o.below hJ;have hgmW:=HOK1.o.lt;have cC:=vo w0 gm (.map (some mb)) l k pk qk 7 e.a e.b S W hokW HIH.o hnk (by omega);go_simp;refine cC.mono ?_;rintro r w9 ⟨rfl,S',hS',hok9,hfr9⟩;have HN:P3 (mX w0 gm (.map (some mb)) S (bN (atP5 l) e S.length) W0 (.returned (.tuple #[])) w9):=⟨rfl,S',hS'.trans HCD.o.symm,hok9,(HF1.o.trans (Fr2.below hgmW hJ)).trans hfr9⟩
   refine hK _ _ ⟨trivial,fun c=>by simp at c,fun _=> ?_⟩;simp only[dP,aQ,aW,Act.put,aB,aI,aH];clear hF hw hn hm;clear hK hJ cC hokW hS' hok9 hfr9;go_wp2_with fail;exact⟨rfl,_,dY rfl _ _ _,HN.o⟩
  ·have e4:(e.kind==4)=false:=(by simp[hkd]);have e5:(e.kind==5)=false:=(by simp[hkd]);have e9:(e.kind==9)=true:=(by simp[hkd]);have hke:=hk.resolve_left (by rw[hkx.choose_spec];simp);have hbk: ∀k∈e.kids,OKE k:=fun k hk=>hr.ok.kid hk;have hsn:=lS e
   have cC:=pE w0 gm (.map (some mb)) l e.kids _ 5 e.a S w1 HOK1.o hke (fun j k hj=>by
    have h1:=lF (l:=l) (ks:=e.kids) (j:=j) (b:=S.length) hbk;have h2:=sD hj;omega) (by
    have h1:=lF (l:=l) (ks:=e.kids) (j:=e.kids.length) (b:=S.length) hbk;rw[fI]at h1;omega)
   have HCD:P3 (bN (atP5 l) e S.length=jU (e.kids.map (bN (atP5 l))) S.length++[⟨5,e.a,0,0,[]⟩]):=by
    show _=_;rw[og hstd (by omega) (by omega) (by omega)];unfold opK;simp[hkd]
   clear hke hbk hsn hk hkx hr hstd;go_wp2_with fail;refine cC.mono ?_;rintro r w9 ⟨rfl,S',hS',hok9,hfr9⟩;have HN:P3 (mX w0 gm (.map (some mb)) S (bN (atP5 l) e S.length) W0 (.returned (.tuple #[])) w9):=⟨rfl,S',hS'.trans HCD.o.symm,hok9,HF1.o.trans hfr9⟩
   clear cC hS' hok9 hfr9;go_wp2_with fail;exact⟨rfl,_,dY rfl _ _ _,HN.o⟩
  ·have e4:(e.kind==4)=false:=(by simp[hkd]);have e5:(e.kind==5)=false:=(by simp[hkd]);have e9:(e.kind==9)=false:=(by simp[hkd]);have e10:(e.kind==10)=true:=(by simp[hkd])
   have zm:w1.cell? (ae gm 0)=some (.map (some mb)):=by
    obtain⟨_,_,sv,n1,_⟩:=HOK1.o.st;exact ak 0 n1
   have HNM:=aY (hnm _ (uH hkd));have HCD:=aY (oR (num:=atP5 l) hkd S.length);have hmb:=gN HMP.o;have HMP1:=aY (HMP.o.later (HOK1.o.st.bel.block _ hmb));have HMB:=aY (aO hmb HOK1.o.st.bel.size);clear hnm hk hr hstd hmb;go_wp2_with fail;refine jz 9 [kn 49 (ab gm 0),kn 50 (ab gm 0),kn 51 (ab gm 0),kn 52 (ab gm 0),kn 53 (.map (some mb)),kn 54 (ab gE 3),kn 55 (.string ⟨e.name.toArray⟩),kn 56 (ag (atP5 l e.name)),kn 57 (.agg #[ag 8,ag (atP5 l e.name),ag 0,ag 0,af]),td 58] (by kernel_rfl) (by kernel_rfl) fun M φ W _ hJ F l hl hF=> ?_;have y0_:=aj hJ zm;have y1_:=aj hJ z3;have y2_:=EM (HMP1.o.later (hJ.block _ HMB.o)) e.name HNM.o;simp only[kn,td,dN,aQ,aW,Act.put,aB,aI,aH]at hl;subst hl;simp only[dg,Nat.reduceAdd]at hF;dsimp only[kn,td,dC,en,dS,Act.put];and_intros;all_goals first|exact trivial|intro hw hn hm K hK
   all_goals try (go_simp;with_reducible exact hK _ _ ⟨rfl,aG _ _⟩)
   clear y0_ y1_ y2_;have hokW:=HOK1.o.below hJ;have hgmW:=HOK1.o.lt;have cC:=uJ hokW ⟨8,atP5 l e.name,0,0,[]⟩ (af) (gU.nil _ _ _) (by omega);dsimp only at cC;go_simp;refine cC.mono ?_;rintro r w9 ⟨rfl,hok9,hfr9⟩;have HN:P3 (mX w0 gm (.map (some mb)) S (bN (atP5 l) e S.length) W0 (.returned (.tuple #[])) w9):=⟨rfl,_,by rw[HCD.o];rfl,hok9,(HF1.o.trans (Fr2.below hgmW hJ)).trans hfr9⟩
   refine hK _ _ ⟨trivial,fun c=>by simp at c,fun _=> ?_⟩;simp only[dP,aQ,aW,Act.put,aB,aI,aH];clear hF hw hn hm;clear hK hJ cC hokW hok9 hfr9;go_wp2_with fail;exact⟨rfl,_,dY rfl _ _ _,HN.o⟩
  ·rcases hkd with hkd|hkd|hkd
   ·have e4:(e.kind==4)=false:=(by simp[hkd]);have e5:(e.kind==5)=false:=(by simp[hkd]);have e9:(e.kind==9)=false:=(by simp[hkd]);have e10:(e.kind==10)=false:=(by simp[hkd]);have e6:(e.kind==6)=true:=(by simp[hkd]);have hke:=hk.resolve_left (by rw[hkx.choose_spec.choose_spec];simp);have hbk: ∀k∈e.kids,OKE k:=fun k hk=>hr.ok.kid hk;have hsn:=lS e
    have cC:=pE w0 gm (.map (some mb)) l e.kids _ 2 0 S w1 HOK1.o hke (fun j k hj=>by
     have h1:=lF (l:=l) (ks:=e.kids) (j:=j) (b:=S.length) hbk;have h2:=sD hj;omega) (by
     have h1:=lF (l:=l) (ks:=e.kids) (j:=e.kids.length) (b:=S.length) hbk;rw[fI]at h1;omega)
    have HCD:P3 (bN (atP5 l) e S.length=jU (e.kids.map (bN (atP5 l))) S.length++[⟨2,0,0,0,[]⟩]):=by
     show _=_;rw[og hstd (by omega) (by omega) (by omega)];unfold opK;simp[hkd]
    clear hke hbk hsn hk hkx hr hstd;go_wp2_with fail;refine cC.mono ?_;rintro r w9 ⟨rfl,S',hS',hok9,hfr9⟩;have HN:P3 (mX w0 gm (.map (some mb)) S (bN (atP5 l) e S.length) W0 (.returned (.tuple #[])) w9):=⟨rfl,S',hS'.trans HCD.o.symm,hok9,HF1.o.trans hfr9⟩
    clear cC hS' hok9 hfr9;go_wp2_with fail;exact⟨rfl,_,dY rfl _ _ _,HN.o⟩
   ·have e4:(e.kind==4)=false:=(by simp[hkd]);have e5:(e.kind==5)=false:=(by simp[hkd]);have e9:(e.kind==9)=false:=(by simp[hkd]);have e10:(e.kind==10)=false:=(by simp[hkd]);have e6:(e.kind==6)=false:=(by simp[hkd]);have e7:(e.kind==7)=true:=(by simp[hkd]);have hke:=hk.resolve_left (by rw[hkx.choose_spec.choose_spec];simp);have hbk: ∀k∈e.kids,OKE k:=fun k hk=>hr.ok.kid hk;have hsn:=lS e
    have cC:=pE w0 gm (.map (some mb)) l e.kids _ 3 0 S w1 HOK1.o hke (fun j k hj=>by
     have h1:=lF (l:=l) (ks:=e.kids) (j:=j) (b:=S.length) hbk;have h2:=sD hj;omega) (by
     have h1:=lF (l:=l) (ks:=e.kids) (j:=e.kids.length) (b:=S.length) hbk;rw[fI]at h1;omega)
    have HCD:P3 (bN (atP5 l) e S.length=jU (e.kids.map (bN (atP5 l))) S.length++[⟨3,0,0,0,[]⟩]):=by
     show _=_;rw[og hstd (by omega) (by omega) (by omega)];unfold opK;simp[hkd]
    clear hke hbk hsn hk hkx hr hstd;go_wp2_with fail;refine cC.mono ?_;rintro r w9 ⟨rfl,S',hS',hok9,hfr9⟩;have HN:P3 (mX w0 gm (.map (some mb)) S (bN (atP5 l) e S.length) W0 (.returned (.tuple #[])) w9):=⟨rfl,S',hS'.trans HCD.o.symm,hok9,HF1.o.trans hfr9⟩
    clear cC hS' hok9 hfr9;go_wp2_with fail;exact⟨rfl,_,dY rfl _ _ _,HN.o⟩
   ·have e4:(e.kind==4)=false:=(by simp[hkd]);have e5:(e.kind==5)=false:=(by simp[hkd]);have e9:(e.kind==9)=false:=(by simp[hkd]);have e10:(e.kind==10)=false:=(by simp[hkd]);have e6:(e.kind==6)=false:=(by simp[hkd]);have e7:(e.kind==7)=false:=(by simp[hkd]);have e8:(e.kind==8)=true:=(by simp[hkd]);have hke:=hk.resolve_left (by rw[hkx.choose_spec.choose_spec];simp);have hbk: ∀k∈e.kids,OKE k:=fun k hk=>hr.ok.kid hk;have hsn:=lS e
    have cC:=pE w0 gm (.map (some mb)) l e.kids _ 4 0 S w1 HOK1.o hke (fun j k hj=>by
     have h1:=lF (l:=l) (ks:=e.kids) (j:=j) (b:=S.length) hbk;have h2:=sD hj;omega) (by
     have h1:=lF (l:=l) (ks:=e.kids) (j:=e.kids.length) (b:=S.length) hbk;rw[fI]at h1;omega)
    have HCD:P3 (bN (atP5 l) e S.length=jU (e.kids.map (bN (atP5 l))) S.length++[⟨4,0,0,0,[]⟩]):=by
     show _=_;rw[og hstd (by omega) (by omega) (by omega)];unfold opK;simp[hkd]
    clear hke hbk hsn hk hkx hr hstd;go_wp2_with fail;refine cC.mono ?_;rintro r w9 ⟨rfl,S',hS',hok9,hfr9⟩;have HN:P3 (mX w0 gm (.map (some mb)) S (bN (atP5 l) e S.length) W0 (.returned (.tuple #[])) w9):=⟨rfl,S',hS'.trans HCD.o.symm,hok9,HF1.o.trans hfr9⟩
    clear cC hS' hok9 hfr9;go_wp2_with fail;exact⟨rfl,_,dY rfl _ _ _,HN.o⟩
theorem Ks (w0:World)(gm mb:Nat)(l:List Ru)(hmp:iT w0 mb l)(hT:Tab w0): ∀(d:Nat) (e:Ex) (sl:Value),fD (fun k=>k<w0.heap.size) d w0 sl e.kids->Rt e->e.name.length<=9223372036854775807->(∀x∈nms e,0<=atP5 l x)->Fm w0 gm (.map (some mb)) l e sl:=by
 intro d;induction d with
 |zero=>
  intro e sl hk hr hn hnm S W h hS;obtain⟨p,c,rfl⟩:=hk.form;exact Ah w0 gm mb 0 l e p c S W h hmp hT hr hn hk (.inl hk.1) hnm hS
 |succ d ih=>
  intro e sl hk hr hn hnm S W h hS;obtain⟨p,c,hsl⟩:=hk.form;subst hsl;refine Ah w0 gm mb (d+1) l e p c S W h hmp hT hr hn hk ?_ hnm hS;rcases hk with⟨h,_⟩|⟨g,o,c',hg,hs,hl,hkid⟩
  ·exact .inl h
  ·refine .inr ⟨g,o,c',hs,hg,hl,fun j k hj=> ?_⟩;obtain⟨hn',sk,c0,c1,c2,c3,c4,r⟩:=hkid j k hj;obtain⟨p',q',rfl⟩:=r.form;have hkm:=aM hj;exact⟨p',q',c0,c1,c2,c3,c4,ih k _ r (hr.kid hkm) hn' fun x hx=>hnm x (uG hkm hx)⟩
theorem Da (C:List (List In))(ρ:Nat->Nat)(mea:Nat->Int×Int)(hR:rP C ρ)(hsm:qQ (eh C mea))(n go c:Nat)(hn:n=C.length)(hn9:n<=1000)(sv:Nat->Value)(Ss:Nat->List (In×Value))(hS: ∀k,k<n->(Ss k).map (fun u=>u.1)=C.getD k [])(hL: ∀k,k<n->1<=(Ss k).length/\(Ss k).length<=700)(hV: ∀k,k<n-> ∀u∈Ss k,∃p m c,u.2= .slice p m c)(hme: ∀i,i<n->mea i=lV C mea i)(h1: ∀i,i<n->1<=(mea i).2):
  ∀(r i:Nat),ρ i<=r->i<n-> ∀(H T:Nat->Int) (w:World),eW go n sv H T w->(∀q,q<n->jI w (sv q) (Ss q))->(∀q,q<n->ρ q<=ρ i->Okm mea H T q)->Calls prog 155 #[.slice (some (ae go 0)) n c,ag (i:Int)] w (vU mea ρ go n sv i H T w):=by
 intro r;induction r with
 |zero=>
  intro i hr hi H T w hm hq hok;exact tL C ρ mea hR hsm n go c hn hn9 sv Ss hS hL hV i hi (hme i hi) (h1 i hi) (fun k _ hk=>by omega) H T w hm hq hok
 |succ r ih=>
  intro i hr hi H T w hm hq hok;exact tL C ρ mea hR hsm n go c hn hn9 sv Ss hS hL hV i hi (hme i hi) (h1 i hi) (fun k hkn hk H T w hm hq hok=>ih k (by omega) hkn H T w hm hq hok) H T w hm hq hok
def mY (m:Int×Int):Bool:=decide (100<m.1)||decide (20000<m.2)
def jJ (m:Nat->Int×Int):Nat->Nat->Int
 |0,_=> -1
 |k+1,j=>if mY (m j)=true then(j:Int) else jJ m k (j+1)
theorem Db (p:Option Addr)(ln c:Nat)(h t:Int)(w:World)(hl:ln<=700):
  Calls prog 157 #[.agg #[.slice p ln c,ag h,ag t]] w fun e w'=>e= .returned (.bool (mY (h,t)))/\ao w w':=by
 have bA:=am w (.cells #[.slice p ln c,ag h,ag t] 208);have nA:=aC w (.cells #[.slice p ln c,ag h,ag t] 208);generalize hwA:w.alloc (.cells #[.slice p ln c,ag h,ag t] 208)=wA at*;have z0:=ak 0 nA;have z1:=ak 1 nA;have z2:=ak 2 nA;have hl1:(ln:Int)<=700:=by omega
 by_cases h1:100<h
 ·have HM:P3 (mY (h,t)=true):=by show _=_;simp[mY,h1]
  rw[HM.o];clear nA hl;go_enter func157,ntmps157;go_wp2_with fail;go_ret;exact⟨rfl,bA⟩
 ·by_cases h2:20000<t
  ·have HM:P3 (mY (h,t)=true):=(by show _=_;simp[mY,h2]);rw[HM.o];clear nA hl;go_enter func157,ntmps157;go_wp2_with fail;go_ret;exact⟨rfl,bA⟩
  ·have HM:P3 (mY (h,t)=false):=(by show _=_;simp[mY,h1,h2]);rw[HM.o];have hl2: ¬(2000:Int)<(ln:Int):=(by omega);clear nA;go_enter func157,ntmps157;go_wp2_with fail;go_ret;exact⟨rfl,bA⟩
theorem AI (n go c:Nat)(sv:Nat->Value)(m:Nat->Int×Int)(w:World)(hm:eW go n sv (fun k=>(m k).1) (fun k=>(m k).2) w)(hsv: ∀k,k<n-> ∃p ln c,sv k= .slice p ln c/\ln<=700)(hn:n<=1000):
  Calls prog 156 #[.slice (some (ae go 0)) n c,.func (.func 157) #[] #[]] w fun e w'=>e= .returned (ag (jJ m n 0))/\ao w w':=by
 have HM:=aY hm;have HSV:=aY hsv;have hn1:(n:Int)<=1000:=by omega
 clear hm hsv;go_enter func156,ntmps156;go_wp2_with fail;go_loopw [5,8] (fun _ t wr=> ∃j:Nat,t=ag (j:Int)/\j<=n/\jJ m n 0=jJ m (n-j) j/\ao w wr) (fun _ t _=>n-(intOf t).toNat);case atStart=>exact⟨0,rfl,by omega,by rw[Nat.sub_zero],aG _ _⟩
 case round=>
  obtain⟨j,rfl,hj,hX,hb⟩:=hrel;have hj0:(0:Int)<=(j:Int):=(by omega);by_cases hlt:j<n
  ·have hlt':(j:Int)<(n:Int):=(by omega);obtain⟨c0,c1,c2,_,_⟩:=(HM.o.below hb).cells hlt;obtain⟨ps,ln,cs,hs,hl⟩:=HSV.o j hlt;rw[hs]at c0;rw[show n-j=(n-(j+1))+1 by omega,jJ]at hX;have cT:=Db ps ln cs (m j).1 (m j).2 wr hl;have HX:=aY hX;generalize hmy:mY ((m j).1,(m j).2)=y at cT;have HMY:P3 (mY (m j)=y):=hmy;generalize (m j).1=mh at*;generalize (m j).2=mt at*;clear hs hX hmy;go_wp2_with fail;refine cT.mono ?_;rintro e w1 ⟨rfl,b1⟩;have hb1:=au hb b1;clear cT b1 hb c0 c1 c2;cases y with
   |true=>
    have HE:P3 (jJ m n 0=(j:Int)):=(by show _=_;rw[HX.o,ay HMY.o]);clear HX HMY;go_wp2_with fail;go_ret;exact⟨by(rw[HE.o])<;>rfl,hb1⟩
   |false=>
    have HE:P3 (jJ m n 0=jJ m (n-(j+1)) (j+1)):=(by show _=_;rw[HX.o,aw (by rw[HMY.o];simp)]);clear HX HMY;go_wp2_with fail;go_roundw;case rel=>exact⟨j+1,by go_num,by omega,HE.o,hb1⟩
    case measure=>simp[intOf];omega
  ·have hlt': ¬(j:Int)<(n:Int):=(by omega)
   have HX:P3 (jJ m n 0= -1):=by
    show _=_;rw[hX,show n-j=0 by omega];rfl
   clear hX;go_wp2_with fail;go_ret;exact⟨by(rw[HX.o])<;>rfl,hb⟩
theorem xP {num:List UInt8->Int}: ∀(N:Nat) (e:Ex),SizeOf.sizeOf e<=N->OKE e-> ∀(b:Nat) (x:In),x∈bN num e b->x.op=8-> ∃nm∈nms e,x.a=num nm
 |0,e,hN,_,_,_,_,_=>by cases e;simp at hN
 |N+1,e,hN,h,b,x,hx,ho=>by
  have ih: ∀k∈e.kids,∀b,x∈bN num k b-> ∃nm∈nms e,x.a=num nm:=fun k hk b hxk=>by
   obtain⟨nm,h1,h2⟩:=xP N k (by have:=gK hk;omega) (h.kid hk) b x hxk ho;exact⟨nm,uG hk h1,h2⟩
  cases hs:stdE e with
  |true=>
   rw[oe hs,bv]at hx;subst hx;exact absurd ho (by show¬(1:Int)=8;omega)
  |false=>
   rcases mV h hs with⟨q,k,hk⟩|⟨q,k,hk⟩|⟨q,k,hk⟩|q|⟨q,k,m,hk⟩
   ·rw[oS q (by rw[hk];rfl)]at hx;rcases bh.1 hx with rfl|hx
    ·exact absurd ho (by show¬(6:Int)=8;omega)
    ·exact ih k (by rw[hk];simp) _ hx
   ·rw[mU q (by rw[hk];rfl)]at hx;rcases bh.1 hx with rfl|hx
    ·exact absurd ho (by show¬(7:Int)=8;omega)
    ·exact ih k (by rw[hk];simp) _ hx
   ·rw[pD hs q hk]at hx;rcases bJ.1 hx with hx|hx
    ·exact ih k (by rw[hk];simp) _ hx
    ·rw[bv]at hx;subst hx;exact absurd ho (by show¬(5:Int)=8;omega)
   ·rw[oR q,bv]at hx;subst hx;exact⟨_,uH q,rfl⟩
   ·rw[qP hs q hk]at hx;rcases bJ.1 hx with hx|hx
    ·rcases bJ.1 hx with hx|hx
     ·exact ih k (by rw[hk];simp) _ hx
     ·exact ih m (by rw[hk];simp) _ hx
    ·rw[bv]at hx;subst hx;have:=DU q;exact absurd ho (by show¬opK e.kind=8;omega)
theorem B2: ∀{l:List (Int×Int)} {j:Nat},j<l.length->(iG l)[j*2+0]? =some (ag (l.getD j (0,0)).1)/\(iG l)[j*2+1]? =some (ag (l.getD j (0,0)).2)
 |[],_,h=>by simp at h
 |_::_,0,_=>⟨rfl,rfl⟩
 |s::l,j+1,h=>by
  have ih:=B2 (l:=l) (j:=j) (by simpa using h)
  have e: ∀i,(iG (s::l))[(j+1)*2+i]? =(iG l)[j*2+i]? :=fun i=>by
   show(_::_::iG l)[(j+1)*2+i]? =_;rw[show(j+1)*2+i=(j*2+i)+1+1 by omega,List.getElem?_cons_succ,List.getElem?_cons_succ]
  rw[e,e];exact ih
theorem gU.row {w:World}{v:Value}{l:List (Int×Int)}(h:gU w v l):mM w v l:=by
 rcases h with h|⟨g,c,cur,e,hl,hg,hx⟩
 ·exact .inl h
 ·refine .inr (.inr ⟨g,0,c,e,hl,fun j hj=> ?_⟩)
  have key: ∀(i:Nat) (v:Value),j*2+i<l.length*2->(iG l)[j*2+i]? =some v->w.cell? (ae g (0+j*2+i))=some v:=fun i v hi hv=>by
   refine(aV _ _ _ _ _ _ hg).trans ?_;rw[bK,<-bo];rw[<-hx,dA hi]at hv;exact hv
  have hf:=B2 hj;exact⟨by simpa using key 0 _ (by omega) hf.1,key 1 _ (by omega) hf.2⟩
theorem Ie {w:World}{v:Value}{S:List (In×Value)}(h:jI w v S)(h1:1<=S.length)(h9:S.length<=700)(hs: ∀u∈S,gU w u.2 u.1.sp):oF w v (S.map fun u=>u.1):=by
 obtain⟨g,c,e,hc⟩:=h.form h1;refine⟨S,⟨some ⟨g,0,none⟩,c,e,by omega,fun j u hj=>⟨(hs u (aM hj)).row,g,0,rfl,?_⟩⟩,rfl⟩;obtain⟨d0,d1,d2,d3,d4⟩:=hc j u hj;simp only[bK];exact⟨d0,d1,d2,d3,d4⟩
theorem MN {w:World}{go n c:Nat}{sv:Nat->Value}{Ss:Nat->List (In×Value)}{C:List (List In)}{m:Nat->Int×Int}(hn:n=C.length)(hn9:n<=1000)(hm:eW go n sv (fun k=>(m k).1) (fun k=>(m k).2) w)(hq: ∀k,k<n->jI w (sv k) (Ss k))(hL: ∀k,k<n->1<=(Ss k).length/\(Ss k).length<=700)(hs: ∀k,k<n-> ∀u∈Ss k,gU w u.2 u.1.sp)(hS: ∀k,k<n->(Ss k).map (fun u=>u.1)=C.getD k []):InV w (.slice (some (ae go 0)) n c) (eh C m):=by
 refine⟨(List.range n).map fun k=>(⟨C.getD k [],(m k).1,(m k).2⟩,sv k),⟨some ⟨go,0,none⟩,c,by simp,by simp;omega,fun j u hj=> ?_⟩,?_⟩
 ·rw[bg]at hj;obtain⟨k,hk,rfl⟩:=eI.1 hj;obtain⟨h1,h2⟩:=aE.1 hk;have hkj:k=j:=(by rw[<-h2];simp);subst hkj;have hkn:k<n:=(by simpa using h1);refine⟨?_,go,0,rfl,?_⟩
  ·have:=Ie (hq k hkn) (hL k hkn).1 (hL k hkn).2 (hs k hkn);rw[hS k hkn]at this;exact this
  ·obtain⟨c0,c1,c2,_,_⟩:=hm.cells hkn;simp only[bK];exact⟨c0,c1,c2⟩
 ·rw[jE,hn];rfl
def ff (l:List Ru):List (List In):=l.map fun u=>bN (atP5 l) u.2 0
def fN (l:List Ru):Nat->Int×Int:=mW (ff l) (l.length+1)
def eR (l:List Ru):List Cd:=eh (ff l) (fN l)
def ii (l:List Ru):Int×Int:=if(di l).1≠0 then((di l).1,((di l).2:Int)) else if 0<=jJ (fN l) l.length 0 then(4,jJ (fN l) l.length 0) else(0,0)
theorem mB (l:List Ru):(ff l).length=l.length:=by simp[ff]
theorem mr {l:List Ru}{i:Nat}{u:Ru}(h:l[i]? =some u):(ff l).getD i []=bN (atP5 l) u.2 0:=by
 simp[ff,List.getD,h]
theorem Ai: ∀{l:List Ru} {i:Nat},(ju l i).1=0-> ∀u∈l,Rt u.2
 |[],_,_,u,hu=>by cases hu
 |u'::l,i,h,u,hu=>by
  unfold ju at h;by_cases h1:ruleP u'≠0
  ·rw[ay h1]at h;exact absurd h h1
  ·rw[aw h1]at h;rcases bh.1 hu with rfl|hu
   ·have h2:ruleP u=0:=(by simpa using h1);unfold ruleP at h2;split at h2
    ·cases h2
    ·exact h2
   ·exact Ai h u hu
theorem qz {l:List Ru}(h:(di l).1=0):l.length<=40/\ ∀u∈l,Rt u.2:=by
 have h0:=(li h).1;refine⟨(sB h0).1,?_⟩;unfold fy at h0;split at h0
 ·cases h0
 ·exact Ai h0
theorem rQ {l:List Ru}(h:(di l).1=0){u:Ru}(hu:u∈l){x:List UInt8}(hx:x∈nms u.2):0<=atP5 l x/\atP5 l x<l.length/\atP5 l x∈fz l u:=by
 have hm:atP5 l x∈fz l u:=(py (nms u.2) []).2 (.inr ⟨x,hx,rfl⟩);have hb:=nP l x;have hno:=(li h).2 u hu;refine⟨?_,hb.2,hm⟩;by_cases q:0<=atP5 l x
 ·exact q
 ·have e:atP5 l x= -1:=by omega
  rw[e]at hm;exact absurd hm hno
theorem Oh (l:List Ru)(i:Nat):muR l i<=l.length:=by
 unfold muR fK;split
 ·simp
 ·unfold mkL;rw[aZ];refine a6 (List.length_filter_le _ _) ?_;simp
theorem rq {l:List Ru}(h:(di l).1=0):rP (ff l) (muR l):=by
 refine⟨fun i j x hi hx ho=> ?_⟩;rw[mB]at hi⊢;have hu:l[i]? =some l[i]:=ax hi;rw[mr hu]at hx;have hul:=aM hu;obtain⟨nm,hn,hxa⟩:=xP _ _ (aA _) ((qz h).2 _ hul).ok 0 x (aM hx) ho;obtain⟨h0,h1,h2⟩:=rQ h hul hn;rw[hxa];refine⟨h0,by omega,rL h hi ?_⟩;rw[qi hu];exact dw.2 ⟨_,h2,rfl⟩
theorem uK {l:List Ru}(h:(di l).1=0){i:Nat}(hi:i<l.length):fN l i=lV (ff l) (fN l) i:=MJ (rq h) (N:=l.length) (fun i _=>Oh l i) (by rw[mB];exact hi)
theorem xQ (l:List Ru):qQ (eh (ff l) (fN l)):=Fj _ _
theorem vV {l:List Ru}(h:(di l).1=0){i:Nat}(hi:i<l.length):1<=((ff l).getD i []).length/\((ff l).getD i []).length<=600:=by
 have hu:l[i]? =some l[i]:=ax hi;have hr:=(qz h).2 _ (aM hu);rw[mr hu];have:=lE (atP5 l) _ _ (aA _) hr.ok 0;have h6:=hr.nod;omega
theorem B3 {l:List Ru}(h:(di l).1=0){i:Nat}(hi:i<l.length):1<=(fN l i).2:=by
 rw[uK h hi];exact(DV (xQ l) i).2.2 (vV h hi).1
def mZ (w u:World):Prop:= ∀(q:Nat) (c:Array Value) (T:TypeId) (f:Nat×Nat),w.heap[q]? =some (.cells c T f)->(T=208\/T=234\/T=143)->u.heap[q]? =w.heap[q]?
def xR (l:List Ru)(w:World)(r:Ending)(w':World):Prop:= ∃v,r= .returned (.tuple #[v,.agg #[ag (ii l).1,ag (ii l).2]])/\((ii l).1=0-> ∀u,mZ w' u->InV u v (eR l))/\((ii l).1≠0->v=af)/\ao w w'
theorem jI.ty {w u:World}{v:Value}{S:List (In×Value)}(h:jI w v S)(hu:mZ w u):jI u v S:=bp h fun b hb=>by
 rcases h.2 with⟨e,_⟩|⟨g,cap,cur,e,_,hg,_⟩
 ·rw[e]at hb;cases hb
 ·rw[e]at hb;cases aK hb;exact hu _ _ _ _ hg (.inr (.inl rfl))
theorem gU.ty {w u:World}{v:Value}{l:List (Int×Int)}(h:gU w v l)(hu:mZ w u):gU u v l:=by
 rcases h with h|⟨g,c,cur,e,hl,hg,hc⟩
 ·exact .inl h
 ·exact .inr ⟨g,c,cur,e,hl,(hu _ _ _ _ hg (.inr (.inr rfl))).trans hg,hc⟩
theorem eW.ty {go n:Nat}{sv:Nat->Value}{H T:Nat->Int}{w u:World}(h:eW go n sv H T w)(hu:mZ w u):eW go n sv H T u:=by
 obtain⟨cur,hg,h⟩:=h;exact⟨cur,(hu _ _ _ _ hg (.inl rfl)).trans hg,h⟩
def ng (n:Nat):Array Value:=madeCells #[af,ag 0,ag 0] (n*3)
theorem tM {n i j:Nat}(hi:i<n)(hj:j<3):(ng n)[i*3+j]? =(#[af,ag 0,ag 0]:Array Value)[j]? :=by
 have h1:i*3+j<n*3:=by omega
 have h2:(i*3+j)%3=j:=by omega
 simp only[ng,madeCells];match j,hj,h1,h2 with
 |0,_,h1,h2=>simp at h1 h2⊢;simp[h1]
 |1,_,h1,h2=>simp[h1,h2]
 |2,_,h1,h2=>simp[h1,h2]
theorem If:(prog.info? 208).map (fun i=>(i.zero,i.size,i.bytes))=some (some (.agg #[af,ag 0,ag 0]),3,40):=by kernel_rfl
theorem Fo:prog.underlying 90=some (.slice 208):=by kernel_rfl
theorem Fp (n:Nat)(hn:n<=1000)(w:World):(Instr.makeSlice 90 (ag (n:Int)) (ag (n:Int))).run prog w= .ok (.slice (some (ae w.heap.size 0)) n n) (w.alloc (.cells (ng n) 208)):=by
 obtain⟨i,hi,hzz⟩:=eI.1 If;simp only[Prod.mk.injEq]at hzz;obtain⟨hz,hs,hb⟩:=hzz;have hr:=run_make (P:=prog) w 90 208 i _ Fo hi hz .i64 .i64 n n (by omega) (fi _) (by rw[hb];omega) (by omega);rw[hs]at hr;have e:(Value.agg #[af,ag 0,ag 0]).cells= #[af,ag 0,ag 0]:=rfl;rw[e]at hr;simpa[ng] using hr
theorem eW.made {w:World}{go n:Nat}(h:w.heap[go]? =ah (ng n) 208):eW go n (fun _=>af) (fun _=>0) (fun _=>0) w:=by
 refine⟨_,h,by simp[ng,madeCells],fun i hi=>⟨?_,?_,?_⟩⟩
 ·have:=tM (j:=0) hi (by omega);simpa using this
 ·exact(tM (j:=1) hi (by omega)).trans rfl
 ·exact(tM (j:=2) hi (by omega)).trans rfl
def upV (f:Nat->Value)(i:Nat)(v:Value):Nat->Value:=fun k=>if k=i then v else f k
theorem Ig (f:Nat->Value)(i:Nat)(v:Value):upV f i v i=v:=by unfold upV;rw[ay rfl]
theorem Ih (f:Nat->Value){i k:Nat}(v:Value)(h:k≠i):upV f i v k=f k:=by unfold upV;rw[aw h]
theorem eW.setV {go n:Nat}{sv:Nat->Value}{H T:Nat->Int}{w:World}(h:eW go n sv H T w){i:Nat}(v:Value)(hi:i<n):eW go n (upV sv i v) H T (w.setCell ⟨go,i*3,none⟩ v):=by
 obtain⟨cur,hg,hs,hc⟩:=h;refine⟨_,aX w go (i*3) _ _ _ hg,by rw[gJ];exact hs,fun k hk=> ?_⟩;obtain⟨c0,c1,c2⟩:=hc k hk;refine⟨?_,?_,?_⟩
 ·by_cases e:k=i
  ·subst e;rw[Ig,fQ (by omega)]
  ·rw[Ih _ _ e,da (by omega)];exact c0
 ·rw[da (by omega)];exact c1
 ·rw[da (by omega)];exact c2
theorem eW.frozen {go n:Nat}{sv:Nat->Value}{H T:Nat->Int}{w:World}(h:eW go n sv H T w)(i:Nat):w.frozen? (ae go i)=false:=by
 obtain⟨cur,hg,_⟩:=h;exact bl _ _ _ _ _ hg
theorem eW.congr {go n:Nat}{sv:Nat->Value}{H T H' T':Nat->Int}{w:World}(h:eW go n sv H T w)(e: ∀k,k<n->H k=H' k/\T k=T' k):eW go n sv H' T' w:=by
 obtain⟨cur,hg,hs,hc⟩:=h;refine⟨cur,hg,hs,fun k hk=> ?_⟩;obtain⟨c0,c1,c2⟩:=hc k hk;obtain⟨e1,e2⟩:=e k hk;rw[<-e1,<-e2];exact⟨c0,c1,c2⟩
theorem gU.kept {go n:Nat}{sv:Nat->Value}{H T:Nat->Int}{w w':World}{v:Value}{l:List (Int×Int)}(h:gU w v l)(hm:eW go n sv H T w)(hk:bm go w w'):gU w' v l:=by
 obtain⟨cur',hg',_⟩:=hm;rcases h with h|⟨g,c,cur,e,hl,hg,hx⟩
 ·exact .inl h
 ·refine .inr ⟨g,c,cur,e,hl,(hk.block g (aF hg) (fun q=> ?_)).trans hg,hx⟩;have q':g=go:=aK q;subst q';rw[hg]at hg';injection hg' with hb;injection hb with _ h2 _;exact absurd h2 (by decide)
theorem xS {B go:Nat}{w w' w'':World}(h:Below B w w')(hk:bm go w' w'')(hg:B<=go)(hB:B<=w'.heap.size):Below B w w'':=
 ⟨hk.os.trans h.os,hk.tape.trans h.tape,hk.output.trans h.output,a6 h.size hk.size,fun k hb=>(hk.block k (aO hb hB) (fun e=>by have:=aK e;omega)).trans (h.block k hb)⟩
def o6 (l:List Ru)(w:World)(sv:Nat->Value)(Ss:Nat->List (In×Value))(k:Nat):Prop:=jI w (sv k) (Ss k)/\(Ss k).map (fun u=>u.1)=(ff l).getD k []/\ ∀u∈Ss k,gU w u.2 u.1.sp
theorem o6.kept {l:List Ru}{go n:Nat}{sv sv':Nat->Value}{H T:Nat->Int}{w w':World}{Ss:Nat->List (In×Value)}{k:Nat}(h:o6 l w sv Ss k)(hm:eW go n sv' H T w)(hk:bm go w w'):o6 l w' sv Ss k:=⟨h.1.kept hm hk,h.2.1,fun u hu=>(h.2.2 u hu).kept hm hk⟩
theorem o6.ext {l:List Ru}{sv sv':Nat->Value}{w:World}{Ss Ss':Nat->List (In×Value)}{k:Nat}(h:o6 l w sv Ss k)(e1:sv' k=sv k)(e2:Ss' k=Ss k):o6 l w sv' Ss' k:=by
 unfold o6;rw[e1,e2];exact h
def upS (f:Nat->List (In×Value))(i:Nat)(v:List (In×Value)):Nat->List (In×Value):=fun k=>if k=i then v else f k
theorem Oi (f:Nat->List (In×Value))(i:Nat)(v:List (In×Value)):upS f i v i=v:=by unfold upS;rw[ay rfl]
theorem Oj (f:Nat->List (In×Value)){i k:Nat}(v:List (In×Value))(h:k≠i):upS f i v k=f k:=by unfold upS;rw[aw h]
theorem Kt {w:World}{b size n:Nat}{e:TypeId}{v:Value}{xs:List Value}(h:w.ownsRow b e size v n xs):w.ownsRow 0 e size v n xs:=by
 obtain⟨h1,h2⟩:=h;rcases h2 with h2|⟨g,cap,cur,e,q,r⟩
 ·exact⟨h1,.inl h2⟩
 ·exact⟨h1,.inr ⟨g,cap,cur,e,df _,r⟩⟩
theorem tN {R:Ending->World->Prop}{a:Act}{w:World}(g:Nat)(v:Value)(er at_:Int)(hd:a.defers=[])(h2:a.tmps.getD 2 undef=v)(h3:a.tmps.getD 3 undef=ab g 0)
  (hg:w.heap[g]? =ah #[ag er,ag at_] 47) (hR:R (.returned (.tuple #[v,.agg #[ag er,ag at_]])) w):bodyPost prog f123 R .ret a w:=by
 refine aU (v:= .tuple #[v,.agg #[ag er,ag at_]]) ?_ hd hR;have h2':a.tmps[2]?.getD undef=v:=by simpa using h2
 have h3':a.tmps[3]?.getD undef=ab g 0:=by simpa using h3
 have hv:=dR (P:=prog) w g 47 47 _ _ _ hg oJ rfl (by kernel_rfl);simp[results,results123,h2',h3',asAddr,hv]
theorem Ii (m:Nat->Int×Int): ∀(k j n:Nat),j+k<=n-> -1<=jJ m k j/\jJ m k j<=(n:Int)
 |0,j,n,_=>by simp only[jJ];omega
 |k+1,j,n,h=>by
  have ih:=Ii m k (j+1) n (by omega);simp only[jJ];split
  ·omega
  ·exact ih
theorem jI.set {w:World}{v:Value}{S:List (In×Value)}(h:jI w v S){g:Nat}{c:Array Value}(hg:w.heap[g]? =ah c 47)(xs:Array Value):jI (w.setRow g xs) v S:=
 World.ownsRow.kept h (row:=some g) ⟨rfl,rfl,rfl,by simp,fun q _ hne=>aT w g q xs (fun e=>hne (congrArg some e))⟩ (.inr fun e=>jY h hg (by decide) e.symm)
theorem gU.set {w:World}{v:Value}{l:List (Int×Int)}(h:gU w v l){g:Nat}{c:Array Value}(hg:w.heap[g]? =ah c 47)(xs:Array Value):gU (w.setRow g xs) v l:=by
 rcases h with h|⟨g',c',cur,e,hl,hg',hx⟩
 ·exact .inl h
 ·refine .inr ⟨g',c',cur,e,hl,(aT w g g' xs (fun q=> ?_)).trans hg',hx⟩;rw[q,hg]at hg';injection hg' with hb;injection hb with _ h2 _;exact absurd h2 (by decide)
theorem Dc (us:List (Ru×Value))(v:Value)(w:World)(h:InR w v us)(hT:Tab w):Calls prog 123 #[v] w (xR (us.map (fun p=>p.1)) w):=by
 obtain⟨l,hl⟩:=aq (us.map (fun p=>p.1));obtain⟨n,hn⟩:=aq us.length;have hll:l.length=n:=by rw[<-hl,aZ,hn]
 obtain⟨pv,cv,rfl⟩:=h.form;have bA:=am w (.cells #[ag 0,ag 0] 47);have n1:=aC w (.cells #[ag 0,ag 0] 47);generalize hwA:w.alloc (.cells #[ag 0,ag 0] 47)=wA at*;have cW:=uw us _ wA (h.below bA);rw[hl]at cW;rw[hl,hn];have HL:=aD hl;have HLN:=aD hn;have HLL:=aD hll;have HI0:=aD h;have HT0:=aD hT;rw[hn]at cW;clear hl hll h hn hT;go_enter func123,ntmps123;go_wp2_with fail;refine cW.mono ?_;rintro r w1 ⟨rfl,hb1⟩;have m2:=ai hb1 n1;have hb1w:=au bA hb1;clear cW n1 hb1 bA hwA;by_cases h0:(di l).1=0
 ·have h40:=(qz h0).1;rw[HLL.o]at h40;have H0:=aD h0;rw[h0];generalize (((di l).2:Nat):Int)=at0 at*;have bC:=am w1 (.cells #[ag 0,ag at0] 47);have HBw:=aD (au hb1w bC);have HR:=aD (ai bC m2);have m3:=aC w1 (.cells #[ag 0,ag at0] 47);have Hn40:=aD h40;have hI40:(n:Int)<=40:=(by omega);have hI0:(0:Int)<=(n:Int):=(by omega);clear bC hb1w m2 h0;generalize hw2:w1.alloc (.cells #[ag 0,ag at0] 47)=wB at*;have z0:=ak 0 m3;have cN:=oD us _ wB (HI0.o.below HBw.o);unfold EN at cN;rw[HL.o,HLN.o]at cN;clear m3;go_wp2_with fail;refine cN.mono ?_;rintro r w3 ⟨mb,rfl,hmb,hmp,b3⟩;have hB3:=au HBw.o b3;have r3:=ai b3 HR.o;have bM:=am w3 (.cells (ng n) 208);have nM:=aC w3 (.cells (ng n) 208);have hmk:=Fp n (by omega) w3;have hmpM:=hmp.later (bM.block _ (gN hmp));have hBM:=au hB3 bM;have rM:=ai bM r3;have hmbg:=gN hmp;have hrg:=aF r3;obtain⟨go,hgo⟩:=aq w3.heap.size;have hwgo:w.heap.size<=go:=(by rw[<-hgo];exact hB3.size);generalize hwM:w3.alloc (.cells (ng n) 208)=wM at*;rw[hgo]at nM hmk hmbg hrg;have hszM:w.heap.size<=wM.heap.size:=hBM.size;have HMM:=aD (eW.made nM);have HMP:=aD hmpM;have HBM:=aD hBM;have HRM:=aD rM;have hgrne:w.heap.size≠go:=(by omega);have hmbne:mb≠go:=(by omega);clear hw2 cN hmp b3 hB3 r3 bM nM hmpM hBM rM HR HBw z0;go_wp2_with fail;clear hmk hwM hgo;go_loopw [7,8,9,25] (fun _ _ _ t wr=> ∃(j:Nat) (sv:Nat->Value) (Ss:Nat->List (In×Value)),t=ag (j:Int)/\j<=n/\eW go n sv (fun _=>0) (fun _=>0) wr/\(∀k,k<j->o6 l wr sv Ss k)/\bm go wM wr) (fun _ _ _ t _=>n-(intOf t).toNat);case atStart=>exact⟨0,_,fun _=>[],rfl,by omega,HMM.o,fun k hk=>by omega,bm.refl _ _⟩
  case round=>
   obtain⟨j,sv,Ss,rfl,hj,hms,hld,hkp⟩:=hrel;clear HMM;have hj0:(0:Int)<=(j:Int):=(by omega);have hbr:=xS HBM.o hkp hwgo hszM;by_cases hlt:j<n
   ·have hlt':(j:Int)<(n:Int):=(by omega);obtain⟨p,hjp⟩: ∃p,us[j]? =some p:=⟨us[j]'(by have:=HLN.o;omega),ax _⟩
    have hinr:=HI0.o.below hbr;have HCL:=aD hinr.cells;obtain⟨g,o,hpe,d0,d1,d2,d3,d4,d5⟩:=HCL.o j p hjp;subst hpe;have hpm:=aM hjp;obtain⟨hnl,hel,dd,hkb⟩:=hinr.all p hpm;obtain⟨ps,cs,hps⟩:=hkb.form;have hlj:l[j]? =some p.1:=(by rw[<-HL.o,bg,hjp];rfl);have hlm:=aM hlj;obtain⟨⟨nm,e⟩,sk⟩:=p;dsimp only at d0 d1 d2 d3 d4 d5 hel hkb hps hnl hlj hlm;subst hps;have hrt:=(qz H0.o).2 _ hlm;have HLJ:=aD hlj;have bR:=am wr (.cells #[.string ⟨nm.toArray⟩,ag e.kind,ag e.a,ag e.b,.string ⟨e.name.toArray⟩,.slice ps e.kids.length cs] 54);have nR:=aC wr (.cells #[.string ⟨nm.toArray⟩,ag e.kind,ag e.a,ag e.b,.string ⟨e.name.toArray⟩,.slice ps e.kids.length cs] 54);generalize hwR:wr.alloc (.cells #[.string ⟨nm.toArray⟩,ag e.kind,ag e.a,ag e.b,.string ⟨e.name.toArray⟩,.slice ps e.kids.length cs] 54)=wR at*;have bZ:=am wR (.cells #[.map none,af] 205);have nZ:=aC wR (.cells #[.map none,af] 205);generalize hwZ:wR.alloc (.cells #[.map none,af] 205)=wZ at*;have bW:=below_setRow bZ (aA _) #[.map (some mb),af];have nW:=aJ _ _ _ #[.map (some mb),af] _ _ nZ;have nR2:=ai bW nR;generalize hwW:wZ.setRow wR.heap.size #[.map (some mb),af]=wW at*;have hokW:WOk wR wR.heap.size (.map (some mb)) [] wW:=⟨⟨bW,aA _,_,nW,bV _ _ _ _⟩,fun u hu=>by cases hu⟩
    have hmpR:iT wR mb l:=by
     have h1:=HMP.o.later (hkp.block _ (gN HMP.o) (fun e=>hmbne (aK e)));exact h1.later (bR.block _ (gN h1))
    have hTR:Tab wR:=kh (kh HT0.o hbr) bR;have hkbR:fD (fun k=>k<wR.heap.size) dd wR (.slice ps e.kids.length cs) e.kids:=(hkb.kept fun g _ hl=>bR.block g hl).mono fun g hg=>aO hg bR.size;have cE:=Ks wR wR.heap.size mb l hmpR hTR dd e _ hkbR hrt hel (fun x hx=>(rQ H0.o hlm hx).1) [] wW hokW (by have:=hrt.nod;simpa using a6 this (by omega));unfold exV at cE;have y1:=ak 1 nR2;have y2:=ak 2 nR2;have y3:=ak 3 nR2;have y4:=ak 4 nR2;have y5:=ak 5 nR2;have HMS:=aD hms;have HLD:=aD hld;have HKP:=aD hkp;have HBR:=aD bR;have hnod:=hrt.nod;have hcl:=(lE (atP5 l) _ e (aA _) hrt.ok 0)
    clear hinr HCL hjp hpm hkb hnl hel hlj hlm hms hld hkp hbr bR bW bZ nW hokW hmpR hTR hkbR nR hrt;go_wp2_with(refine az rfl 205 _ _ rfl _ _ rfl rfl _ _ nZ (by kernel_rfl) (by simp) (by simp[Value.oneCell']) ?_;rw[hwW])
    refine cE.mono ?_;rintro r w5 ⟨rfl,S',hS',hok5,_⟩;obtain⟨⟨hb5,_,sv5,n5,own5⟩,hsp5⟩:=hok5;rw[List.nil_append]at own5 hsp5
    have hlS:S'.length=(bN (atP5 l) e 0).length:=by
     have h1:=congrArg List.length hS';rw[aZ]at h1;exact h1
    obtain⟨g5,c5,hv5⟩: ∃g5 c5,sv5= .slice (some (ae g5 0)) S'.length c5:=by
     rcases own5.2 with⟨_,e0⟩|⟨g',cap,cur,e0,_⟩
     ·omega
     ·exact⟨g',cap,e0⟩
    subst hv5;have z51:=ak 1 n5;have hbr5:ao wr w5:=au HBR.o hb5;have hms5:=HMS.o.below hbr5;have x0:=(hms5.cells hlt).1;have xf:=hms5.frozen (j*3);have hk5:=HKP.o.trans (bm.of_below hbr5);have hks:=ip w5 go (j*3) (.slice (some (ae g5 0)) S'.length c5);have HMN:=aD (hms5.setV (.slice (some (ae g5 0)) S'.length c5) hlt);have HKN:=aD (hk5.trans hks);have hq5:jI w5 (.slice (some (ae g5 0)) S'.length c5) S':=Kt own5
    have HLN2:P3 (∀k,k<j+1->o6 l (w5.setCell ⟨go,j*3,none⟩ (.slice (some (ae g5 0)) S'.length c5)) (upV sv j (.slice (some (ae g5 0)) S'.length c5)) (upS Ss j S') k):=fun k hk=>by
     by_cases e1:k=j
     ·subst e1
      have h1:o6 l w5 (upV sv k (.slice (some (ae g5 0)) S'.length c5)) (upS Ss k S') k:=by
       unfold o6;rw[Ig,Oi,mr HLJ.o];exact⟨hq5,hS',hsp5⟩
      exact h1.kept hms5 hks
     ·have h1:=HLD.o k (by omega);have h2:o6 l w5 sv Ss k:=⟨h1.1.below hbr5,h1.2.1,fun u hu=>(h1.2.2 u hu).below hbr5⟩
      exact(h2.kept hms5 hks).ext (Ih _ _ e1) (Oj _ _ e1)
    generalize hw6:w5.setCell ⟨go,j*3,none⟩ (.slice (some (ae g5 0)) S'.length c5)=w6 at*;clear hlS cE own5 hsp5 hS' hb5 n5 hbr5 hms5 hk5 hks hq5 y1 y2 y3 y4 y5 nR2 HMS HLD HKP HBR hwW hwZ nZ hwR d0 d1 d2 d3 d4 d5;go_wp2_with fail;go_roundw;case rel=>exact⟨j+1,_,_,by go_num,by omega,HMN.o,HLN2.o,HKN.o⟩
    case measure=>simp[intOf];omega
   ·have hlt': ¬(j:Int)<(n:Int):=(by omega);obtain rfl:n=j:=(by omega);generalize wr=wL at*;have hCn:n=(ff l).length:=(by rw[mB];exact HLL.o.symm);have hin: ∀k,k<n->k<l.length:=fun k hk=>(by have:=HLL.o;omega)
    have hLd: ∀k,k<n->1<=(Ss k).length/\(Ss k).length<=700:=fun k hk=>by
     have h1:=congrArg List.length (hld k hk).2.1;rw[aZ]at h1;have h2:=vV H0.o (hin k hk);omega
    have HME:=aD (fun(w':World) (i:Nat)=>Da (ff l) (muR l) (fN l) (rq H0.o) (xQ l) n go n hCn (by omega) sv Ss (fun k hk=>(hld k hk).2.1) hLd (fun k hk u hu=>((hld k hk).2.2 u hu).form) (fun i hi=>uK H0.o (hin i hi)) (fun i hi=>B3 H0.o (hin i hi)) _ i (aA _));have HLD:=aD hld;have HMS:=aD hms;have HKP:=aD hkp;have HLB:=aD hLd;have HCN:=aD hCn;clear hld hms hkp hLd hin hCn hbr;go_wp2_with fail;go_loopw [10,44] (fun _ t w7=> ∃(i:Nat) (H T:Nat->Int),t=ag (i:Int)/\i<=n/\eW go n sv H T w7/\(∀k,k<n->Okm (fN l) H T k)/\(∀k,k<i->Me (fN l) H T k)/\bm go wL w7) (fun _ t _=>n-(intOf t).toNat);case atStart=>exact⟨0,_,_,rfl,by omega,HMS.o,fun k _=> .inl ⟨rfl,rfl⟩,fun k hk=>by omega,bm.refl _ _⟩
    case round=>
     obtain⟨i,H,T,rfl,hi,hms,hok,hme,hkp⟩:=hrel;have hi0:(0:Int)<=(i:Int):=(by omega);by_cases hil:i<n
     ·have hil':(i:Int)<(n:Int):=(by omega);have cM:=HME.o wr i hil H T wr hms (fun q hq=>((HLD.o q hq).1.kept HMS.o hkp)) (fun q hq _=>hok q hq);obtain⟨ps,cs,hsv,_⟩:=((HLD.o i hil).1.kept HMS.o hkp).form (HLB.o i hil).1;unfold vU at cM;rw[hsv]at cM;have HOK:=aD hok;have HMEE:=aD hme;have HKQ:=aD hkp;clear hsv hms hok hme hkp;go_wp2_with fail;refine cM.mono ?_;rintro r w8 ⟨rfl,H',T',hms8,hme8,hrs8,hk8⟩
      have HOK8:P3 (∀k,k<n->Okm (fN l) H' T' k):=fun k hk=>by
       by_cases e1:k=i
       ·subst e1;exact .inr hme8
       ·have h1:=hrs8 k hk e1;by_cases e2:muR l k<=muR l i
        ·exact(h1.1 e2).1
        ·have h2:=h1.2 (by omega);have h3:=HOK.o k hk;unfold Okm Me at h3⊢;rw[h2.1,h2.2];exact h3
      have HME8:P3 (∀k,k<i+1->Me (fN l) H' T' k):=fun k hk=>by
       by_cases e1:k=i
       ·subst e1;exact hme8
       ·have h1:=hrs8 k (by omega) e1;have h3:=HMEE.o k (by omega);by_cases e2:muR l k<=muR l i
        ·exact(h1.1 e2).2 h3
        ·have h2:=h1.2 (by omega);unfold Me at h3⊢;rw[h2.1,h2.2];exact h3
      have HK8:=aD (HKQ.o.trans hk8);have HMS8:=aD hms8;clear cM hms8 hme8 hrs8 hk8;go_wp2_with fail;go_roundw;case rel=>exact⟨i+1,H',T',by go_num,by omega,HMS8.o,HOK8.o,HME8.o,HK8.o⟩
      case measure=>simp[intOf];omega
     ·have hil': ¬(i:Int)<(n:Int):=(by omega);obtain rfl:n=i:=(by omega);have hms9:eW go n sv (fun k=>(fN l k).1) (fun k=>(fN l k).2) wr:=hms.congr fun k hk=>hme k hk
      have hsv9: ∀k,k<n-> ∃p ln c,sv k= .slice p ln c/\ln<=700:=fun k hk=>by
       obtain⟨g',c',e',_⟩:=(HLD.o k hk).1.form (HLB.o k hk).1;exact⟨_,_,_,e',(HLB.o k hk).2⟩
      have cI:=AI n go n sv (fN l) wr hms9 hsv9 (by omega)
      have HIV:P3 (∀(W:World) (c xs:Array Value),ao wr W->W.heap[w.heap.size]? =ah c 47-> ∀u,mZ (W.setRow w.heap.size xs) u->InV u (.slice (some (ae go 0)) n n) (eR l)):=fun W c xs hW hg u hu=>by
       refine MN HCN.o (by omega) (((hms9.below hW).same (aT W w.heap.size go xs (fun e=>hgrne e.symm))).ty hu) (fun k hk=>((((HLD.o k hk).1.kept HMS.o hkp).below hW).set hg xs).ty hu) HLB.o (fun k hk p hp=>(((((HLD.o k hk).2.2 p hp).kept HMS.o hkp).below hW).set hg xs).ty hu) (fun k hk=>(HLD.o k hk).2.1)
      have hk9:=HKP.o.trans hkp;have HB9:=aD (xS HBM.o hk9 hwgo hszM);have HR9:=aD ((hk9.block _ (aF HRM.o) (fun e=>hgrne (aK e))).trans HRM.o);obtain⟨fx,hfx⟩:=aq (jJ (fN l) n 0);rw[hfx]at cI;have HFX:P3 (jJ (fN l) l.length 0=fx):=(by show _=_;rw[HLL.o];exact hfx);have hfb: -1<=fx/\fx<=(n:Int):=(by rw[<-hfx];exact Ii (fN l) n 0 n (by omega));clear hms hok hme hkp hms9 hsv9 hk9 hfx HMS HLD HME;go_wp2_with fail;refine cI.mono ?_;rintro r w9 ⟨rfl,b9⟩;have n9:=ai b9 HR9.o;have hb9:=au HB9.o b9;have HIV9:=aD (HIV.o w9 _ #[ag 0,ag 0] b9 n9);have hw9:=aF n9;clear cI HIV HB9 HR9 b9;by_cases hf0:0<=fx
      ·have HCF:P3 (ii l=(4,fx)):=by
        show _=_;unfold ii;rw[aw (by simpa using H0.o),HFX.o,ay hf0]
       have HO:P3 (xR l w (.returned (.tuple #[af,.agg #[ag 4,ag fx]])) (w9.setRow w.heap.size #[ag 4,ag fx])):=by
        refine⟨_,by rw[HCF.o],fun e=> ?_,fun _=>rfl,below_setRow hb9 (aA _) _⟩;rw[HCF.o]at e;exact absurd e (by show¬(4:Int)=0;omega)
       have HNN:=aD (aJ _ _ _ #[ag 4,ag fx] _ _ n9);clear HIV9 hb9;go_wp2_with(refine az rfl 47 _ _ rfl _ _ rfl rfl _ _ n9 (by kernel_rfl) (by simp) (by simp[Value.oneCell']) ?_)
       exact tN w.heap.size _ 4 fx rfl rfl rfl HNN.o HO.o
      ·have HCF:P3 (ii l=(0,0)):=by
        show _=_;unfold ii;rw[aw (by simpa using H0.o),HFX.o,aw hf0]
       have HO:P3 (xR l w (.returned (.tuple #[.slice (some (ae go 0)) n n,.agg #[ag 0,ag 0]])) (w9.setRow w.heap.size #[ag 0,ag 0])):=by
        refine⟨_,by rw[HCF.o],fun _=> ?_,fun e=> ?_,below_setRow hb9 (aA _) _⟩
        ·exact HIV9.o
        ·rw[HCF.o]at e;exact absurd rfl e
       have HNN:=aD (aJ _ _ _ #[ag 0,ag 0] _ _ n9);clear HIV9 hb9;go_wp2_with(refine az rfl 47 _ _ rfl _ _ rfl rfl _ _ n9 (by kernel_rfl) (by simp) (by simp[Value.oneCell']) ?_)
       exact tN w.heap.size _ 0 0 rfl rfl rfl HNN.o HO.o
 ·have H0:=aD h0
  have HF:P3 (ii l=((di l).1,((di l).2:Int))):=by
   show _=_;unfold ii;rw[ay h0]
  have hne:((di l).1 !=0)=true:=(by simpa using h0);have bC:=am w1 (.cells #[ag (di l).1,ag ((di l).2:Int)] 47);have HBw:=aD (au hb1w bC);have n9:=ai bC m2;have m3:=aC w1 (.cells #[ag (di l).1,ag ((di l).2:Int)] 47);clear bC hb1w m2 h0;generalize hw2:w1.alloc (.cells #[ag (di l).1,ag ((di l).2:Int)] 47)=wB at*
  have HO:P3 (∀W,ao w W->xR l w (.returned (.tuple #[af,.agg #[ag (di l).1,ag ((di l).2:Int)]])) W):=fun W hW=>by
   refine⟨_,by rw[HF.o],fun e=> ?_,fun _=>rfl,hW⟩;rw[HF.o]at e;exact absurd e H0.o
  have z0:=ak 0 m3;have z1:=ak 1 m3;have y0:=ak 0 n9;have y1:=ak 1 n9;have x0:=bl _ _ 0 _ _ n9;have x1:=bl _ _ 1 _ _ n9;have hmm:=aX _ _ 1 _ _ (ag ((di l).2:Int)) (aX _ _ 0 _ _ (ag (di l).1) n9);have HBB:=aD ((HBw.o.setCell (p:=⟨w.heap.size,0,none⟩) (aA _) (ag (di l).1)).setCell (p:=⟨w.heap.size,1,none⟩) (aA _) (ag ((di l).2:Int)));have HMM:=aD hmm;clear hmm n9 m3;clear HF H0;generalize (di l).1=er at*;generalize (((di l).2:Nat):Int)=at0 at*;go_wp2_with fail;go_region;go_wp2_with fail;exact tN w.heap.size _ er at0 rfl rfl rfl HMM.o (HO.o _ (dr HBB.o 1))
end Go.Proofs.YtjkilacmkbmmbaaGreatDoor
