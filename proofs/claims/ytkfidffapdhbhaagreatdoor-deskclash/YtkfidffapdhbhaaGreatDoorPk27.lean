/- Texts of the proof. -/
import Derived.Test.YtkfidffapdhbhaaGreatDoorPk26
open Go.Proofs.Tryz
set_option maxRecDepth 100000
set_option maxHeartbeats 8000000
namespace Go.Proofs.YtkfidffapdhbhaaGreatDoor
section
open Go.RowKit Lx Vx Msk
theorem lC {l:List Ru}{ks:List Ex}{j b:Nat}(h: ∀k∈ks,OKE k):(kG l ks j b).length<=((ks.take j).map iM).sum:=by
 unfold kG;have h': ∀k∈ks.take j,OKE k:=fun k hk=>h k (List.mem_of_mem_take hk);generalize ks.take j=ks' at*;clear h;induction ks' generalizing b with
 |nil=>simp[jM]
 |cons k ks ih=>
  have h1:=(lB (atP5 l) _ k (az _) (h' k bo) b).2;have h2:=ih (b:=b+(bK (atP5 l) k b).length) fun k' hk'=>h' k' (bx _ hk');simp only[dD,jM,aN,iJ];omega
theorem rZ {ks:List Ex}{j:Nat}{k:Ex}(h:ks[j]? =some k):((ks.take j).map iM).sum+iM k<=(ks.map iM).sum:=by
 have h1:ks=ks.take j++(k::ks.drop (j+1)):=by
  conv=>lhs;rw[<-gh j ks]
  congr 1;have hj:=(aE.1 h).1;rw[bq hj,(aE.1 h).2]
 conv=>rhs;rw[h1]
 rw[dU,List.sum_append,dD,iJ];omega
theorem Lw {w w':World}(h:Tab w)(hb:Below w.heap.size w w'):Tab w':=jX h hb
theorem zd (w0:World)(gm mb d:Nat)(l:List Ru)(e:Ex)(p:Option Addr)(c:Nat)(S:List (In×Value))(W0:World)(h:WOk w0 gm (.map (some mb)) S W0)(hmp:iU w0 mb l)(hT:Tab w0)(hr:Rt e)(hn:e.name.length<=9223372036854775807)(hkb:fK (fun k=>k<w0.heap.size) d w0 (.slice p e.kids.length c) e.kids)(hk:e.kids=[]\/JV w0 gm (.map (some mb)) l (.slice p e.kids.length c) e.kids)(hnm: ∀x∈nms e,0<=atP5 l x)(hS:S.length+iM e<=700):
  Calls prog 69 #[ab gm 0,.agg #[ag e.kind,ag e.a,ag e.b,.string ⟨e.name.toArray⟩,.slice p e.kids.length c]] W0 (mO w0 gm (.map (some mb)) S (bK (atP5 l) e S.length) W0):=by
 have HKB:=aY hkb;have bA:=am W0 (.cells #[ag e.kind,ag e.a,ag e.b,.string ⟨e.name.toArray⟩,.slice p e.kids.length c] 104);have nA:=aD W0 (.cells #[ag e.kind,ag e.a,ag e.b,.string ⟨e.name.toArray⟩,.slice p e.kids.length c] 104);have hA:=h.below bA;have hfA:=Fr2.below h.lt bA;obtain⟨gE,hgE⟩: ∃q,W0.heap.size=q:=⟨_,rfl⟩
 generalize hwA:W0.alloc (.cells #[ag e.kind,ag e.a,ag e.b,.string ⟨e.name.toArray⟩,.slice p e.kids.length c] 104)=wA at*;rw[hgE]at nA;have hkA:fK (fun k=>k<w0.heap.size) d wA (.slice p e.kids.length c) e.kids:=HKB.o.kept fun g hg _=>hA.st.bel.block g hg;have cS:=EF d e _ wA hkA;unfold exV uf at cS;have HA:=aY hA;have HFA:=aY hfA;have HMP:=aY hmp;have HT:=aY hT;clear bA hA hfA hkA h hkb hmp hT;go_enter func69,ntmps69;go_wp2_with(refine aO rfl 104 _ rfl _ rfl _ _ _ _ nA eQ rfl (by kernel_rfl) ?_)
 refine cS.mono ?_;rintro r w1 ⟨rfl,b1⟩;have HOK1:=aY (HA.o.below b1);have HF1:=aY (HFA.o.trans (Fr2.below HA.o.lt b1));have nA1:=ai b1 nA;clear cS nA hwA HA HFA b1;cases hstd:stdE e with
 |true=>
  have hb1:=HOK1.o.st.bel;have cM:=Cn d e (.slice p e.kids.length c) w1 hr hstd hn ((HKB.o.kept fun g hg _=>hb1.block g hg).mono fun g hg=>aR hg hb1.size);unfold exV at cM;have HCD:=aY (nL (num:=atP5 l) hstd S.length);have HT1:=aY (Lw HT.o hb1);clear hb1 hk hr hn hnm hstd;go_wp2_with(refine aO rfl 104 _ rfl _ rfl _ _ _ _ nA1 eQ rfl (by kernel_rfl) ?_)
  refine cM.mono ?_;rintro r w2 ⟨rfl,b2⟩;have cP:=yL (mnE e) w2 (jX HT1.o b2);have HOK2:=aY (HOK1.o.below b2);have HF2:=aY (HF1.o.trans (Fr2.below HOK1.o.lt b2));clear cM nA1 b2;go_wp2_with fail;refine cP.mono ?_;rintro r w3 ⟨⟨v3,rfl,own3⟩,_,b3⟩;have hsp:=gQ.of_own own3;have hok3:=HOK2.o.below b3;have HF3:=aY (HF2.o.trans (Fr2.below HOK2.o.lt b3));have cW:=ug hok3 ⟨1,0,0,0,rs (mnE e) 1440⟩ v3 hsp (by omega);dsimp only at cW;obtain⟨p3,n3,c3,hv3⟩:=hsp.form;subst hv3;clear cP own3 hsp hok3 b3;go_wp2_with fail;refine cW.mono ?_;rintro r w9 ⟨rfl,hok9,hfr9⟩;have HN:OK (mO w0 gm (.map (some mb)) S (bK (atP5 l) e S.length) W0 (.returned (.tuple #[])) w9):=⟨rfl,_,by rw[HCD.o];rfl,hok9,HF3.o.trans hfr9⟩
  clear cW hok9 hfr9;go_wp2_with fail;exact⟨rfl,_,en rfl _ _ _,HN.o⟩
 |false=>
  have z0:=ak 0 nA1;have z1:=ak 1 nA1;have z2:=ak 2 nA1;have z3:=ak 3 nA1;have z4:=ak 4 nA1;clear nA1 hn;rcases mM hr.ok hstd with⟨hkd,hkx⟩|⟨hkd,hkx⟩|⟨hkd,hkx⟩|hkd|⟨hkd,hkx⟩
  ·have e4:(e.kind==4)=true:=(by simp[hkd]);obtain⟨k,hk1⟩:=hkx;obtain⟨g,o,c',hsl,hg0,hkl,hkid⟩:=hk.resolve_left (by rw[hk1];simp);injection hsl with e1 e2 e3;subst e1 e3;have hk0:e.kids[0]? =some k:=(by rw[hk1];rfl);obtain⟨pk,qk,d0,d1,d2,d3,d4,ihk⟩:=hkid 0 k hk0;simp only[Nat.zero_mul,Nat.add_zero]at d0 d1 d2 d3 d4;have hb1:=HOK1.o.st.bel;have f0:=aj hb1 d0;have f1:=aj hb1 d1;have f2:=aj hb1 d2;have f3:=aj hb1 d3;have f4:=aj hb1 d4;have hl1:(e.kids.length:Int)=1:=(by rw[hk1];rfl);have hkm:k∈e.kids:=(by rw[hk1];simp)
   have hnk:S.length+1+iM k<=700:=by
    have:=lM e;rw[hk1]at this;simp only[dD,eY,iJ,List.sum_nil]at this;omega
   have hln:=(lB (atP5 l) _ k (az _) (hr.ok.kid hkm) (S.length+1)).2;have HCD:=aY (oG (num:=atP5 l) hkd hk0 S.length);have HIH:=aY ihk;clear d0 d1 d2 d3 d4 ihk hkid hb1 hk hk1 hk0 hkm hr hstd hkl hg0;go_wp2_with fail;refine ju 8 [kn 16 (ab gm 0),kn 17 (ab gE 1),kn 18 (ag e.a),kn 19 (.agg #[ag 6,ag e.a,ag 0,ag 0,af]),kn 20 (ab gE 4),kn 21 (.slice (some (ae g o)) e.kids.length c),kn 22 (ab g o),kn 23 (.agg #[ag k.kind,ag k.a,ag k.b,.string ⟨k.name.toArray⟩,.slice pk k.kids.length qk]),td 24] (by kernel_rfl) (by kernel_rfl) fun M φ W _ hJ F l hl hF=> ?_;have y0_:=aj hJ z1;have y1_:=aj hJ z4;have y2_:=aj hJ f0;have y3_:=aj hJ f1;have y4_:=aj hJ f2;have y5_:=aj hJ f3;have y6_:=aj hJ f4;simp only[kn,td,dQ,aP,aW,Act.put,aA,aI,aH]at hl;subst hl;simp only[dc,Nat.reduceAdd]at hF;dsimp only[kn,td,dx,eo,dV,Act.put];and_intros;all_goals first|exact trivial|intro hw hn hm K hK
   all_goals try (go_simp;with_reducible exact hK _ _ ⟨rfl,aG _ _⟩)
   clear y0_ y1_ y2_ y3_ y4_ y5_ y6_;have hokW:=HOK1.o.below hJ;have hgmW:=HOK1.o.lt;have cC:=uG w0 gm (.map (some mb)) l k pk qk 6 e.a 0 S W hokW HIH.o hnk (by omega);go_simp;refine cC.mono ?_;rintro r w9 ⟨rfl,S',hS',hok9,hfr9⟩;have HN:OK (mO w0 gm (.map (some mb)) S (bK (atP5 l) e S.length) W0 (.returned (.tuple #[])) w9):=⟨rfl,S',hS'.trans HCD.o.symm,hok9,(HF1.o.trans (Fr2.below hgmW hJ)).trans hfr9⟩
   refine hK _ _ ⟨trivial,fun c=>by simp at c,fun _=> ?_⟩;simp only[dX,aP,aW,Act.put,aA,aI,aH];clear hF hw hn hm;clear hK hJ cC hokW hS' hok9 hfr9;go_wp2_with fail;exact⟨rfl,_,en rfl _ _ _,HN.o⟩
  ·have e4:(e.kind==4)=false:=(by simp[hkd]);have e5:(e.kind==5)=true:=(by simp[hkd]);obtain⟨k,hk1⟩:=hkx;obtain⟨g,o,c',hsl,hg0,hkl,hkid⟩:=hk.resolve_left (by rw[hk1];simp);injection hsl with e1 e2 e3;subst e1 e3;have hk0:e.kids[0]? =some k:=(by rw[hk1];rfl);obtain⟨pk,qk,d0,d1,d2,d3,d4,ihk⟩:=hkid 0 k hk0;simp only[Nat.zero_mul,Nat.add_zero]at d0 d1 d2 d3 d4;have hb1:=HOK1.o.st.bel;have f0:=aj hb1 d0;have f1:=aj hb1 d1;have f2:=aj hb1 d2;have f3:=aj hb1 d3;have f4:=aj hb1 d4;have hl1:(e.kids.length:Int)=1:=(by rw[hk1];rfl);have hkm:k∈e.kids:=(by rw[hk1];simp)
   have hnk:S.length+1+iM k<=700:=by
    have:=lM e;rw[hk1]at this;simp only[dD,eY,iJ,List.sum_nil]at this;omega
   have hln:=(lB (atP5 l) _ k (az _) (hr.ok.kid hkm) (S.length+1)).2;have HCD:=aY (mL (num:=atP5 l) hkd hk0 S.length);have HIH:=aY ihk;clear d0 d1 d2 d3 d4 ihk hkid hb1 hk hk1 hk0 hkm hr hstd hkl hg0;go_wp2_with fail;refine ju 10 [kn 27 (ab gm 0),kn 28 (ab gE 1),kn 29 (ag e.a),kn 30 (ab gE 2),kn 31 (ag e.b),kn 32 (.agg #[ag 7,ag e.a,ag e.b,ag 0,af]),kn 33 (ab gE 4),kn 34 (.slice (some (ae g o)) e.kids.length c),kn 35 (ab g o),kn 36 (.agg #[ag k.kind,ag k.a,ag k.b,.string ⟨k.name.toArray⟩,.slice pk k.kids.length qk]),td 37] (by kernel_rfl) (by kernel_rfl) fun M φ W _ hJ F l hl hF=> ?_;have y0_:=aj hJ z1;have y1_:=aj hJ z2;have y2_:=aj hJ z4;have y3_:=aj hJ f0;have y4_:=aj hJ f1;have y5_:=aj hJ f2;have y6_:=aj hJ f3;have y7_:=aj hJ f4;simp only[kn,td,dQ,aP,aW,Act.put,aA,aI,aH]at hl;subst hl;simp only[dc,Nat.reduceAdd]at hF;dsimp only[kn,td,dx,eo,dV,Act.put];and_intros;all_goals first|exact trivial|intro hw hn hm K hK
   all_goals try (go_simp;with_reducible exact hK _ _ ⟨rfl,aG _ _⟩)
   clear y0_ y1_ y2_ y3_ y4_ y5_ y6_ y7_;have hokW:=HOK1.o.below hJ;have hgmW:=HOK1.o.lt;have cC:=uG w0 gm (.map (some mb)) l k pk qk 7 e.a e.b S W hokW HIH.o hnk (by omega);go_simp;refine cC.mono ?_;rintro r w9 ⟨rfl,S',hS',hok9,hfr9⟩;have HN:OK (mO w0 gm (.map (some mb)) S (bK (atP5 l) e S.length) W0 (.returned (.tuple #[])) w9):=⟨rfl,S',hS'.trans HCD.o.symm,hok9,(HF1.o.trans (Fr2.below hgmW hJ)).trans hfr9⟩
   refine hK _ _ ⟨trivial,fun c=>by simp at c,fun _=> ?_⟩;simp only[dX,aP,aW,Act.put,aA,aI,aH];clear hF hw hn hm;clear hK hJ cC hokW hS' hok9 hfr9;go_wp2_with fail;exact⟨rfl,_,en rfl _ _ _,HN.o⟩
  ·have e4:(e.kind==4)=false:=(by simp[hkd]);have e5:(e.kind==5)=false:=(by simp[hkd]);have e9:(e.kind==9)=true:=(by simp[hkd]);have hke:=hk.resolve_left (by rw[hkx.choose_spec];simp);have hbk: ∀k∈e.kids,OKE k:=fun k hk=>hr.ok.kid hk;have hsn:=lM e
   have cC:=o7 w0 gm (.map (some mb)) l e.kids _ 5 e.a S w1 HOK1.o hke (fun j k hj=>by
    have h1:=lC (l:=l) (ks:=e.kids) (j:=j) (b:=S.length) hbk;have h2:=rZ hj;omega) (by
    have h1:=lC (l:=l) (ks:=e.kids) (j:=e.kids.length) (b:=S.length) hbk;rw[fN]at h1;omega)
   have HCD:OK (bK (atP5 l) e S.length=jM (e.kids.map (bK (atP5 l))) S.length++[⟨5,e.a,0,0,[]⟩]):=by
    show _=_;rw[nN hstd (by omega) (by omega) (by omega)];unfold opK;simp[hkd]
   clear hke hbk hsn hk hkx hr hstd;go_wp2_with fail;refine cC.mono ?_;rintro r w9 ⟨rfl,S',hS',hok9,hfr9⟩;have HN:OK (mO w0 gm (.map (some mb)) S (bK (atP5 l) e S.length) W0 (.returned (.tuple #[])) w9):=⟨rfl,S',hS'.trans HCD.o.symm,hok9,HF1.o.trans hfr9⟩
   clear cC hS' hok9 hfr9;go_wp2_with fail;exact⟨rfl,_,en rfl _ _ _,HN.o⟩
  ·have e4:(e.kind==4)=false:=(by simp[hkd]);have e5:(e.kind==5)=false:=(by simp[hkd]);have e9:(e.kind==9)=false:=(by simp[hkd]);have e10:(e.kind==10)=true:=(by simp[hkd])
   have zm:w1.cell? (ae gm 0)=some (.map (some mb)):=by
    obtain⟨_,_,sv,n1,_⟩:=HOK1.o.st;exact ak 0 n1
   have HNM:=aY (hnm _ (ue hkd));have HCD:=aY (oF (num:=atP5 l) hkd S.length);have hmb:=gH HMP.o;have HMP1:=aY (HMP.o.later (HOK1.o.st.bel.block _ hmb));have HMB:=aY (aR hmb HOK1.o.st.bel.size);clear hnm hk hr hstd hmb;go_wp2_with fail;refine ju 9 [kn 49 (ab gm 0),kn 50 (ab gm 0),kn 51 (ab gm 0),kn 52 (ab gm 0),kn 53 (.map (some mb)),kn 54 (ab gE 3),kn 55 (.string ⟨e.name.toArray⟩),kn 56 (ag (atP5 l e.name)),kn 57 (.agg #[ag 8,ag (atP5 l e.name),ag 0,ag 0,af]),td 58] (by kernel_rfl) (by kernel_rfl) fun M φ W _ hJ F l hl hF=> ?_;have y0_:=aj hJ zm;have y1_:=aj hJ z3;have y2_:=D1 (HMP1.o.later (hJ.block _ HMB.o)) e.name HNM.o;simp only[kn,td,dQ,aP,aW,Act.put,aA,aI,aH]at hl;subst hl;simp only[dc,Nat.reduceAdd]at hF;dsimp only[kn,td,dx,eo,dV,Act.put];and_intros;all_goals first|exact trivial|intro hw hn hm K hK
   all_goals try (go_simp;with_reducible exact hK _ _ ⟨rfl,aG _ _⟩)
   clear y0_ y1_ y2_;have hokW:=HOK1.o.below hJ;have hgmW:=HOK1.o.lt;have cC:=ug hokW ⟨8,atP5 l e.name,0,0,[]⟩ (af) (gQ.nil _ _ _) (by omega);dsimp only at cC;go_simp;refine cC.mono ?_;rintro r w9 ⟨rfl,hok9,hfr9⟩;have HN:OK (mO w0 gm (.map (some mb)) S (bK (atP5 l) e S.length) W0 (.returned (.tuple #[])) w9):=⟨rfl,_,by rw[HCD.o];rfl,hok9,(HF1.o.trans (Fr2.below hgmW hJ)).trans hfr9⟩
   refine hK _ _ ⟨trivial,fun c=>by simp at c,fun _=> ?_⟩;simp only[dX,aP,aW,Act.put,aA,aI,aH];clear hF hw hn hm;clear hK hJ cC hokW hok9 hfr9;go_wp2_with fail;exact⟨rfl,_,en rfl _ _ _,HN.o⟩
  ·rcases hkd with hkd|hkd|hkd
   ·have e4:(e.kind==4)=false:=(by simp[hkd]);have e5:(e.kind==5)=false:=(by simp[hkd]);have e9:(e.kind==9)=false:=(by simp[hkd]);have e10:(e.kind==10)=false:=(by simp[hkd]);have e6:(e.kind==6)=true:=(by simp[hkd]);have hke:=hk.resolve_left (by rw[hkx.choose_spec.choose_spec];simp);have hbk: ∀k∈e.kids,OKE k:=fun k hk=>hr.ok.kid hk;have hsn:=lM e
    have cC:=o7 w0 gm (.map (some mb)) l e.kids _ 2 0 S w1 HOK1.o hke (fun j k hj=>by
     have h1:=lC (l:=l) (ks:=e.kids) (j:=j) (b:=S.length) hbk;have h2:=rZ hj;omega) (by
     have h1:=lC (l:=l) (ks:=e.kids) (j:=e.kids.length) (b:=S.length) hbk;rw[fN]at h1;omega)
    have HCD:OK (bK (atP5 l) e S.length=jM (e.kids.map (bK (atP5 l))) S.length++[⟨2,0,0,0,[]⟩]):=by
     show _=_;rw[nN hstd (by omega) (by omega) (by omega)];unfold opK;simp[hkd]
    clear hke hbk hsn hk hkx hr hstd;go_wp2_with fail;refine cC.mono ?_;rintro r w9 ⟨rfl,S',hS',hok9,hfr9⟩;have HN:OK (mO w0 gm (.map (some mb)) S (bK (atP5 l) e S.length) W0 (.returned (.tuple #[])) w9):=⟨rfl,S',hS'.trans HCD.o.symm,hok9,HF1.o.trans hfr9⟩
    clear cC hS' hok9 hfr9;go_wp2_with fail;exact⟨rfl,_,en rfl _ _ _,HN.o⟩
   ·have e4:(e.kind==4)=false:=(by simp[hkd]);have e5:(e.kind==5)=false:=(by simp[hkd]);have e9:(e.kind==9)=false:=(by simp[hkd]);have e10:(e.kind==10)=false:=(by simp[hkd]);have e6:(e.kind==6)=false:=(by simp[hkd]);have e7:(e.kind==7)=true:=(by simp[hkd]);have hke:=hk.resolve_left (by rw[hkx.choose_spec.choose_spec];simp);have hbk: ∀k∈e.kids,OKE k:=fun k hk=>hr.ok.kid hk;have hsn:=lM e
    have cC:=o7 w0 gm (.map (some mb)) l e.kids _ 3 0 S w1 HOK1.o hke (fun j k hj=>by
     have h1:=lC (l:=l) (ks:=e.kids) (j:=j) (b:=S.length) hbk;have h2:=rZ hj;omega) (by
     have h1:=lC (l:=l) (ks:=e.kids) (j:=e.kids.length) (b:=S.length) hbk;rw[fN]at h1;omega)
    have HCD:OK (bK (atP5 l) e S.length=jM (e.kids.map (bK (atP5 l))) S.length++[⟨3,0,0,0,[]⟩]):=by
     show _=_;rw[nN hstd (by omega) (by omega) (by omega)];unfold opK;simp[hkd]
    clear hke hbk hsn hk hkx hr hstd;go_wp2_with fail;refine cC.mono ?_;rintro r w9 ⟨rfl,S',hS',hok9,hfr9⟩;have HN:OK (mO w0 gm (.map (some mb)) S (bK (atP5 l) e S.length) W0 (.returned (.tuple #[])) w9):=⟨rfl,S',hS'.trans HCD.o.symm,hok9,HF1.o.trans hfr9⟩
    clear cC hS' hok9 hfr9;go_wp2_with fail;exact⟨rfl,_,en rfl _ _ _,HN.o⟩
   ·have e4:(e.kind==4)=false:=(by simp[hkd]);have e5:(e.kind==5)=false:=(by simp[hkd]);have e9:(e.kind==9)=false:=(by simp[hkd]);have e10:(e.kind==10)=false:=(by simp[hkd]);have e6:(e.kind==6)=false:=(by simp[hkd]);have e7:(e.kind==7)=false:=(by simp[hkd]);have e8:(e.kind==8)=true:=(by simp[hkd]);have hke:=hk.resolve_left (by rw[hkx.choose_spec.choose_spec];simp);have hbk: ∀k∈e.kids,OKE k:=fun k hk=>hr.ok.kid hk;have hsn:=lM e
    have cC:=o7 w0 gm (.map (some mb)) l e.kids _ 4 0 S w1 HOK1.o hke (fun j k hj=>by
     have h1:=lC (l:=l) (ks:=e.kids) (j:=j) (b:=S.length) hbk;have h2:=rZ hj;omega) (by
     have h1:=lC (l:=l) (ks:=e.kids) (j:=e.kids.length) (b:=S.length) hbk;rw[fN]at h1;omega)
    have HCD:OK (bK (atP5 l) e S.length=jM (e.kids.map (bK (atP5 l))) S.length++[⟨4,0,0,0,[]⟩]):=by
     show _=_;rw[nN hstd (by omega) (by omega) (by omega)];unfold opK;simp[hkd]
    clear hke hbk hsn hk hkx hr hstd;go_wp2_with fail;refine cC.mono ?_;rintro r w9 ⟨rfl,S',hS',hok9,hfr9⟩;have HN:OK (mO w0 gm (.map (some mb)) S (bK (atP5 l) e S.length) W0 (.returned (.tuple #[])) w9):=⟨rfl,S',hS'.trans HCD.o.symm,hok9,HF1.o.trans hfr9⟩
    clear cC hS' hok9 hfr9;go_wp2_with fail;exact⟨rfl,_,en rfl _ _ _,HN.o⟩
theorem Jm (w0:World)(gm mb:Nat)(l:List Ru)(hmp:iU w0 mb l)(hT:Tab w0): ∀(d:Nat) (e:Ex) (sl:Value),fK (fun k=>k<w0.heap.size) d w0 sl e.kids->Rt e->e.name.length<=9223372036854775807->(∀x∈nms e,0<=atP5 l x)->EG w0 gm (.map (some mb)) l e sl:=by
 intro d;induction d with
 |zero=>
  intro e sl hk hr hn hnm S W h hS;obtain⟨p,c,rfl⟩:=hk.form;exact zd w0 gm mb 0 l e p c S W h hmp hT hr hn hk (.inl hk.1) hnm hS
 |succ d ih=>
  intro e sl hk hr hn hnm S W h hS;obtain⟨p,c,hsl⟩:=hk.form;subst hsl;refine zd w0 gm mb (d+1) l e p c S W h hmp hT hr hn hk ?_ hnm hS;rcases hk with⟨h,_⟩|⟨g,o,c',hg,hs,hl,hkid⟩
  ·exact .inl h
  ·refine .inr ⟨g,o,c',hs,hg,hl,fun j k hj=> ?_⟩;obtain⟨hn',sk,c0,c1,c2,c3,c4,r⟩:=hkid j k hj;obtain⟨p',q',rfl⟩:=r.form;have hkm:=aK hj;exact⟨p',q',c0,c1,c2,c3,c4,ih k _ r (hr.kid hkm) hn' fun x hx=>hnm x (ud hkm hx)⟩
end
section
open Go.RowKit Lx Vx Msk
theorem Cq (C:List (List In))(ρ:Nat->Nat)(mea:Nat->Int×Int)(hR:rz C ρ)(hsm:qA (eD C mea))(n go c:Nat)(hn:n=C.length)(hn9:n<=1000)(sv:Nat->Value)(Ss:Nat->List (In×Value))(hS: ∀k,k<n->(Ss k).map (fun u=>u.1)=C.getD k [])(hL: ∀k,k<n->1<=(Ss k).length/\(Ss k).length<=700)(hV: ∀k,k<n-> ∀u∈Ss k,∃p m c,u.2= .slice p m c)(hme: ∀i,i<n->mea i=lO C mea i)(h1: ∀i,i<n->1<=(mea i).2):
  ∀(r i:Nat),ρ i<=r->i<n-> ∀(H T:Nat->Int) (w:World),fk go n sv H T w->(∀q,q<n->jF w (sv q) (Ss q))->(∀q,q<n->ρ q<=ρ i->Okm mea H T q)->Calls prog 70 #[.slice (some (ae go 0)) n c,ag (i:Int)] w (vn mea ρ go n sv i H T w):=by
 intro r;induction r with
 |zero=>
  intro i hr hi H T w hm hq hok;exact tg C ρ mea hR hsm n go c hn hn9 sv Ss hS hL hV i hi (hme i hi) (h1 i hi) (fun k _ hk=>by omega) H T w hm hq hok
 |succ r ih=>
  intro i hr hi H T w hm hq hok;exact tg C ρ mea hR hsm n go c hn hn9 sv Ss hS hL hV i hi (hme i hi) (h1 i hi) (fun k hkn hk H T w hm hq hok=>ih k (by omega) hkn H T w hm hq hok) H T w hm hq hok
def mP (m:Int×Int):Bool:=decide (100<m.1)||decide (20000<m.2)
def jG (m:Nat->Int×Int):Nat->Nat->Int
 |0,_=> -1
 |k+1,j=>if mP (m j)=true then(j:Int) else jG m k (j+1)
theorem Cr (p:Option Addr)(ln c:Nat)(h t:Int)(w:World)(hl:ln<=700):
  Calls prog 72 #[.agg #[.slice p ln c,ag h,ag t]] w fun e w'=>e= .returned (.bool (mP (h,t)))/\Below w.heap.size w w':=by
 have bA:=am w (.cells #[.slice p ln c,ag h,ag t] 142);have nA:=aD w (.cells #[.slice p ln c,ag h,ag t] 142);generalize hwA:w.alloc (.cells #[.slice p ln c,ag h,ag t] 142)=wA at*;have z0:=ak 0 nA;have z1:=ak 1 nA;have z2:=ak 2 nA;have hl1:(ln:Int)<=700:=by omega
 by_cases h1:100<h
 ·have HM:OK (mP (h,t)=true):=by show _=_;simp[mP,h1]
  rw[HM.o];clear nA hl;go_enter func72,ntmps72;go_wp2_with fail;go_ret;exact⟨rfl,bA⟩
 ·by_cases h2:20000<t
  ·have HM:OK (mP (h,t)=true):=(by show _=_;simp[mP,h2]);rw[HM.o];clear nA hl;go_enter func72,ntmps72;go_wp2_with fail;go_ret;exact⟨rfl,bA⟩
  ·have HM:OK (mP (h,t)=false):=(by show _=_;simp[mP,h1,h2]);rw[HM.o];have hl2: ¬(2000:Int)<(ln:Int):=(by omega);clear nA;go_enter func72,ntmps72;go_wp2_with fail;go_ret;exact⟨rfl,bA⟩
theorem zJ (n go c:Nat)(sv:Nat->Value)(m:Nat->Int×Int)(w:World)(hm:fk go n sv (fun k=>(m k).1) (fun k=>(m k).2) w)(hsv: ∀k,k<n-> ∃p ln c,sv k= .slice p ln c/\ln<=700)(hn:n<=1000):
  Calls prog 71 #[.slice (some (ae go 0)) n c,.func (.func 72) #[] #[]] w fun e w'=>e= .returned (ag (jG m n 0))/\Below w.heap.size w w':=by
 have HM:=aY hm;have HSV:=aY hsv;have hn1:(n:Int)<=1000:=by omega
 clear hm hsv;go_enter func71,ntmps71;go_wp2_with fail;go_loopw [5,8] (fun _ t wr=> ∃j:Nat,t=ag (j:Int)/\j<=n/\jG m n 0=jG m (n-j) j/\Below w.heap.size w wr) (fun _ t _=>n-(intOf t).toNat);case atStart=>exact⟨0,rfl,by omega,by rw[Nat.sub_zero],aG _ _⟩
 case round=>
  obtain⟨j,rfl,hj,hX,hb⟩:=hrel;have hj0:(0:Int)<=(j:Int):=(by omega);by_cases hlt:j<n
  ·have hlt':(j:Int)<(n:Int):=(by omega);obtain⟨c0,c1,c2,_,_⟩:=(HM.o.below hb).cells hlt;obtain⟨ps,ln,cs,hs,hl⟩:=HSV.o j hlt;rw[hs]at c0;rw[show n-j=(n-(j+1))+1 by omega,jG]at hX;have cT:=Cr ps ln cs (m j).1 (m j).2 wr hl;have HX:=aY hX;generalize hmy:mP ((m j).1,(m j).2)=y at cT;have HMY:OK (mP (m j)=y):=hmy;generalize (m j).1=mh at*;generalize (m j).2=mt at*;clear hs hX hmy;go_wp2_with fail;refine cT.mono ?_;rintro e w1 ⟨rfl,b1⟩;have hb1:=aq hb b1;clear cT b1 hb c0 c1 c2;cases y with
   |true=>
    have HE:OK (jG m n 0=(j:Int)):=(by show _=_;rw[HX.o,ay HMY.o]);clear HX HMY;go_wp2_with fail;go_ret;exact⟨by(rw[HE.o])<;>rfl,hb1⟩
   |false=>
    have HE:OK (jG m n 0=jG m (n-(j+1)) (j+1)):=(by show _=_;rw[HX.o,au (by rw[HMY.o];simp)]);clear HX HMY;go_wp2_with fail;go_roundw;case rel=>exact⟨j+1,by go_num,by omega,HE.o,hb1⟩
    case measure=>simp[intOf];omega
  ·have hlt': ¬(j:Int)<(n:Int):=(by omega)
   have HX:OK (jG m n 0= -1):=by
    show _=_;rw[hX,show n-j=0 by omega];rfl
   clear hX;go_wp2_with fail;go_ret;exact⟨by(rw[HX.o])<;>rfl,hb⟩
theorem xc {num:List UInt8->Int}: ∀(N:Nat) (e:Ex),SizeOf.sizeOf e<=N->OKE e-> ∀(b:Nat) (x:In),x∈bK num e b->x.op=8-> ∃nm∈nms e,x.a=num nm
 |0,e,hN,_,_,_,_,_=>by cases e;simp at hN
 |N+1,e,hN,h,b,x,hx,ho=>by
  have ih: ∀k∈e.kids,∀b,x∈bK num k b-> ∃nm∈nms e,x.a=num nm:=fun k hk b hxk=>by
   obtain⟨nm,h1,h2⟩:=xc N k (by have:=iC hk;omega) (h.kid hk) b x hxk ho;exact⟨nm,ud hk h1,h2⟩
  cases hs:stdE e with
  |true=>
   rw[nL hs,dh]at hx;subst hx;exact absurd ho (by show¬(1:Int)=8;omega)
  |false=>
   rcases mM h hs with⟨q,k,hk⟩|⟨q,k,hk⟩|⟨q,k,hk⟩|q|⟨q,k,m,hk⟩
   ·rw[oG q (by rw[hk];rfl)]at hx;rcases bG.1 hx with rfl|hx
    ·exact absurd ho (by show¬(6:Int)=8;omega)
    ·exact ih k (by rw[hk];simp) _ hx
   ·rw[mL q (by rw[hk];rfl)]at hx;rcases bG.1 hx with rfl|hx
    ·exact absurd ho (by show¬(7:Int)=8;omega)
    ·exact ih k (by rw[hk];simp) _ hx
   ·rw[o6 hs q hk]at hx;rcases bT.1 hx with hx|hx
    ·exact ih k (by rw[hk];simp) _ hx
    ·rw[dh]at hx;subst hx;exact absurd ho (by show¬(5:Int)=8;omega)
   ·rw[oF q,dh]at hx;subst hx;exact⟨_,ue q,rfl⟩
   ·rw[qz hs q hk]at hx;rcases bT.1 hx with hx|hx
    ·rcases bT.1 hx with hx|hx
     ·exact ih k (by rw[hk];simp) _ hx
     ·exact ih m (by rw[hk];simp) _ hx
    ·rw[dh]at hx;subst hx;have:=Da q;exact absurd ho (by show¬opK e.kind=8;omega)
theorem Bq: ∀{l:List (Int×Int)} {j:Nat},j<l.length->(iE l)[j*2+0]? =some (ag (l.getD j (0,0)).1)/\(iE l)[j*2+1]? =some (ag (l.getD j (0,0)).2)
 |[],_,h=>by simp at h
 |_::_,0,_=>⟨rfl,rfl⟩
 |s::l,j+1,h=>by
  have ih:=Bq (l:=l) (j:=j) (by simpa using h)
  have e: ∀i,(iE (s::l))[(j+1)*2+i]? =(iE l)[j*2+i]? :=fun i=>by
   show(_::_::iE l)[(j+1)*2+i]? =_;rw[show(j+1)*2+i=(j*2+i)+1+1 by omega,List.getElem?_cons_succ,List.getElem?_cons_succ]
  rw[e,e];exact ih
theorem gQ.row {w:World}{v:Value}{l:List (Int×Int)}(h:gQ w v l):mC w v l:=by
 rcases h with h|⟨g,c,cur,e,hl,hg,hx⟩
 ·exact .inl h
 ·refine .inr (.inr ⟨g,0,c,e,hl,fun j hj=> ?_⟩)
  have key: ∀(i:Nat) (v:Value),j*2+i<l.length*2->(iE l)[j*2+i]? =some v->w.cell? (ae g (0+j*2+i))=some v:=fun i v hi hv=>by
   refine(aX _ _ _ _ _ _ hg).trans ?_;rw[bN,<-bn];rw[<-hx,dF hi]at hv;exact hv
  have hf:=Bq hj;exact⟨by simpa using key 0 _ (by omega) hf.1,key 1 _ (by omega) hf.2⟩
theorem GR {w:World}{v:Value}{S:List (In×Value)}(h:jF w v S)(h1:1<=S.length)(h9:S.length<=700)(hs: ∀u∈S,gQ w u.2 u.1.sp):oi w v (S.map fun u=>u.1):=by
 obtain⟨g,c,e,hc⟩:=h.form h1;refine⟨S,⟨some ⟨g,0,none⟩,c,e,by omega,fun j u hj=>⟨(hs u (aK hj)).row,g,0,rfl,?_⟩⟩,rfl⟩;obtain⟨d0,d1,d2,d3,d4⟩:=hc j u hj;simp only[bN];exact⟨d0,d1,d2,d3,d4⟩
theorem Ly {w:World}{go n c:Nat}{sv:Nat->Value}{Ss:Nat->List (In×Value)}{C:List (List In)}{m:Nat->Int×Int}(hn:n=C.length)(hn9:n<=1000)(hm:fk go n sv (fun k=>(m k).1) (fun k=>(m k).2) w)(hq: ∀k,k<n->jF w (sv k) (Ss k))(hL: ∀k,k<n->1<=(Ss k).length/\(Ss k).length<=700)(hs: ∀k,k<n-> ∀u∈Ss k,gQ w u.2 u.1.sp)(hS: ∀k,k<n->(Ss k).map (fun u=>u.1)=C.getD k []):InV w (.slice (some (ae go 0)) n c) (eD C m):=by
 refine⟨(List.range n).map fun k=>(⟨C.getD k [],(m k).1,(m k).2⟩,sv k),⟨some ⟨go,0,none⟩,c,by simp,by simp;omega,fun j u hj=> ?_⟩,?_⟩
 ·rw[a8]at hj;obtain⟨k,hk,rfl⟩:=d8.1 hj;obtain⟨h1,h2⟩:=aE.1 hk;have hkj:k=j:=(by rw[<-h2];simp);subst hkj;have hkn:k<n:=(by simpa using h1);refine⟨?_,go,0,rfl,?_⟩
  ·have:=GR (hq k hkn) (hL k hkn).1 (hL k hkn).2 (hs k hkn);rw[hS k hkn]at this;exact this
  ·obtain⟨c0,c1,c2,_,_⟩:=hm.cells hkn;simp only[bN];exact⟨c0,c1,c2⟩
 ·rw[jA,hn];rfl
end
section
open Go.RowKit Lx Vx Msk
def fz (l:List Ru):List (List In):=l.map fun u=>bK (atP5 l) u.2 0
def fR (l:List Ru):Nat->Int×Int:=mN (fz l) (l.length+1)
def eE (l:List Ru):List Cd:=eD (fz l) (fR l)
def ie (l:List Ru):Int×Int:=if(dj l).1≠0 then((dj l).1,((dj l).2:Int)) else if 0<=jG (fR l) l.length 0 then(4,jG (fR l) l.length 0) else(0,0)
theorem mr (l:List Ru):(fz l).length=l.length:=by simp[fz]
theorem mi {l:List Ru}{i:Nat}{u:Ru}(h:l[i]? =some u):(fz l).getD i []=bK (atP5 l) u.2 0:=by
 simp[fz,List.getD,h]
theorem ze: ∀{l:List Ru} {i:Nat},(jr l i).1=0-> ∀u∈l,Rt u.2
 |[],_,_,u,hu=>by cases hu
 |u'::l,i,h,u,hu=>by
  unfold jr at h;by_cases h1:ruleP u'≠0
  ·rw[ay h1]at h;exact absurd h h1
  ·rw[au h1]at h;rcases bG.1 hu with rfl|hu
   ·have h2:ruleP u=0:=(by simpa using h1);unfold ruleP at h2;split at h2
    ·cases h2
    ·exact h2
   ·exact ze h u hu
theorem qf {l:List Ru}(h:(dj l).1=0):l.length<=40/\ ∀u∈l,Rt u.2:=by
 have h0:=(kZ h).1;refine⟨(rX h0).1,?_⟩;unfold fG at h0;split at h0
 ·cases h0
 ·exact ze h0
theorem rA {l:List Ru}(h:(dj l).1=0){u:Ru}(hu:u∈l){x:List UInt8}(hx:x∈nms u.2):0<=atP5 l x/\atP5 l x<l.length/\atP5 l x∈fH l u:=by
 have hm:atP5 l x∈fH l u:=(oX (nms u.2) []).2 (.inr ⟨x,hx,rfl⟩);have hb:=nt l x;have hno:=(kZ h).2 u hu;refine⟨?_,hb.2,hm⟩;by_cases q:0<=atP5 l x
 ·exact q
 ·have e:atP5 l x= -1:=by omega
  rw[e]at hm;exact absurd hm hno
theorem MU (l:List Ru)(i:Nat):muR l i<=l.length:=by
 unfold muR fP;split
 ·simp
 ·unfold mkL;rw[bf];refine ba (List.length_filter_le _ _) ?_;simp
theorem qP {l:List Ru}(h:(dj l).1=0):rz (fz l) (muR l):=by
 refine⟨fun i j x hi hx ho=> ?_⟩;rw[mr]at hi⊢;have hu:l[i]? =some l[i]:=ax hi;rw[mi hu]at hx;have hul:=aK hu;obtain⟨nm,hn,hxa⟩:=xc _ _ (az _) ((qf h).2 _ hul).ok 0 x (aK hx) ho;obtain⟨h0,h1,h2⟩:=rA h hul hn;rw[hxa];refine⟨h0,by omega,ru h hi ?_⟩;rw[pR hu];exact dN.2 ⟨_,h2,rfl⟩
theorem ui {l:List Ru}(h:(dj l).1=0){i:Nat}(hi:i<l.length):fR l i=lO (fz l) (fR l) i:=Lt (qP h) (N:=l.length) (fun i _=>MU l i) (by rw[mr];exact hi)
theorem xd (l:List Ru):qA (eD (fz l) (fR l)):=Ez _ _
theorem vo {l:List Ru}(h:(dj l).1=0){i:Nat}(hi:i<l.length):1<=((fz l).getD i []).length/\((fz l).getD i []).length<=600:=by
 have hu:l[i]? =some l[i]:=ax hi;have hr:=(qf h).2 _ (aK hu);rw[mi hu];have:=lB (atP5 l) _ _ (az _) hr.ok 0;have h6:=hr.nod;omega
theorem Br {l:List Ru}(h:(dj l).1=0){i:Nat}(hi:i<l.length):1<=(fR l i).2:=by
 rw[ui h hi];exact(Db (xd l) i).2.2 (vo h hi).1
def mQ (w u:World):Prop:= ∀(q:Nat) (c:Array Value) (T:TypeId) (f:Nat×Nat),w.heap[q]? =some (.cells c T f)->(T=142\/T=179\/T=89)->u.heap[q]? =w.heap[q]?
def xg (l:List Ru)(w:World)(r:Ending)(w':World):Prop:= ∃v,r= .returned (.tuple #[v,.agg #[ag (ie l).1,ag (ie l).2]])/\((ie l).1=0-> ∀u,mQ w' u->InV u v (eE l))/\((ie l).1≠0->v=af)/\Below w.heap.size w w'
theorem jF.ty {w u:World}{v:Value}{S:List (In×Value)}(h:jF w v S)(hu:mQ w u):jF u v S:=bp h fun b hb=>by
 rcases h.2 with⟨e,_⟩|⟨g,cap,cur,e,_,hg,_⟩
 ·rw[e]at hb;cases hb
 ·rw[e]at hb;cases aL hb;exact hu _ _ _ _ hg (.inr (.inl rfl))
theorem gQ.ty {w u:World}{v:Value}{l:List (Int×Int)}(h:gQ w v l)(hu:mQ w u):gQ u v l:=by
 rcases h with h|⟨g,c,cur,e,hl,hg,hc⟩
 ·exact .inl h
 ·exact .inr ⟨g,c,cur,e,hl,(hu _ _ _ _ hg (.inr (.inr rfl))).trans hg,hc⟩
theorem fk.ty {go n:Nat}{sv:Nat->Value}{H T:Nat->Int}{w u:World}(h:fk go n sv H T w)(hu:mQ w u):fk go n sv H T u:=by
 obtain⟨cur,hg,h⟩:=h;exact⟨cur,(hu _ _ _ _ hg (.inl rfl)).trans hg,h⟩
def mR (n:Nat):Array Value:=madeCells #[af,ag 0,ag 0] (n*3)
theorem ti {n i j:Nat}(hi:i<n)(hj:j<3):(mR n)[i*3+j]? =(#[af,ag 0,ag 0]:Array Value)[j]? :=by
 have h1:i*3+j<n*3:=by omega
 have h2:(i*3+j)%3=j:=by omega
 simp only[mR,madeCells];match j,hj,h1,h2 with
 |0,_,h1,h2=>simp at h1 h2⊢;simp[h1]
 |1,_,h1,h2=>simp[h1,h2]
 |2,_,h1,h2=>simp[h1,h2]
theorem GS:(prog.info? 142).map (fun i=>(i.zero,i.size,i.bytes))=some (some (.agg #[af,ag 0,ag 0]),3,40):=by kernel_rfl
theorem EH:prog.underlying 50=some (.slice 142):=by kernel_rfl
theorem EI (n:Nat)(hn:n<=1000)(w:World):(Instr.makeSlice 50 (ag (n:Int)) (ag (n:Int))).run prog w= .ok (.slice (some (ae w.heap.size 0)) n n) (w.alloc (.cells (mR n) 142)):=by
 obtain⟨i,hi,hzz⟩:=d8.1 GS;simp only[Prod.mk.injEq]at hzz;obtain⟨hz,hs,hb⟩:=hzz;have hr:=run_make (P:=prog) w 50 142 i _ EH hi hz .i64 .i64 n n (by omega) (gJ _) (by rw[hb];omega) (by omega);rw[hs]at hr;have e:(Value.agg #[af,ag 0,ag 0]).cells= #[af,ag 0,ag 0]:=rfl;rw[e]at hr;simpa[mR] using hr
theorem fk.made {w:World}{go n:Nat}(h:w.heap[go]? =ah (mR n) 142):fk go n (fun _=>af) (fun _=>0) (fun _=>0) w:=by
 refine⟨_,h,by simp[mR,madeCells],fun i hi=>⟨?_,?_,?_⟩⟩
 ·have:=ti (j:=0) hi (by omega);simpa using this
 ·exact(ti (j:=1) hi (by omega)).trans rfl
 ·exact(ti (j:=2) hi (by omega)).trans rfl
def upV (f:Nat->Value)(i:Nat)(v:Value):Nat->Value:=fun k=>if k=i then v else f k
theorem GU (f:Nat->Value)(i:Nat)(v:Value):upV f i v i=v:=by unfold upV;rw[ay rfl]
theorem GV (f:Nat->Value){i k:Nat}(v:Value)(h:k≠i):upV f i v k=f k:=by unfold upV;rw[au h]
theorem fk.setV {go n:Nat}{sv:Nat->Value}{H T:Nat->Int}{w:World}(h:fk go n sv H T w){i:Nat}(v:Value)(hi:i<n):fk go n (upV sv i v) H T (w.setCell ⟨go,i*3,none⟩ v):=by
 obtain⟨cur,hg,hs,hc⟩:=h;refine⟨_,aV w go (i*3) _ _ _ hg,by rw[gC];exact hs,fun k hk=> ?_⟩;obtain⟨c0,c1,c2⟩:=hc k hk;refine⟨?_,?_,?_⟩
 ·by_cases e:k=i
  ·subst e;rw[GU,fT (by omega)]
  ·rw[GV _ _ e,dg (by omega)];exact c0
 ·rw[dg (by omega)];exact c1
 ·rw[dg (by omega)];exact c2
theorem fk.frozen {go n:Nat}{sv:Nat->Value}{H T:Nat->Int}{w:World}(h:fk go n sv H T w)(i:Nat):w.frozen? (ae go i)=false:=by
 obtain⟨cur,hg,_⟩:=h;exact bh _ _ _ _ _ hg
theorem fk.congr {go n:Nat}{sv:Nat->Value}{H T H' T':Nat->Int}{w:World}(h:fk go n sv H T w)(e: ∀k,k<n->H k=H' k/\T k=T' k):fk go n sv H' T' w:=by
 obtain⟨cur,hg,hs,hc⟩:=h;refine⟨cur,hg,hs,fun k hk=> ?_⟩;obtain⟨c0,c1,c2⟩:=hc k hk;obtain⟨e1,e2⟩:=e k hk;rw[<-e1,<-e2];exact⟨c0,c1,c2⟩
theorem gQ.kept {go n:Nat}{sv:Nat->Value}{H T:Nat->Int}{w w':World}{v:Value}{l:List (Int×Int)}(h:gQ w v l)(hm:fk go n sv H T w)(hk:bm go w w'):gQ w' v l:=by
 obtain⟨cur',hg',_⟩:=hm;rcases h with h|⟨g,c,cur,e,hl,hg,hx⟩
 ·exact .inl h
 ·refine .inr ⟨g,c,cur,e,hl,(hk.block g (aF hg) (fun q=> ?_)).trans hg,hx⟩;have q':g=go:=aL q;subst q';rw[hg]at hg';injection hg' with hb;injection hb with _ h2 _;exact absurd h2 (by decide)
theorem xh {B go:Nat}{w w' w'':World}(h:Below B w w')(hk:bm go w' w'')(hg:B<=go)(hB:B<=w'.heap.size):Below B w w'':=
 ⟨hk.os.trans h.os,hk.tape.trans h.tape,hk.output.trans h.output,ba h.size hk.size,fun k hb=>(hk.block k (aR hb hB) (fun e=>by have:=aL e;omega)).trans (h.block k hb)⟩
def oQ (l:List Ru)(w:World)(sv:Nat->Value)(Ss:Nat->List (In×Value))(k:Nat):Prop:=jF w (sv k) (Ss k)/\(Ss k).map (fun u=>u.1)=(fz l).getD k []/\ ∀u∈Ss k,gQ w u.2 u.1.sp
theorem oQ.kept {l:List Ru}{go n:Nat}{sv sv':Nat->Value}{H T:Nat->Int}{w w':World}{Ss:Nat->List (In×Value)}{k:Nat}(h:oQ l w sv Ss k)(hm:fk go n sv' H T w)(hk:bm go w w'):oQ l w' sv Ss k:=⟨h.1.kept hm hk,h.2.1,fun u hu=>(h.2.2 u hu).kept hm hk⟩
theorem oQ.ext {l:List Ru}{sv sv':Nat->Value}{w:World}{Ss Ss':Nat->List (In×Value)}{k:Nat}(h:oQ l w sv Ss k)(e1:sv' k=sv k)(e2:Ss' k=Ss k):oQ l w sv' Ss' k:=by
 unfold oQ;rw[e1,e2];exact h
def upS (f:Nat->List (In×Value))(i:Nat)(v:List (In×Value)):Nat->List (In×Value):=fun k=>if k=i then v else f k
theorem MV (f:Nat->List (In×Value))(i:Nat)(v:List (In×Value)):upS f i v i=v:=by unfold upS;rw[ay rfl]
theorem MW (f:Nat->List (In×Value)){i k:Nat}(v:List (In×Value))(h:k≠i):upS f i v k=f k:=by unfold upS;rw[au h]
theorem Jn {w:World}{b size n:Nat}{e:TypeId}{v:Value}{xs:List Value}(h:w.ownsRow b e size v n xs):w.ownsRow 0 e size v n xs:=by
 obtain⟨h1,h2⟩:=h;rcases h2 with h2|⟨g,cap,cur,e,q,r⟩
 ·exact⟨h1,.inl h2⟩
 ·exact⟨h1,.inr ⟨g,cap,cur,e,dW _,r⟩⟩
theorem tj {R:Ending->World->Prop}{a:Act}{w:World}(g:Nat)(v:Value)(er at_:Int)(hd:a.defers=[])(h2:a.tmps.getD 2 undef=v)(h3:a.tmps.getD 3 undef=ab g 0)
  (hg:w.heap[g]? =ah #[ag er,ag at_] 95) (hR:R (.returned (.tuple #[v,.agg #[ag er,ag at_]])) w):bodyPost prog f42 R .ret a w:=by
 refine aU (v:= .tuple #[v,.agg #[ag er,ag at_]]) ?_ hd hR;have h2':a.tmps[2]?.getD undef=v:=by simpa using h2
 have h3':a.tmps[3]?.getD undef=ab g 0:=by simpa using h3
 have hv:=dO (P:=prog) w g 95 95 _ _ _ hg oq rfl (by kernel_rfl);simp[results,results42,h2',h3',asAddr,hv]
theorem GW (m:Nat->Int×Int): ∀(k j n:Nat),j+k<=n-> -1<=jG m k j/\jG m k j<=(n:Int)
 |0,j,n,_=>by simp only[jG];omega
 |k+1,j,n,h=>by
  have ih:=GW m k (j+1) n (by omega);simp only[jG];split
  ·omega
  ·exact ih
theorem jF.set {w:World}{v:Value}{S:List (In×Value)}(h:jF w v S){g:Nat}{c:Array Value}(hg:w.heap[g]? =ah c 95)(xs:Array Value):jF (w.setRow g xs) v S:=
 World.ownsRow.kept h (row:=some g) ⟨rfl,rfl,rfl,by simp,fun q _ hne=>aT w g q xs (fun e=>hne (congrArg some e))⟩ (.inr fun e=>kE h hg (by decide) e.symm)
theorem gQ.set {w:World}{v:Value}{l:List (Int×Int)}(h:gQ w v l){g:Nat}{c:Array Value}(hg:w.heap[g]? =ah c 95)(xs:Array Value):gQ (w.setRow g xs) v l:=by
 rcases h with h|⟨g',c',cur,e,hl,hg',hx⟩
 ·exact .inl h
 ·refine .inr ⟨g',c',cur,e,hl,(aT w g g' xs (fun q=> ?_)).trans hg',hx⟩;rw[q,hg]at hg';injection hg' with hb;injection hb with _ h2 _;exact absurd h2 (by decide)
end
section
open Go.RowKit Lx Vx Msk
theorem Cs (us:List (Ru×Value))(v:Value)(w:World)(h:InR w v us)(hT:Tab w):Calls prog 42 #[v] w (xg (us.map (fun p=>p.1)) w):=by
 obtain⟨l,hl⟩: ∃l,us.map (fun p=>p.1)=l:=⟨_,rfl⟩
 obtain⟨n,hn⟩: ∃n,us.length=n:=⟨_,rfl⟩
 have hll:l.length=n:=by rw[<-hl,bf,hn]
 obtain⟨pv,cv,rfl⟩:=h.form;have bA:=am w (.cells #[ag 0,ag 0] 95);have n1:=aD w (.cells #[ag 0,ag 0] 95);generalize hwA:w.alloc (.cells #[ag 0,ag 0] 95)=wA at*;have cW:=tT us _ wA (h.below bA);rw[hl]at cW;rw[hl,hn];have HL:=aB hl;have HLN:=aB hn;have HLL:=aB hll;have HI0:=aB h;have HT0:=aB hT;rw[hn]at cW;clear hl hll h hn hT;go_enter func42,ntmps42;go_wp2_with fail;refine cW.mono ?_;rintro r w1 ⟨rfl,hb1⟩;have m2:=ai hb1 n1;have hb1w:=aq bA hb1;clear cW n1 hb1 bA hwA;by_cases h0:(dj l).1=0
 ·have h40:=(qf h0).1;rw[HLL.o]at h40;have H0:=aB h0;rw[h0];generalize (((dj l).2:Nat):Int)=at0 at*;have bC:=am w1 (.cells #[ag 0,ag at0] 95);have HBw:=aB (aq hb1w bC);have HR:=aB (ai bC m2);have m3:=aD w1 (.cells #[ag 0,ag at0] 95);have Hn40:=aB h40;have hI40:(n:Int)<=40:=(by omega);have hI0:(0:Int)<=(n:Int):=(by omega);clear bC hb1w m2 h0;generalize hw2:w1.alloc (.cells #[ag 0,ag at0] 95)=wB at*;have z0:=ak 0 m3;have cN:=oh us _ wB (HI0.o.below HBw.o);unfold D2 at cN;rw[HL.o,HLN.o]at cN;clear m3;go_wp2_with fail;refine cN.mono ?_;rintro r w3 ⟨mb,rfl,hmb,hmp,b3⟩;have hB3:=aq HBw.o b3;have r3:=ai b3 HR.o;have bM:=am w3 (.cells (mR n) 142);have nM:=aD w3 (.cells (mR n) 142);have hmk:=EI n (by omega) w3;have hmpM:=hmp.later (bM.block _ (gH hmp));have hBM:=aq hB3 bM;have rM:=ai bM r3;have hmbg:=gH hmp;have hrg:=aF r3;obtain⟨go,hgo⟩: ∃q,w3.heap.size=q:=⟨_,rfl⟩
  have hwgo:w.heap.size<=go:=(by rw[<-hgo];exact hB3.size);generalize hwM:w3.alloc (.cells (mR n) 142)=wM at*;rw[hgo]at nM hmk hmbg hrg;have hszM:w.heap.size<=wM.heap.size:=hBM.size;have HMM:=aB (fk.made nM);have HMP:=aB hmpM;have HBM:=aB hBM;have HRM:=aB rM;have hgrne:w.heap.size≠go:=(by omega);have hmbne:mb≠go:=(by omega);clear hw2 cN hmp b3 hB3 r3 bM nM hmpM hBM rM HR HBw z0;go_wp2_with fail;clear hmk hwM hgo;go_loopw [7,8,9,25] (fun _ _ _ t wr=> ∃(j:Nat) (sv:Nat->Value) (Ss:Nat->List (In×Value)),t=ag (j:Int)/\j<=n/\fk go n sv (fun _=>0) (fun _=>0) wr/\(∀k,k<j->oQ l wr sv Ss k)/\bm go wM wr) (fun _ _ _ t _=>n-(intOf t).toNat);case atStart=>exact⟨0,_,fun _=>[],rfl,by omega,HMM.o,fun k hk=>by omega,bm.refl _ _⟩
  case round=>
   obtain⟨j,sv,Ss,rfl,hj,hms,hld,hkp⟩:=hrel;clear HMM;have hj0:(0:Int)<=(j:Int):=(by omega);have hbr:=xh HBM.o hkp hwgo hszM;by_cases hlt:j<n
   ·have hlt':(j:Int)<(n:Int):=(by omega);obtain⟨p,hjp⟩: ∃p,us[j]? =some p:=⟨us[j]'(by have:=HLN.o;omega),ax _⟩
    have hinr:=HI0.o.below hbr;have HCL:=aB hinr.cells;obtain⟨g,o,hpe,d0,d1,d2,d3,d4,d5⟩:=HCL.o j p hjp;subst hpe;have hpm:=aK hjp;obtain⟨hnl,hel,dd,hkb⟩:=hinr.all p hpm;obtain⟨ps,cs,hps⟩:=hkb.form;have hlj:l[j]? =some p.1:=(by rw[<-HL.o,a8,hjp];rfl);have hlm:=aK hlj;obtain⟨⟨nm,e⟩,sk⟩:=p;dsimp only at d0 d1 d2 d3 d4 d5 hel hkb hps hnl hlj hlm;subst hps;have hrt:=(qf H0.o).2 _ hlm;have HLJ:=aB hlj;have bR:=am wr (.cells #[.string ⟨nm.toArray⟩,ag e.kind,ag e.a,ag e.b,.string ⟨e.name.toArray⟩,.slice ps e.kids.length cs] 106);have nR:=aD wr (.cells #[.string ⟨nm.toArray⟩,ag e.kind,ag e.a,ag e.b,.string ⟨e.name.toArray⟩,.slice ps e.kids.length cs] 106);generalize hwR:wr.alloc (.cells #[.string ⟨nm.toArray⟩,ag e.kind,ag e.a,ag e.b,.string ⟨e.name.toArray⟩,.slice ps e.kids.length cs] 106)=wR at*;have bZ:=am wR (.cells #[.map none,af] 139);have nZ:=aD wR (.cells #[.map none,af] 139);generalize hwZ:wR.alloc (.cells #[.map none,af] 139)=wZ at*;have bW:=below_setRow bZ (az _) #[.map (some mb),af];have nW:=aJ _ _ _ #[.map (some mb),af] _ _ nZ;have nR2:=ai bW nR;generalize hwW:wZ.setRow wR.heap.size #[.map (some mb),af]=wW at*;have hokW:WOk wR wR.heap.size (.map (some mb)) [] wW:=⟨⟨bW,az _,_,nW,cj _ _ _ _⟩,fun u hu=>by cases hu⟩
    have hmpR:iU wR mb l:=by
     have h1:=HMP.o.later (hkp.block _ (gH HMP.o) (fun e=>hmbne (aL e)));exact h1.later (bR.block _ (gH h1))
    have hTR:Tab wR:=jX (jX HT0.o hbr) bR;have hkbR:fK (fun k=>k<wR.heap.size) dd wR (.slice ps e.kids.length cs) e.kids:=(hkb.kept fun g _ hl=>bR.block g hl).mono fun g hg=>aR hg bR.size;have cE:=Jm wR wR.heap.size mb l hmpR hTR dd e _ hkbR hrt hel (fun x hx=>(rA H0.o hlm hx).1) [] wW hokW (by have:=hrt.nod;simpa using ba this (by omega));unfold exV at cE;have y1:=ak 1 nR2;have y2:=ak 2 nR2;have y3:=ak 3 nR2;have y4:=ak 4 nR2;have y5:=ak 5 nR2;have HMS:=aB hms;have HLD:=aB hld;have HKP:=aB hkp;have HBR:=aB bR;have hnod:=hrt.nod;have hcl:=(lB (atP5 l) _ e (az _) hrt.ok 0)
    clear hinr HCL hjp hpm hkb hnl hel hlj hlm hms hld hkp hbr bR bW bZ nW hokW hmpR hTR hkbR nR hrt;go_wp2_with(refine aw rfl 139 _ _ rfl _ _ rfl rfl _ _ nZ (by kernel_rfl) (by simp) (by simp[Value.oneCell']) ?_;rw[hwW])
    refine cE.mono ?_;rintro r w5 ⟨rfl,S',hS',hok5,_⟩;obtain⟨⟨hb5,_,sv5,n5,own5⟩,hsp5⟩:=hok5;rw[List.nil_append]at own5 hsp5
    have hlS:S'.length=(bK (atP5 l) e 0).length:=by
     have h1:=congrArg List.length hS';rw[bf]at h1;exact h1
    obtain⟨g5,c5,hv5⟩: ∃g5 c5,sv5= .slice (some (ae g5 0)) S'.length c5:=by
     rcases own5.2 with⟨_,e0⟩|⟨g',cap,cur,e0,_⟩
     ·omega
     ·exact⟨g',cap,e0⟩
    subst hv5;have z51:=ak 1 n5;have hbr5:Below wr.heap.size wr w5:=aq HBR.o hb5;have hms5:=HMS.o.below hbr5;have x0:=(hms5.cells hlt).1;have xf:=hms5.frozen (j*3);have hk5:=HKP.o.trans (bm.of_below hbr5);have hks:=ij w5 go (j*3) (.slice (some (ae g5 0)) S'.length c5);have HMN:=aB (hms5.setV (.slice (some (ae g5 0)) S'.length c5) hlt);have HKN:=aB (hk5.trans hks);have hq5:jF w5 (.slice (some (ae g5 0)) S'.length c5) S':=Jn own5
    have HLN2:OK (∀k,k<j+1->oQ l (w5.setCell ⟨go,j*3,none⟩ (.slice (some (ae g5 0)) S'.length c5)) (upV sv j (.slice (some (ae g5 0)) S'.length c5)) (upS Ss j S') k):=fun k hk=>by
     by_cases e1:k=j
     ·subst e1
      have h1:oQ l w5 (upV sv k (.slice (some (ae g5 0)) S'.length c5)) (upS Ss k S') k:=by
       unfold oQ;rw[GU,MV,mi HLJ.o];exact⟨hq5,hS',hsp5⟩
      exact h1.kept hms5 hks
     ·have h1:=HLD.o k (by omega);have h2:oQ l w5 sv Ss k:=⟨h1.1.below hbr5,h1.2.1,fun u hu=>(h1.2.2 u hu).below hbr5⟩
      exact(h2.kept hms5 hks).ext (GV _ _ e1) (MW _ _ e1)
    generalize hw6:w5.setCell ⟨go,j*3,none⟩ (.slice (some (ae g5 0)) S'.length c5)=w6 at*;clear hlS cE own5 hsp5 hS' hb5 n5 hbr5 hms5 hk5 hks hq5 y1 y2 y3 y4 y5 nR2 HMS HLD HKP HBR hwW hwZ nZ hwR d0 d1 d2 d3 d4 d5;go_wp2_with fail;go_roundw;case rel=>exact⟨j+1,_,_,by go_num,by omega,HMN.o,HLN2.o,HKN.o⟩
    case measure=>simp[intOf];omega
   ·have hlt': ¬(j:Int)<(n:Int):=(by omega);obtain rfl:n=j:=(by omega);generalize wr=wL at*;have hCn:n=(fz l).length:=(by rw[mr];exact HLL.o.symm);have hin: ∀k,k<n->k<l.length:=fun k hk=>(by have:=HLL.o;omega)
    have hLd: ∀k,k<n->1<=(Ss k).length/\(Ss k).length<=700:=fun k hk=>by
     have h1:=congrArg List.length (hld k hk).2.1;rw[bf]at h1;have h2:=vo H0.o (hin k hk);omega
    have HME:=aB (fun(w':World) (i:Nat)=>Cq (fz l) (muR l) (fR l) (qP H0.o) (xd l) n go n hCn (by omega) sv Ss (fun k hk=>(hld k hk).2.1) hLd (fun k hk u hu=>((hld k hk).2.2 u hu).form) (fun i hi=>ui H0.o (hin i hi)) (fun i hi=>Br H0.o (hin i hi)) _ i (az _));have HLD:=aB hld;have HMS:=aB hms;have HKP:=aB hkp;have HLB:=aB hLd;have HCN:=aB hCn;clear hld hms hkp hLd hin hCn hbr;go_wp2_with fail;go_loopw [10,44] (fun _ t w7=> ∃(i:Nat) (H T:Nat->Int),t=ag (i:Int)/\i<=n/\fk go n sv H T w7/\(∀k,k<n->Okm (fR l) H T k)/\(∀k,k<i->Me (fR l) H T k)/\bm go wL w7) (fun _ t _=>n-(intOf t).toNat);case atStart=>exact⟨0,_,_,rfl,by omega,HMS.o,fun k _=> .inl ⟨rfl,rfl⟩,fun k hk=>by omega,bm.refl _ _⟩
    case round=>
     obtain⟨i,H,T,rfl,hi,hms,hok,hme,hkp⟩:=hrel;have hi0:(0:Int)<=(i:Int):=(by omega);by_cases hil:i<n
     ·have hil':(i:Int)<(n:Int):=(by omega);have cM:=HME.o wr i hil H T wr hms (fun q hq=>((HLD.o q hq).1.kept HMS.o hkp)) (fun q hq _=>hok q hq);obtain⟨ps,cs,hsv,_⟩:=((HLD.o i hil).1.kept HMS.o hkp).form (HLB.o i hil).1;unfold vn at cM;rw[hsv]at cM;have HOK:=aB hok;have HMEE:=aB hme;have HKQ:=aB hkp;clear hsv hms hok hme hkp;go_wp2_with fail;refine cM.mono ?_;rintro r w8 ⟨rfl,H',T',hms8,hme8,hrs8,hk8⟩
      have HOK8:OK (∀k,k<n->Okm (fR l) H' T' k):=fun k hk=>by
       by_cases e1:k=i
       ·subst e1;exact .inr hme8
       ·have h1:=hrs8 k hk e1;by_cases e2:muR l k<=muR l i
        ·exact(h1.1 e2).1
        ·have h2:=h1.2 (by omega);have h3:=HOK.o k hk;unfold Okm Me at h3⊢;rw[h2.1,h2.2];exact h3
      have HME8:OK (∀k,k<i+1->Me (fR l) H' T' k):=fun k hk=>by
       by_cases e1:k=i
       ·subst e1;exact hme8
       ·have h1:=hrs8 k (by omega) e1;have h3:=HMEE.o k (by omega);by_cases e2:muR l k<=muR l i
        ·exact(h1.1 e2).2 h3
        ·have h2:=h1.2 (by omega);unfold Me at h3⊢;rw[h2.1,h2.2];exact h3
      have HK8:=aB (HKQ.o.trans hk8);have HMS8:=aB hms8;clear cM hms8 hme8 hrs8 hk8;go_wp2_with fail;go_roundw;case rel=>exact⟨i+1,H',T',by go_num,by omega,HMS8.o,HOK8.o,HME8.o,HK8.o⟩
      case measure=>simp[intOf];omega
     ·have hil': ¬(i:Int)<(n:Int):=(by omega);obtain rfl:n=i:=(by omega);have hms9:fk go n sv (fun k=>(fR l k).1) (fun k=>(fR l k).2) wr:=hms.congr fun k hk=>hme k hk
      have hsv9: ∀k,k<n-> ∃p ln c,sv k= .slice p ln c/\ln<=700:=fun k hk=>by
       obtain⟨g',c',e',_⟩:=(HLD.o k hk).1.form (HLB.o k hk).1;exact⟨_,_,_,e',(HLB.o k hk).2⟩
      have cI:=zJ n go n sv (fR l) wr hms9 hsv9 (by omega)
      have HIV:OK (∀(W:World) (c xs:Array Value),Below wr.heap.size wr W->W.heap[w.heap.size]? =ah c 95-> ∀u,mQ (W.setRow w.heap.size xs) u->InV u (.slice (some (ae go 0)) n n) (eE l)):=fun W c xs hW hg u hu=>by
       refine Ly HCN.o (by omega) (((hms9.below hW).same (aT W w.heap.size go xs (fun e=>hgrne e.symm))).ty hu) (fun k hk=>((((HLD.o k hk).1.kept HMS.o hkp).below hW).set hg xs).ty hu) HLB.o (fun k hk p hp=>(((((HLD.o k hk).2.2 p hp).kept HMS.o hkp).below hW).set hg xs).ty hu) (fun k hk=>(HLD.o k hk).2.1)
      have hk9:=HKP.o.trans hkp;have HB9:=aB (xh HBM.o hk9 hwgo hszM);have HR9:=aB ((hk9.block _ (aF HRM.o) (fun e=>hgrne (aL e))).trans HRM.o);obtain⟨fx,hfx⟩: ∃q,jG (fR l) n 0=q:=⟨_,rfl⟩
      rw[hfx]at cI;have HFX:OK (jG (fR l) l.length 0=fx):=(by show _=_;rw[HLL.o];exact hfx);have hfb: -1<=fx/\fx<=(n:Int):=(by rw[<-hfx];exact GW (fR l) n 0 n (by omega));clear hms hok hme hkp hms9 hsv9 hk9 hfx HMS HLD HME;go_wp2_with fail;refine cI.mono ?_;rintro r w9 ⟨rfl,b9⟩;have n9:=ai b9 HR9.o;have hb9:=aq HB9.o b9;have HIV9:=aB (HIV.o w9 _ #[ag 0,ag 0] b9 n9);have hw9:=aF n9;clear cI HIV HB9 HR9 b9;by_cases hf0:0<=fx
      ·have HCF:OK (ie l=(4,fx)):=by
        show _=_;unfold ie;rw[au (by simpa using H0.o),HFX.o,ay hf0]
       have HO:OK (xg l w (.returned (.tuple #[af,.agg #[ag 4,ag fx]])) (w9.setRow w.heap.size #[ag 4,ag fx])):=by
        refine⟨_,by rw[HCF.o],fun e=> ?_,fun _=>rfl,below_setRow hb9 (az _) _⟩;rw[HCF.o]at e;exact absurd e (by show¬(4:Int)=0;omega)
       have HNN:=aB (aJ _ _ _ #[ag 4,ag fx] _ _ n9);clear HIV9 hb9;go_wp2_with(refine aw rfl 95 _ _ rfl _ _ rfl rfl _ _ n9 (by kernel_rfl) (by simp) (by simp[Value.oneCell']) ?_)
       exact tj w.heap.size _ 4 fx rfl rfl rfl HNN.o HO.o
      ·have HCF:OK (ie l=(0,0)):=by
        show _=_;unfold ie;rw[au (by simpa using H0.o),HFX.o,au hf0]
       have HO:OK (xg l w (.returned (.tuple #[.slice (some (ae go 0)) n n,.agg #[ag 0,ag 0]])) (w9.setRow w.heap.size #[ag 0,ag 0])):=by
        refine⟨_,by rw[HCF.o],fun _=> ?_,fun e=> ?_,below_setRow hb9 (az _) _⟩
        ·exact HIV9.o
        ·rw[HCF.o]at e;exact absurd rfl e
       have HNN:=aB (aJ _ _ _ #[ag 0,ag 0] _ _ n9);clear HIV9 hb9;go_wp2_with(refine aw rfl 95 _ _ rfl _ _ rfl rfl _ _ n9 (by kernel_rfl) (by simp) (by simp[Value.oneCell']) ?_)
       exact tj w.heap.size _ 0 0 rfl rfl rfl HNN.o HO.o
 ·have H0:=aB h0
  have HF:OK (ie l=((dj l).1,((dj l).2:Int))):=by
   show _=_;unfold ie;rw[ay h0]
  have hne:((dj l).1 !=0)=true:=(by simpa using h0);have bC:=am w1 (.cells #[ag (dj l).1,ag ((dj l).2:Int)] 95);have HBw:=aB (aq hb1w bC);have n9:=ai bC m2;have m3:=aD w1 (.cells #[ag (dj l).1,ag ((dj l).2:Int)] 95);clear bC hb1w m2 h0;generalize hw2:w1.alloc (.cells #[ag (dj l).1,ag ((dj l).2:Int)] 95)=wB at*
  have HO:OK (∀W,Below w.heap.size w W->xg l w (.returned (.tuple #[af,.agg #[ag (dj l).1,ag ((dj l).2:Int)]])) W):=fun W hW=>by
   refine⟨_,by rw[HF.o],fun e=> ?_,fun _=>rfl,hW⟩;rw[HF.o]at e;exact absurd e H0.o
  have z0:=ak 0 m3;have z1:=ak 1 m3;have y0:=ak 0 n9;have y1:=ak 1 n9;have x0:=bh _ _ 0 _ _ n9;have x1:=bh _ _ 1 _ _ n9;have hmm:=aV _ _ 1 _ _ (ag ((dj l).2:Int)) (aV _ _ 0 _ _ (ag (dj l).1) n9);have HBB:=aB ((HBw.o.setCell (p:=⟨w.heap.size,0,none⟩) (az _) (ag (dj l).1)).setCell (p:=⟨w.heap.size,1,none⟩) (az _) (ag ((dj l).2:Int)));have HMM:=aB hmm;clear hmm n9 m3;clear HF H0;generalize (dj l).1=er at*;generalize (((dj l).2:Nat):Int)=at0 at*;go_wp2_with fail;go_region;go_wp2_with fail;exact tj w.heap.size _ er at0 rfl rfl rfl HMM.o (HO.o _ (dn HBB.o 1))
end
end Go.Proofs.YtkfidffapdhbhaaGreatDoor
