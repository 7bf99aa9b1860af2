/- What guarded comes to. Written by gencwe.py. -/
import Derived.Test.YtpmobjgnmidolaaDoorDt14
import Derived.Test.YtpmobjgnmidolaaDoorDt11
namespace Go.Proofs.YtpmobjgnmidolaaDoor
open Go.RowKit Lx Vx Msk
set_option maxRecDepth 100000 in
set_option maxHeartbeats 4000000 in
theorem guarded_any (w0:World)(gm:Nat)(mp:Value)(l:List Ru)(k:Ex)(p:Option Addr)(q:Nat)(op a b:Int)(S:List (In×Value))(W0:World)(h:WOk w0 gm mp S W0)(hC:ExprC w0 gm mp l k (.slice p k.kids.length q))(hS:S.length+1+nodE k≤700)(HLN0:(codeE (atP5 l) k (S.length+1)).length≤700):
  Calls Tryd.prog 47 #[.pointer (some ⟨gm,0,none⟩),.agg #[.int .i64 op,.int .i64 a,.int .i64 b,.int .i64 0,.slice none 0 0],.agg #[.int .i64 k.kind,.int .i64 k.a,.int .i64 k.b,.string ⟨k.name.toArray⟩,.slice p k.kids.length q]] W0 (OutX w0 gm mp S (⟨op,a,b,((S.length+1+(codeE (atP5 l) k (S.length+1)).length:Nat):Int),[]⟩::codeE (atP5 l) k (S.length+1)) W0):=by
 have HLN:Hid ((codeE (atP5 l) k (S.length+1)).length≤700):=HLN0;have HGM:=hidv h.lt;have bA:=(Below.refl W0.heap.size W0).alloc (Nat.le_refl _) (.cells #[.int .i64 op,.int .i64 a,.int .i64 b,.int .i64 0,.slice none 0 0] 66);have nA:=heap_alloc_new W0 (.cells #[.int .i64 op,.int .i64 a,.int .i64 b,.int .i64 0,.slice none 0 0] 66);have hA:=h.below bA;obtain⟨gA,hgA⟩: ∃q,W0.heap.size=q:=⟨_,rfl⟩
 generalize hwA:W0.alloc (.cells #[.int .i64 op,.int .i64 a,.int .i64 b,.int .i64 0,.slice none 0 0] 66)=wA at*;rw[hgA]at nA;have bB:=(Below.refl wA.heap.size wA).alloc (Nat.le_refl _) (.cells #[.int .i64 k.kind,.int .i64 k.a,.int .i64 k.b,.string ⟨k.name.toArray⟩,.slice p k.kids.length q] 50);have nB:=heap_alloc_new wA (.cells #[.int .i64 k.kind,.int .i64 k.a,.int .i64 k.b,.string ⟨k.name.toArray⟩,.slice p k.kids.length q] 50);have hB:=hA.below bB;have nA1:=(bB.block _ (lt_of_block nA)).trans nA;have hgm:=hA.lt;obtain⟨gB,hgB⟩: ∃q,wA.heap.size=q:=⟨_,rfl⟩
 generalize hwB:wA.alloc (.cells #[.int .i64 k.kind,.int .i64 k.a,.int .i64 k.b,.string ⟨k.name.toArray⟩,.slice p k.kids.length q] 50)=wB at*;rw[hgB]at nB;have hne:gB≠gm:=by omega
 have HFB:Hid (Fr2 gm W0 wB):=Fr2.below HGM.out (bA.trans (bB.mono bA.size));obtain⟨_,hgt,sv,n1,own1⟩:=id hB.st;obtain⟨p0,c0,hsv⟩:=own_sliceI own1;subst hsv;have z1:=(cell_of_row _ _ 1 _ _ _ n1).trans rfl;have cP:=wput_ok hB ⟨op,a,b,0,[]⟩ (.slice none 0 0) (SpIn.nil _ _ _) (by omega);dsimp only at cP;have hs0:(0:Int)≤(S.length:Int):=by omega
 have hs1:(S.length:Int)≤700:=by omega
 have HGT:=hidv hgt;have HBS:=hidv hB.st;clear bA bB hA hB own1 nA hgt n1 h;go_enter Tryd.func47,Tryd.ntmps47
 go_wp2_with(first
  |(refine wpList_load_row rfl 66 _ rfl _ rfl _ _ _ _ nA1 insTypeW rfl (by kernel_rfl) ?_))
 refine cP.mono ?_;rintro e1 w2 ⟨rfl,hok2,hfr2⟩;have nB2:=(Fr2.fr HBS.out hfr2) _ _ _ nB (by decide) hne;have cE:=hC _ w2 hok2 (by rw[List.length_append,List.length_singleton];exact hS);unfold exV at cE;have HF2:=hidv (HFB.out.trans hfr2);clear cP hok2 hfr2 z1 nB nA1 hwB hwA
 go_wp2_with(first
  |(refine wpList_load_row rfl 50 _ rfl _ rfl _ _ _ _ nB2 exprType rfl (by kernel_rfl) ?_))
 refine cE.mono ?_;rintro e2 w3 ⟨rfl,S',hS',hok3,hfr3⟩;rw[List.length_append,List.length_singleton]at hS';have HS':=hidv hS';have HFR3:=hidv (HF2.out.trans hfr3);obtain⟨⟨hb3,_,sv3,n13,own3⟩,hsp3⟩:=hok3;have eS:(S++[((⟨op,a,b,0,[]⟩:In),Value.slice none 0 0)])++S'=S++((⟨op,a,b,0,[]⟩,.slice none 0 0)::S'):=by simp
 rw[eS]at own3 hsp3;obtain⟨n3,hn3⟩: ∃q,(S++(((⟨op,a,b,0,[]⟩:In),Value.slice none 0 0)::S')).length=q:=⟨_,rfl⟩
 rw[hn3]at own3;have HN3:Hid (n3=S.length+1+S'.length):=by show _=_;rw[←hn3];simp;omega
 obtain⟨g3,c3,hv3⟩: ∃g3 c3,sv3= .slice (some ⟨g3,0,none⟩) n3 c3:=by
  rcases own3.2 with⟨_,e⟩|⟨g',cap,cur,e,_⟩
  ·have:=HN3.out;omega
  ·exact⟨g',cap,e⟩
 subst hv3;have z13:=(cell_of_row _ _ 1 _ _ _ n13).trans rfl;have HO3:=hidv own3;have HSP3:=hidv hsp3;have HB3:=hidv hb3
 have hlen':n3≤2000:=by
  have h1:=HN3.out;have h2:=congrArg List.length hS';rw[List.length_map]at h2;have h3:=HLN.out;omega
 have hi1:(S.length:Int)<(n3:Int):=by have:=HN3.out;omega
 have hi2:(n3:Int)≤2000:=by omega
 clear cE hS' hfr3 own3 hsp3 hb3 eS hn3 nB2 HF2 HFB;go_wp2_with fail;refine wp_region_last (by kernel_rfl) (by kernel_rfl) (by kernel_rfl) (by kernel_rfl) 12 (by kernel_rfl) (by kernel_rfl) [(18,.pointer (some ⟨gm,0,none⟩)),(19,.pointer (some ⟨gm,0,none⟩)),(20,.pointer (some ⟨gm,1,none⟩)),(21,.slice (some ⟨g3,0,none⟩) n3 c3),(22,.int .i64 (S.length:Int)),(23,.pointer (some ⟨gm,0,none⟩)),(24,.pointer (some ⟨gm,0,none⟩)),(25,.pointer (some ⟨gm,1,none⟩)),(26,.slice (some ⟨g3,0,none⟩) n3 c3),(27,.int .i64 (n3:Int)),(28,.pointer (some ⟨g3,S.length*5,none⟩)),(29,.pointer (some ⟨g3,S.length*5+3,none⟩))] (by kernel_rfl) (by kernel_rfl) ?_ ?_
 ·intro i' s v o' L A W ho hv hdep hJ hkept hhas;match i',ho,hv with
  |0,ho,hv=>
   cases Option.some.inj ho;cases Option.some.inj hv;have h0:A.tmps[0]?.getD undef= .pointer (some ⟨gm,0,none⟩):=(gd A 0).trans (hkept 0 (by kernel_rfl));refine wpOp_step rfl (fun K hK=> ?_);go_simp;exact hK _ _ ⟨rfl,Below.refl _ _⟩
  |1,ho,hv=>
   cases Option.some.inj ho;cases Option.some.inj hv;have h18:A.tmps[18]?.getD undef= .pointer (some ⟨gm,0,none⟩):=(gd A 18).trans (hhas 0 18 _ rfl (hdep ⟨0,.data⟩ (by simp) rfl));refine wpOp_step rfl (fun K hK=> ?_);go_simp;exact hK _ _ ⟨rfl,Below.refl _ _⟩
  |2,ho,hv=>
   cases Option.some.inj ho;cases Option.some.inj hv;have h19:A.tmps[19]?.getD undef= .pointer (some ⟨gm,0,none⟩):=(gd A 19).trans (hhas 1 19 _ rfl (hdep ⟨1,.data⟩ (by simp) rfl));refine wpOp_step rfl (fun K hK=> ?_);go_simp;exact hK _ _ ⟨rfl,Below.refl _ _⟩
  |3,ho,hv=>
   cases Option.some.inj ho;cases Option.some.inj hv;have h20:A.tmps[20]?.getD undef= .pointer (some ⟨gm,1,none⟩):=(gd A 20).trans (hhas 2 20 _ rfl (hdep ⟨2,.data⟩ (by simp) rfl));have zz:=(hJ.cell (block_lt_of_cell z13)).trans z13;refine wpOp_step rfl (fun K hK=> ?_);go_simp;exact hK _ _ ⟨rfl,Below.refl _ _⟩
  |4,ho,hv=>
   cases Option.some.inj ho;cases Option.some.inj hv;have h6:A.tmps[6]?.getD undef= .int .i64 (S.length:Int):=(gd A 6).trans (hkept 6 (by kernel_rfl));refine wpOp_step rfl (fun K hK=> ?_);go_simp;exact hK _ _ ⟨rfl,Below.refl _ _⟩
  |5,ho,hv=>
   cases Option.some.inj ho;cases Option.some.inj hv;have h0:A.tmps[0]?.getD undef= .pointer (some ⟨gm,0,none⟩):=(gd A 0).trans (hkept 0 (by kernel_rfl));refine wpOp_step rfl (fun K hK=> ?_);go_simp;exact hK _ _ ⟨rfl,Below.refl _ _⟩
  |6,ho,hv=>
   cases Option.some.inj ho;cases Option.some.inj hv;have h23:A.tmps[23]?.getD undef= .pointer (some ⟨gm,0,none⟩):=(gd A 23).trans (hhas 5 23 _ rfl (hdep ⟨5,.data⟩ (by simp) rfl));refine wpOp_step rfl (fun K hK=> ?_);go_simp;exact hK _ _ ⟨rfl,Below.refl _ _⟩
  |7,ho,hv=>
   cases Option.some.inj ho;cases Option.some.inj hv;have h24:A.tmps[24]?.getD undef= .pointer (some ⟨gm,0,none⟩):=(gd A 24).trans (hhas 6 24 _ rfl (hdep ⟨6,.data⟩ (by simp) rfl));refine wpOp_step rfl (fun K hK=> ?_);go_simp;exact hK _ _ ⟨rfl,Below.refl _ _⟩
  |8,ho,hv=>
   cases Option.some.inj ho;cases Option.some.inj hv;have h25:A.tmps[25]?.getD undef= .pointer (some ⟨gm,1,none⟩):=(gd A 25).trans (hhas 7 25 _ rfl (hdep ⟨7,.data⟩ (by simp) rfl));have zz:=(hJ.cell (block_lt_of_cell z13)).trans z13;refine wpOp_step rfl (fun K hK=> ?_);go_simp;exact hK _ _ ⟨rfl,Below.refl _ _⟩
  |9,ho,hv=>
   cases Option.some.inj ho;cases Option.some.inj hv;have h26:A.tmps[26]?.getD undef= .slice (some ⟨g3,0,none⟩) n3 c3:=(gd A 26).trans (hhas 8 26 _ rfl (hdep ⟨8,.data⟩ (by simp) rfl));refine wpOp_step rfl (fun K hK=> ?_);go_simp;exact hK _ _ ⟨rfl,Below.refl _ _⟩
  |10,ho,hv=>
   cases Option.some.inj ho;cases Option.some.inj hv;have h21:A.tmps[21]?.getD undef= .slice (some ⟨g3,0,none⟩) n3 c3:=(gd A 21).trans (hhas 3 21 _ rfl (hdep ⟨3,.data⟩ (by simp) rfl));have h22:A.tmps[22]?.getD undef= .int .i64 (S.length:Int):=(gd A 22).trans (hhas 4 22 _ rfl (hdep ⟨4,.data⟩ (by simp) rfl));refine wpOp_step rfl (fun K hK=> ?_);go_simp;exact hK _ _ ⟨rfl,Below.refl _ _⟩
  |11,ho,hv=>
   cases Option.some.inj ho;cases Option.some.inj hv;have h28:A.tmps[28]?.getD undef= .pointer (some ⟨g3,S.length*5,none⟩):=(gd A 28).trans (hhas 10 28 _ rfl (hdep ⟨10,.data⟩ (by simp) rfl));refine wpOp_step rfl (fun K hK=> ?_);go_simp;exact hK _ _ ⟨rfl,Below.refl _ _⟩
  |kk+12,ho,hv=>simp at hv
 ·intro o' WX ho hJ;cases Option.some.inj ho;simp only[putAll_cons,putAll_nil,Act.put,List.setIfInBounds_toArray,List.set_cons_succ,List.set_cons_zero];refine wpOp_step rfl (fun K hK=> ?_);have own4:=own_below HO3.out hJ;have own5:=own_to (n3:Int) own4
  have hrow: ∃cur,WX.heap[g3]? =some (.cells cur 66 (0,0))∧S.length*5+3<cur.size:=by
   rcases own4.2 with⟨e,_⟩|⟨g',cap,cur,e,_,hg,hn,_,hs,_⟩
   ·cases e
   ·injection e with e1 _ e3;injection e1 with e1;injection e1 with e1 _ _;subst e1 e3;exact⟨cur,hg,by omega⟩
  obtain⟨cur,hcur,hcl⟩:=hrow;have ck:WX.cell? ⟨g3,S.length*5+3,none⟩=some (cur[S.length*5+3]'hcl):=(cell_of_row _ _ _ _ _ _ hcur).trans (Array.getElem?_eq_getElem hcl);have yk:WX.frozen? ⟨g3,S.length*5+3,none⟩=false:=frozen_of_row _ _ _ _ _ hcur;have n4:=(hJ.block _ (lt_of_block n13)).trans n13
  have hgne:gm≠g3:=fun e=>by
   rw[e,hcur]at n4;injection n4 with n4;injection n4 with _ h2 _;exact absurd h2 (by decide)
  have n5:=(heap_setCell_other WX ⟨g3,S.length*5+3,none⟩ gm (.int .i64 (n3:Int)) hgne).trans n4;have hb5:Below w0.heap.size w0 (WX.setCell ⟨g3,S.length*5+3,none⟩ (.int .i64 (n3:Int))):=(HB3.out.trans (hJ.mono HB3.out.size)).setCell (p:=⟨g3,S.length*5+3,none⟩) ((own4.lt g3 rfl).1) _
  have hfr5:Fr gm WX (WX.setCell ⟨g3,S.length*5+3,none⟩ (.int .i64 (n3:Int))):=fun q c T hq hT _=>by
   refine(heap_setCell_other WX ⟨g3,S.length*5+3,none⟩ q _ (fun e=> ?_)).trans hq;rw[show q=g3 from e,hcur]at hq;injection hq with hq;injection hq with _ h2 _;exact absurd h2.symm hT
  have hf25:Fr2 gm WX (WX.setCell ⟨g3,S.length*5+3,none⟩ (.int .i64 (n3:Int))):=by
   refine⟨fun q hq _ hr=>heap_setCell_other WX ⟨g3,S.length*5+3,none⟩ q _ (fun e=>hr ?_),.inl ?_,by simp⟩
   ·rw[rowB_at n4,show q=g3 from e];rfl
   ·rw[rowB_at n5,rowB_at n4]
  have hn3e:=HN3.out
  have HN:Hid (OutX w0 gm mp S (⟨op,a,b,((S.length+1+(codeE (atP5 l) k (S.length+1)).length:Nat):Int),[]⟩::codeE (atP5 l) k (S.length+1)) W0 (.returned (.tuple #[])) (WX.setCell ⟨g3,S.length*5+3,none⟩ (.int .i64 (n3:Int)))):=by
   refine⟨rfl,(⟨op,a,b,(n3:Int),[]⟩,.slice none 0 0)::S',?_,⟨⟨hb5,HGT.out,_,n5,?_⟩,fun u hu=> ?_⟩,(HFR3.out.trans (Fr2.below (lt_of_block n13) hJ)).trans hf25⟩
   ·rw[List.map_cons,HS'.out];have hl:=congrArg List.length HS'.out;rw[List.length_map]at hl;rw[←hl,show S.length+1+S'.length=n3 by omega]
   ·have hlen:(S++((⟨op,a,b,(n3:Int),[]⟩,.slice none 0 0)::S')).length=n3:=(by simp;omega);rw[hlen];exact own5
   ·rcases List.mem_append.1 hu with hu|hu
    ·exact(((HSP3.out u (by simp[hu])).below hJ).fr n4 hfr5)
    ·rcases List.mem_cons.1 hu with rfl|hu
     ·exact SpIn.nil _ _ _
     ·exact(((HSP3.out u (by simp[hu])).below hJ).fr n4 hfr5)
  clear own4 own5 n4 n5 hb5 hfr5 hf25 hn3e hcur;generalize hw9:WX.setCell ⟨g3,S.length*5+3,none⟩ (.int .i64 (n3:Int))=w9 at*;go_simp;refine hK _ _ ⟨⟨undef,rfl⟩,?_⟩;clear hK hJ ck yk hw9;go_wp2_with fail;exact⟨rfl,_,results_none rfl _ _ _,HN.out⟩
end Go.Proofs.YtpmobjgnmidolaaDoor
/- What behind comes to. -/
namespace Go.Proofs.YtpmobjgnmidolaaDoor
open Go.RowKit Lx Vx Msk
theorem catF_snoc: ∀(fs:List (Nat→List In)) (f:Nat→List In) (b:Nat),catF (fs++[f]) b=catF fs b++f (b+(catF fs b).length)
 |[],f,b=>by simp[catF]
 |g::fs,f,b=>by
  have ih:=catF_snoc fs f (b+(g b).length);show g b++catF (fs++[f]) (b+(g b).length)=(g b++catF fs (b+(g b).length))++_;rw[ih,List.append_assoc];congr 2;show f _=f (b+(g b++catF fs (b+(g b).length)).length);rw[List.length_append,←Nat.add_assoc]
def KidsE (w0:World)(gm:Nat)(mp:Value)(l:List Ru)(sl:Value)(ks:List Ex):Prop:=
 ∃g o c:Nat,sl= .slice (some ⟨g,o,none⟩) ks.length c∧g<w0.heap.size∧ks.length<9223372036854775808∧ ∀(j:Nat) (k:Ex),ks[j]? =some k→ ∃(p:Option Addr) (q:Nat),
  w0.cell? ⟨g,o+j*5,none⟩=some (.int .i64 k.kind)∧w0.cell? ⟨g,o+j*5+1,none⟩=some (.int .i64 k.a)∧w0.cell? ⟨g,o+j*5+2,none⟩=some (.int .i64 k.b)∧
  w0.cell? ⟨g,o+j*5+3,none⟩=some (.string ⟨k.name.toArray⟩)∧w0.cell? ⟨g,o+j*5+4,none⟩=some (.slice p k.kids.length q)∧ExprC w0 gm mp l k (.slice p k.kids.length q)
def codesT (l:List Ru)(ks:List Ex)(j b:Nat):List In:=catF ((ks.take j).map (codeE (atP5 l))) b
theorem codesT_step {l:List Ru}{ks:List Ex}{j b:Nat}{k:Ex}(h:ks[j]? =some k):codesT l ks (j+1) b=codesT l ks j b++codeE (atP5 l) k (b+(codesT l ks j b).length):=by
 unfold codesT;rw[List.take_add_one,h,List.map_append];exact catF_snoc _ _ _
set_option maxRecDepth 100000 in
set_option maxHeartbeats 4000000 in
theorem behind_any (w0:World)(gm:Nat)(mp:Value)(l:List Ru)(ks:List Ex)(sl:Value)(op a:Int)(S:List (In×Value))(W0:World)(h:WOk w0 gm mp S W0)(hk:KidsE w0 gm mp l sl ks)(hlc: ∀(j:Nat) (k:Ex),ks[j]? =some k→S.length+(codesT l ks j S.length).length+nodE k≤700)(hlz:S.length+(codesT l ks ks.length S.length).length≤700):
  Calls Tryd.prog 48 #[.pointer (some ⟨gm,0,none⟩),sl,.agg #[.int .i64 op,.int .i64 a,.int .i64 0,.int .i64 0,.slice none 0 0]] W0 (OutX w0 gm mp S (catF (ks.map (codeE (atP5 l))) S.length++[⟨op,a,0,0,[]⟩]) W0):=by
 have HLC:=hidv hlc;have HLZ:=hidv hlz;obtain⟨g,o,c,hsl,hg0,hkl,hkid⟩:=hk;subst hsl;have HKID:=hidv hkid;have bA:=(Below.refl W0.heap.size W0).alloc (Nat.le_refl _) (.cells #[.int .i64 op,.int .i64 a,.int .i64 0,.int .i64 0,.slice none 0 0] 66);have nA:=heap_alloc_new W0 (.cells #[.int .i64 op,.int .i64 a,.int .i64 0,.int .i64 0,.slice none 0 0] 66);have hA:=h.below bA;obtain⟨gA,hgA⟩: ∃q,W0.heap.size=q:=⟨_,rfl⟩
 have hgmA:gm<gA:=by rw[←hgA];exact h.lt
 have HFA:=hidv (Fr2.below h.lt bA)
 have HRA:Hid (rowB gm (W0.alloc (.cells #[.int .i64 op,.int .i64 a,.int .i64 0,.int .i64 0,.slice none 0 0] 66))≠some gA):=by
  show _≠_;obtain⟨_,_,sv,n1,own1⟩:=h.st;rw[rowB_at ((bA.block _ (lt_of_block n1)).trans n1)];intro e;have:=(own1.lt _ e).2;omega
 generalize hwA:W0.alloc (.cells #[.int .i64 op,.int .i64 a,.int .i64 0,.int .i64 0,.slice none 0 0] 66)=wA at*;rw[hgA]at nA;have HNA:=hidv nA;have HA:=hidv hA;have hgl:gA<wA.heap.size:=lt_of_block nA;clear bA nA hA h hlc hlz hkid;go_enter Tryd.func48,Tryd.ntmps48;go_wp2_with fail;go_loopw [7,10] (fun _ t wr=> ∃(j:Nat) (S':List (In×Value)),t= .int .i64 (j:Int)∧j≤ks.length∧S'.map (fun u=>u.1)=codesT l ks j S.length∧WOk w0 gm mp (S++S') wr∧Fr2 gm wA wr) (fun _ t _=>ks.length-(intOf t).toNat);case atStart=>exact⟨0,[],rfl,by omega,rfl,by rw[List.append_nil];exact HA.out,Fr2.below (by omega) (Below.refl _ _)⟩
 case round=>
  obtain⟨j,S',rfl,hj,hS',hok,hfr⟩:=hrel;clear HA hwA;have hj0:(0:Int)≤(j:Int):=(by omega);have hlS:S'.length=(codesT l ks j S.length).length:=(by rw[←hS',List.length_map]);by_cases hlt:j<ks.length
  ·have hlt':(j:Int)<(ks.length:Int):=(by omega);obtain⟨k,hjk⟩: ∃k,ks[j]? =some k:=⟨ks[j],List.getElem?_eq_getElem hlt⟩
   obtain⟨pk,ck,d0,d1,d2,d3,d4,ihk⟩:=HKID.out j k hjk;have hb:=hok.st.bel;have f0:=(hb.cell (block_lt_of_cell d0)).trans d0;have f1:=(hb.cell (block_lt_of_cell d1)).trans d1;have f2:=(hb.cell (block_lt_of_cell d2)).trans d2;have f3:=(hb.cell (block_lt_of_cell d3)).trans d3;have f4:=(hb.cell (block_lt_of_cell d4)).trans d4;have bB:=(Below.refl wr.heap.size wr).alloc (Nat.le_refl _) (.cells #[.int .i64 k.kind,.int .i64 k.a,.int .i64 k.b,.string ⟨k.name.toArray⟩,.slice pk k.kids.length ck] 50);have nB:=heap_alloc_new wr (.cells #[.int .i64 k.kind,.int .i64 k.a,.int .i64 k.b,.string ⟨k.name.toArray⟩,.slice pk k.kids.length ck] 50);have hokB:=hok.below bB;have hfrB:=hfr.trans (Fr2.below hok.lt bB);have cE:=ihk _ _ hokB (by rw[List.length_append,hlS];exact HLC.out j k hjk);unfold exV at cE
   have HST:Hid (S'.map (fun u=>u.1)++codeE (atP5 l) k (S++S').length=codesT l ks (j+1) S.length):=by
    show _=_;rw[codesT_step hjk,hS',List.length_append,hlS]
   generalize hwB:wr.alloc (.cells #[.int .i64 k.kind,.int .i64 k.a,.int .i64 k.b,.string ⟨k.name.toArray⟩,.slice pk k.kids.length ck] 50)=wB at*;have HFB:=hidv hfrB;clear d0 d1 d2 d3 d4 ihk hjk bB hok hfr hokB hfrB hS' hb hlS;go_wp2_with(refine wpList_load_row rfl 50 _ rfl _ rfl _ _ _ _ nB exprType rfl (by kernel_rfl) ?_)
   refine cE.mono ?_;rintro r w3 ⟨rfl,S2,hS2,hok3,hfr3⟩
   have HOK3:Hid (WOk w0 gm mp (S++(S'++S2)) w3):=by
    show WOk _ _ _ _ _;rw[←List.append_assoc];exact hok3
   have HM3:Hid ((S'++S2).map (fun u=>u.1)=codesT l ks (j+1) S.length):=by
    show _=_;rw[List.map_append,hS2];exact HST.out
   have HF3:=hidv (HFB.out.trans hfr3);clear cE nB hwB f0 f1 f2 f3 f4 hS2 hok3 hfr3 HST HFB;go_wp2_with fail;go_roundw;case rel=>exact⟨j+1,S'++S2,by go_num,by omega,HM3.out,HOK3.out,HF3.out⟩
   case measure=>simp[intOf];omega
  ·have hlt': ¬(j:Int)<(ks.length:Int):=(by omega);obtain rfl:j=ks.length:=(by omega);have nA2:=(hfr.blk gA hgl (by omega) HRA.out).trans HNA.out;have cP:=wput_ok hok ⟨op,a,0,0,[]⟩ (.slice none 0 0) (SpIn.nil _ _ _) (by rw[List.length_append,hlS];have:=HLZ.out;omega);dsimp only at cP
   have HM:Hid (S'.map (fun u=>u.1)=catF (ks.map (codeE (atP5 l))) S.length):=by
    show _=_;rw[hS'];unfold codesT;rw[List.take_length]
   have HF:=hidv (HFA.out.trans hfr);clear hok hfr hS' hlS;go_wp2_with(refine wpList_load_row rfl 66 _ rfl _ rfl _ _ _ _ nA2 insTypeW rfl (by kernel_rfl) ?_)
   refine cP.mono ?_;rintro r w4 ⟨rfl,hok4,hfr4⟩
   have HN:Hid (OutX w0 gm mp S (catF (ks.map (codeE (atP5 l))) S.length++[⟨op,a,0,0,[]⟩]) W0 (.returned (.tuple #[])) w4):=by
    refine⟨rfl,S'++[(⟨op,a,0,0,[]⟩,.slice none 0 0)],?_,?_,HF.out.trans hfr4⟩
    ·rw[List.map_append,HM.out];rfl
    ·rw[←List.append_assoc];exact hok4
   clear cP nA2 hok4 hfr4 HM HF;go_wp2_with fail;exact⟨rfl,_,results_none rfl _ _ _,HN.out⟩
end Go.Proofs.YtpmobjgnmidolaaDoor
/- What expr comes to, of what it comes to for the kids. Written by gencwg.py. -/
namespace Go.Proofs.YtpmobjgnmidolaaDoor
open Go.RowKit Lx Vx Msk
theorem codes_le {l:List Ru}{ks:List Ex}{j b:Nat}(h: ∀k∈ks,OKE k):(codesT l ks j b).length≤((ks.take j).map nodE).sum:=by
 unfold codesT;have h': ∀k∈ks.take j,OKE k:=fun k hk=>h k (List.mem_of_mem_take hk);generalize ks.take j=ks' at*;clear h;induction ks' generalizing b with
 |nil=>simp[catF]
 |cons k ks ih=>
  have h1:=(code_len (atP5 l) _ k (Nat.le_refl _) (h' k List.mem_cons_self) b).2;have h2:=ih (b:=b+(codeE (atP5 l) k b).length) fun k' hk'=>h' k' (List.mem_cons_of_mem _ hk');simp only[List.map_cons,catF,List.length_append,List.sum_cons];omega
theorem sum_take {ks:List Ex}{j:Nat}{k:Ex}(h:ks[j]? =some k):((ks.take j).map nodE).sum+nodE k≤(ks.map nodE).sum:=by
 have h1:ks=ks.take j++(k::ks.drop (j+1)):=by
  conv=>lhs;rw[←List.take_append_drop j ks]
  congr 1;have hj:=(List.getElem?_eq_some_iff.1 h).1;rw[List.drop_eq_getElem_cons hj,(List.getElem?_eq_some_iff.1 h).2]
 conv=>rhs;rw[h1]
 rw[List.map_append,List.sum_append,List.map_cons,List.sum_cons];omega
theorem tab_old {w w':World}(h:Tab w)(hb:Below w.heap.size w w'):Tab w':=tab_below h hb
set_option maxRecDepth 100000 in
set_option maxHeartbeats 4000000 in
theorem expr_step (w0:World)(gm mb d:Nat)(l:List Ru)(e:Ex)(p:Option Addr)(c:Nat)(S:List (In×Value))(W0:World)(h:WOk w0 gm (.map (some mb)) S W0)(hmp:MapN w0 mb l)(hT:Tab w0)(hr:Rt e)(hn:e.name.length≤9223372036854775807)(hkb:KidsB (fun k=>k<w0.heap.size) d w0 (.slice p e.kids.length c) e.kids)(hk:e.kids=[]∨KidsE w0 gm (.map (some mb)) l (.slice p e.kids.length c) e.kids)(hnm: ∀x∈nms e,0≤atP5 l x)(hS:S.length+nodE e≤700):
  Calls Tryd.prog 15 #[.pointer (some ⟨gm,0,none⟩),.agg #[.int .i64 e.kind,.int .i64 e.a,.int .i64 e.b,.string ⟨e.name.toArray⟩,.slice p e.kids.length c]] W0 (OutX w0 gm (.map (some mb)) S (codeE (atP5 l) e S.length) W0):=by
 have HKB:=hidv hkb;have bA:=(Below.refl W0.heap.size W0).alloc (Nat.le_refl _) (.cells #[.int .i64 e.kind,.int .i64 e.a,.int .i64 e.b,.string ⟨e.name.toArray⟩,.slice p e.kids.length c] 50);have nA:=heap_alloc_new W0 (.cells #[.int .i64 e.kind,.int .i64 e.a,.int .i64 e.b,.string ⟨e.name.toArray⟩,.slice p e.kids.length c] 50);have hA:=h.below bA;have hfA:=Fr2.below h.lt bA;obtain⟨gE,hgE⟩: ∃q,W0.heap.size=q:=⟨_,rfl⟩
 generalize hwA:W0.alloc (.cells #[.int .i64 e.kind,.int .i64 e.a,.int .i64 e.b,.string ⟨e.name.toArray⟩,.slice p e.kids.length c] 50)=wA at*;rw[hgE]at nA;have hkA:KidsB (fun k=>k<w0.heap.size) d wA (.slice p e.kids.length c) e.kids:=HKB.out.kept fun g hg _=>hA.st.bel.block g hg;have cS:=steady_any d e _ wA hkA;unfold exV OutS7 at cS;have HA:=hidv hA;have HFA:=hidv hfA;have HMP:=hidv hmp;have HT:=hidv hT;clear bA hA hfA hkA h hkb hmp hT;go_enter Tryd.func15,Tryd.ntmps15;go_wp2_with(refine wpList_load_row rfl 50 _ rfl _ rfl _ _ _ _ nA exprType rfl (by kernel_rfl) ?_)
 refine cS.mono ?_;rintro r w1 ⟨rfl,b1⟩;have HOK1:=hidv (HA.out.below b1);have HF1:=hidv (HFA.out.trans (Fr2.below HA.out.lt b1));have nA1:=(b1.block _ (lt_of_block nA)).trans nA;clear cS nA hwA HA HFA b1;cases hstd:stdE e with
 |true=>
  have hb1:=HOK1.out.st.bel;have cM:=meaning_any d e (.slice p e.kids.length c) w1 hr hstd hn ((HKB.out.kept fun g hg _=>hb1.block g hg).mono fun g hg=>Nat.lt_of_lt_of_le hg hb1.size);unfold exV at cM;have HCD:=hidv (code_std (num:=atP5 l) hstd S.length);have HT1:=hidv (tab_old HT.out hb1);clear hb1 hk hr hn hnm hstd;go_wp2_with(refine wpList_load_row rfl 50 _ rfl _ rfl _ _ _ _ nA1 exprType rfl (by kernel_rfl) ?_)
  refine cM.mono ?_;rintro r w2 ⟨rfl,b2⟩;have cP:=spans_own (mnE e) w2 (tab_below HT1.out b2);have HOK2:=hidv (HOK1.out.below b2);have HF2:=hidv (HF1.out.trans (Fr2.below HOK1.out.lt b2));clear cM nA1 b2;go_wp2_with fail;refine cP.mono ?_;rintro r w3 ⟨⟨v3,rfl,own3⟩,_,b3⟩;have hsp:=SpIn.of_own own3;have hok3:=HOK2.out.below b3;have HF3:=hidv (HF2.out.trans (Fr2.below HOK2.out.lt b3));have cW:=wput_ok hok3 ⟨1,0,0,0,rs (mnE e) 1440⟩ v3 hsp (by omega);dsimp only at cW;obtain⟨p3,n3,c3,hv3⟩:=hsp.form;subst hv3;clear cP own3 hsp hok3 b3;go_wp2_with fail;refine cW.mono ?_;rintro r w9 ⟨rfl,hok9,hfr9⟩;have HN:Hid (OutX w0 gm (.map (some mb)) S (codeE (atP5 l) e S.length) W0 (.returned (.tuple #[])) w9):=⟨rfl,_,by rw[HCD.out];rfl,hok9,HF3.out.trans hfr9⟩
  clear cW hok9 hfr9;go_wp2_with fail;exact⟨rfl,_,results_none rfl _ _ _,HN.out⟩
 |false=>
  have z0:=(cell_of_row _ _ 0 _ _ _ nA1).trans rfl;have z1:=(cell_of_row _ _ 1 _ _ _ nA1).trans rfl;have z2:=(cell_of_row _ _ 2 _ _ _ nA1).trans rfl;have z3:=(cell_of_row _ _ 3 _ _ _ nA1).trans rfl;have z4:=(cell_of_row _ _ 4 _ _ _ nA1).trans rfl;clear nA1 hn;rcases code_kinds hr.ok hstd with⟨hkd,hkx⟩|⟨hkd,hkx⟩|⟨hkd,hkx⟩|hkd|⟨hkd,hkx⟩
  ·have e4:(e.kind==4)=true:=(by simp[hkd]);obtain⟨k,hk1⟩:=hkx;obtain⟨g,o,c',hsl,hg0,hkl,hkid⟩:=hk.resolve_left (by rw[hk1];simp);injection hsl with e1 e2 e3;subst e1 e3;have hk0:e.kids[0]? =some k:=(by rw[hk1];rfl);obtain⟨pk,qk,d0,d1,d2,d3,d4,ihk⟩:=hkid 0 k hk0;simp only[Nat.zero_mul,Nat.add_zero]at d0 d1 d2 d3 d4;have hb1:=HOK1.out.st.bel;have f0:=(hb1.cell (block_lt_of_cell d0)).trans d0;have f1:=(hb1.cell (block_lt_of_cell d1)).trans d1;have f2:=(hb1.cell (block_lt_of_cell d2)).trans d2;have f3:=(hb1.cell (block_lt_of_cell d3)).trans d3;have f4:=(hb1.cell (block_lt_of_cell d4)).trans d4;have hl1:(e.kids.length:Int)=1:=(by rw[hk1];rfl);have hkm:k∈e.kids:=(by rw[hk1];simp)
   have hnk:S.length+1+nodE k≤700:=by
    have:=nodE_eq e;rw[hk1]at this;simp only[List.map_cons,List.map_nil,List.sum_cons,List.sum_nil]at this;omega
   have hln:=(code_len (atP5 l) _ k (Nat.le_refl _) (hr.ok.kid hkm) (S.length+1)).2;have HCD:=hidv (code_week (num:=atP5 l) hkd hk0 S.length);have HIH:=hidv ihk;clear d0 d1 d2 d3 d4 ihk hkid hb1 hk hk1 hk0 hkm hr hstd hkl hg0;go_wp2_with fail;refine wp_region_last (by kernel_rfl) (by kernel_rfl) (by kernel_rfl) (by kernel_rfl) 8 (by kernel_rfl) (by kernel_rfl) [(16,.pointer (some ⟨gm,0,none⟩)),(17,.pointer (some ⟨gE,1,none⟩)),(18,.int .i64 e.a),(19,.agg #[.int .i64 6,.int .i64 e.a,.int .i64 0,.int .i64 0,.slice none 0 0]),(20,.pointer (some ⟨gE,4,none⟩)),(21,.slice (some ⟨g,o,none⟩) e.kids.length c),(22,.pointer (some ⟨g,o,none⟩)),(23,.agg #[.int .i64 k.kind,.int .i64 k.a,.int .i64 k.b,.string ⟨k.name.toArray⟩,.slice pk k.kids.length qk])] (by kernel_rfl) (by kernel_rfl) ?_ ?_
   ·intro i' s v o' L A W ho hv hdep hJ hkept hhas;match i',ho,hv with
    |0,ho,hv=>
     cases Option.some.inj ho;cases Option.some.inj hv;have h0:A.tmps[0]?.getD undef= .pointer (some ⟨gm,0,none⟩):=(gd A 0).trans (hkept 0 (by kernel_rfl));refine wpOp_step rfl (fun K hK=> ?_);go_simp;exact hK _ _ ⟨rfl,Below.refl _ _⟩
    |1,ho,hv=>
     cases Option.some.inj ho;cases Option.some.inj hv;have h3:A.tmps[3]?.getD undef= .pointer (some ⟨gE,0,none⟩):=(gd A 3).trans (hkept 3 (by kernel_rfl));refine wpOp_step rfl (fun K hK=> ?_);go_simp;exact hK _ _ ⟨rfl,Below.refl _ _⟩
    |2,ho,hv=>
     cases Option.some.inj ho;cases Option.some.inj hv;have h17:A.tmps[17]?.getD undef= .pointer (some ⟨gE,1,none⟩):=(gd A 17).trans (hhas 1 17 _ rfl (hdep ⟨1,.data⟩ (by simp) rfl));have zz:=(hJ.cell (block_lt_of_cell z1)).trans z1;refine wpOp_step rfl (fun K hK=> ?_);go_simp;exact hK _ _ ⟨rfl,Below.refl _ _⟩
    |3,ho,hv=>
     cases Option.some.inj ho;cases Option.some.inj hv;have h18:A.tmps[18]?.getD undef= .int .i64 e.a:=(gd A 18).trans (hhas 2 18 _ rfl (hdep ⟨2,.data⟩ (by simp) rfl));refine wpOp_step rfl (fun K hK=> ?_);go_simp;exact hK _ _ ⟨rfl,Below.refl _ _⟩
    |4,ho,hv=>
     cases Option.some.inj ho;cases Option.some.inj hv;have h3:A.tmps[3]?.getD undef= .pointer (some ⟨gE,0,none⟩):=(gd A 3).trans (hkept 3 (by kernel_rfl));refine wpOp_step rfl (fun K hK=> ?_);go_simp;exact hK _ _ ⟨rfl,Below.refl _ _⟩
    |5,ho,hv=>
     cases Option.some.inj ho;cases Option.some.inj hv;have h20:A.tmps[20]?.getD undef= .pointer (some ⟨gE,4,none⟩):=(gd A 20).trans (hhas 4 20 _ rfl (hdep ⟨4,.data⟩ (by simp) rfl));have zz:=(hJ.cell (block_lt_of_cell z4)).trans z4;refine wpOp_step rfl (fun K hK=> ?_);go_simp;exact hK _ _ ⟨rfl,Below.refl _ _⟩
    |6,ho,hv=>
     cases Option.some.inj ho;cases Option.some.inj hv;have h21:A.tmps[21]?.getD undef= .slice (some ⟨g,o,none⟩) e.kids.length c:=(gd A 21).trans (hhas 5 21 _ rfl (hdep ⟨5,.data⟩ (by simp) rfl));refine wpOp_step rfl (fun K hK=> ?_);go_simp;exact hK _ _ ⟨rfl,Below.refl _ _⟩
    |7,ho,hv=>
     cases Option.some.inj ho;cases Option.some.inj hv;have h22:A.tmps[22]?.getD undef= .pointer (some ⟨g,o,none⟩):=(gd A 22).trans (hhas 6 22 _ rfl (hdep ⟨6,.data⟩ (by simp) rfl));have zf0:=(hJ.cell (block_lt_of_cell f0)).trans f0;have zf1:=(hJ.cell (block_lt_of_cell f1)).trans f1;have zf2:=(hJ.cell (block_lt_of_cell f2)).trans f2;have zf3:=(hJ.cell (block_lt_of_cell f3)).trans f3;have zf4:=(hJ.cell (block_lt_of_cell f4)).trans f4;refine wpOp_step rfl (fun K hK=> ?_);go_simp;exact hK _ _ ⟨rfl,Below.refl _ _⟩
    |kk+8,ho,hv=>simp at hv
   ·intro o' W ho hJ;cases Option.some.inj ho;simp only[putAll_cons,putAll_nil,Act.put,List.setIfInBounds_toArray,List.set_cons_succ,List.set_cons_zero];refine wpOp_step rfl (fun K hK=> ?_);have hokW:=HOK1.out.below hJ;have hgmW:=HOK1.out.lt;have cC:=guarded_any w0 gm (.map (some mb)) l k pk qk 6 e.a 0 S W hokW HIH.out hnk (by omega);go_simp;refine cC.mono ?_;rintro r w9 ⟨rfl,S',hS',hok9,hfr9⟩;have HN:Hid (OutX w0 gm (.map (some mb)) S (codeE (atP5 l) e S.length) W0 (.returned (.tuple #[])) w9):=⟨rfl,S',hS'.trans HCD.out.symm,hok9,(HF1.out.trans (Fr2.below hgmW hJ)).trans hfr9⟩
    refine hK _ _ ⟨⟨_,rfl⟩,?_⟩;clear hK hJ cC hokW hS' hok9 hfr9;go_wp2_with fail;exact⟨rfl,_,results_none rfl _ _ _,HN.out⟩
  ·have e4:(e.kind==4)=false:=(by simp[hkd]);have e5:(e.kind==5)=true:=(by simp[hkd]);obtain⟨k,hk1⟩:=hkx;obtain⟨g,o,c',hsl,hg0,hkl,hkid⟩:=hk.resolve_left (by rw[hk1];simp);injection hsl with e1 e2 e3;subst e1 e3;have hk0:e.kids[0]? =some k:=(by rw[hk1];rfl);obtain⟨pk,qk,d0,d1,d2,d3,d4,ihk⟩:=hkid 0 k hk0;simp only[Nat.zero_mul,Nat.add_zero]at d0 d1 d2 d3 d4;have hb1:=HOK1.out.st.bel;have f0:=(hb1.cell (block_lt_of_cell d0)).trans d0;have f1:=(hb1.cell (block_lt_of_cell d1)).trans d1;have f2:=(hb1.cell (block_lt_of_cell d2)).trans d2;have f3:=(hb1.cell (block_lt_of_cell d3)).trans d3;have f4:=(hb1.cell (block_lt_of_cell d4)).trans d4;have hl1:(e.kids.length:Int)=1:=(by rw[hk1];rfl);have hkm:k∈e.kids:=(by rw[hk1];simp)
   have hnk:S.length+1+nodE k≤700:=by
    have:=nodE_eq e;rw[hk1]at this;simp only[List.map_cons,List.map_nil,List.sum_cons,List.sum_nil]at this;omega
   have hln:=(code_len (atP5 l) _ k (Nat.le_refl _) (hr.ok.kid hkm) (S.length+1)).2;have HCD:=hidv (code_dates (num:=atP5 l) hkd hk0 S.length);have HIH:=hidv ihk;clear d0 d1 d2 d3 d4 ihk hkid hb1 hk hk1 hk0 hkm hr hstd hkl hg0;go_wp2_with fail;refine wp_region_last (by kernel_rfl) (by kernel_rfl) (by kernel_rfl) (by kernel_rfl) 10 (by kernel_rfl) (by kernel_rfl) [(27,.pointer (some ⟨gm,0,none⟩)),(28,.pointer (some ⟨gE,1,none⟩)),(29,.int .i64 e.a),(30,.pointer (some ⟨gE,2,none⟩)),(31,.int .i64 e.b),(32,.agg #[.int .i64 7,.int .i64 e.a,.int .i64 e.b,.int .i64 0,.slice none 0 0]),(33,.pointer (some ⟨gE,4,none⟩)),(34,.slice (some ⟨g,o,none⟩) e.kids.length c),(35,.pointer (some ⟨g,o,none⟩)),(36,.agg #[.int .i64 k.kind,.int .i64 k.a,.int .i64 k.b,.string ⟨k.name.toArray⟩,.slice pk k.kids.length qk])] (by kernel_rfl) (by kernel_rfl) ?_ ?_
   ·intro i' s v o' L A W ho hv hdep hJ hkept hhas;match i',ho,hv with
    |0,ho,hv=>
     cases Option.some.inj ho;cases Option.some.inj hv;have h0:A.tmps[0]?.getD undef= .pointer (some ⟨gm,0,none⟩):=(gd A 0).trans (hkept 0 (by kernel_rfl));refine wpOp_step rfl (fun K hK=> ?_);go_simp;exact hK _ _ ⟨rfl,Below.refl _ _⟩
    |1,ho,hv=>
     cases Option.some.inj ho;cases Option.some.inj hv;have h3:A.tmps[3]?.getD undef= .pointer (some ⟨gE,0,none⟩):=(gd A 3).trans (hkept 3 (by kernel_rfl));refine wpOp_step rfl (fun K hK=> ?_);go_simp;exact hK _ _ ⟨rfl,Below.refl _ _⟩
    |2,ho,hv=>
     cases Option.some.inj ho;cases Option.some.inj hv;have h28:A.tmps[28]?.getD undef= .pointer (some ⟨gE,1,none⟩):=(gd A 28).trans (hhas 1 28 _ rfl (hdep ⟨1,.data⟩ (by simp) rfl));have zz:=(hJ.cell (block_lt_of_cell z1)).trans z1;refine wpOp_step rfl (fun K hK=> ?_);go_simp;exact hK _ _ ⟨rfl,Below.refl _ _⟩
    |3,ho,hv=>
     cases Option.some.inj ho;cases Option.some.inj hv;have h3:A.tmps[3]?.getD undef= .pointer (some ⟨gE,0,none⟩):=(gd A 3).trans (hkept 3 (by kernel_rfl));refine wpOp_step rfl (fun K hK=> ?_);go_simp;exact hK _ _ ⟨rfl,Below.refl _ _⟩
    |4,ho,hv=>
     cases Option.some.inj ho;cases Option.some.inj hv;have h30:A.tmps[30]?.getD undef= .pointer (some ⟨gE,2,none⟩):=(gd A 30).trans (hhas 3 30 _ rfl (hdep ⟨3,.data⟩ (by simp) rfl));have zz:=(hJ.cell (block_lt_of_cell z2)).trans z2;refine wpOp_step rfl (fun K hK=> ?_);go_simp;exact hK _ _ ⟨rfl,Below.refl _ _⟩
    |5,ho,hv=>
     cases Option.some.inj ho;cases Option.some.inj hv;have h29:A.tmps[29]?.getD undef= .int .i64 e.a:=(gd A 29).trans (hhas 2 29 _ rfl (hdep ⟨2,.data⟩ (by simp) rfl));have h31:A.tmps[31]?.getD undef= .int .i64 e.b:=(gd A 31).trans (hhas 4 31 _ rfl (hdep ⟨4,.data⟩ (by simp) rfl));refine wpOp_step rfl (fun K hK=> ?_);go_simp;exact hK _ _ ⟨rfl,Below.refl _ _⟩
    |6,ho,hv=>
     cases Option.some.inj ho;cases Option.some.inj hv;have h3:A.tmps[3]?.getD undef= .pointer (some ⟨gE,0,none⟩):=(gd A 3).trans (hkept 3 (by kernel_rfl));refine wpOp_step rfl (fun K hK=> ?_);go_simp;exact hK _ _ ⟨rfl,Below.refl _ _⟩
    |7,ho,hv=>
     cases Option.some.inj ho;cases Option.some.inj hv;have h33:A.tmps[33]?.getD undef= .pointer (some ⟨gE,4,none⟩):=(gd A 33).trans (hhas 6 33 _ rfl (hdep ⟨6,.data⟩ (by simp) rfl));have zz:=(hJ.cell (block_lt_of_cell z4)).trans z4;refine wpOp_step rfl (fun K hK=> ?_);go_simp;exact hK _ _ ⟨rfl,Below.refl _ _⟩
    |8,ho,hv=>
     cases Option.some.inj ho;cases Option.some.inj hv;have h34:A.tmps[34]?.getD undef= .slice (some ⟨g,o,none⟩) e.kids.length c:=(gd A 34).trans (hhas 7 34 _ rfl (hdep ⟨7,.data⟩ (by simp) rfl));refine wpOp_step rfl (fun K hK=> ?_);go_simp;exact hK _ _ ⟨rfl,Below.refl _ _⟩
    |9,ho,hv=>
     cases Option.some.inj ho;cases Option.some.inj hv;have h35:A.tmps[35]?.getD undef= .pointer (some ⟨g,o,none⟩):=(gd A 35).trans (hhas 8 35 _ rfl (hdep ⟨8,.data⟩ (by simp) rfl));have zf0:=(hJ.cell (block_lt_of_cell f0)).trans f0;have zf1:=(hJ.cell (block_lt_of_cell f1)).trans f1;have zf2:=(hJ.cell (block_lt_of_cell f2)).trans f2;have zf3:=(hJ.cell (block_lt_of_cell f3)).trans f3;have zf4:=(hJ.cell (block_lt_of_cell f4)).trans f4;refine wpOp_step rfl (fun K hK=> ?_);go_simp;exact hK _ _ ⟨rfl,Below.refl _ _⟩
    |kk+10,ho,hv=>simp at hv
   ·intro o' W ho hJ;cases Option.some.inj ho;simp only[putAll_cons,putAll_nil,Act.put,List.setIfInBounds_toArray,List.set_cons_succ,List.set_cons_zero];refine wpOp_step rfl (fun K hK=> ?_);have hokW:=HOK1.out.below hJ;have hgmW:=HOK1.out.lt;have cC:=guarded_any w0 gm (.map (some mb)) l k pk qk 7 e.a e.b S W hokW HIH.out hnk (by omega);go_simp;refine cC.mono ?_;rintro r w9 ⟨rfl,S',hS',hok9,hfr9⟩;have HN:Hid (OutX w0 gm (.map (some mb)) S (codeE (atP5 l) e S.length) W0 (.returned (.tuple #[])) w9):=⟨rfl,S',hS'.trans HCD.out.symm,hok9,(HF1.out.trans (Fr2.below hgmW hJ)).trans hfr9⟩
    refine hK _ _ ⟨⟨_,rfl⟩,?_⟩;clear hK hJ cC hokW hS' hok9 hfr9;go_wp2_with fail;exact⟨rfl,_,results_none rfl _ _ _,HN.out⟩
  ·have e4:(e.kind==4)=false:=(by simp[hkd]);have e5:(e.kind==5)=false:=(by simp[hkd]);have e9:(e.kind==9)=true:=(by simp[hkd]);have hke:=hk.resolve_left (by rw[hkx.choose_spec];simp);have hbk: ∀k∈e.kids,OKE k:=fun k hk=>hr.ok.kid hk;have hsn:=nodE_eq e
   have cC:=behind_any w0 gm (.map (some mb)) l e.kids _ 5 e.a S w1 HOK1.out hke (fun j k hj=>by
    have h1:=codes_le (l:=l) (ks:=e.kids) (j:=j) (b:=S.length) hbk;have h2:=sum_take hj;omega) (by
    have h1:=codes_le (l:=l) (ks:=e.kids) (j:=e.kids.length) (b:=S.length) hbk;rw[List.take_length]at h1;omega)
   have HCD:Hid (codeE (atP5 l) e S.length=catF (e.kids.map (codeE (atP5 l))) S.length++[⟨5,e.a,0,0,[]⟩]):=by
    show _=_;rw[code_cat hstd (by omega) (by omega) (by omega)];unfold opK;simp[hkd]
   clear hke hbk hsn hk hkx hr hstd;go_wp2_with fail;refine cC.mono ?_;rintro r w9 ⟨rfl,S',hS',hok9,hfr9⟩;have HN:Hid (OutX w0 gm (.map (some mb)) S (codeE (atP5 l) e S.length) W0 (.returned (.tuple #[])) w9):=⟨rfl,S',hS'.trans HCD.out.symm,hok9,HF1.out.trans hfr9⟩
   clear cC hS' hok9 hfr9;go_wp2_with fail;exact⟨rfl,_,results_none rfl _ _ _,HN.out⟩
  ·have e4:(e.kind==4)=false:=(by simp[hkd]);have e5:(e.kind==5)=false:=(by simp[hkd]);have e9:(e.kind==9)=false:=(by simp[hkd]);have e10:(e.kind==10)=true:=(by simp[hkd])
   have zm:w1.cell? ⟨gm,0,none⟩=some (.map (some mb)):=by
    obtain⟨_,_,sv,n1,_⟩:=HOK1.out.st;exact(cell_of_row _ _ 0 _ _ _ n1).trans rfl
   have HNM:=hidv (hnm _ (nms_own hkd));have HCD:=hidv (code_name (num:=atP5 l) hkd S.length);have hmb:=lt_of_map HMP.out;have HMP1:=hidv (HMP.out.later (HOK1.out.st.bel.block _ hmb));have HMB:=hidv (Nat.lt_of_lt_of_le hmb HOK1.out.st.bel.size);clear hnm hk hr hstd hmb;go_wp2_with fail;refine wp_region_last (by kernel_rfl) (by kernel_rfl) (by kernel_rfl) (by kernel_rfl) 9 (by kernel_rfl) (by kernel_rfl) [(49,.pointer (some ⟨gm,0,none⟩)),(50,.pointer (some ⟨gm,0,none⟩)),(51,.pointer (some ⟨gm,0,none⟩)),(52,.pointer (some ⟨gm,0,none⟩)),(53,.map (some mb)),(54,.pointer (some ⟨gE,3,none⟩)),(55,.string ⟨e.name.toArray⟩),(56,.int .i64 (atP5 l e.name)),(57,.agg #[.int .i64 8,.int .i64 (atP5 l e.name),.int .i64 0,.int .i64 0,.slice none 0 0])] (by kernel_rfl) (by kernel_rfl) ?_ ?_
   ·intro i' s v o' L A W ho hv hdep hJ hkept hhas;match i',ho,hv with
    |0,ho,hv=>
     cases Option.some.inj ho;cases Option.some.inj hv;have h0:A.tmps[0]?.getD undef= .pointer (some ⟨gm,0,none⟩):=(gd A 0).trans (hkept 0 (by kernel_rfl));refine wpOp_step rfl (fun K hK=> ?_);go_simp;exact hK _ _ ⟨rfl,Below.refl _ _⟩
    |1,ho,hv=>
     cases Option.some.inj ho;cases Option.some.inj hv;have h0:A.tmps[0]?.getD undef= .pointer (some ⟨gm,0,none⟩):=(gd A 0).trans (hkept 0 (by kernel_rfl));refine wpOp_step rfl (fun K hK=> ?_);go_simp;exact hK _ _ ⟨rfl,Below.refl _ _⟩
    |2,ho,hv=>
     cases Option.some.inj ho;cases Option.some.inj hv;have h50:A.tmps[50]?.getD undef= .pointer (some ⟨gm,0,none⟩):=(gd A 50).trans (hhas 1 50 _ rfl (hdep ⟨1,.data⟩ (by simp) rfl));refine wpOp_step rfl (fun K hK=> ?_);go_simp;exact hK _ _ ⟨rfl,Below.refl _ _⟩
    |3,ho,hv=>
     cases Option.some.inj ho;cases Option.some.inj hv;have h51:A.tmps[51]?.getD undef= .pointer (some ⟨gm,0,none⟩):=(gd A 51).trans (hhas 2 51 _ rfl (hdep ⟨2,.data⟩ (by simp) rfl));refine wpOp_step rfl (fun K hK=> ?_);go_simp;exact hK _ _ ⟨rfl,Below.refl _ _⟩
    |4,ho,hv=>
     cases Option.some.inj ho;cases Option.some.inj hv;have h52:A.tmps[52]?.getD undef= .pointer (some ⟨gm,0,none⟩):=(gd A 52).trans (hhas 3 52 _ rfl (hdep ⟨3,.data⟩ (by simp) rfl));have zz:=(hJ.cell (block_lt_of_cell zm)).trans zm;refine wpOp_step rfl (fun K hK=> ?_);go_simp;exact hK _ _ ⟨rfl,Below.refl _ _⟩
    |5,ho,hv=>
     cases Option.some.inj ho;cases Option.some.inj hv;have h3:A.tmps[3]?.getD undef= .pointer (some ⟨gE,0,none⟩):=(gd A 3).trans (hkept 3 (by kernel_rfl));refine wpOp_step rfl (fun K hK=> ?_);go_simp;exact hK _ _ ⟨rfl,Below.refl _ _⟩
    |6,ho,hv=>
     cases Option.some.inj ho;cases Option.some.inj hv;have h54:A.tmps[54]?.getD undef= .pointer (some ⟨gE,3,none⟩):=(gd A 54).trans (hhas 5 54 _ rfl (hdep ⟨5,.data⟩ (by simp) rfl));have zz:=(hJ.cell (block_lt_of_cell z3)).trans z3;refine wpOp_step rfl (fun K hK=> ?_);go_simp;exact hK _ _ ⟨rfl,Below.refl _ _⟩
    |7,ho,hv=>
     cases Option.some.inj ho;cases Option.some.inj hv;have h53:A.tmps[53]?.getD undef= .map (some mb):=(gd A 53).trans (hhas 4 53 _ rfl (hdep ⟨4,.data⟩ (by simp) rfl));have h55:A.tmps[55]?.getD undef= .string ⟨e.name.toArray⟩:=(gd A 55).trans (hhas 6 55 _ rfl (hdep ⟨6,.data⟩ (by simp) rfl));have hlk:=look6 (HMP1.out.later (hJ.block _ HMB.out)) e.name HNM.out;refine wpOp_step rfl (fun K hK=> ?_);go_simp;exact hK _ _ ⟨rfl,Below.refl _ _⟩
    |8,ho,hv=>
     cases Option.some.inj ho;cases Option.some.inj hv;have h56:A.tmps[56]?.getD undef= .int .i64 (atP5 l e.name):=(gd A 56).trans (hhas 7 56 _ rfl (hdep ⟨7,.data⟩ (by simp) rfl));refine wpOp_step rfl (fun K hK=> ?_);go_simp;exact hK _ _ ⟨rfl,Below.refl _ _⟩
    |kk+9,ho,hv=>simp at hv
   ·intro o' W ho hJ;cases Option.some.inj ho;simp only[putAll_cons,putAll_nil,Act.put,List.setIfInBounds_toArray,List.set_cons_succ,List.set_cons_zero];refine wpOp_step rfl (fun K hK=> ?_);have hokW:=HOK1.out.below hJ;have hgmW:=HOK1.out.lt;have cC:=wput_ok hokW ⟨8,atP5 l e.name,0,0,[]⟩ (.slice none 0 0) (SpIn.nil _ _ _) (by omega);dsimp only at cC;go_simp;refine cC.mono ?_;rintro r w9 ⟨rfl,hok9,hfr9⟩;have HN:Hid (OutX w0 gm (.map (some mb)) S (codeE (atP5 l) e S.length) W0 (.returned (.tuple #[])) w9):=⟨rfl,_,by rw[HCD.out];rfl,hok9,(HF1.out.trans (Fr2.below hgmW hJ)).trans hfr9⟩
    refine hK _ _ ⟨⟨_,rfl⟩,?_⟩;clear hK hJ cC hokW hok9 hfr9;go_wp2_with fail;exact⟨rfl,_,results_none rfl _ _ _,HN.out⟩
  ·rcases hkd with hkd|hkd|hkd
   ·have e4:(e.kind==4)=false:=(by simp[hkd]);have e5:(e.kind==5)=false:=(by simp[hkd]);have e9:(e.kind==9)=false:=(by simp[hkd]);have e10:(e.kind==10)=false:=(by simp[hkd]);have e6:(e.kind==6)=true:=(by simp[hkd]);have hke:=hk.resolve_left (by rw[hkx.choose_spec.choose_spec];simp);have hbk: ∀k∈e.kids,OKE k:=fun k hk=>hr.ok.kid hk;have hsn:=nodE_eq e
    have cC:=behind_any w0 gm (.map (some mb)) l e.kids _ 2 0 S w1 HOK1.out hke (fun j k hj=>by
     have h1:=codes_le (l:=l) (ks:=e.kids) (j:=j) (b:=S.length) hbk;have h2:=sum_take hj;omega) (by
     have h1:=codes_le (l:=l) (ks:=e.kids) (j:=e.kids.length) (b:=S.length) hbk;rw[List.take_length]at h1;omega)
    have HCD:Hid (codeE (atP5 l) e S.length=catF (e.kids.map (codeE (atP5 l))) S.length++[⟨2,0,0,0,[]⟩]):=by
     show _=_;rw[code_cat hstd (by omega) (by omega) (by omega)];unfold opK;simp[hkd]
    clear hke hbk hsn hk hkx hr hstd;go_wp2_with fail;refine cC.mono ?_;rintro r w9 ⟨rfl,S',hS',hok9,hfr9⟩;have HN:Hid (OutX w0 gm (.map (some mb)) S (codeE (atP5 l) e S.length) W0 (.returned (.tuple #[])) w9):=⟨rfl,S',hS'.trans HCD.out.symm,hok9,HF1.out.trans hfr9⟩
    clear cC hS' hok9 hfr9;go_wp2_with fail;exact⟨rfl,_,results_none rfl _ _ _,HN.out⟩
   ·have e4:(e.kind==4)=false:=(by simp[hkd]);have e5:(e.kind==5)=false:=(by simp[hkd]);have e9:(e.kind==9)=false:=(by simp[hkd]);have e10:(e.kind==10)=false:=(by simp[hkd]);have e6:(e.kind==6)=false:=(by simp[hkd]);have e7:(e.kind==7)=true:=(by simp[hkd]);have hke:=hk.resolve_left (by rw[hkx.choose_spec.choose_spec];simp);have hbk: ∀k∈e.kids,OKE k:=fun k hk=>hr.ok.kid hk;have hsn:=nodE_eq e
    have cC:=behind_any w0 gm (.map (some mb)) l e.kids _ 3 0 S w1 HOK1.out hke (fun j k hj=>by
     have h1:=codes_le (l:=l) (ks:=e.kids) (j:=j) (b:=S.length) hbk;have h2:=sum_take hj;omega) (by
     have h1:=codes_le (l:=l) (ks:=e.kids) (j:=e.kids.length) (b:=S.length) hbk;rw[List.take_length]at h1;omega)
    have HCD:Hid (codeE (atP5 l) e S.length=catF (e.kids.map (codeE (atP5 l))) S.length++[⟨3,0,0,0,[]⟩]):=by
     show _=_;rw[code_cat hstd (by omega) (by omega) (by omega)];unfold opK;simp[hkd]
    clear hke hbk hsn hk hkx hr hstd;go_wp2_with fail;refine cC.mono ?_;rintro r w9 ⟨rfl,S',hS',hok9,hfr9⟩;have HN:Hid (OutX w0 gm (.map (some mb)) S (codeE (atP5 l) e S.length) W0 (.returned (.tuple #[])) w9):=⟨rfl,S',hS'.trans HCD.out.symm,hok9,HF1.out.trans hfr9⟩
    clear cC hS' hok9 hfr9;go_wp2_with fail;exact⟨rfl,_,results_none rfl _ _ _,HN.out⟩
   ·have e4:(e.kind==4)=false:=(by simp[hkd]);have e5:(e.kind==5)=false:=(by simp[hkd]);have e9:(e.kind==9)=false:=(by simp[hkd]);have e10:(e.kind==10)=false:=(by simp[hkd]);have e6:(e.kind==6)=false:=(by simp[hkd]);have e7:(e.kind==7)=false:=(by simp[hkd]);have e8:(e.kind==8)=true:=(by simp[hkd]);have hke:=hk.resolve_left (by rw[hkx.choose_spec.choose_spec];simp);have hbk: ∀k∈e.kids,OKE k:=fun k hk=>hr.ok.kid hk;have hsn:=nodE_eq e
    have cC:=behind_any w0 gm (.map (some mb)) l e.kids _ 4 0 S w1 HOK1.out hke (fun j k hj=>by
     have h1:=codes_le (l:=l) (ks:=e.kids) (j:=j) (b:=S.length) hbk;have h2:=sum_take hj;omega) (by
     have h1:=codes_le (l:=l) (ks:=e.kids) (j:=e.kids.length) (b:=S.length) hbk;rw[List.take_length]at h1;omega)
    have HCD:Hid (codeE (atP5 l) e S.length=catF (e.kids.map (codeE (atP5 l))) S.length++[⟨4,0,0,0,[]⟩]):=by
     show _=_;rw[code_cat hstd (by omega) (by omega) (by omega)];unfold opK;simp[hkd]
    clear hke hbk hsn hk hkx hr hstd;go_wp2_with fail;refine cC.mono ?_;rintro r w9 ⟨rfl,S',hS',hok9,hfr9⟩;have HN:Hid (OutX w0 gm (.map (some mb)) S (codeE (atP5 l) e S.length) W0 (.returned (.tuple #[])) w9):=⟨rfl,S',hS'.trans HCD.out.symm,hok9,HF1.out.trans hfr9⟩
    clear cC hS' hok9 hfr9;go_wp2_with fail;exact⟨rfl,_,results_none rfl _ _ _,HN.out⟩
theorem expr_any (w0:World)(gm mb:Nat)(l:List Ru)(hmp:MapN w0 mb l)(hT:Tab w0): ∀(d:Nat) (e:Ex) (sl:Value),KidsB (fun k=>k<w0.heap.size) d w0 sl e.kids→Rt e→e.name.length≤9223372036854775807→(∀x∈nms e,0≤atP5 l x)→ExprC w0 gm (.map (some mb)) l e sl:=by
 intro d;induction d with
 |zero=>
  intro e sl hk hr hn hnm S W h hS;obtain⟨p,c,rfl⟩:=hk.form;exact expr_step w0 gm mb 0 l e p c S W h hmp hT hr hn hk (.inl hk.1) hnm hS
 |succ d ih=>
  intro e sl hk hr hn hnm S W h hS;obtain⟨p,c,hsl⟩:=hk.form;subst hsl;refine expr_step w0 gm mb (d+1) l e p c S W h hmp hT hr hn hk ?_ hnm hS;rcases hk with⟨h,_⟩|⟨g,o,c',hg,hs,hl,hkid⟩
  ·exact .inl h
  ·refine .inr ⟨g,o,c',hs,hg,hl,fun j k hj=> ?_⟩;obtain⟨hn',sk,c0,c1,c2,c3,c4,r⟩:=hkid j k hj;obtain⟨p',q',rfl⟩:=r.form;have hkm:=List.mem_of_getElem? hj;exact⟨p',q',c0,c1,c2,c3,c4,ih k _ r (hr.kid hkm) hn' fun x hx=>hnm x (nms_kid hkm hx)⟩
end Go.Proofs.YtpmobjgnmidolaaDoor
