/- What the document's Reach comes to. -/
import Derived.Test.YtpmobjgnmidolaaDoorDt19
import Derived.Test.YtpmobjgnmidolaaDoorDt03
namespace Go.Proofs.YtpmobjgnmidolaaDoor
open Go.RowKit Lx
theorem unw {ops:Array Oper}{A:Act}{o:Oper}{gi gs:Nat}{want:Bool}(hg:o.guard=some (gi,want))(hd:(ops[gi]?).bind (·.dst)=some gs)(hG:A.tmps[gs]?.getD undef=undef): ¬Region.wanted o (yielded ops A.tmps)=true:=by
 unfold Region.wanted;rw[hg];unfold yielded;dsimp only;rw[hd];dsimp only[Option.bind_some];cases h:A.tmps[gs]? with
 |none=>simp
 |some v=>
  rw[h]at hG;have:v=undef:=hG;subst this;simp[undef]
def OutRc (E:Nat→Nat→Bool)(n:Nat)(w:World)(e:Ending)(w':World):Prop:= ∃rs,e= .returned (.slice (some ⟨w.heap.size,0,none⟩) n n)∧RcM w n n rs (wars E n) w'
def RcA (E:Nat→Nat→Bool)(n:Nat)(w:World)(t:Value)(wr:World):Prop:= ∃(i:Nat) (rs:Nat→Nat),t= .int .i64 (i:Int)∧i≤n∧RcM w n i rs (stE E i 0) wr
def RcB (E:Nat→Nat→Bool)(n:Nat)(rs:Nat→Nat)(i:Nat)(w:World)(t:Value)(wr:World):Prop:= ∃(k:Nat),t= .int .i64 (k:Int)∧k≤n∧RcM w n (i+1) rs (stE E i k) wr
def RcC (E:Nat→Nat→Bool)(n:Nat)(rs:Nat→Nat)(w:World)(t:Value)(wr:World):Prop:= ∃(m:Nat),t= .int .i64 (m:Int)∧m≤n∧RcM w n n rs (wars E m) wr
def RcD (E:Nat→Nat→Bool)(n:Nat)(rs:Nat→Nat)(m:Nat)(w:World)(t:Value)(wr:World):Prop:= ∃(i:Nat),t= .int .i64 (i:Int)∧i≤n∧RcM w n n rs (stW E m i 0) wr
def RcE (E:Nat→Nat→Bool)(n:Nat)(rs:Nat→Nat)(m i:Nat)(w:World)(t:Value)(wr:World):Prop:= ∃(k:Nat),t= .int .i64 (k:Int)∧k≤n∧RcM w n n rs (stW E m i k) wr
set_option maxRecDepth 100000 in
set_option maxHeartbeats 2000000 in
theorem reach_any (us:List (Ru×Value))(v:Value)(w:World)(h:InR w v us)(h40:us.length≤1000):Calls Tryd.prog 20 #[v] w (OutRc (edgE (us.map (fun p=>p.1))) us.length w):=by
 obtain⟨l,hl⟩: ∃l,us.map (fun p=>p.1)=l:=⟨_,rfl⟩
 obtain⟨pv,cv,rfl⟩:=h.form;have hmk:=run_make_row' (P:=Tryd.prog) 59 61 (.slice none 0 0) 24 boolssType slInfo6 rfl .i64 .i64 us.length (by omega) (by omega);have hmr:=run_make_row' (P:=Tryd.prog) 61 4 (.bool false) 1 boolsType boolInfo rfl .i64 .i64 us.length (by omega) (by omega);rw[ocells_none _ (fun _=>0)]at hmk;rw[bcells_none]at hmr;have bA:=(Below.refl w.heap.size w).alloc (Nat.le_refl _) (.cells (ocells us.length 0 (fun _=>0)) 61);have hst:RcM w us.length 0 (fun _=>0) (stE (edgE l) 0 0) (w.alloc (.cells (ocells us.length 0 (fun _=>0)) 61)):=⟨bA,heap_alloc_new w _,fun j hj=>by omega,fun j k hj=>by omega,fun j hj=>by omega,by omega⟩
 rw[hl];have HL:=hid5 hl;have HI:=hid5 h;have H40:=hid5 h40;have hI40:(us.length:Int)≤1000:=by omega
 generalize hwA:w.alloc (.cells (ocells us.length 0 (fun _=>0)) 61)=wA at*;clear h hl bA h40;go_enter Tryd.func20,Tryd.ntmps20;go_wp2_with fail;clear hmk hwA;go_loopw [4,5,14] (fun _ _ t wr=>RcA (edgE l) us.length w t wr) (fun _ _ t _=>us.length-(intOf t).toNat);case atStart=>exact⟨0,_,rfl,by omega,hst⟩
 case round=>
  obtain⟨i,rs0,rfl,hi,hsA⟩:=hrel;clear hst;have hi0:(0:Int)≤(i:Int):=(by omega);by_cases hlt:i<us.length
  ·have hlt':(i:Int)<(us.length:Int):=(by omega);obtain⟨⟨u,sk⟩,hik⟩: ∃p,us[i]? =some p:=⟨us[i],List.getElem?_eq_getElem hlt⟩
   have hul:l[i]? =some u:=(by rw[←HL.out,List.getElem?_map,hik];rfl);obtain⟨g,o,hpe,c0,c1,c2,c3,c4,c5⟩:=HI.out.cells i _ hik;obtain⟨_,_,d,hkk⟩:=HI.out.all _ (List.mem_of_getElem? hik);dsimp only at c0 c1 c2 c3 c4 c5 hkk;obtain⟨ps,cs,rfl⟩:=hkk.form;subst hpe
   have hadd:=(hsA.add hlt).same (M':=stE (edgE l) i 0) fun j k hj hk=>by
    unfold stE;by_cases e:j=i
    ·rw[if_pos e,if_neg (by omega)]
    ·rw[if_neg e]
   have bA:=(Below.refl wr.heap.size wr).alloc (Nat.le_refl _) (.cells (bcells us.length (fun _=>false)) 4);have ko:=(cell_of_row _ _ i _ _ _ (hsA.below bA).outer).trans (ocells_not (Nat.le_refl i) hlt);have yo:=frozen_of_row _ _ i _ _ (hsA.below bA).outer;generalize hwB:wr.alloc (.cells (bcells us.length (fun _=>false)) 4)=wB at*;have Hul:=hid5 hul;have Hkk:=hid5 (List.mem_of_getElem? hik);have Hadd:=hid5 hadd;clear hsA bA hul hkk hadd hik;go_wp2_with fail;clear ko yo hwB;have hadd:=Hadd.out;clear Hadd;generalize (fun j=>if j=i then wr.heap.size else rs0 j)=rs at hadd;generalize wB.setCell ⟨w.heap.size,i,none⟩ (.slice (some ⟨wr.heap.size,0,none⟩) us.length us.length)=wC at*;obtain⟨b8,hb8⟩: ∃b,wr.heap.size=b:=⟨_,rfl⟩
   simp only[hb8];clear hb8;go_loopw [5,25] (fun _ t wr=>RcB (edgE l) us.length rs i w t wr) (fun _ t _=>us.length-(intOf t).toNat);case atStart=>exact⟨0,rfl,by omega,hadd⟩
   case round=>
    obtain⟨k,rfl,hk,hst⟩:=hrel;clear hadd;have hk0:(0:Int)≤(k:Int):=(by omega);by_cases hltk:k<us.length
    ·have hltk':(k:Int)<(us.length:Int):=(by omega);obtain⟨⟨v,sv⟩,hkk⟩: ∃p,us[k]? =some p:=⟨us[k],List.getElem?_eq_getElem hltk⟩
     have hvl:l[k]? =some v:=(by rw[←HL.out,List.getElem?_map,hkk];rfl);obtain⟨g',o',hpe,b0,_⟩:=HI.out.cells k _ hkk;obtain⟨rfl,rfl⟩:g=g'∧o=o':=(by cases hpe;exact⟨rfl,rfl⟩);dsimp only at b0;have hbl:=hst.bel;have dk:=(hbl.cell (block_lt_of_cell b0)).trans b0;have q1:=(hbl.cell (block_lt_of_cell c1)).trans c1;have q2:=(hbl.cell (block_lt_of_cell c2)).trans c2;have q3:=(hbl.cell (block_lt_of_cell c3)).trans c3;have q4:=(hbl.cell (block_lt_of_cell c4)).trans c4;have q5:=(hbl.cell (block_lt_of_cell c5)).trans c5;have hip:i<i+1:=Nat.lt_succ_self i;have hkn:=hltk;have oi:=hst.out hip;have mik:=hst.cell hip hkn;have hz:stE (edgE l) i k i k=false:=if_neg (by omega);rw[hz]at mik
     have cAt: ∀W,Below wr.heap.size wr W→Calls Tryd.prog 50 #[.slice (some ⟨g,o,none⟩) us.length cv,.string ⟨v.1.toArray⟩] W fun r w'=>r= .returned (.int .i64 (atP5 l v.1))∧Below W.heap.size W w':=fun W hW=>by
      have:=at_any us _ v.1 W (HI.out.below (hbl.trans (hW.mono hbl.size)));rw[HL.out]at this;exact this
     have cSp: ∀W,Below wr.heap.size wr W→Calls Tryd.prog 52 #[.agg #[.int .i64 u.2.kind,.int .i64 u.2.a,.int .i64 u.2.b,.string ⟨u.2.name.toArray⟩,.slice ps u.2.kids.length cs],.string ⟨v.1.toArray⟩] W fun r w'=>r= .returned (.bool (spk u.2 v.1))∧Below W.heap.size W w':=fun W hW=>by
      have hbW:=hbl.trans (hW.mono hbl.size);obtain⟨_,_,d',hk'⟩:=(HI.out.below hbW).all _ Hkk.out;exact speaks_any v.1 d' u.2 _ W hk'
     have hed:edgE l i k=(decide (atP5 l v.1=(k:Int))&&spk u.2 v.1):=by
      unfold edgE;rw[Hul.out,hvl]
     have hnext: ∀W x,x=(decide (atP5 l v.1=(k:Int))&&spk u.2 v.1)→RcM w us.length (i+1) rs (upd2 (stE (edgE l) i k) i k x) W→RcB (edgE l) us.length rs i w (.int .i64 ((k+1:Nat):Int)) W:=fun W x hx hW=>by
      rw[←hed]at hx;rw[hx,stE_next]at hW;exact⟨k+1,rfl,by omega,hW⟩
     generalize hat0:atP5 l v.1=at0 at*;generalize spk u.2 v.1=sp0 at*;generalize stE (edgE l) i k=St at*;clear b0 c0 c1 c2 c3 c4 c5 hvl hed hz hbl hkk HI HL Hkk Hul H40;go_wp2_with fail;by_cases hba:at0=(k:Int)
     ·rw[decide_eq_true hba]at hnext;have hbe:(at0==(k:Int))=true:=(by simpa using hba);clear hba;refine wp_region_last (by kernel_rfl) (by kernel_rfl) (by kernel_rfl) (by kernel_rfl) 28 (by kernel_rfl) (by kernel_rfl) [(28,.slice (some ⟨w.heap.size,0,none⟩) us.length us.length),(29,.int .i64 (i:Int)),(30,.pointer (some ⟨w.heap.size,i,none⟩)),(31,.slice (some ⟨rs i,0,none⟩) us.length us.length),(32,.int .i64 (k:Int)),(33,.slice (some ⟨g,o,none⟩) us.length cv),(34,.slice (some ⟨g,o,none⟩) us.length cv),(35,.int .i64 (k:Int)),(36,.pointer (some ⟨g,o+k*6,none⟩)),(37,.pointer (some ⟨g,o+k*6,none⟩)),(38,.string ⟨v.1.toArray⟩),(39,.int .i64 at0),(40,.int .i64 (k:Int)),(41,.bool true),(42,.bool true),(43,.slice (some ⟨g,o,none⟩) us.length cv),(44,.int .i64 (i:Int)),(45,.pointer (some ⟨g,o+i*6,none⟩)),(46,.pointer (some ⟨g,o+i*6+1,none⟩)),(47,.agg #[.int .i64 u.2.kind,.int .i64 u.2.a,.int .i64 u.2.b,.string ⟨u.2.name.toArray⟩,.slice ps u.2.kids.length cs]),(48,.slice (some ⟨g,o,none⟩) us.length cv),(49,.int .i64 (k:Int)),(50,.pointer (some ⟨g,o+k*6,none⟩)),(51,.pointer (some ⟨g,o+k*6,none⟩)),(52,.string ⟨v.1.toArray⟩),(53,.bool sp0),(54,.bool sp0),(55,.pointer (some ⟨rs i,k,none⟩))] (by kernel_rfl) (by kernel_rfl) ?_ ?_
      ·intro i' s v o' L A W ho hv hdep hJ hkept hhas;match i',ho,hv with
       |0,ho,hv=>
        cases Option.some.inj ho;cases Option.some.inj hv;have h3:A.tmps[3]?.getD undef= .slice (some ⟨w.heap.size,0,none⟩) us.length us.length:=(gd A 3).trans (hkept 3 (by kernel_rfl));refine wpOp_step rfl (fun K hK=> ?_);go_simp;exact hK _ _ ⟨rfl,Below.refl _ _⟩
       |1,ho,hv=>
        cases Option.some.inj ho;cases Option.some.inj hv;have h4:A.tmps[4]?.getD undef= .int .i64 (i:Int):=(gd A 4).trans (hkept 4 (by kernel_rfl));refine wpOp_step rfl (fun K hK=> ?_);go_simp;exact hK _ _ ⟨rfl,Below.refl _ _⟩
       |2,ho,hv=>
        cases Option.some.inj ho;cases Option.some.inj hv;have h28:A.tmps[28]?.getD undef= .slice (some ⟨w.heap.size,0,none⟩) us.length us.length:=(gd A 28).trans (hhas 0 28 _ rfl (hdep ⟨0,.data⟩ (by simp) rfl));have h29:A.tmps[29]?.getD undef= .int .i64 (i:Int):=(gd A 29).trans (hhas 1 29 _ rfl (hdep ⟨1,.data⟩ (by simp) rfl));refine wpOp_step rfl (fun K hK=> ?_);go_simp;exact hK _ _ ⟨rfl,Below.refl _ _⟩
       |3,ho,hv=>
        cases Option.some.inj ho;cases Option.some.inj hv;have h30:A.tmps[30]?.getD undef= .pointer (some ⟨w.heap.size,i,none⟩):=(gd A 30).trans (hhas 2 30 _ rfl (hdep ⟨2,.data⟩ (by simp) rfl));have ci:W.cell? ⟨w.heap.size,i,none⟩=some (.slice (some ⟨rs i,0,none⟩) us.length us.length):=(hJ.cell (block_lt_of_cell oi)).trans oi;refine wpOp_step rfl (fun K hK=> ?_);go_simp;exact hK _ _ ⟨rfl,Below.refl _ _⟩
       |4,ho,hv=>
        cases Option.some.inj ho;cases Option.some.inj hv;have h5:A.tmps[5]?.getD undef= .int .i64 (k:Int):=(gd A 5).trans (hkept 5 (by kernel_rfl));refine wpOp_step rfl (fun K hK=> ?_);go_simp;exact hK _ _ ⟨rfl,Below.refl _ _⟩
       |5,ho,hv=>
        cases Option.some.inj ho;cases Option.some.inj hv;have h0:A.tmps[0]?.getD undef= .slice (some ⟨g,o,none⟩) us.length cv:=(gd A 0).trans (hkept 0 (by kernel_rfl));refine wpOp_step rfl (fun K hK=> ?_);go_simp;exact hK _ _ ⟨rfl,Below.refl _ _⟩
       |6,ho,hv=>
        cases Option.some.inj ho;cases Option.some.inj hv;have h0:A.tmps[0]?.getD undef= .slice (some ⟨g,o,none⟩) us.length cv:=(gd A 0).trans (hkept 0 (by kernel_rfl));refine wpOp_step rfl (fun K hK=> ?_);go_simp;exact hK _ _ ⟨rfl,Below.refl _ _⟩
       |7,ho,hv=>
        cases Option.some.inj ho;cases Option.some.inj hv;have h5:A.tmps[5]?.getD undef= .int .i64 (k:Int):=(gd A 5).trans (hkept 5 (by kernel_rfl));refine wpOp_step rfl (fun K hK=> ?_);go_simp;exact hK _ _ ⟨rfl,Below.refl _ _⟩
       |8,ho,hv=>
        cases Option.some.inj ho;cases Option.some.inj hv;have h34:A.tmps[34]?.getD undef= .slice (some ⟨g,o,none⟩) us.length cv:=(gd A 34).trans (hhas 6 34 _ rfl (hdep ⟨6,.data⟩ (by simp) rfl));have h35:A.tmps[35]?.getD undef= .int .i64 (k:Int):=(gd A 35).trans (hhas 7 35 _ rfl (hdep ⟨7,.data⟩ (by simp) rfl));refine wpOp_step rfl (fun K hK=> ?_);go_simp;exact hK _ _ ⟨rfl,Below.refl _ _⟩
       |9,ho,hv=>
        cases Option.some.inj ho;cases Option.some.inj hv;have h36:A.tmps[36]?.getD undef= .pointer (some ⟨g,o+k*6,none⟩):=(gd A 36).trans (hhas 8 36 _ rfl (hdep ⟨8,.data⟩ (by simp) rfl));refine wpOp_step rfl (fun K hK=> ?_);go_simp;exact hK _ _ ⟨rfl,Below.refl _ _⟩
       |10,ho,hv=>
        cases Option.some.inj ho;cases Option.some.inj hv;have h37:A.tmps[37]?.getD undef= .pointer (some ⟨g,o+k*6,none⟩):=(gd A 37).trans (hhas 9 37 _ rfl (hdep ⟨9,.data⟩ (by simp) rfl));have nk:W.cell? ⟨g,o+k*6,none⟩=some (.string ⟨v.1.toArray⟩):=(hJ.cell (block_lt_of_cell dk)).trans dk;refine wpOp_step rfl (fun K hK=> ?_);go_simp;exact hK _ _ ⟨rfl,Below.refl _ _⟩
       |11,ho,hv=>
        cases Option.some.inj ho;cases Option.some.inj hv;have h33:A.tmps[33]?.getD undef= .slice (some ⟨g,o,none⟩) us.length cv:=(gd A 33).trans (hhas 5 33 _ rfl (hdep ⟨5,.data⟩ (by simp) rfl));have h38:A.tmps[38]?.getD undef= .string ⟨v.1.toArray⟩:=(gd A 38).trans (hhas 10 38 _ rfl (hdep ⟨10,.data⟩ (by simp) rfl));refine wpOp_step rfl (fun K hK=> ?_);go_simp;refine(cAt W hJ).mono ?_;rintro e' W' ⟨rfl,hb'⟩;exact hK _ _ ⟨rfl,hb'⟩
       |12,ho,hv=>
        cases Option.some.inj ho;cases Option.some.inj hv;have h5:A.tmps[5]?.getD undef= .int .i64 (k:Int):=(gd A 5).trans (hkept 5 (by kernel_rfl));refine wpOp_step rfl (fun K hK=> ?_);go_simp;exact hK _ _ ⟨rfl,Below.refl _ _⟩
       |13,ho,hv=>
        cases Option.some.inj ho;cases Option.some.inj hv;have h39:A.tmps[39]?.getD undef= .int .i64 at0:=(gd A 39).trans (hhas 11 39 _ rfl (hdep ⟨11,.data⟩ (by simp) rfl));have h40:A.tmps[40]?.getD undef= .int .i64 (k:Int):=(gd A 40).trans (hhas 12 40 _ rfl (hdep ⟨12,.data⟩ (by simp) rfl));refine wpOp_step rfl (fun K hK=> ?_);go_simp;exact hK _ _ ⟨rfl,Below.refl _ _⟩
       |14,ho,hv=>
        cases Option.some.inj ho;cases Option.some.inj hv;have h41:A.tmps[41]?.getD undef= .bool true:=(gd A 41).trans (hhas 13 41 _ rfl (hdep ⟨13,.data⟩ (by simp) rfl));refine wpOp_step rfl (fun K hK=> ?_);go_simp;exact hK _ _ ⟨rfl,Below.refl _ _⟩
       |15,ho,hv=>
        cases Option.some.inj ho;cases Option.some.inj hv;have hG:A.tmps[42]? =some (.bool true):=gdb (hhas 14 42 _ rfl (hdep ⟨14,.guard⟩ (by simp) rfl));have h0:A.tmps[0]?.getD undef= .slice (some ⟨g,o,none⟩) us.length cv:=(gd A 0).trans (hkept 0 (by kernel_rfl));refine wpOp_step rfl (fun K hK=> ?_);go_simp;exact hK _ _ ⟨rfl,Below.refl _ _⟩
       |16,ho,hv=>
        cases Option.some.inj ho;cases Option.some.inj hv;have hG:A.tmps[42]? =some (.bool true):=gdb (hhas 14 42 _ rfl (hdep ⟨14,.guard⟩ (by simp) rfl));have h4:A.tmps[4]?.getD undef= .int .i64 (i:Int):=(gd A 4).trans (hkept 4 (by kernel_rfl));refine wpOp_step rfl (fun K hK=> ?_);go_simp;exact hK _ _ ⟨rfl,Below.refl _ _⟩
       |17,ho,hv=>
        cases Option.some.inj ho;cases Option.some.inj hv;have hG:A.tmps[42]? =some (.bool true):=gdb (hhas 14 42 _ rfl (hdep ⟨14,.guard⟩ (by simp) rfl));have h43:A.tmps[43]?.getD undef= .slice (some ⟨g,o,none⟩) us.length cv:=(gd A 43).trans (hhas 15 43 _ rfl (hdep ⟨15,.data⟩ (by simp) rfl));have h44:A.tmps[44]?.getD undef= .int .i64 (i:Int):=(gd A 44).trans (hhas 16 44 _ rfl (hdep ⟨16,.data⟩ (by simp) rfl));refine wpOp_step rfl (fun K hK=> ?_);go_simp;exact hK _ _ ⟨rfl,Below.refl _ _⟩
       |18,ho,hv=>
        cases Option.some.inj ho;cases Option.some.inj hv;have hG:A.tmps[42]? =some (.bool true):=gdb (hhas 14 42 _ rfl (hdep ⟨14,.guard⟩ (by simp) rfl));have h45:A.tmps[45]?.getD undef= .pointer (some ⟨g,o+i*6,none⟩):=(gd A 45).trans (hhas 17 45 _ rfl (hdep ⟨17,.data⟩ (by simp) rfl));refine wpOp_step rfl (fun K hK=> ?_);go_simp;exact hK _ _ ⟨rfl,Below.refl _ _⟩
       |19,ho,hv=>
        cases Option.some.inj ho;cases Option.some.inj hv;have hG:A.tmps[42]? =some (.bool true):=gdb (hhas 14 42 _ rfl (hdep ⟨14,.guard⟩ (by simp) rfl));have h46:A.tmps[46]?.getD undef= .pointer (some ⟨g,o+i*6+1,none⟩):=(gd A 46).trans (hhas 18 46 _ rfl (hdep ⟨18,.data⟩ (by simp) rfl));have e1:W.cell? ⟨g,o+i*6+1,none⟩=some (.int .i64 u.2.kind):=(hJ.cell (block_lt_of_cell q1)).trans q1;have e2:W.cell? ⟨g,o+i*6+1+1,none⟩=some (.int .i64 u.2.a):=(hJ.cell (block_lt_of_cell q2)).trans q2;have e3:W.cell? ⟨g,o+i*6+1+2,none⟩=some (.int .i64 u.2.b):=(hJ.cell (block_lt_of_cell q3)).trans q3;have e4:W.cell? ⟨g,o+i*6+1+3,none⟩=some (.string ⟨u.2.name.toArray⟩):=(hJ.cell (block_lt_of_cell q4)).trans q4;have e5:W.cell? ⟨g,o+i*6+1+4,none⟩=some (.slice ps u.2.kids.length cs):=(hJ.cell (block_lt_of_cell q5)).trans q5;refine wpOp_step rfl (fun K hK=> ?_);go_simp;exact hK _ _ ⟨rfl,Below.refl _ _⟩
       |20,ho,hv=>
        cases Option.some.inj ho;cases Option.some.inj hv;have hG:A.tmps[42]? =some (.bool true):=gdb (hhas 14 42 _ rfl (hdep ⟨14,.guard⟩ (by simp) rfl));have h0:A.tmps[0]?.getD undef= .slice (some ⟨g,o,none⟩) us.length cv:=(gd A 0).trans (hkept 0 (by kernel_rfl));refine wpOp_step rfl (fun K hK=> ?_);go_simp;exact hK _ _ ⟨rfl,Below.refl _ _⟩
       |21,ho,hv=>
        cases Option.some.inj ho;cases Option.some.inj hv;have hG:A.tmps[42]? =some (.bool true):=gdb (hhas 14 42 _ rfl (hdep ⟨14,.guard⟩ (by simp) rfl));have h5:A.tmps[5]?.getD undef= .int .i64 (k:Int):=(gd A 5).trans (hkept 5 (by kernel_rfl));refine wpOp_step rfl (fun K hK=> ?_);go_simp;exact hK _ _ ⟨rfl,Below.refl _ _⟩
       |22,ho,hv=>
        cases Option.some.inj ho;cases Option.some.inj hv;have hG:A.tmps[42]? =some (.bool true):=gdb (hhas 14 42 _ rfl (hdep ⟨14,.guard⟩ (by simp) rfl));have h48:A.tmps[48]?.getD undef= .slice (some ⟨g,o,none⟩) us.length cv:=(gd A 48).trans (hhas 20 48 _ rfl (hdep ⟨20,.data⟩ (by simp) rfl));have h49:A.tmps[49]?.getD undef= .int .i64 (k:Int):=(gd A 49).trans (hhas 21 49 _ rfl (hdep ⟨21,.data⟩ (by simp) rfl));refine wpOp_step rfl (fun K hK=> ?_);go_simp;exact hK _ _ ⟨rfl,Below.refl _ _⟩
       |23,ho,hv=>
        cases Option.some.inj ho;cases Option.some.inj hv;have hG:A.tmps[42]? =some (.bool true):=gdb (hhas 14 42 _ rfl (hdep ⟨14,.guard⟩ (by simp) rfl));have h50:A.tmps[50]?.getD undef= .pointer (some ⟨g,o+k*6,none⟩):=(gd A 50).trans (hhas 22 50 _ rfl (hdep ⟨22,.data⟩ (by simp) rfl));refine wpOp_step rfl (fun K hK=> ?_);go_simp;exact hK _ _ ⟨rfl,Below.refl _ _⟩
       |24,ho,hv=>
        cases Option.some.inj ho;cases Option.some.inj hv;have hG:A.tmps[42]? =some (.bool true):=gdb (hhas 14 42 _ rfl (hdep ⟨14,.guard⟩ (by simp) rfl));have h51:A.tmps[51]?.getD undef= .pointer (some ⟨g,o+k*6,none⟩):=(gd A 51).trans (hhas 23 51 _ rfl (hdep ⟨23,.data⟩ (by simp) rfl));have nk:W.cell? ⟨g,o+k*6,none⟩=some (.string ⟨v.1.toArray⟩):=(hJ.cell (block_lt_of_cell dk)).trans dk;refine wpOp_step rfl (fun K hK=> ?_);go_simp;exact hK _ _ ⟨rfl,Below.refl _ _⟩
       |25,ho,hv=>
        cases Option.some.inj ho;cases Option.some.inj hv;have hG:A.tmps[42]? =some (.bool true):=gdb (hhas 14 42 _ rfl (hdep ⟨14,.guard⟩ (by simp) rfl));have h47:A.tmps[47]?.getD undef= .agg #[.int .i64 u.2.kind,.int .i64 u.2.a,.int .i64 u.2.b,.string ⟨u.2.name.toArray⟩,.slice ps u.2.kids.length cs]:=(gd A 47).trans (hhas 19 47 _ rfl (hdep ⟨19,.data⟩ (by simp) rfl));have h52:A.tmps[52]?.getD undef= .string ⟨v.1.toArray⟩:=(gd A 52).trans (hhas 24 52 _ rfl (hdep ⟨24,.data⟩ (by simp) rfl));refine wpOp_step rfl (fun K hK=> ?_);go_simp;refine(cSp W hJ).mono ?_;rintro e' W' ⟨rfl,hb'⟩;exact hK _ _ ⟨rfl,hb'⟩
       |26,ho,hv=>
        cases Option.some.inj ho;cases Option.some.inj hv;have h42:A.tmps[42]?.getD undef= .bool true:=(gd A 42).trans (hhas 14 42 _ rfl (hdep ⟨14,.data⟩ (by simp) rfl));have h53:A.tmps[53]?.getD undef= .bool sp0:=(gd A 53).trans (hhas 25 53 _ rfl (hdep ⟨25,.data⟩ (by simp) rfl));refine wpOp_step rfl (fun K hK=> ?_);go_simp;exact hK _ _ ⟨rfl,Below.refl _ _⟩
       |27,ho,hv=>
        cases Option.some.inj ho;cases Option.some.inj hv;have h31:A.tmps[31]?.getD undef= .slice (some ⟨rs i,0,none⟩) us.length us.length:=(gd A 31).trans (hhas 3 31 _ rfl (hdep ⟨3,.data⟩ (by simp) rfl));have h32:A.tmps[32]?.getD undef= .int .i64 (k:Int):=(gd A 32).trans (hhas 4 32 _ rfl (hdep ⟨4,.data⟩ (by simp) rfl));refine wpOp_step rfl (fun K hK=> ?_);go_simp;exact hK _ _ ⟨rfl,Below.refl _ _⟩
       |kk+28,ho,hv=>simp at hv
      ·intro o' W ho hJ;cases Option.some.inj ho;simp only[putAll_cons,putAll_nil,Act.put,List.setIfInBounds_toArray,List.set_cons_succ,List.set_cons_zero];refine wpOp_step rfl (fun K hK=> ?_);have hW:=(hst.below hJ).set (k:=k) (b:=sp0) hip;have ck:W.cell? ⟨rs i,k,none⟩=some (.bool false):=(hJ.cell (block_lt_of_cell mik)).trans mik;have yk:W.frozen? ⟨rs i,k,none⟩=false:=(hst.below hJ).frz hip k;have HN:=hid5 (hnext _ sp0 rfl hW);clear hst hnext oi mik hW;go_simp;refine hK _ _ ⟨⟨undef,rfl⟩,?_⟩;clear hK hJ ck yk;go_wp2_with fail;go_roundw
       case rel=>first
        |exact HN.out
        |((repeat apply Exists.intro);exact⟨HN.out,rfl⟩)
       case measure=>simp[intOf];omega
     ·rw[decide_eq_false hba]at hnext;have hbe:(at0==(k:Int))=false:=(by simpa using hba);clear hba;refine wp_region_last (by kernel_rfl) (by kernel_rfl) (by kernel_rfl) (by kernel_rfl) 28 (by kernel_rfl) (by kernel_rfl) [(28,.slice (some ⟨w.heap.size,0,none⟩) us.length us.length),(29,.int .i64 (i:Int)),(30,.pointer (some ⟨w.heap.size,i,none⟩)),(31,.slice (some ⟨rs i,0,none⟩) us.length us.length),(32,.int .i64 (k:Int)),(33,.slice (some ⟨g,o,none⟩) us.length cv),(34,.slice (some ⟨g,o,none⟩) us.length cv),(35,.int .i64 (k:Int)),(36,.pointer (some ⟨g,o+k*6,none⟩)),(37,.pointer (some ⟨g,o+k*6,none⟩)),(38,.string ⟨v.1.toArray⟩),(39,.int .i64 at0),(40,.int .i64 (k:Int)),(41,.bool false),(42,.bool false),(43,undef),(44,undef),(45,undef),(46,undef),(47,undef),(48,undef),(49,undef),(50,undef),(51,undef),(52,undef),(53,undef),(54,.bool false),(55,.pointer (some ⟨rs i,k,none⟩))] (by kernel_rfl) (by kernel_rfl) ?_ ?_
      ·intro i' s v o' L A W ho hv hdep hJ hkept hhas;match i',ho,hv with
       |0,ho,hv=>
        cases Option.some.inj ho;cases Option.some.inj hv;have h3:A.tmps[3]?.getD undef= .slice (some ⟨w.heap.size,0,none⟩) us.length us.length:=(gd A 3).trans (hkept 3 (by kernel_rfl));refine wpOp_step rfl (fun K hK=> ?_);go_simp;exact hK _ _ ⟨rfl,Below.refl _ _⟩
       |1,ho,hv=>
        cases Option.some.inj ho;cases Option.some.inj hv;have h4:A.tmps[4]?.getD undef= .int .i64 (i:Int):=(gd A 4).trans (hkept 4 (by kernel_rfl));refine wpOp_step rfl (fun K hK=> ?_);go_simp;exact hK _ _ ⟨rfl,Below.refl _ _⟩
       |2,ho,hv=>
        cases Option.some.inj ho;cases Option.some.inj hv;have h28:A.tmps[28]?.getD undef= .slice (some ⟨w.heap.size,0,none⟩) us.length us.length:=(gd A 28).trans (hhas 0 28 _ rfl (hdep ⟨0,.data⟩ (by simp) rfl));have h29:A.tmps[29]?.getD undef= .int .i64 (i:Int):=(gd A 29).trans (hhas 1 29 _ rfl (hdep ⟨1,.data⟩ (by simp) rfl));refine wpOp_step rfl (fun K hK=> ?_);go_simp;exact hK _ _ ⟨rfl,Below.refl _ _⟩
       |3,ho,hv=>
        cases Option.some.inj ho;cases Option.some.inj hv;have h30:A.tmps[30]?.getD undef= .pointer (some ⟨w.heap.size,i,none⟩):=(gd A 30).trans (hhas 2 30 _ rfl (hdep ⟨2,.data⟩ (by simp) rfl));have ci:W.cell? ⟨w.heap.size,i,none⟩=some (.slice (some ⟨rs i,0,none⟩) us.length us.length):=(hJ.cell (block_lt_of_cell oi)).trans oi;refine wpOp_step rfl (fun K hK=> ?_);go_simp;exact hK _ _ ⟨rfl,Below.refl _ _⟩
       |4,ho,hv=>
        cases Option.some.inj ho;cases Option.some.inj hv;have h5:A.tmps[5]?.getD undef= .int .i64 (k:Int):=(gd A 5).trans (hkept 5 (by kernel_rfl));refine wpOp_step rfl (fun K hK=> ?_);go_simp;exact hK _ _ ⟨rfl,Below.refl _ _⟩
       |5,ho,hv=>
        cases Option.some.inj ho;cases Option.some.inj hv;have h0:A.tmps[0]?.getD undef= .slice (some ⟨g,o,none⟩) us.length cv:=(gd A 0).trans (hkept 0 (by kernel_rfl));refine wpOp_step rfl (fun K hK=> ?_);go_simp;exact hK _ _ ⟨rfl,Below.refl _ _⟩
       |6,ho,hv=>
        cases Option.some.inj ho;cases Option.some.inj hv;have h0:A.tmps[0]?.getD undef= .slice (some ⟨g,o,none⟩) us.length cv:=(gd A 0).trans (hkept 0 (by kernel_rfl));refine wpOp_step rfl (fun K hK=> ?_);go_simp;exact hK _ _ ⟨rfl,Below.refl _ _⟩
       |7,ho,hv=>
        cases Option.some.inj ho;cases Option.some.inj hv;have h5:A.tmps[5]?.getD undef= .int .i64 (k:Int):=(gd A 5).trans (hkept 5 (by kernel_rfl));refine wpOp_step rfl (fun K hK=> ?_);go_simp;exact hK _ _ ⟨rfl,Below.refl _ _⟩
       |8,ho,hv=>
        cases Option.some.inj ho;cases Option.some.inj hv;have h34:A.tmps[34]?.getD undef= .slice (some ⟨g,o,none⟩) us.length cv:=(gd A 34).trans (hhas 6 34 _ rfl (hdep ⟨6,.data⟩ (by simp) rfl));have h35:A.tmps[35]?.getD undef= .int .i64 (k:Int):=(gd A 35).trans (hhas 7 35 _ rfl (hdep ⟨7,.data⟩ (by simp) rfl));refine wpOp_step rfl (fun K hK=> ?_);go_simp;exact hK _ _ ⟨rfl,Below.refl _ _⟩
       |9,ho,hv=>
        cases Option.some.inj ho;cases Option.some.inj hv;have h36:A.tmps[36]?.getD undef= .pointer (some ⟨g,o+k*6,none⟩):=(gd A 36).trans (hhas 8 36 _ rfl (hdep ⟨8,.data⟩ (by simp) rfl));refine wpOp_step rfl (fun K hK=> ?_);go_simp;exact hK _ _ ⟨rfl,Below.refl _ _⟩
       |10,ho,hv=>
        cases Option.some.inj ho;cases Option.some.inj hv;have h37:A.tmps[37]?.getD undef= .pointer (some ⟨g,o+k*6,none⟩):=(gd A 37).trans (hhas 9 37 _ rfl (hdep ⟨9,.data⟩ (by simp) rfl));have nk:W.cell? ⟨g,o+k*6,none⟩=some (.string ⟨v.1.toArray⟩):=(hJ.cell (block_lt_of_cell dk)).trans dk;refine wpOp_step rfl (fun K hK=> ?_);go_simp;exact hK _ _ ⟨rfl,Below.refl _ _⟩
       |11,ho,hv=>
        cases Option.some.inj ho;cases Option.some.inj hv;have h33:A.tmps[33]?.getD undef= .slice (some ⟨g,o,none⟩) us.length cv:=(gd A 33).trans (hhas 5 33 _ rfl (hdep ⟨5,.data⟩ (by simp) rfl));have h38:A.tmps[38]?.getD undef= .string ⟨v.1.toArray⟩:=(gd A 38).trans (hhas 10 38 _ rfl (hdep ⟨10,.data⟩ (by simp) rfl));refine wpOp_step rfl (fun K hK=> ?_);go_simp;refine(cAt W hJ).mono ?_;rintro e' W' ⟨rfl,hb'⟩;exact hK _ _ ⟨rfl,hb'⟩
       |12,ho,hv=>
        cases Option.some.inj ho;cases Option.some.inj hv;have h5:A.tmps[5]?.getD undef= .int .i64 (k:Int):=(gd A 5).trans (hkept 5 (by kernel_rfl));refine wpOp_step rfl (fun K hK=> ?_);go_simp;exact hK _ _ ⟨rfl,Below.refl _ _⟩
       |13,ho,hv=>
        cases Option.some.inj ho;cases Option.some.inj hv;have h39:A.tmps[39]?.getD undef= .int .i64 at0:=(gd A 39).trans (hhas 11 39 _ rfl (hdep ⟨11,.data⟩ (by simp) rfl));have h40:A.tmps[40]?.getD undef= .int .i64 (k:Int):=(gd A 40).trans (hhas 12 40 _ rfl (hdep ⟨12,.data⟩ (by simp) rfl));refine wpOp_step rfl (fun K hK=> ?_);go_simp;exact hK _ _ ⟨rfl,Below.refl _ _⟩
       |14,ho,hv=>
        cases Option.some.inj ho;cases Option.some.inj hv;have h41:A.tmps[41]?.getD undef= .bool false:=(gd A 41).trans (hhas 13 41 _ rfl (hdep ⟨13,.data⟩ (by simp) rfl));refine wpOp_step rfl (fun K hK=> ?_);go_simp;exact hK _ _ ⟨rfl,Below.refl _ _⟩
       |15,ho,hv=>
        cases Option.some.inj ho;cases Option.some.inj hv;have hG:A.tmps[42]? =some (.bool false):=gdb (hhas 14 42 _ rfl (hdep ⟨14,.guard⟩ (by simp) rfl));refine wpOp_step rfl (fun K hK=> ?_);rw[if_neg (by simp[Region.wanted,yielded,hG])];exact hK _ _ ⟨rfl,Below.refl _ _⟩
       |16,ho,hv=>
        cases Option.some.inj ho;cases Option.some.inj hv;have hG:A.tmps[42]? =some (.bool false):=gdb (hhas 14 42 _ rfl (hdep ⟨14,.guard⟩ (by simp) rfl));refine wpOp_step rfl (fun K hK=> ?_);rw[if_neg (by simp[Region.wanted,yielded,hG])];exact hK _ _ ⟨rfl,Below.refl _ _⟩
       |17,ho,hv=>
        cases Option.some.inj ho;cases Option.some.inj hv;have hG:A.tmps[42]? =some (.bool false):=gdb (hhas 14 42 _ rfl (hdep ⟨14,.guard⟩ (by simp) rfl));refine wpOp_step rfl (fun K hK=> ?_);rw[if_neg (by simp[Region.wanted,yielded,hG])];exact hK _ _ ⟨rfl,Below.refl _ _⟩
       |18,ho,hv=>
        cases Option.some.inj ho;cases Option.some.inj hv;have hG:A.tmps[42]? =some (.bool false):=gdb (hhas 14 42 _ rfl (hdep ⟨14,.guard⟩ (by simp) rfl));refine wpOp_step rfl (fun K hK=> ?_);rw[if_neg (by simp[Region.wanted,yielded,hG])];exact hK _ _ ⟨rfl,Below.refl _ _⟩
       |19,ho,hv=>
        cases Option.some.inj ho;cases Option.some.inj hv;have hG:A.tmps[42]? =some (.bool false):=gdb (hhas 14 42 _ rfl (hdep ⟨14,.guard⟩ (by simp) rfl));refine wpOp_step rfl (fun K hK=> ?_);rw[if_neg (by simp[Region.wanted,yielded,hG])];exact hK _ _ ⟨rfl,Below.refl _ _⟩
       |20,ho,hv=>
        cases Option.some.inj ho;cases Option.some.inj hv;have hG:A.tmps[42]? =some (.bool false):=gdb (hhas 14 42 _ rfl (hdep ⟨14,.guard⟩ (by simp) rfl));refine wpOp_step rfl (fun K hK=> ?_);rw[if_neg (by simp[Region.wanted,yielded,hG])];exact hK _ _ ⟨rfl,Below.refl _ _⟩
       |21,ho,hv=>
        cases Option.some.inj ho;cases Option.some.inj hv;have hG:A.tmps[42]? =some (.bool false):=gdb (hhas 14 42 _ rfl (hdep ⟨14,.guard⟩ (by simp) rfl));refine wpOp_step rfl (fun K hK=> ?_);rw[if_neg (by simp[Region.wanted,yielded,hG])];exact hK _ _ ⟨rfl,Below.refl _ _⟩
       |22,ho,hv=>
        cases Option.some.inj ho;cases Option.some.inj hv;have hG:A.tmps[42]? =some (.bool false):=gdb (hhas 14 42 _ rfl (hdep ⟨14,.guard⟩ (by simp) rfl));refine wpOp_step rfl (fun K hK=> ?_);rw[if_neg (by simp[Region.wanted,yielded,hG])];exact hK _ _ ⟨rfl,Below.refl _ _⟩
       |23,ho,hv=>
        cases Option.some.inj ho;cases Option.some.inj hv;have hG:A.tmps[42]? =some (.bool false):=gdb (hhas 14 42 _ rfl (hdep ⟨14,.guard⟩ (by simp) rfl));refine wpOp_step rfl (fun K hK=> ?_);rw[if_neg (by simp[Region.wanted,yielded,hG])];exact hK _ _ ⟨rfl,Below.refl _ _⟩
       |24,ho,hv=>
        cases Option.some.inj ho;cases Option.some.inj hv;have hG:A.tmps[42]? =some (.bool false):=gdb (hhas 14 42 _ rfl (hdep ⟨14,.guard⟩ (by simp) rfl));refine wpOp_step rfl (fun K hK=> ?_);rw[if_neg (by simp[Region.wanted,yielded,hG])];exact hK _ _ ⟨rfl,Below.refl _ _⟩
       |25,ho,hv=>
        cases Option.some.inj ho;cases Option.some.inj hv;have hG:A.tmps[42]? =some (.bool false):=gdb (hhas 14 42 _ rfl (hdep ⟨14,.guard⟩ (by simp) rfl));refine wpOp_step rfl (fun K hK=> ?_);rw[if_neg (by simp[Region.wanted,yielded,hG])];exact hK _ _ ⟨rfl,Below.refl _ _⟩
       |26,ho,hv=>
        cases Option.some.inj ho;cases Option.some.inj hv;have h42:A.tmps[42]?.getD undef= .bool false:=(gd A 42).trans (hhas 14 42 _ rfl (hdep ⟨14,.data⟩ (by simp) rfl));have h53:A.tmps[53]?.getD undef=undef:=(gd A 53).trans (hhas 25 53 _ rfl (hdep ⟨25,.data⟩ (by simp) rfl));refine wpOp_step rfl (fun K hK=> ?_);go_simp;exact hK _ _ ⟨rfl,Below.refl _ _⟩
       |27,ho,hv=>
        cases Option.some.inj ho;cases Option.some.inj hv;have h31:A.tmps[31]?.getD undef= .slice (some ⟨rs i,0,none⟩) us.length us.length:=(gd A 31).trans (hhas 3 31 _ rfl (hdep ⟨3,.data⟩ (by simp) rfl));have h32:A.tmps[32]?.getD undef= .int .i64 (k:Int):=(gd A 32).trans (hhas 4 32 _ rfl (hdep ⟨4,.data⟩ (by simp) rfl));refine wpOp_step rfl (fun K hK=> ?_);go_simp;exact hK _ _ ⟨rfl,Below.refl _ _⟩
       |kk+28,ho,hv=>simp at hv
      ·intro o' W ho hJ;cases Option.some.inj ho;simp only[putAll_cons,putAll_nil,Act.put,List.setIfInBounds_toArray,List.set_cons_succ,List.set_cons_zero];refine wpOp_step rfl (fun K hK=> ?_);have hW:=(hst.below hJ).set (k:=k) (b:=false) hip;have ck:W.cell? ⟨rs i,k,none⟩=some (.bool false):=(hJ.cell (block_lt_of_cell mik)).trans mik;have yk:W.frozen? ⟨rs i,k,none⟩=false:=(hst.below hJ).frz hip k;have HN:=hid5 (hnext _ false rfl hW);clear hst hnext oi mik hW;go_simp;refine hK _ _ ⟨⟨undef,rfl⟩,?_⟩;clear hK hJ ck yk;go_wp2_with fail;go_roundw
       case rel=>first
        |exact HN.out
        |((repeat apply Exists.intro);exact⟨HN.out,rfl⟩)
       case measure=>simp[intOf];omega
    ·have ek:k=us.length:=(by omega);have hltk': ¬(k:Int)<(us.length:Int):=(by omega)
     have HN:Hid (RcA (edgE l) us.length w (.int .i64 ((i+1:Nat):Int)) wr):=⟨i+1,rs,rfl,by omega,hst.same fun j q hj hq=>by
      unfold stE;rw[if_pos (by omega),if_pos (by omega)]⟩
     clear hst c0 c1 c2 c3 c4 c5 ek;go_wp2_with fail;go_roundw;case rel=>exact HN.out
     case measure=>simp[intOf];omega
  ·have ei:i=us.length:=(by omega);have hlt': ¬(i:Int)<(us.length:Int):=(by omega)
   have hsB:RcM w us.length us.length rs0 (wars (edgE l) 0) wr:=by
    rw[ei]at hsA
    exact hsA.same fun j q hj hq=>by
     unfold stE;rw[if_pos (.inl hj)];rfl
   clear hsA hmr HI HL H40;go_wp2_with fail;go_loopw [6,7,8,60] (fun _ _ _ t wr=>RcC (edgE l) us.length rs0 w t wr) (fun _ _ _ t _=>us.length-(intOf t).toNat);case atStart=>exact⟨0,rfl,by omega,hsB⟩
   case round=>
    obtain⟨m,rfl,hm,hsC⟩:=hrel;clear hsB;have hm0:(0:Int)≤(m:Int):=(by omega);by_cases hltm:m<us.length
    ·have hltm':(m:Int)<(us.length:Int):=(by omega)
     have hsD:RcM w us.length us.length rs0 (stW (edgE l) m 0 0) wr:=hsC.same fun j q hj hq=>by
      unfold stW;rw[if_neg (by omega)]
     clear hsC;go_wp2_with fail;go_loopw [7,8,65] (fun _ _ t wr=>RcD (edgE l) us.length rs0 m w t wr) (fun _ _ t _=>us.length-(intOf t).toNat);case atStart=>exact⟨0,rfl,by omega,hsD⟩
     case round=>
      obtain⟨i,rfl,hi,hsC⟩:=hrel;clear hsD;have hi0:(0:Int)≤(i:Int):=(by omega);by_cases hlti:i<us.length
      ·have hlti':(i:Int)<(us.length:Int):=(by omega);go_wp2_with fail;go_loopw [8,70] (fun _ t wr=>RcE (edgE l) us.length rs0 m i w t wr) (fun _ t _=>us.length-(intOf t).toNat);case atStart=>exact⟨0,rfl,by omega,hsC⟩
       case round=>
        obtain⟨k,rfl,hk,hst⟩:=hrel;clear hsC;have hk0:(0:Int)≤(k:Int):=(by omega);by_cases hltk:k<us.length
        ·have hltk':(k:Int)<(us.length:Int):=(by omega);have hin:=hlti;have oi:=hst.out hlti;have om:=hst.out hltm;have mik:=hst.cell hlti hltk;have mim:=hst.cell hlti hltm;have mmk:=hst.cell hltm hltk;rw[stW_here]at mik;rw[stW_col]at mim;rw[stW_row]at mmk
         have hnext: ∀W x,x=(wars (edgE l) m i k||(wars (edgE l) m i m&&wars (edgE l) m m k))→RcM w us.length us.length rs0 (upd2 (stW (edgE l) m i k) i k x) W→RcE (edgE l) us.length rs0 m i w (.int .i64 ((k+1:Nat):Int)) W:=fun W x hx hW=>by
          rw[hx,stW_next]at hW;exact⟨k+1,rfl,by omega,hW⟩
         generalize stW (edgE l) m i k=St at*;generalize rs0=rs at*;generalize wars (edgE l) m i k=ik0 at*;generalize wars (edgE l) m i m=im0 at*;generalize wars (edgE l) m m k=mk0 at*;go_wp2_with fail;cases ik0 with
         |true=>
          refine wp_region_last (by kernel_rfl) (by kernel_rfl) (by kernel_rfl) (by kernel_rfl) 31 (by kernel_rfl) (by kernel_rfl) [(73,.slice (some ⟨w.heap.size,0,none⟩) us.length us.length),(74,.int .i64 (i:Int)),(75,.pointer (some ⟨w.heap.size,i,none⟩)),(76,.slice (some ⟨rs i,0,none⟩) us.length us.length),(77,.int .i64 (k:Int)),(78,.slice (some ⟨w.heap.size,0,none⟩) us.length us.length),(79,.int .i64 (i:Int)),(80,.pointer (some ⟨w.heap.size,i,none⟩)),(81,.slice (some ⟨rs i,0,none⟩) us.length us.length),(82,.int .i64 (k:Int)),(83,.pointer (some ⟨rs i,k,none⟩)),(84,.bool true),(85,.bool true),(86,undef),(87,undef),(88,undef),(89,undef),(90,undef),(91,undef),(92,undef),(93,undef),(94,undef),(95,undef),(96,undef),(97,undef),(98,undef),(99,undef),(100,undef),(101,undef),(102,.bool true),(103,.pointer (some ⟨rs i,k,none⟩))] (by kernel_rfl) (by kernel_rfl) ?_ ?_
          ·intro i' s v o' L A W ho hv hdep hJ hkept hhas;match i',ho,hv with
           |0,ho,hv=>
            cases Option.some.inj ho;cases Option.some.inj hv;have h3:A.tmps[3]?.getD undef= .slice (some ⟨w.heap.size,0,none⟩) us.length us.length:=(gd A 3).trans (hkept 3 (by kernel_rfl));refine wpOp_step rfl (fun K hK=> ?_);go_simp;exact hK _ _ ⟨rfl,Below.refl _ _⟩
           |1,ho,hv=>
            cases Option.some.inj ho;cases Option.some.inj hv;have h7:A.tmps[7]?.getD undef= .int .i64 (i:Int):=(gd A 7).trans (hkept 7 (by kernel_rfl));refine wpOp_step rfl (fun K hK=> ?_);go_simp;exact hK _ _ ⟨rfl,Below.refl _ _⟩
           |2,ho,hv=>
            cases Option.some.inj ho;cases Option.some.inj hv;have h73:A.tmps[73]?.getD undef= .slice (some ⟨w.heap.size,0,none⟩) us.length us.length:=(gd A 73).trans (hhas 0 73 _ rfl (hdep ⟨0,.data⟩ (by simp) rfl));have h74:A.tmps[74]?.getD undef= .int .i64 (i:Int):=(gd A 74).trans (hhas 1 74 _ rfl (hdep ⟨1,.data⟩ (by simp) rfl));refine wpOp_step rfl (fun K hK=> ?_);go_simp;exact hK _ _ ⟨rfl,Below.refl _ _⟩
           |3,ho,hv=>
            cases Option.some.inj ho;cases Option.some.inj hv;have h75:A.tmps[75]?.getD undef= .pointer (some ⟨w.heap.size,i,none⟩):=(gd A 75).trans (hhas 2 75 _ rfl (hdep ⟨2,.data⟩ (by simp) rfl));have ci:W.cell? ⟨w.heap.size,i,none⟩=some (.slice (some ⟨rs i,0,none⟩) us.length us.length):=(hJ.cell (block_lt_of_cell oi)).trans oi;refine wpOp_step rfl (fun K hK=> ?_);go_simp;exact hK _ _ ⟨rfl,Below.refl _ _⟩
           |4,ho,hv=>
            cases Option.some.inj ho;cases Option.some.inj hv;have h8:A.tmps[8]?.getD undef= .int .i64 (k:Int):=(gd A 8).trans (hkept 8 (by kernel_rfl));refine wpOp_step rfl (fun K hK=> ?_);go_simp;exact hK _ _ ⟨rfl,Below.refl _ _⟩
           |5,ho,hv=>
            cases Option.some.inj ho;cases Option.some.inj hv;have h3:A.tmps[3]?.getD undef= .slice (some ⟨w.heap.size,0,none⟩) us.length us.length:=(gd A 3).trans (hkept 3 (by kernel_rfl));refine wpOp_step rfl (fun K hK=> ?_);go_simp;exact hK _ _ ⟨rfl,Below.refl _ _⟩
           |6,ho,hv=>
            cases Option.some.inj ho;cases Option.some.inj hv;have h7:A.tmps[7]?.getD undef= .int .i64 (i:Int):=(gd A 7).trans (hkept 7 (by kernel_rfl));refine wpOp_step rfl (fun K hK=> ?_);go_simp;exact hK _ _ ⟨rfl,Below.refl _ _⟩
           |7,ho,hv=>
            cases Option.some.inj ho;cases Option.some.inj hv;have h78:A.tmps[78]?.getD undef= .slice (some ⟨w.heap.size,0,none⟩) us.length us.length:=(gd A 78).trans (hhas 5 78 _ rfl (hdep ⟨5,.data⟩ (by simp) rfl));have h79:A.tmps[79]?.getD undef= .int .i64 (i:Int):=(gd A 79).trans (hhas 6 79 _ rfl (hdep ⟨6,.data⟩ (by simp) rfl));refine wpOp_step rfl (fun K hK=> ?_);go_simp;exact hK _ _ ⟨rfl,Below.refl _ _⟩
           |8,ho,hv=>
            cases Option.some.inj ho;cases Option.some.inj hv;have h80:A.tmps[80]?.getD undef= .pointer (some ⟨w.heap.size,i,none⟩):=(gd A 80).trans (hhas 7 80 _ rfl (hdep ⟨7,.data⟩ (by simp) rfl));have ci:W.cell? ⟨w.heap.size,i,none⟩=some (.slice (some ⟨rs i,0,none⟩) us.length us.length):=(hJ.cell (block_lt_of_cell oi)).trans oi;refine wpOp_step rfl (fun K hK=> ?_);go_simp;exact hK _ _ ⟨rfl,Below.refl _ _⟩
           |9,ho,hv=>
            cases Option.some.inj ho;cases Option.some.inj hv;have h8:A.tmps[8]?.getD undef= .int .i64 (k:Int):=(gd A 8).trans (hkept 8 (by kernel_rfl));refine wpOp_step rfl (fun K hK=> ?_);go_simp;exact hK _ _ ⟨rfl,Below.refl _ _⟩
           |10,ho,hv=>
            cases Option.some.inj ho;cases Option.some.inj hv;have h81:A.tmps[81]?.getD undef= .slice (some ⟨rs i,0,none⟩) us.length us.length:=(gd A 81).trans (hhas 8 81 _ rfl (hdep ⟨8,.data⟩ (by simp) rfl));have h82:A.tmps[82]?.getD undef= .int .i64 (k:Int):=(gd A 82).trans (hhas 9 82 _ rfl (hdep ⟨9,.data⟩ (by simp) rfl));refine wpOp_step rfl (fun K hK=> ?_);go_simp;exact hK _ _ ⟨rfl,Below.refl _ _⟩
           |11,ho,hv=>
            cases Option.some.inj ho;cases Option.some.inj hv;have h83:A.tmps[83]?.getD undef= .pointer (some ⟨rs i,k,none⟩):=(gd A 83).trans (hhas 10 83 _ rfl (hdep ⟨10,.data⟩ (by simp) rfl));have cik:W.cell? ⟨rs i,k,none⟩=some (.bool true):=(hJ.cell (block_lt_of_cell mik)).trans mik;refine wpOp_step rfl (fun K hK=> ?_);go_simp;exact hK _ _ ⟨rfl,Below.refl _ _⟩
           |12,ho,hv=>
            cases Option.some.inj ho;cases Option.some.inj hv;have h84:A.tmps[84]?.getD undef= .bool true:=(gd A 84).trans (hhas 11 84 _ rfl (hdep ⟨11,.data⟩ (by simp) rfl));refine wpOp_step rfl (fun K hK=> ?_);go_simp;exact hK _ _ ⟨rfl,Below.refl _ _⟩
           |13,ho,hv=>
            cases Option.some.inj ho;cases Option.some.inj hv;have hG:A.tmps[85]? =some (.bool true):=gdb (hhas 12 85 _ rfl (hdep ⟨12,.guard⟩ (by simp) rfl));refine wpOp_step rfl (fun K hK=> ?_);rw[if_neg (by simp[Region.wanted,yielded,hG])];exact hK _ _ ⟨rfl,Below.refl _ _⟩
           |14,ho,hv=>
            cases Option.some.inj ho;cases Option.some.inj hv;have hG:A.tmps[85]? =some (.bool true):=gdb (hhas 12 85 _ rfl (hdep ⟨12,.guard⟩ (by simp) rfl));refine wpOp_step rfl (fun K hK=> ?_);rw[if_neg (by simp[Region.wanted,yielded,hG])];exact hK _ _ ⟨rfl,Below.refl _ _⟩
           |15,ho,hv=>
            cases Option.some.inj ho;cases Option.some.inj hv;have hG:A.tmps[85]? =some (.bool true):=gdb (hhas 12 85 _ rfl (hdep ⟨12,.guard⟩ (by simp) rfl));refine wpOp_step rfl (fun K hK=> ?_);rw[if_neg (by simp[Region.wanted,yielded,hG])];exact hK _ _ ⟨rfl,Below.refl _ _⟩
           |16,ho,hv=>
            cases Option.some.inj ho;cases Option.some.inj hv;have hG:A.tmps[85]? =some (.bool true):=gdb (hhas 12 85 _ rfl (hdep ⟨12,.guard⟩ (by simp) rfl));refine wpOp_step rfl (fun K hK=> ?_);rw[if_neg (by simp[Region.wanted,yielded,hG])];exact hK _ _ ⟨rfl,Below.refl _ _⟩
           |17,ho,hv=>
            cases Option.some.inj ho;cases Option.some.inj hv;have hG:A.tmps[85]? =some (.bool true):=gdb (hhas 12 85 _ rfl (hdep ⟨12,.guard⟩ (by simp) rfl));refine wpOp_step rfl (fun K hK=> ?_);rw[if_neg (by simp[Region.wanted,yielded,hG])];exact hK _ _ ⟨rfl,Below.refl _ _⟩
           |18,ho,hv=>
            cases Option.some.inj ho;cases Option.some.inj hv;have hG:A.tmps[85]? =some (.bool true):=gdb (hhas 12 85 _ rfl (hdep ⟨12,.guard⟩ (by simp) rfl));refine wpOp_step rfl (fun K hK=> ?_);rw[if_neg (by simp[Region.wanted,yielded,hG])];exact hK _ _ ⟨rfl,Below.refl _ _⟩
           |19,ho,hv=>
            cases Option.some.inj ho;cases Option.some.inj hv;have hG:A.tmps[85]? =some (.bool true):=gdb (hhas 12 85 _ rfl (hdep ⟨12,.guard⟩ (by simp) rfl));refine wpOp_step rfl (fun K hK=> ?_);rw[if_neg (by simp[Region.wanted,yielded,hG])];exact hK _ _ ⟨rfl,Below.refl _ _⟩
           |20,ho,hv=>
            cases Option.some.inj ho;cases Option.some.inj hv;have hG:A.tmps[85]? =some (.bool true):=gdb (hhas 12 85 _ rfl (hdep ⟨12,.guard⟩ (by simp) rfl));refine wpOp_step rfl (fun K hK=> ?_);rw[if_neg (by simp[Region.wanted,yielded,hG])];exact hK _ _ ⟨rfl,Below.refl _ _⟩
           |21,ho,hv=>
            cases Option.some.inj ho;cases Option.some.inj hv;have hG:A.tmps[93]?.getD undef=undef:=(gd A 93).trans (hhas 20 93 _ rfl (hdep ⟨20,.guard⟩ (by simp) rfl));refine wpOp_step rfl (fun K hK=> ?_);rw[if_neg (unw (by rfl) (by rfl) hG)];exact hK _ _ ⟨rfl,Below.refl _ _⟩
           |22,ho,hv=>
            cases Option.some.inj ho;cases Option.some.inj hv;have hG:A.tmps[93]?.getD undef=undef:=(gd A 93).trans (hhas 20 93 _ rfl (hdep ⟨20,.guard⟩ (by simp) rfl));refine wpOp_step rfl (fun K hK=> ?_);rw[if_neg (unw (by rfl) (by rfl) hG)];exact hK _ _ ⟨rfl,Below.refl _ _⟩
           |23,ho,hv=>
            cases Option.some.inj ho;cases Option.some.inj hv;have hG:A.tmps[93]?.getD undef=undef:=(gd A 93).trans (hhas 20 93 _ rfl (hdep ⟨20,.guard⟩ (by simp) rfl));refine wpOp_step rfl (fun K hK=> ?_);rw[if_neg (unw (by rfl) (by rfl) hG)];exact hK _ _ ⟨rfl,Below.refl _ _⟩
           |24,ho,hv=>
            cases Option.some.inj ho;cases Option.some.inj hv;have hG:A.tmps[93]?.getD undef=undef:=(gd A 93).trans (hhas 20 93 _ rfl (hdep ⟨20,.guard⟩ (by simp) rfl));refine wpOp_step rfl (fun K hK=> ?_);rw[if_neg (unw (by rfl) (by rfl) hG)];exact hK _ _ ⟨rfl,Below.refl _ _⟩
           |25,ho,hv=>
            cases Option.some.inj ho;cases Option.some.inj hv;have hG:A.tmps[93]?.getD undef=undef:=(gd A 93).trans (hhas 20 93 _ rfl (hdep ⟨20,.guard⟩ (by simp) rfl));refine wpOp_step rfl (fun K hK=> ?_);rw[if_neg (unw (by rfl) (by rfl) hG)];exact hK _ _ ⟨rfl,Below.refl _ _⟩
           |26,ho,hv=>
            cases Option.some.inj ho;cases Option.some.inj hv;have hG:A.tmps[93]?.getD undef=undef:=(gd A 93).trans (hhas 20 93 _ rfl (hdep ⟨20,.guard⟩ (by simp) rfl));refine wpOp_step rfl (fun K hK=> ?_);rw[if_neg (unw (by rfl) (by rfl) hG)];exact hK _ _ ⟨rfl,Below.refl _ _⟩
           |27,ho,hv=>
            cases Option.some.inj ho;cases Option.some.inj hv;have hG:A.tmps[93]?.getD undef=undef:=(gd A 93).trans (hhas 20 93 _ rfl (hdep ⟨20,.guard⟩ (by simp) rfl));refine wpOp_step rfl (fun K hK=> ?_);rw[if_neg (unw (by rfl) (by rfl) hG)];exact hK _ _ ⟨rfl,Below.refl _ _⟩
           |28,ho,hv=>
            cases Option.some.inj ho;cases Option.some.inj hv;have hG:A.tmps[85]? =some (.bool true):=gdb (hhas 12 85 _ rfl (hdep ⟨12,.guard⟩ (by simp) rfl));refine wpOp_step rfl (fun K hK=> ?_);rw[if_neg (by simp[Region.wanted,yielded,hG])];exact hK _ _ ⟨rfl,Below.refl _ _⟩
           |29,ho,hv=>
            cases Option.some.inj ho;cases Option.some.inj hv;have h85:A.tmps[85]?.getD undef= .bool true:=(gd A 85).trans (hhas 12 85 _ rfl (hdep ⟨12,.data⟩ (by simp) rfl));have h101:A.tmps[101]?.getD undef=undef:=(gd A 101).trans (hhas 28 101 _ rfl (hdep ⟨28,.data⟩ (by simp) rfl));refine wpOp_step rfl (fun K hK=> ?_);go_simp;exact hK _ _ ⟨rfl,Below.refl _ _⟩
           |30,ho,hv=>
            cases Option.some.inj ho;cases Option.some.inj hv;have h76:A.tmps[76]?.getD undef= .slice (some ⟨rs i,0,none⟩) us.length us.length:=(gd A 76).trans (hhas 3 76 _ rfl (hdep ⟨3,.data⟩ (by simp) rfl));have h77:A.tmps[77]?.getD undef= .int .i64 (k:Int):=(gd A 77).trans (hhas 4 77 _ rfl (hdep ⟨4,.data⟩ (by simp) rfl));refine wpOp_step rfl (fun K hK=> ?_);go_simp;exact hK _ _ ⟨rfl,Below.refl _ _⟩
           |kk+31,ho,hv=>simp at hv
          ·intro o' W ho hJ;cases Option.some.inj ho;simp only[putAll_cons,putAll_nil,Act.put,List.setIfInBounds_toArray,List.set_cons_succ,List.set_cons_zero];refine wpOp_step rfl (fun K hK=> ?_);have hW:=(hst.below hJ).set (k:=k) (b:=true) hin;have ck:W.cell? ⟨rs i,k,none⟩=some (.bool true):=(hJ.cell (block_lt_of_cell mik)).trans mik;have yk:W.frozen? ⟨rs i,k,none⟩=false:=(hst.below hJ).frz hin k;have HN:=hid5 (hnext _ true rfl hW);clear hst hnext oi om mik mim mmk hW;go_simp;refine hK _ _ ⟨⟨undef,rfl⟩,?_⟩;clear hK hJ ck yk;go_wp2_with fail;go_roundw
           case rel=>first
            |exact HN.out
            |((repeat apply Exists.intro);exact⟨HN.out,rfl⟩)
           case measure=>simp[intOf];omega
         |false=>
          cases im0 with
          |false=>
           refine wp_region_last (by kernel_rfl) (by kernel_rfl) (by kernel_rfl) (by kernel_rfl) 31 (by kernel_rfl) (by kernel_rfl) [(73,.slice (some ⟨w.heap.size,0,none⟩) us.length us.length),(74,.int .i64 (i:Int)),(75,.pointer (some ⟨w.heap.size,i,none⟩)),(76,.slice (some ⟨rs i,0,none⟩) us.length us.length),(77,.int .i64 (k:Int)),(78,.slice (some ⟨w.heap.size,0,none⟩) us.length us.length),(79,.int .i64 (i:Int)),(80,.pointer (some ⟨w.heap.size,i,none⟩)),(81,.slice (some ⟨rs i,0,none⟩) us.length us.length),(82,.int .i64 (k:Int)),(83,.pointer (some ⟨rs i,k,none⟩)),(84,.bool false),(85,.bool false),(86,.slice (some ⟨w.heap.size,0,none⟩) us.length us.length),(87,.int .i64 (i:Int)),(88,.pointer (some ⟨w.heap.size,i,none⟩)),(89,.slice (some ⟨rs i,0,none⟩) us.length us.length),(90,.int .i64 (m:Int)),(91,.pointer (some ⟨rs i,m,none⟩)),(92,.bool false),(93,.bool false),(94,undef),(95,undef),(96,undef),(97,undef),(98,undef),(99,undef),(100,undef),(101,.bool false),(102,.bool false),(103,.pointer (some ⟨rs i,k,none⟩))] (by kernel_rfl) (by kernel_rfl) ?_ ?_
           ·intro i' s v o' L A W ho hv hdep hJ hkept hhas;match i',ho,hv with
            |0,ho,hv=>
             cases Option.some.inj ho;cases Option.some.inj hv;have h3:A.tmps[3]?.getD undef= .slice (some ⟨w.heap.size,0,none⟩) us.length us.length:=(gd A 3).trans (hkept 3 (by kernel_rfl));refine wpOp_step rfl (fun K hK=> ?_);go_simp;exact hK _ _ ⟨rfl,Below.refl _ _⟩
            |1,ho,hv=>
             cases Option.some.inj ho;cases Option.some.inj hv;have h7:A.tmps[7]?.getD undef= .int .i64 (i:Int):=(gd A 7).trans (hkept 7 (by kernel_rfl));refine wpOp_step rfl (fun K hK=> ?_);go_simp;exact hK _ _ ⟨rfl,Below.refl _ _⟩
            |2,ho,hv=>
             cases Option.some.inj ho;cases Option.some.inj hv;have h73:A.tmps[73]?.getD undef= .slice (some ⟨w.heap.size,0,none⟩) us.length us.length:=(gd A 73).trans (hhas 0 73 _ rfl (hdep ⟨0,.data⟩ (by simp) rfl));have h74:A.tmps[74]?.getD undef= .int .i64 (i:Int):=(gd A 74).trans (hhas 1 74 _ rfl (hdep ⟨1,.data⟩ (by simp) rfl));refine wpOp_step rfl (fun K hK=> ?_);go_simp;exact hK _ _ ⟨rfl,Below.refl _ _⟩
            |3,ho,hv=>
             cases Option.some.inj ho;cases Option.some.inj hv;have h75:A.tmps[75]?.getD undef= .pointer (some ⟨w.heap.size,i,none⟩):=(gd A 75).trans (hhas 2 75 _ rfl (hdep ⟨2,.data⟩ (by simp) rfl));have ci:W.cell? ⟨w.heap.size,i,none⟩=some (.slice (some ⟨rs i,0,none⟩) us.length us.length):=(hJ.cell (block_lt_of_cell oi)).trans oi;refine wpOp_step rfl (fun K hK=> ?_);go_simp;exact hK _ _ ⟨rfl,Below.refl _ _⟩
            |4,ho,hv=>
             cases Option.some.inj ho;cases Option.some.inj hv;have h8:A.tmps[8]?.getD undef= .int .i64 (k:Int):=(gd A 8).trans (hkept 8 (by kernel_rfl));refine wpOp_step rfl (fun K hK=> ?_);go_simp;exact hK _ _ ⟨rfl,Below.refl _ _⟩
            |5,ho,hv=>
             cases Option.some.inj ho;cases Option.some.inj hv;have h3:A.tmps[3]?.getD undef= .slice (some ⟨w.heap.size,0,none⟩) us.length us.length:=(gd A 3).trans (hkept 3 (by kernel_rfl));refine wpOp_step rfl (fun K hK=> ?_);go_simp;exact hK _ _ ⟨rfl,Below.refl _ _⟩
            |6,ho,hv=>
             cases Option.some.inj ho;cases Option.some.inj hv;have h7:A.tmps[7]?.getD undef= .int .i64 (i:Int):=(gd A 7).trans (hkept 7 (by kernel_rfl));refine wpOp_step rfl (fun K hK=> ?_);go_simp;exact hK _ _ ⟨rfl,Below.refl _ _⟩
            |7,ho,hv=>
             cases Option.some.inj ho;cases Option.some.inj hv;have h78:A.tmps[78]?.getD undef= .slice (some ⟨w.heap.size,0,none⟩) us.length us.length:=(gd A 78).trans (hhas 5 78 _ rfl (hdep ⟨5,.data⟩ (by simp) rfl));have h79:A.tmps[79]?.getD undef= .int .i64 (i:Int):=(gd A 79).trans (hhas 6 79 _ rfl (hdep ⟨6,.data⟩ (by simp) rfl));refine wpOp_step rfl (fun K hK=> ?_);go_simp;exact hK _ _ ⟨rfl,Below.refl _ _⟩
            |8,ho,hv=>
             cases Option.some.inj ho;cases Option.some.inj hv;have h80:A.tmps[80]?.getD undef= .pointer (some ⟨w.heap.size,i,none⟩):=(gd A 80).trans (hhas 7 80 _ rfl (hdep ⟨7,.data⟩ (by simp) rfl));have ci:W.cell? ⟨w.heap.size,i,none⟩=some (.slice (some ⟨rs i,0,none⟩) us.length us.length):=(hJ.cell (block_lt_of_cell oi)).trans oi;refine wpOp_step rfl (fun K hK=> ?_);go_simp;exact hK _ _ ⟨rfl,Below.refl _ _⟩
            |9,ho,hv=>
             cases Option.some.inj ho;cases Option.some.inj hv;have h8:A.tmps[8]?.getD undef= .int .i64 (k:Int):=(gd A 8).trans (hkept 8 (by kernel_rfl));refine wpOp_step rfl (fun K hK=> ?_);go_simp;exact hK _ _ ⟨rfl,Below.refl _ _⟩
            |10,ho,hv=>
             cases Option.some.inj ho;cases Option.some.inj hv;have h81:A.tmps[81]?.getD undef= .slice (some ⟨rs i,0,none⟩) us.length us.length:=(gd A 81).trans (hhas 8 81 _ rfl (hdep ⟨8,.data⟩ (by simp) rfl));have h82:A.tmps[82]?.getD undef= .int .i64 (k:Int):=(gd A 82).trans (hhas 9 82 _ rfl (hdep ⟨9,.data⟩ (by simp) rfl));refine wpOp_step rfl (fun K hK=> ?_);go_simp;exact hK _ _ ⟨rfl,Below.refl _ _⟩
            |11,ho,hv=>
             cases Option.some.inj ho;cases Option.some.inj hv;have h83:A.tmps[83]?.getD undef= .pointer (some ⟨rs i,k,none⟩):=(gd A 83).trans (hhas 10 83 _ rfl (hdep ⟨10,.data⟩ (by simp) rfl));have cik:W.cell? ⟨rs i,k,none⟩=some (.bool false):=(hJ.cell (block_lt_of_cell mik)).trans mik;refine wpOp_step rfl (fun K hK=> ?_);go_simp;exact hK _ _ ⟨rfl,Below.refl _ _⟩
            |12,ho,hv=>
             cases Option.some.inj ho;cases Option.some.inj hv;have h84:A.tmps[84]?.getD undef= .bool false:=(gd A 84).trans (hhas 11 84 _ rfl (hdep ⟨11,.data⟩ (by simp) rfl));refine wpOp_step rfl (fun K hK=> ?_);go_simp;exact hK _ _ ⟨rfl,Below.refl _ _⟩
            |13,ho,hv=>
             cases Option.some.inj ho;cases Option.some.inj hv;have hG:A.tmps[85]? =some (.bool false):=gdb (hhas 12 85 _ rfl (hdep ⟨12,.guard⟩ (by simp) rfl));have h3:A.tmps[3]?.getD undef= .slice (some ⟨w.heap.size,0,none⟩) us.length us.length:=(gd A 3).trans (hkept 3 (by kernel_rfl));refine wpOp_step rfl (fun K hK=> ?_);go_simp;exact hK _ _ ⟨rfl,Below.refl _ _⟩
            |14,ho,hv=>
             cases Option.some.inj ho;cases Option.some.inj hv;have hG:A.tmps[85]? =some (.bool false):=gdb (hhas 12 85 _ rfl (hdep ⟨12,.guard⟩ (by simp) rfl));have h7:A.tmps[7]?.getD undef= .int .i64 (i:Int):=(gd A 7).trans (hkept 7 (by kernel_rfl));refine wpOp_step rfl (fun K hK=> ?_);go_simp;exact hK _ _ ⟨rfl,Below.refl _ _⟩
            |15,ho,hv=>
             cases Option.some.inj ho;cases Option.some.inj hv;have hG:A.tmps[85]? =some (.bool false):=gdb (hhas 12 85 _ rfl (hdep ⟨12,.guard⟩ (by simp) rfl));have h86:A.tmps[86]?.getD undef= .slice (some ⟨w.heap.size,0,none⟩) us.length us.length:=(gd A 86).trans (hhas 13 86 _ rfl (hdep ⟨13,.data⟩ (by simp) rfl));have h87:A.tmps[87]?.getD undef= .int .i64 (i:Int):=(gd A 87).trans (hhas 14 87 _ rfl (hdep ⟨14,.data⟩ (by simp) rfl));refine wpOp_step rfl (fun K hK=> ?_);go_simp;exact hK _ _ ⟨rfl,Below.refl _ _⟩
            |16,ho,hv=>
             cases Option.some.inj ho;cases Option.some.inj hv;have hG:A.tmps[85]? =some (.bool false):=gdb (hhas 12 85 _ rfl (hdep ⟨12,.guard⟩ (by simp) rfl));have h88:A.tmps[88]?.getD undef= .pointer (some ⟨w.heap.size,i,none⟩):=(gd A 88).trans (hhas 15 88 _ rfl (hdep ⟨15,.data⟩ (by simp) rfl));have ci:W.cell? ⟨w.heap.size,i,none⟩=some (.slice (some ⟨rs i,0,none⟩) us.length us.length):=(hJ.cell (block_lt_of_cell oi)).trans oi;refine wpOp_step rfl (fun K hK=> ?_);go_simp;exact hK _ _ ⟨rfl,Below.refl _ _⟩
            |17,ho,hv=>
             cases Option.some.inj ho;cases Option.some.inj hv;have hG:A.tmps[85]? =some (.bool false):=gdb (hhas 12 85 _ rfl (hdep ⟨12,.guard⟩ (by simp) rfl));have h6:A.tmps[6]?.getD undef= .int .i64 (m:Int):=(gd A 6).trans (hkept 6 (by kernel_rfl));refine wpOp_step rfl (fun K hK=> ?_);go_simp;exact hK _ _ ⟨rfl,Below.refl _ _⟩
            |18,ho,hv=>
             cases Option.some.inj ho;cases Option.some.inj hv;have hG:A.tmps[85]? =some (.bool false):=gdb (hhas 12 85 _ rfl (hdep ⟨12,.guard⟩ (by simp) rfl));have h89:A.tmps[89]?.getD undef= .slice (some ⟨rs i,0,none⟩) us.length us.length:=(gd A 89).trans (hhas 16 89 _ rfl (hdep ⟨16,.data⟩ (by simp) rfl));have h90:A.tmps[90]?.getD undef= .int .i64 (m:Int):=(gd A 90).trans (hhas 17 90 _ rfl (hdep ⟨17,.data⟩ (by simp) rfl));refine wpOp_step rfl (fun K hK=> ?_);go_simp;exact hK _ _ ⟨rfl,Below.refl _ _⟩
            |19,ho,hv=>
             cases Option.some.inj ho;cases Option.some.inj hv;have hG:A.tmps[85]? =some (.bool false):=gdb (hhas 12 85 _ rfl (hdep ⟨12,.guard⟩ (by simp) rfl));have h91:A.tmps[91]?.getD undef= .pointer (some ⟨rs i,m,none⟩):=(gd A 91).trans (hhas 18 91 _ rfl (hdep ⟨18,.data⟩ (by simp) rfl));have cim:W.cell? ⟨rs i,m,none⟩=some (.bool false):=(hJ.cell (block_lt_of_cell mim)).trans mim;refine wpOp_step rfl (fun K hK=> ?_);go_simp;exact hK _ _ ⟨rfl,Below.refl _ _⟩
            |20,ho,hv=>
             cases Option.some.inj ho;cases Option.some.inj hv;have hG:A.tmps[85]? =some (.bool false):=gdb (hhas 12 85 _ rfl (hdep ⟨12,.guard⟩ (by simp) rfl));have h92:A.tmps[92]?.getD undef= .bool false:=(gd A 92).trans (hhas 19 92 _ rfl (hdep ⟨19,.data⟩ (by simp) rfl));refine wpOp_step rfl (fun K hK=> ?_);go_simp;exact hK _ _ ⟨rfl,Below.refl _ _⟩
            |21,ho,hv=>
             cases Option.some.inj ho;cases Option.some.inj hv;have hG:A.tmps[93]? =some (.bool false):=gdb (hhas 20 93 _ rfl (hdep ⟨20,.guard⟩ (by simp) rfl));refine wpOp_step rfl (fun K hK=> ?_);rw[if_neg (by simp[Region.wanted,yielded,hG])];exact hK _ _ ⟨rfl,Below.refl _ _⟩
            |22,ho,hv=>
             cases Option.some.inj ho;cases Option.some.inj hv;have hG:A.tmps[93]? =some (.bool false):=gdb (hhas 20 93 _ rfl (hdep ⟨20,.guard⟩ (by simp) rfl));refine wpOp_step rfl (fun K hK=> ?_);rw[if_neg (by simp[Region.wanted,yielded,hG])];exact hK _ _ ⟨rfl,Below.refl _ _⟩
            |23,ho,hv=>
             cases Option.some.inj ho;cases Option.some.inj hv;have hG:A.tmps[93]? =some (.bool false):=gdb (hhas 20 93 _ rfl (hdep ⟨20,.guard⟩ (by simp) rfl));refine wpOp_step rfl (fun K hK=> ?_);rw[if_neg (by simp[Region.wanted,yielded,hG])];exact hK _ _ ⟨rfl,Below.refl _ _⟩
            |24,ho,hv=>
             cases Option.some.inj ho;cases Option.some.inj hv;have hG:A.tmps[93]? =some (.bool false):=gdb (hhas 20 93 _ rfl (hdep ⟨20,.guard⟩ (by simp) rfl));refine wpOp_step rfl (fun K hK=> ?_);rw[if_neg (by simp[Region.wanted,yielded,hG])];exact hK _ _ ⟨rfl,Below.refl _ _⟩
            |25,ho,hv=>
             cases Option.some.inj ho;cases Option.some.inj hv;have hG:A.tmps[93]? =some (.bool false):=gdb (hhas 20 93 _ rfl (hdep ⟨20,.guard⟩ (by simp) rfl));refine wpOp_step rfl (fun K hK=> ?_);rw[if_neg (by simp[Region.wanted,yielded,hG])];exact hK _ _ ⟨rfl,Below.refl _ _⟩
            |26,ho,hv=>
             cases Option.some.inj ho;cases Option.some.inj hv;have hG:A.tmps[93]? =some (.bool false):=gdb (hhas 20 93 _ rfl (hdep ⟨20,.guard⟩ (by simp) rfl));refine wpOp_step rfl (fun K hK=> ?_);rw[if_neg (by simp[Region.wanted,yielded,hG])];exact hK _ _ ⟨rfl,Below.refl _ _⟩
            |27,ho,hv=>
             cases Option.some.inj ho;cases Option.some.inj hv;have hG:A.tmps[93]? =some (.bool false):=gdb (hhas 20 93 _ rfl (hdep ⟨20,.guard⟩ (by simp) rfl));refine wpOp_step rfl (fun K hK=> ?_);rw[if_neg (by simp[Region.wanted,yielded,hG])];exact hK _ _ ⟨rfl,Below.refl _ _⟩
            |28,ho,hv=>
             cases Option.some.inj ho;cases Option.some.inj hv;have hG:A.tmps[85]? =some (.bool false):=gdb (hhas 12 85 _ rfl (hdep ⟨12,.guard⟩ (by simp) rfl));have h93:A.tmps[93]?.getD undef= .bool false:=(gd A 93).trans (hhas 20 93 _ rfl (hdep ⟨20,.data⟩ (by simp) rfl));have h100:A.tmps[100]?.getD undef=undef:=(gd A 100).trans (hhas 27 100 _ rfl (hdep ⟨27,.data⟩ (by simp) rfl));refine wpOp_step rfl (fun K hK=> ?_);go_simp;exact hK _ _ ⟨rfl,Below.refl _ _⟩
            |29,ho,hv=>
             cases Option.some.inj ho;cases Option.some.inj hv;have h85:A.tmps[85]?.getD undef= .bool false:=(gd A 85).trans (hhas 12 85 _ rfl (hdep ⟨12,.data⟩ (by simp) rfl));have h101:A.tmps[101]?.getD undef= .bool false:=(gd A 101).trans (hhas 28 101 _ rfl (hdep ⟨28,.data⟩ (by simp) rfl));refine wpOp_step rfl (fun K hK=> ?_);go_simp;exact hK _ _ ⟨rfl,Below.refl _ _⟩
            |30,ho,hv=>
             cases Option.some.inj ho;cases Option.some.inj hv;have h76:A.tmps[76]?.getD undef= .slice (some ⟨rs i,0,none⟩) us.length us.length:=(gd A 76).trans (hhas 3 76 _ rfl (hdep ⟨3,.data⟩ (by simp) rfl));have h77:A.tmps[77]?.getD undef= .int .i64 (k:Int):=(gd A 77).trans (hhas 4 77 _ rfl (hdep ⟨4,.data⟩ (by simp) rfl));refine wpOp_step rfl (fun K hK=> ?_);go_simp;exact hK _ _ ⟨rfl,Below.refl _ _⟩
            |kk+31,ho,hv=>simp at hv
           ·intro o' W ho hJ;cases Option.some.inj ho;simp only[putAll_cons,putAll_nil,Act.put,List.setIfInBounds_toArray,List.set_cons_succ,List.set_cons_zero];refine wpOp_step rfl (fun K hK=> ?_);have hW:=(hst.below hJ).set (k:=k) (b:=false) hin;have ck:W.cell? ⟨rs i,k,none⟩=some (.bool false):=(hJ.cell (block_lt_of_cell mik)).trans mik;have yk:W.frozen? ⟨rs i,k,none⟩=false:=(hst.below hJ).frz hin k;have HN:=hid5 (hnext _ false rfl hW);clear hst hnext oi om mik mim mmk hW;go_simp;refine hK _ _ ⟨⟨undef,rfl⟩,?_⟩;clear hK hJ ck yk;go_wp2_with fail;go_roundw
            case rel=>first
             |exact HN.out
             |((repeat apply Exists.intro);exact⟨HN.out,rfl⟩)
            case measure=>simp[intOf];omega
          |true=>
           refine wp_region_last (by kernel_rfl) (by kernel_rfl) (by kernel_rfl) (by kernel_rfl) 31 (by kernel_rfl) (by kernel_rfl) [(73,.slice (some ⟨w.heap.size,0,none⟩) us.length us.length),(74,.int .i64 (i:Int)),(75,.pointer (some ⟨w.heap.size,i,none⟩)),(76,.slice (some ⟨rs i,0,none⟩) us.length us.length),(77,.int .i64 (k:Int)),(78,.slice (some ⟨w.heap.size,0,none⟩) us.length us.length),(79,.int .i64 (i:Int)),(80,.pointer (some ⟨w.heap.size,i,none⟩)),(81,.slice (some ⟨rs i,0,none⟩) us.length us.length),(82,.int .i64 (k:Int)),(83,.pointer (some ⟨rs i,k,none⟩)),(84,.bool false),(85,.bool false),(86,.slice (some ⟨w.heap.size,0,none⟩) us.length us.length),(87,.int .i64 (i:Int)),(88,.pointer (some ⟨w.heap.size,i,none⟩)),(89,.slice (some ⟨rs i,0,none⟩) us.length us.length),(90,.int .i64 (m:Int)),(91,.pointer (some ⟨rs i,m,none⟩)),(92,.bool true),(93,.bool true),(94,.slice (some ⟨w.heap.size,0,none⟩) us.length us.length),(95,.int .i64 (m:Int)),(96,.pointer (some ⟨w.heap.size,m,none⟩)),(97,.slice (some ⟨rs m,0,none⟩) us.length us.length),(98,.int .i64 (k:Int)),(99,.pointer (some ⟨rs m,k,none⟩)),(100,.bool mk0),(101,.bool mk0),(102,.bool mk0),(103,.pointer (some ⟨rs i,k,none⟩))] (by kernel_rfl) (by kernel_rfl) ?_ ?_
           ·intro i' s v o' L A W ho hv hdep hJ hkept hhas;match i',ho,hv with
            |0,ho,hv=>
             cases Option.some.inj ho;cases Option.some.inj hv;have h3:A.tmps[3]?.getD undef= .slice (some ⟨w.heap.size,0,none⟩) us.length us.length:=(gd A 3).trans (hkept 3 (by kernel_rfl));refine wpOp_step rfl (fun K hK=> ?_);go_simp;exact hK _ _ ⟨rfl,Below.refl _ _⟩
            |1,ho,hv=>
             cases Option.some.inj ho;cases Option.some.inj hv;have h7:A.tmps[7]?.getD undef= .int .i64 (i:Int):=(gd A 7).trans (hkept 7 (by kernel_rfl));refine wpOp_step rfl (fun K hK=> ?_);go_simp;exact hK _ _ ⟨rfl,Below.refl _ _⟩
            |2,ho,hv=>
             cases Option.some.inj ho;cases Option.some.inj hv;have h73:A.tmps[73]?.getD undef= .slice (some ⟨w.heap.size,0,none⟩) us.length us.length:=(gd A 73).trans (hhas 0 73 _ rfl (hdep ⟨0,.data⟩ (by simp) rfl));have h74:A.tmps[74]?.getD undef= .int .i64 (i:Int):=(gd A 74).trans (hhas 1 74 _ rfl (hdep ⟨1,.data⟩ (by simp) rfl));refine wpOp_step rfl (fun K hK=> ?_);go_simp;exact hK _ _ ⟨rfl,Below.refl _ _⟩
            |3,ho,hv=>
             cases Option.some.inj ho;cases Option.some.inj hv;have h75:A.tmps[75]?.getD undef= .pointer (some ⟨w.heap.size,i,none⟩):=(gd A 75).trans (hhas 2 75 _ rfl (hdep ⟨2,.data⟩ (by simp) rfl));have ci:W.cell? ⟨w.heap.size,i,none⟩=some (.slice (some ⟨rs i,0,none⟩) us.length us.length):=(hJ.cell (block_lt_of_cell oi)).trans oi;refine wpOp_step rfl (fun K hK=> ?_);go_simp;exact hK _ _ ⟨rfl,Below.refl _ _⟩
            |4,ho,hv=>
             cases Option.some.inj ho;cases Option.some.inj hv;have h8:A.tmps[8]?.getD undef= .int .i64 (k:Int):=(gd A 8).trans (hkept 8 (by kernel_rfl));refine wpOp_step rfl (fun K hK=> ?_);go_simp;exact hK _ _ ⟨rfl,Below.refl _ _⟩
            |5,ho,hv=>
             cases Option.some.inj ho;cases Option.some.inj hv;have h3:A.tmps[3]?.getD undef= .slice (some ⟨w.heap.size,0,none⟩) us.length us.length:=(gd A 3).trans (hkept 3 (by kernel_rfl));refine wpOp_step rfl (fun K hK=> ?_);go_simp;exact hK _ _ ⟨rfl,Below.refl _ _⟩
            |6,ho,hv=>
             cases Option.some.inj ho;cases Option.some.inj hv;have h7:A.tmps[7]?.getD undef= .int .i64 (i:Int):=(gd A 7).trans (hkept 7 (by kernel_rfl));refine wpOp_step rfl (fun K hK=> ?_);go_simp;exact hK _ _ ⟨rfl,Below.refl _ _⟩
            |7,ho,hv=>
             cases Option.some.inj ho;cases Option.some.inj hv;have h78:A.tmps[78]?.getD undef= .slice (some ⟨w.heap.size,0,none⟩) us.length us.length:=(gd A 78).trans (hhas 5 78 _ rfl (hdep ⟨5,.data⟩ (by simp) rfl));have h79:A.tmps[79]?.getD undef= .int .i64 (i:Int):=(gd A 79).trans (hhas 6 79 _ rfl (hdep ⟨6,.data⟩ (by simp) rfl));refine wpOp_step rfl (fun K hK=> ?_);go_simp;exact hK _ _ ⟨rfl,Below.refl _ _⟩
            |8,ho,hv=>
             cases Option.some.inj ho;cases Option.some.inj hv;have h80:A.tmps[80]?.getD undef= .pointer (some ⟨w.heap.size,i,none⟩):=(gd A 80).trans (hhas 7 80 _ rfl (hdep ⟨7,.data⟩ (by simp) rfl));have ci:W.cell? ⟨w.heap.size,i,none⟩=some (.slice (some ⟨rs i,0,none⟩) us.length us.length):=(hJ.cell (block_lt_of_cell oi)).trans oi;refine wpOp_step rfl (fun K hK=> ?_);go_simp;exact hK _ _ ⟨rfl,Below.refl _ _⟩
            |9,ho,hv=>
             cases Option.some.inj ho;cases Option.some.inj hv;have h8:A.tmps[8]?.getD undef= .int .i64 (k:Int):=(gd A 8).trans (hkept 8 (by kernel_rfl));refine wpOp_step rfl (fun K hK=> ?_);go_simp;exact hK _ _ ⟨rfl,Below.refl _ _⟩
            |10,ho,hv=>
             cases Option.some.inj ho;cases Option.some.inj hv;have h81:A.tmps[81]?.getD undef= .slice (some ⟨rs i,0,none⟩) us.length us.length:=(gd A 81).trans (hhas 8 81 _ rfl (hdep ⟨8,.data⟩ (by simp) rfl));have h82:A.tmps[82]?.getD undef= .int .i64 (k:Int):=(gd A 82).trans (hhas 9 82 _ rfl (hdep ⟨9,.data⟩ (by simp) rfl));refine wpOp_step rfl (fun K hK=> ?_);go_simp;exact hK _ _ ⟨rfl,Below.refl _ _⟩
            |11,ho,hv=>
             cases Option.some.inj ho;cases Option.some.inj hv;have h83:A.tmps[83]?.getD undef= .pointer (some ⟨rs i,k,none⟩):=(gd A 83).trans (hhas 10 83 _ rfl (hdep ⟨10,.data⟩ (by simp) rfl));have cik:W.cell? ⟨rs i,k,none⟩=some (.bool false):=(hJ.cell (block_lt_of_cell mik)).trans mik;refine wpOp_step rfl (fun K hK=> ?_);go_simp;exact hK _ _ ⟨rfl,Below.refl _ _⟩
            |12,ho,hv=>
             cases Option.some.inj ho;cases Option.some.inj hv;have h84:A.tmps[84]?.getD undef= .bool false:=(gd A 84).trans (hhas 11 84 _ rfl (hdep ⟨11,.data⟩ (by simp) rfl));refine wpOp_step rfl (fun K hK=> ?_);go_simp;exact hK _ _ ⟨rfl,Below.refl _ _⟩
            |13,ho,hv=>
             cases Option.some.inj ho;cases Option.some.inj hv;have hG:A.tmps[85]? =some (.bool false):=gdb (hhas 12 85 _ rfl (hdep ⟨12,.guard⟩ (by simp) rfl));have h3:A.tmps[3]?.getD undef= .slice (some ⟨w.heap.size,0,none⟩) us.length us.length:=(gd A 3).trans (hkept 3 (by kernel_rfl));refine wpOp_step rfl (fun K hK=> ?_);go_simp;exact hK _ _ ⟨rfl,Below.refl _ _⟩
            |14,ho,hv=>
             cases Option.some.inj ho;cases Option.some.inj hv;have hG:A.tmps[85]? =some (.bool false):=gdb (hhas 12 85 _ rfl (hdep ⟨12,.guard⟩ (by simp) rfl));have h7:A.tmps[7]?.getD undef= .int .i64 (i:Int):=(gd A 7).trans (hkept 7 (by kernel_rfl));refine wpOp_step rfl (fun K hK=> ?_);go_simp;exact hK _ _ ⟨rfl,Below.refl _ _⟩
            |15,ho,hv=>
             cases Option.some.inj ho;cases Option.some.inj hv;have hG:A.tmps[85]? =some (.bool false):=gdb (hhas 12 85 _ rfl (hdep ⟨12,.guard⟩ (by simp) rfl));have h86:A.tmps[86]?.getD undef= .slice (some ⟨w.heap.size,0,none⟩) us.length us.length:=(gd A 86).trans (hhas 13 86 _ rfl (hdep ⟨13,.data⟩ (by simp) rfl));have h87:A.tmps[87]?.getD undef= .int .i64 (i:Int):=(gd A 87).trans (hhas 14 87 _ rfl (hdep ⟨14,.data⟩ (by simp) rfl));refine wpOp_step rfl (fun K hK=> ?_);go_simp;exact hK _ _ ⟨rfl,Below.refl _ _⟩
            |16,ho,hv=>
             cases Option.some.inj ho;cases Option.some.inj hv;have hG:A.tmps[85]? =some (.bool false):=gdb (hhas 12 85 _ rfl (hdep ⟨12,.guard⟩ (by simp) rfl));have h88:A.tmps[88]?.getD undef= .pointer (some ⟨w.heap.size,i,none⟩):=(gd A 88).trans (hhas 15 88 _ rfl (hdep ⟨15,.data⟩ (by simp) rfl));have ci:W.cell? ⟨w.heap.size,i,none⟩=some (.slice (some ⟨rs i,0,none⟩) us.length us.length):=(hJ.cell (block_lt_of_cell oi)).trans oi;refine wpOp_step rfl (fun K hK=> ?_);go_simp;exact hK _ _ ⟨rfl,Below.refl _ _⟩
            |17,ho,hv=>
             cases Option.some.inj ho;cases Option.some.inj hv;have hG:A.tmps[85]? =some (.bool false):=gdb (hhas 12 85 _ rfl (hdep ⟨12,.guard⟩ (by simp) rfl));have h6:A.tmps[6]?.getD undef= .int .i64 (m:Int):=(gd A 6).trans (hkept 6 (by kernel_rfl));refine wpOp_step rfl (fun K hK=> ?_);go_simp;exact hK _ _ ⟨rfl,Below.refl _ _⟩
            |18,ho,hv=>
             cases Option.some.inj ho;cases Option.some.inj hv;have hG:A.tmps[85]? =some (.bool false):=gdb (hhas 12 85 _ rfl (hdep ⟨12,.guard⟩ (by simp) rfl));have h89:A.tmps[89]?.getD undef= .slice (some ⟨rs i,0,none⟩) us.length us.length:=(gd A 89).trans (hhas 16 89 _ rfl (hdep ⟨16,.data⟩ (by simp) rfl));have h90:A.tmps[90]?.getD undef= .int .i64 (m:Int):=(gd A 90).trans (hhas 17 90 _ rfl (hdep ⟨17,.data⟩ (by simp) rfl));refine wpOp_step rfl (fun K hK=> ?_);go_simp;exact hK _ _ ⟨rfl,Below.refl _ _⟩
            |19,ho,hv=>
             cases Option.some.inj ho;cases Option.some.inj hv;have hG:A.tmps[85]? =some (.bool false):=gdb (hhas 12 85 _ rfl (hdep ⟨12,.guard⟩ (by simp) rfl));have h91:A.tmps[91]?.getD undef= .pointer (some ⟨rs i,m,none⟩):=(gd A 91).trans (hhas 18 91 _ rfl (hdep ⟨18,.data⟩ (by simp) rfl));have cim:W.cell? ⟨rs i,m,none⟩=some (.bool true):=(hJ.cell (block_lt_of_cell mim)).trans mim;refine wpOp_step rfl (fun K hK=> ?_);go_simp;exact hK _ _ ⟨rfl,Below.refl _ _⟩
            |20,ho,hv=>
             cases Option.some.inj ho;cases Option.some.inj hv;have hG:A.tmps[85]? =some (.bool false):=gdb (hhas 12 85 _ rfl (hdep ⟨12,.guard⟩ (by simp) rfl));have h92:A.tmps[92]?.getD undef= .bool true:=(gd A 92).trans (hhas 19 92 _ rfl (hdep ⟨19,.data⟩ (by simp) rfl));refine wpOp_step rfl (fun K hK=> ?_);go_simp;exact hK _ _ ⟨rfl,Below.refl _ _⟩
            |21,ho,hv=>
             cases Option.some.inj ho;cases Option.some.inj hv;have hG:A.tmps[93]? =some (.bool true):=gdb (hhas 20 93 _ rfl (hdep ⟨20,.guard⟩ (by simp) rfl));have h3:A.tmps[3]?.getD undef= .slice (some ⟨w.heap.size,0,none⟩) us.length us.length:=(gd A 3).trans (hkept 3 (by kernel_rfl));refine wpOp_step rfl (fun K hK=> ?_);go_simp;exact hK _ _ ⟨rfl,Below.refl _ _⟩
            |22,ho,hv=>
             cases Option.some.inj ho;cases Option.some.inj hv;have hG:A.tmps[93]? =some (.bool true):=gdb (hhas 20 93 _ rfl (hdep ⟨20,.guard⟩ (by simp) rfl));have h6:A.tmps[6]?.getD undef= .int .i64 (m:Int):=(gd A 6).trans (hkept 6 (by kernel_rfl));refine wpOp_step rfl (fun K hK=> ?_);go_simp;exact hK _ _ ⟨rfl,Below.refl _ _⟩
            |23,ho,hv=>
             cases Option.some.inj ho;cases Option.some.inj hv;have hG:A.tmps[93]? =some (.bool true):=gdb (hhas 20 93 _ rfl (hdep ⟨20,.guard⟩ (by simp) rfl));have h94:A.tmps[94]?.getD undef= .slice (some ⟨w.heap.size,0,none⟩) us.length us.length:=(gd A 94).trans (hhas 21 94 _ rfl (hdep ⟨21,.data⟩ (by simp) rfl));have h95:A.tmps[95]?.getD undef= .int .i64 (m:Int):=(gd A 95).trans (hhas 22 95 _ rfl (hdep ⟨22,.data⟩ (by simp) rfl));refine wpOp_step rfl (fun K hK=> ?_);go_simp;exact hK _ _ ⟨rfl,Below.refl _ _⟩
            |24,ho,hv=>
             cases Option.some.inj ho;cases Option.some.inj hv;have hG:A.tmps[93]? =some (.bool true):=gdb (hhas 20 93 _ rfl (hdep ⟨20,.guard⟩ (by simp) rfl));have h96:A.tmps[96]?.getD undef= .pointer (some ⟨w.heap.size,m,none⟩):=(gd A 96).trans (hhas 23 96 _ rfl (hdep ⟨23,.data⟩ (by simp) rfl));have cm:W.cell? ⟨w.heap.size,m,none⟩=some (.slice (some ⟨rs m,0,none⟩) us.length us.length):=(hJ.cell (block_lt_of_cell om)).trans om;refine wpOp_step rfl (fun K hK=> ?_);go_simp;exact hK _ _ ⟨rfl,Below.refl _ _⟩
            |25,ho,hv=>
             cases Option.some.inj ho;cases Option.some.inj hv;have hG:A.tmps[93]? =some (.bool true):=gdb (hhas 20 93 _ rfl (hdep ⟨20,.guard⟩ (by simp) rfl));have h8:A.tmps[8]?.getD undef= .int .i64 (k:Int):=(gd A 8).trans (hkept 8 (by kernel_rfl));refine wpOp_step rfl (fun K hK=> ?_);go_simp;exact hK _ _ ⟨rfl,Below.refl _ _⟩
            |26,ho,hv=>
             cases Option.some.inj ho;cases Option.some.inj hv;have hG:A.tmps[93]? =some (.bool true):=gdb (hhas 20 93 _ rfl (hdep ⟨20,.guard⟩ (by simp) rfl));have h97:A.tmps[97]?.getD undef= .slice (some ⟨rs m,0,none⟩) us.length us.length:=(gd A 97).trans (hhas 24 97 _ rfl (hdep ⟨24,.data⟩ (by simp) rfl));have h98:A.tmps[98]?.getD undef= .int .i64 (k:Int):=(gd A 98).trans (hhas 25 98 _ rfl (hdep ⟨25,.data⟩ (by simp) rfl));refine wpOp_step rfl (fun K hK=> ?_);go_simp;exact hK _ _ ⟨rfl,Below.refl _ _⟩
            |27,ho,hv=>
             cases Option.some.inj ho;cases Option.some.inj hv;have hG:A.tmps[93]? =some (.bool true):=gdb (hhas 20 93 _ rfl (hdep ⟨20,.guard⟩ (by simp) rfl));have h99:A.tmps[99]?.getD undef= .pointer (some ⟨rs m,k,none⟩):=(gd A 99).trans (hhas 26 99 _ rfl (hdep ⟨26,.data⟩ (by simp) rfl));have cmk:W.cell? ⟨rs m,k,none⟩=some (.bool mk0):=(hJ.cell (block_lt_of_cell mmk)).trans mmk;refine wpOp_step rfl (fun K hK=> ?_);go_simp;exact hK _ _ ⟨rfl,Below.refl _ _⟩
            |28,ho,hv=>
             cases Option.some.inj ho;cases Option.some.inj hv;have hG:A.tmps[85]? =some (.bool false):=gdb (hhas 12 85 _ rfl (hdep ⟨12,.guard⟩ (by simp) rfl));have h93:A.tmps[93]?.getD undef= .bool true:=(gd A 93).trans (hhas 20 93 _ rfl (hdep ⟨20,.data⟩ (by simp) rfl));have h100:A.tmps[100]?.getD undef= .bool mk0:=(gd A 100).trans (hhas 27 100 _ rfl (hdep ⟨27,.data⟩ (by simp) rfl));refine wpOp_step rfl (fun K hK=> ?_);go_simp;exact hK _ _ ⟨rfl,Below.refl _ _⟩
            |29,ho,hv=>
             cases Option.some.inj ho;cases Option.some.inj hv;have h85:A.tmps[85]?.getD undef= .bool false:=(gd A 85).trans (hhas 12 85 _ rfl (hdep ⟨12,.data⟩ (by simp) rfl));have h101:A.tmps[101]?.getD undef= .bool mk0:=(gd A 101).trans (hhas 28 101 _ rfl (hdep ⟨28,.data⟩ (by simp) rfl));refine wpOp_step rfl (fun K hK=> ?_);go_simp;exact hK _ _ ⟨rfl,Below.refl _ _⟩
            |30,ho,hv=>
             cases Option.some.inj ho;cases Option.some.inj hv;have h76:A.tmps[76]?.getD undef= .slice (some ⟨rs i,0,none⟩) us.length us.length:=(gd A 76).trans (hhas 3 76 _ rfl (hdep ⟨3,.data⟩ (by simp) rfl));have h77:A.tmps[77]?.getD undef= .int .i64 (k:Int):=(gd A 77).trans (hhas 4 77 _ rfl (hdep ⟨4,.data⟩ (by simp) rfl));refine wpOp_step rfl (fun K hK=> ?_);go_simp;exact hK _ _ ⟨rfl,Below.refl _ _⟩
            |kk+31,ho,hv=>simp at hv
           ·intro o' W ho hJ;cases Option.some.inj ho;simp only[putAll_cons,putAll_nil,Act.put,List.setIfInBounds_toArray,List.set_cons_succ,List.set_cons_zero];refine wpOp_step rfl (fun K hK=> ?_);have hW:=(hst.below hJ).set (k:=k) (b:=mk0) hin;have ck:W.cell? ⟨rs i,k,none⟩=some (.bool false):=(hJ.cell (block_lt_of_cell mik)).trans mik;have yk:W.frozen? ⟨rs i,k,none⟩=false:=(hst.below hJ).frz hin k;have HN:=hid5 (hnext _ mk0 rfl hW);clear hst hnext oi om mik mim mmk hW;go_simp;refine hK _ _ ⟨⟨undef,rfl⟩,?_⟩;clear hK hJ ck yk;go_wp2_with fail;go_roundw
            case rel=>first
             |exact HN.out
             |((repeat apply Exists.intro);exact⟨HN.out,rfl⟩)
            case measure=>simp[intOf];omega
        ·have ek:k=us.length:=(by omega);have hltk': ¬(k:Int)<(us.length:Int):=(by omega)
         have HN:Hid (RcD (edgE l) us.length rs0 m w (.int .i64 ((i+1:Nat):Int)) wr):=⟨i+1,rfl,by omega,hst.same fun j q hj hq=>by
          unfold stW;by_cases h:j<i+1
          ·rw[if_pos (by omega),if_pos (by omega)]
          ·rw[if_neg (by omega),if_neg (by omega)]⟩
         clear hst ek;go_wp2_with fail;go_roundw;case rel=>exact HN.out
         case measure=>simp[intOf];omega
      ·have ei:i=us.length:=(by omega);have hlti': ¬(i:Int)<(us.length:Int):=(by omega)
       have HN:Hid (RcC (edgE l) us.length rs0 w (.int .i64 ((m+1:Nat):Int)) wr):=⟨m+1,rfl,by omega,hsC.same fun j q hj hq=>by
        unfold stW;rw[if_pos (by omega)]⟩
       clear hsC ei;go_wp2_with fail;go_roundw;case rel=>exact HN.out
       case measure=>simp[intOf];omega
    ·have em:m=us.length:=(by omega);have hltm': ¬(m:Int)<(us.length:Int):=(by omega)
     have HO:Hid (OutRc (edgE l) us.length w (.returned (.slice (some ⟨w.heap.size,0,none⟩) us.length us.length)) wr):=by
      rw[em]at hsC;exact⟨rs0,rfl,hsC⟩
     clear hsC em;go_wp2_with fail;go_ret;exact HO.out
end Go.Proofs.YtpmobjgnmidolaaDoor
