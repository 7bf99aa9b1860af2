/- What the document's Wrong comes to. -/
import Derived.Test.YtpmobjgnmidolaaDoorDt20
import Derived.Test.YtpmobjgnmidolaaDoorDt22
import Derived.Test.YtpmobjgnmidolaaDoorDt19
import Derived.Test.YtpmobjgnmidolaaDoorDt06
namespace Go.Proofs.YtpmobjgnmidolaaDoor
open Go.RowKit Lx
theorem ref_a {l:List Ru}{i:Nat}(h0:(wrongR l).1=0)(hi:i<l.length)(hp:lk1 l i=true)(hall: ∀i',i'<i→lk1 l i'=false):refW l=(7,i):=by
 unfold refW;rw[if_neg (by simpa using h0),frF_some hp l.length 0 (by omega) (by omega) fun i' _ h=>hall i' h]
theorem ref_b {l:List Ru}{i:Nat}(h0:(wrongR l).1=0)(h1: ∀i',i'<l.length→lk1 l i'=false)(hi:i<l.length)(hp:rk2 l i=true)(hall: ∀i',i'<i→rk2 l i'=false):refW l=(6,i):=by
 unfold refW;rw[if_neg (by simpa using h0),frF_none l.length 0 fun i' _ h=>h1 i' (by omega),frF_some hp l.length 0 (by omega) (by omega) fun i' _ h=>hall i' h]
theorem ref_c {l:List Ru}{i:Nat}(h0:(wrongR l).1=0)(h1: ∀i',i'<l.length→lk1 l i'=false)(h2: ∀i',i'<l.length→rk2 l i'=false)(hi:i<l.length)(hp:rk3 l i=true)(hall: ∀i',i'<i→rk3 l i'=false):refW l=(9,i):=by
 unfold refW;rw[if_neg (by simpa using h0),frF_none l.length 0 fun i' _ h=>h1 i' (by omega),frF_none l.length 0 fun i' _ h=>h2 i' (by omega),frF_some hp l.length 0 (by omega) (by omega) fun i' _ h=>hall i' h]
theorem ref_d {l:List Ru}(h0:(wrongR l).1=0)(h1: ∀i',i'<l.length→lk1 l i'=false)(h2: ∀i',i'<l.length→rk2 l i'=false)(h3: ∀i',i'<l.length→rk3 l i'=false):refW l=(0,0):=by
 unfold refW;rw[if_neg (by simpa using h0),frF_none l.length 0 fun i' _ h=>h1 i' (by omega),frF_none l.length 0 fun i' _ h=>h2 i' (by omega),frF_none l.length 0 fun i' _ h=>h3 i' (by omega)]
set_option maxRecDepth 100000 in
set_option maxHeartbeats 2000000 in
theorem refW_any (us:List (Ru×Value))(v:Value)(w:World)(h:InR w v us):Calls Tryd.prog 19 #[v] w fun r w'=>r= .returned (.agg #[.int .i64 (refW (us.map (fun p=>p.1))).1,.int .i64 ((refW (us.map (fun p=>p.1))).2:Int)])∧Below w.heap.size w w':=by
 obtain⟨l,hl⟩: ∃l,us.map (fun p=>p.1)=l:=⟨_,rfl⟩
 have hll:l.length=us.length:=by rw[←hl,List.length_map]
 obtain⟨pv,cv,rfl⟩:=h.form;have hlen:=h.len;have bA:=(Below.refl w.heap.size w).alloc (Nat.le_refl _) (.cells #[.int .i64 0,.int .i64 0] 26);have n1:=heap_alloc_new w (.cells #[.int .i64 0,.int .i64 0] 26);generalize hwA:w.alloc (.cells #[.int .i64 0,.int .i64 0] 26)=wA at*;have cW:=rwrong_any us _ wA (h.below bA);rw[hl]at cW⊢;have HL:=hid5 hl;have HLL:=hid5 hll;have HI0:=hid5 h;clear hl hll h;go_enter Tryd.func19,Tryd.ntmps19;go_wp2_with fail;refine cW.mono ?_;rintro r w1 ⟨rfl,hb1⟩;have m2:=(hb1.block _ (lt_of_block n1)).trans n1;have hb1w:=bA.trans (hb1.mono bA.size);clear cW n1 hb1 bA hwA;by_cases h0:(wrongR l).1=0
 ·obtain⟨h40,_⟩:=wrong_nms h0;rw[HLL.out]at h40;rw[h0];generalize (((wrongR l).2:Nat):Int)=at0 at*;have bC:=(Below.refl w1.heap.size w1).alloc (Nat.le_refl _) (.cells #[.int .i64 0,.int .i64 at0] 26);have HbW:=hid5 (hb1w.trans (bC.mono hb1w.size));have hres:=(bC.block _ (lt_of_block m2)).trans m2;have m3:=heap_alloc_new w1 (.cells #[.int .i64 0,.int .i64 at0] 26);have H0:=hid5 h0;have hI40:(us.length:Int)≤40:=(by omega);clear bC hb1w m2 h0 h40;generalize hw2:w1.alloc (.cells #[.int .i64 0,.int .i64 at0] 26)=W0 at*;have HI:=hid5 (HI0.out.below HbW.out);have z0:=(cell_of_row _ _ 0 _ _ _ m3).trans rfl;have HB0:=hid5 (Below.refl W0.heap.size W0);go_wp2_with fail;clear z0 m3 hw2;obtain⟨b8,hb8⟩: ∃b,w1.heap.size=b:=⟨_,rfl⟩
  try simp only[hb8]
  clear hb8;go_loopw [4,5,18] (fun _ _ t wr=>IRel us.length (lk1 l) W0 W0 t wr) (fun _ _ t _=>us.length-(intOf t).toNat);case atStart=>exact⟨0,rfl,by omega,fun i' hi'=>by omega,HB0.out,HB0.out⟩
  case round=>
   obtain⟨i,rfl,hi,hall,hbi,_⟩:=hrel;clear HB0;have hi0:(0:Int)≤(i:Int):=(by omega);have Hall:=hid5 hall;clear hall;by_cases hlt:i<us.length
   ·have hlt':(i:Int)<(us.length:Int):=(by omega);obtain⟨⟨u,sk⟩,hik⟩: ∃p,us[i]? =some p:=⟨us[i],List.getElem?_eq_getElem hlt⟩
    have hul:l[i]? =some u:=(by rw[←HL.out,List.getElem?_map,hik];rfl);obtain⟨g,o,hpe,c0,c1,c2,c3,c4,c5⟩:=HI.out.cells i _ hik;obtain⟨_,_,_,hkk⟩:=HI.out.all _ (List.mem_of_getElem? hik);dsimp only at c0 c1 c2 c3 c4 c5 hkk;obtain⟨ps,cs,rfl⟩:=hkk.form;have hme:=List.mem_of_getElem? hik;clear hkk hik;subst hpe;have d0:=(hbi.cell (block_lt_of_cell c0)).trans c0;have d1:=(hbi.cell (block_lt_of_cell c1)).trans c1;have d2:=(hbi.cell (block_lt_of_cell c2)).trans c2;have d3:=(hbi.cell (block_lt_of_cell c3)).trans c3;have d4:=(hbi.cell (block_lt_of_cell c4)).trans c4;have d5:=(hbi.cell (block_lt_of_cell c5)).trans c5;have hbA:=hbi.alloc hbi.size (.cells #[.string ⟨u.1.toArray⟩,.int .i64 u.2.kind,.int .i64 u.2.a,.int .i64 u.2.b,.string ⟨u.2.name.toArray⟩,.slice ps u.2.kids.length cs] 52);have hxB:=heap_alloc_new wr (.cells #[.string ⟨u.1.toArray⟩,.int .i64 u.2.kind,.int .i64 u.2.a,.int .i64 u.2.b,.string ⟨u.2.name.toArray⟩,.slice ps u.2.kids.length cs] 52);generalize hwB:wr.alloc (.cells #[.string ⟨u.1.toArray⟩,.int .i64 u.2.kind,.int .i64 u.2.a,.int .i64 u.2.b,.string ⟨u.2.name.toArray⟩,.slice ps u.2.kids.length cs] 52)=wB at*;have r0:=(cell_of_row _ _ 0 _ _ _ hxB).trans rfl;have r1:=(cell_of_row _ _ 1 _ _ _ hxB).trans rfl;have r2:=(cell_of_row _ _ 2 _ _ _ hxB).trans rfl;have r3:=(cell_of_row _ _ 3 _ _ _ hxB).trans rfl;have r4:=(cell_of_row _ _ 4 _ _ _ hxB).trans rfl;have r5:=(cell_of_row _ _ 5 _ _ _ hxB).trans rfl;clear c0 c1 c2 c3 c4 c5 hxB hbi;have cC:=at_any us _ u.1 wB (HI.out.below hbA);rw[HL.out]at cC;have hl1:lk1 l i=(atP5 l u.1 !=(i:Int)):=(by unfold lk1;rw[hul]);generalize atP5 l u.1=at0 at*;have cC':=hid5 hl1;clear hul hl1 hme;cases hp:lk1 l i with
    |true=>
     have hne:(at0 !=(i:Int))=true:=cC'.out.symm.trans hp;clear cC'
     have HX:Hid (refW l=(7,i)):=by
      have hall:=Hall.out;have hlt:i<l.length:=(by rw[HLL.out];exact hlt);exact ref_a H0.out hlt hp hall
     clear Hall hp;go_wp2_with fail;refine cC.mono ?_;rintro r w3 ⟨rfl,hb3⟩;have hbw:=hbA.trans (hb3.mono hbA.size);have hz:=(hbw.block _ (lt_of_block hres)).trans hres;have hbF:=below_setRow ((HbW.out).trans (hbw.mono (HbW.out).size)) (Nat.le_refl w.heap.size) #[.int .i64 7,.int .i64 (i:Int)];clear cC hb3 hbw hbA r0 r1 r2 r3 r4 r5 d0 d1 d2 d3 d4 d5 hwB
     go_wp2_with(first
      |(refine wpList_store_row rfl 26 _ _ rfl _ _ rfl rfl _ _ hz (by kernel_rfl) (by simp) (by simp[Value.oneCell']) ?_))
     refine flt_ret 2 (by kernel_rfl) w.heap.size _ _ rfl rfl (setRow_heap _ _ _ _ _ _ hz) ?_;rw[HX.out];exact⟨rfl,hbF⟩
    |false=>
     have hne:(at0 !=(i:Int))=false:=cC'.out.symm.trans hp;clear cC'
     have HN:Hid (∀i',i'<i+1→lk1 l i'=false):=fun i' hi'=>by
      by_cases e:i'=i
      ·rw[e];exact hp
      ·exact Hall.out i' (by omega)
     clear Hall hp;go_wp2_with fail;refine cC.mono ?_;rintro r w3 ⟨rfl,hb3⟩;have hbw:=hbA.trans (hb3.mono hbA.size);clear cC hb3 hbA r0 r1 r2 r3 r4 r5 d0 d1 d2 d3 d4 d5 hwB;go_wp2_with fail;go_roundw
     case rel=>first
      |exact⟨i+1,by go_num,by omega,HN.out,hbw,hbw⟩
      |((repeat apply Exists.intro);exact⟨⟨i+1,by go_num,by omega,HN.out,hbw,hbw⟩,rfl⟩)
     case measure=>simp[intOf];omega
   ·have hlt': ¬(i:Int)<(us.length:Int):=(by omega);have ei:i=us.length:=(by omega)
    have Hno1:Hid (∀i',i'<us.length→lk1 l i'=false):=by
     have hall:=Hall.out;rw[ei]at hall;exact hall
    have HB0:=hid5 hbi;clear Hall ei hbi;go_wp2_with fail;go_loopw [6,7,34] (fun _ _ t wr=>IRel us.length (rk2 l) W0 W0 t wr) (fun _ _ t _=>us.length-(intOf t).toNat);case atStart=>exact⟨0,rfl,by omega,fun i' hi'=>by omega,HB0.out,HB0.out⟩
    case round=>
     obtain⟨i,rfl,hi,hall,hbi,_⟩:=hrel;clear HB0;have hi0:(0:Int)≤(i:Int):=(by omega);have Hall:=hid5 hall;clear hall;by_cases hlt:i<us.length
     ·have hlt':(i:Int)<(us.length:Int):=(by omega);obtain⟨⟨u,sk⟩,hik⟩: ∃p,us[i]? =some p:=⟨us[i],List.getElem?_eq_getElem hlt⟩
      have hul:l[i]? =some u:=(by rw[←HL.out,List.getElem?_map,hik];rfl);obtain⟨g,o,hpe,c0,c1,c2,c3,c4,c5⟩:=HI.out.cells i _ hik;obtain⟨_,_,_,hkk⟩:=HI.out.all _ (List.mem_of_getElem? hik);dsimp only at c0 c1 c2 c3 c4 c5 hkk;obtain⟨ps,cs,rfl⟩:=hkk.form;have hme:=List.mem_of_getElem? hik;clear hkk hik;subst hpe;have d0:=(hbi.cell (block_lt_of_cell c0)).trans c0;have d1:=(hbi.cell (block_lt_of_cell c1)).trans c1;have d2:=(hbi.cell (block_lt_of_cell c2)).trans c2;have d3:=(hbi.cell (block_lt_of_cell c3)).trans c3;have d4:=(hbi.cell (block_lt_of_cell c4)).trans c4;have d5:=(hbi.cell (block_lt_of_cell c5)).trans c5;have hbA:=hbi.alloc hbi.size (.cells #[.string ⟨u.1.toArray⟩,.int .i64 u.2.kind,.int .i64 u.2.a,.int .i64 u.2.b,.string ⟨u.2.name.toArray⟩,.slice ps u.2.kids.length cs] 52);have hxB:=heap_alloc_new wr (.cells #[.string ⟨u.1.toArray⟩,.int .i64 u.2.kind,.int .i64 u.2.a,.int .i64 u.2.b,.string ⟨u.2.name.toArray⟩,.slice ps u.2.kids.length cs] 52);generalize hwB:wr.alloc (.cells #[.string ⟨u.1.toArray⟩,.int .i64 u.2.kind,.int .i64 u.2.a,.int .i64 u.2.b,.string ⟨u.2.name.toArray⟩,.slice ps u.2.kids.length cs] 52)=wB at*;have r0:=(cell_of_row _ _ 0 _ _ _ hxB).trans rfl;have r1:=(cell_of_row _ _ 1 _ _ _ hxB).trans rfl;have r2:=(cell_of_row _ _ 2 _ _ _ hxB).trans rfl;have r3:=(cell_of_row _ _ 3 _ _ _ hxB).trans rfl;have r4:=(cell_of_row _ _ 4 _ _ _ hxB).trans rfl;have r5:=(cell_of_row _ _ 5 _ _ _ hxB).trans rfl;clear c0 c1 c2 c3 c4 c5 hxB hbi;have cC:=unknown_any us _ _ u.2 _ wB ((HI.out.below hbA).all _ hme).2.2.choose_spec (HI.out.below hbA);rw[HL.out]at cC;unfold exV at cC;have hl2:rk2 l i=unk u.2 l:=(by unfold rk2;rw[hul]);rw[←hl2]at cC;clear hul hl2 hme;cases hp:rk2 l i with
      |true=>
       rw[hp]at cC
       have HX:Hid (refW l=(6,i)):=by
        have hall:=Hall.out;have hlt:i<l.length:=(by rw[HLL.out];exact hlt);exact ref_b H0.out (by rw[HLL.out];exact Hno1.out) hlt hp hall
       clear Hall hp;go_wp2_with fail;refine cC.mono ?_;rintro r w3 ⟨rfl,hb3⟩;have hbw:=hbA.trans (hb3.mono hbA.size);have hz:=(hbw.block _ (lt_of_block hres)).trans hres;have hbF:=below_setRow ((HbW.out).trans (hbw.mono (HbW.out).size)) (Nat.le_refl w.heap.size) #[.int .i64 6,.int .i64 (i:Int)];clear cC hb3 hbw hbA r0 r1 r2 r3 r4 r5 d0 d1 d2 d3 d4 d5 hwB
       go_wp2_with(first
        |(refine wpList_store_row rfl 26 _ _ rfl _ _ rfl rfl _ _ hz (by kernel_rfl) (by simp) (by simp[Value.oneCell']) ?_))
       refine flt_ret 2 (by kernel_rfl) w.heap.size _ _ rfl rfl (setRow_heap _ _ _ _ _ _ hz) ?_;rw[HX.out];exact⟨rfl,hbF⟩
      |false=>
       rw[hp]at cC
       have HN:Hid (∀i',i'<i+1→rk2 l i'=false):=fun i' hi'=>by
        by_cases e:i'=i
        ·rw[e];exact hp
        ·exact Hall.out i' (by omega)
       clear Hall hp;go_wp2_with fail;refine cC.mono ?_;rintro r w3 ⟨rfl,hb3⟩;have hbw:=hbA.trans (hb3.mono hbA.size);clear cC hb3 hbA r0 r1 r2 r3 r4 r5 d0 d1 d2 d3 d4 d5 hwB;go_wp2_with fail;go_roundw
       case rel=>first
        |exact⟨i+1,by go_num,by omega,HN.out,hbw,hbw⟩
        |((repeat apply Exists.intro);exact⟨⟨i+1,by go_num,by omega,HN.out,hbw,hbw⟩,rfl⟩)
       case measure=>simp[intOf];omega
     ·have hlt': ¬(i:Int)<(us.length:Int):=(by omega);have ei:i=us.length:=(by omega)
      have Hno2:Hid (∀i',i'<us.length→rk2 l i'=false):=by
       have hall:=Hall.out;rw[ei]at hall;exact hall
      have cR:=reach_any us _ wr (HI.out.below hbi) (by omega);rw[HL.out]at cR;clear Hall ei;go_wp2_with fail;refine cR.mono ?_;rintro e w4 ⟨rs,rfl,hst⟩;have hb4:=hbi.trans (hst.bel.mono hbi.size);clear cR hbi;have HS:=hid5 hst;clear hst;go_wp2_with fail;go_loopw [8,9,49] (fun _ _ t wr'=>IRel us.length (rk3 l) W0 w4 t wr') (fun _ _ t _=>us.length-(intOf t).toNat);case atStart=>exact⟨0,rfl,by omega,fun i' hi'=>by omega,hb4,Below.refl _ _⟩
      case round=>
       obtain⟨i,rfl,hi,hall,hbi,hb5⟩:=hrel;clear hb4;have hi0:(0:Int)≤(i:Int):=(by omega);have Hall:=hid5 hall;clear hall;by_cases hlt:i<us.length
       ·have hlt':(i:Int)<(us.length:Int):=(by omega);have oi:=(hb5.cell (block_lt_of_cell (HS.out.out hlt))).trans (HS.out.out hlt);have mi:=(hb5.cell (block_lt_of_cell (HS.out.cell hlt hlt))).trans (HS.out.cell hlt hlt);have e3:wars (edgE l) us.length i i=rk3 l i:=(by unfold rk3;rw[HLL.out]);rw[e3]at mi;clear e3;cases hp:rk3 l i with
        |true=>
         rw[hp]at mi
         have HX:Hid (refW l=(9,i)):=by
          have hall:=Hall.out;have hlt:i<l.length:=(by rw[HLL.out];exact hlt);exact ref_c H0.out (by rw[HLL.out];exact Hno1.out) (by rw[HLL.out];exact Hno2.out) hlt hp hall
         have hz:=(hbi.block _ (lt_of_block hres)).trans hres;have hbF:=below_setRow ((HbW.out).trans (hbi.mono (HbW.out).size)) (Nat.le_refl w.heap.size) #[.int .i64 9,.int .i64 (i:Int)];clear Hall hp hbi hb5
         go_wp2_with(first
          |(refine wpList_store_row rfl 26 _ _ rfl _ _ rfl rfl _ _ hz (by kernel_rfl) (by simp) (by simp[Value.oneCell']) ?_))
         refine flt_ret 2 (by kernel_rfl) w.heap.size _ _ rfl rfl (setRow_heap _ _ _ _ _ _ hz) ?_;rw[HX.out];exact⟨rfl,hbF⟩
        |false=>
         rw[hp]at mi
         have HN:Hid (∀i',i'<i+1→rk3 l i'=false):=fun i' hi'=>by
          by_cases e:i'=i
          ·rw[e];exact hp
          ·exact Hall.out i' (by omega)
         clear Hall hp;go_wp2_with fail;go_roundw
         case rel=>first
          |exact⟨i+1,by go_num,by omega,HN.out,hbi,hb5⟩
          |((repeat apply Exists.intro);exact⟨⟨i+1,by go_num,by omega,HN.out,hbi,hb5⟩,rfl⟩)
         case measure=>simp[intOf];omega
       ·have hlt': ¬(i:Int)<(us.length:Int):=(by omega);have ei:i=us.length:=(by omega)
        have HX:Hid (refW l=(0,0)):=by
         have hall:=Hall.out;rw[ei]at hall;exact ref_d H0.out (by rw[HLL.out];exact Hno1.out) (by rw[HLL.out];exact Hno2.out) (by rw[HLL.out];exact hall)
        have hz:=(hbi.block _ (lt_of_block hres)).trans hres;have hbF:=below_setRow ((HbW.out).trans (hbi.mono (HbW.out).size)) (Nat.le_refl w.heap.size) #[.int .i64 0,.int .i64 0];clear Hall ei hbi hb5
        go_wp2_with(first
         |(refine wpList_store_row rfl 26 _ _ rfl _ _ rfl rfl _ _ hz (by kernel_rfl) (by simp) (by simp[Value.oneCell']) ?_))
        refine flt_ret 2 (by kernel_rfl) w.heap.size _ _ rfl rfl (setRow_heap _ _ _ _ _ _ hz) ?_;rw[HX.out];exact⟨rfl,hbF⟩
 ·have HX:Hid (refW l=wrongR l):=by
   show _=_;unfold refW;rw[if_pos h0]
  have hne:((wrongR l).1 !=0)=true:=(by simpa using h0);have HR:Hid (∀W,Below w.heap.size w W→(fun(r:Ending) (w':World)=>r= .returned (.agg #[.int .i64 (refW l).1,.int .i64 ((refW l).2:Int)])∧Below w.heap.size w w') (.returned (.agg #[.int .i64 (wrongR l).1,.int .i64 ((wrongR l).2:Int)])) W):=fun W hW=>⟨by rw[HX.out],hW⟩
  generalize (wrongR l).1=er at*;generalize (((wrongR l).2:Nat):Int)=at0 at*;have bC:=(Below.refl w1.heap.size w1).alloc (Nat.le_refl _) (.cells #[.int .i64 er,.int .i64 at0] 26);have hb2w:=hb1w.trans (bC.mono hb1w.size);have m2':=(bC.block _ (lt_of_block m2)).trans m2;have m3:=heap_alloc_new w1 (.cells #[.int .i64 er,.int .i64 at0] 26);have hbF:=below_setRow hb2w (Nat.le_refl w.heap.size) #[.int .i64 er,.int .i64 at0];clear m2 bC hb1w h0;generalize hw2:w1.alloc (.cells #[.int .i64 er,.int .i64 at0] 26)=w2 at*;have z0:=(cell_of_row _ _ 0 _ _ _ m3).trans rfl
  go_wp2_with(first
   |(refine wpList_load_row rfl 26 _ rfl _ rfl _ _ _ _ m3 faultType rfl (by kernel_rfl) ?_)
   |(refine wpList_store_row rfl 26 _ _ rfl _ _ rfl rfl _ _ m2' (by kernel_rfl) (by simp) (by simp[Value.oneCell']) ?_))
  refine flt_ret 2 (by kernel_rfl) w.heap.size _ _ rfl rfl (setRow_heap _ _ _ _ _ _ m2') ?_;exact HR.out _ hbF
end Go.Proofs.YtpmobjgnmidolaaDoor
/- What the document's Mean comes to: what its walks share. Written by genrm.py. -/
namespace Go.Proofs.YtpmobjgnmidolaaDoor
open Go.RowKit Lx Msk
def OutMn (ok:Bool)(F:Nat→Bool)(W:World)(r:Ending)(W':World):Prop:=(∃f,r= .returned (.tuple #[.agg (mv f),.bool ok])∧(ok=true→f=F))∧Below W.heap.size W W'
def mcl (F:Ex→Nat→Bool)(ks:List Ex):List Value:=(ks.map fun k=>(mv (F k)).toList).flatten
theorem mcl_snoc (F:Ex→Nat→Bool)(ks:List Ex)(k:Ex):mcl F (ks++[k])=mcl F ks++(mv (F k)).toList:=by simp[mcl]
theorem mcl_cons (F:Ex→Nat→Bool)(ks:List Ex)(k:Ex):mcl F (k::ks)=(mv (F k)).toList++mcl F ks:=by simp[mcl]
def RKids (w:World)(LV:Value)(day:Int)(SK SM:Value)(pe:Option Addr)(ks:List Ex)(ok:Ex→Bool)(F:Ex→Nat→Bool):Prop:= ∀(j:Nat) (k:Ex),ks[j]? =some k→ ∃(g o:Nat) (ps:Option Addr) (cs:Nat),pe=some ⟨g,o,none⟩∧
 w.cell? ⟨g,o+j*5,none⟩=some (.int .i64 k.kind)∧w.cell? ⟨g,o+j*5+1,none⟩=some (.int .i64 k.a)∧w.cell? ⟨g,o+j*5+2,none⟩=some (.int .i64 k.b)∧
 w.cell? ⟨g,o+j*5+3,none⟩=some (.string ⟨k.name.toArray⟩)∧w.cell? ⟨g,o+j*5+4,none⟩=some (.slice ps k.kids.length cs)∧
 ∀W,Below w.heap.size w W→Calls Tryd.prog 73 #[.agg #[.int .i64 k.kind,.int .i64 k.a,.int .i64 k.b,.string ⟨k.name.toArray⟩,.slice ps k.kids.length cs],LV,.int .i64 day,SK,SM] W (OutMn (ok k) (F k) W)
def RmRel (wA:World)(ks:List Ex)(ok:Ex→Bool)(F:Ex→Nat→Bool)(q t:Value)(wr:World):Prop:= ∃j:Nat,t= .int .i64 (j:Int)∧j≤ks.length∧(ks.take j).all ok=true∧wr.ownsRow wA.heap.size 37 23 q j (mcl F (ks.take j))∧Below wA.heap.size wA wr
theorem rmean_post {R:Ending→World→Prop}{a:Act}{w:World}(g:Nat)(f:Nat→Bool)(b:Bool)(hd:a.defers=[])(h2:a.tmps.getD 11 undef= .bool b)(h3:a.tmps.getD 10 undef= .pointer (some ⟨g,0,none⟩))
  (hg:w.heap[g]? =some (.cells (mv f) 37 (0,0))) (hR:R (.returned (.tuple #[.agg (mv f),.bool b])) w):bodyPost Tryd.prog Tryd.f73 R .ret a w:=by
 refine bodyPost_ret (v:= .tuple #[.agg (mv f),.bool b]) ?_ hd hR;have h2':a.tmps[11]?.getD undef= .bool b:=by simpa using h2
 have h3':a.tmps[10]?.getD undef= .pointer (some ⟨g,0,none⟩):=by simpa using h3
 have hv:=run_loadVar_row (P:=Tryd.prog) w g 37 37 _ _ _ hg maskType rfl (maskSize _);simp[results,Tryd.results73,h2',h3',asAddr,hv]
theorem own_range {w:World}{base:Nat}{v:Value}{n:Nat}{F:Ex→Nat→Bool}{ks:List Ex}(h:w.ownsRow base 37 23 v n (mcl F ks))(hn:ks.length=n):RowM w v (ks.map F)∨40<n:=by
 by_cases h40:40<n
 ·exact .inr h40
 refine .inl ?_;obtain⟨_,h2⟩:=h;rcases h2 with⟨h2,h3⟩|⟨g,cap,cur,hv,hg,hh,h3,h4,h5,h6⟩
 ·have:ks=[]:=List.length_eq_zero_iff.1 (by omega);subst this;subst h2;exact rowM_nil w _ _
 ·refine⟨some ⟨g,0,none⟩,cap,by rw[List.length_map,hn];exact hv,⟨by simp;omega,by simp;omega⟩,fun i f hi=>⟨g,0,rfl,fun j u hu=> ?_⟩⟩;rw[List.getElem?_map]at hi;cases hk:ks[i]? with
  |none=>rw[hk]at hi;cases hi
  |some k=>
   rw[hk]at hi;have hf:F k=f:=Option.some.inj hi;subst hf
   have hj:j<23:=by
    have:=(List.getElem?_eq_some_iff.1 hu).1;rw[Array.length_toList,mv_size]at this;exact this
   have hget: ∀(ks:List Ex) (i:Nat),ks[i]? =some k→(mcl F ks)[i*23+j]? =some u:=by
    intro ks;induction ks with
    |nil=>intro i hi;simp at hi
    |cons q ks ih=>
     intro i hi;rw[mcl_cons];have hl:(mv (F q)).toList.length=23:=(by rw[Array.length_toList,mv_size]);match i,hi with
     |0,hi=>
      have:q=k:=(by simpa using hi);subst this;rw[List.getElem?_append_left (by omega),Nat.zero_mul,Nat.zero_add];exact hu
     |i+1,hi=>
      rw[List.getElem?_append_right (by omega),hl,show(i+1)*23+j-23=i*23+j by omega];exact ih i (by simpa using hi)
   have h7:=hget ks i hk;rw[←h6,List.getElem?_take]at h7;split at h7
   ·rw[Nat.zero_add,cell_of_row _ _ _ _ _ _ hh];simpa using h7
   ·cases h7
theorem all_take {ok:Ex→Bool}{ks:List Ex}{j:Nat}{k:Ex}(hk:ks[j]? =some k)(h:(ks.take j).all ok=true)(hb:ok k=true):(ks.take (j+1)).all ok=true:=by
 rw[List.take_add_one,hk,List.all_append,h];simp[hb]
theorem all_bad {ok:Ex→Bool}{ks:List Ex}{j:Nat}{k:Ex}(hk:ks[j]? =some k)(hb:ok k=false):ks.all ok=false:=by
 cases h:ks.all ok with
 |false=>rfl
 |true=>
  have:=List.all_eq_true.1 h k (List.mem_of_getElem? hk);rw[hb]at this;cases this
theorem mcl_next {F:Ex→Nat→Bool}{ks:List Ex}{j:Nat}{k:Ex}(hk:ks[j]? =some k):mcl F (ks.take (j+1))=mcl F (ks.take j)++(mv (F k)).toList:=by
 rw[List.take_add_one,hk,Option.toList_some,mcl_snoc]
end Go.Proofs.YtpmobjgnmidolaaDoor
