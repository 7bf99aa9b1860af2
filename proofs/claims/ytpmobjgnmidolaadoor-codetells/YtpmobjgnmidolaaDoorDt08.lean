/- What wrongRule and parse.Wrong come to. -/
import Derived.Test.YtpmobjgnmidolaaDoorDt07
import Derived.Test.YtpmobjgnmidolaaDoorDt01
import Derived.Test.YtpmobjgnmidolaaDoorDt02
import Derived.MapKept
import Derived.Carry
import Derived.Deep.OwnRows
import Derived.Laws.EntriesVeiled
namespace Lx
def ruleP (u:Ru):Int:=if Go.Proofs.YtpmobjgnmidolaaDoor.namedL u.1=false then 7 else(shapeP u.2 1 0).1
def wrongL:List Ru→Nat→Int×Nat
 |[],_=>(0,0)
 |u::l,i=>if ruleP u≠0 then(ruleP u,i) else wrongL l (i+1)
def wrongR (l:List Ru):Int×Nat:=if 40<l.length then(5,0) else wrongL l 0
theorem wrongL_step {l:List Ru}{j:Nat}{u:Ru}(h:l[j]? =some u):wrongL (l.drop j) j=if ruleP u≠0 then(ruleP u,j) else wrongL (l.drop (j+1)) (j+1):=by
 obtain⟨h1,h2⟩:=List.getElem?_eq_some_iff.1 h;rw[List.drop_eq_getElem_cons h1,h2];rfl
end Lx
namespace Go.Proofs.YtpmobjgnmidolaaDoor
open Go.RowKit Lx
def RuleIn (w:World)(p:Ru×Value):Prop:=p.1.1.length≤9223372036854775807∧p.1.2.name.length≤9223372036854775807∧ ∃d,KidsB (fun k=>k<w.heap.size) d w p.2 p.1.2.kids
theorem RuleIn.below {w w':World}{p:Ru×Value}(h:RuleIn w p)(hb:Below w.heap.size w w'):RuleIn w' p:=by
 obtain⟨h1,h2,d,h3⟩:=h;exact⟨h1,h2,d,(h3.kept fun g _ hl=>hb.block g hl).mono fun g hg=>Nat.lt_of_lt_of_le hg hb.size⟩
structure InR (w:World)(v:Value)(us:List (Ru×Value)):Prop where
 row:RRow w v us
 len:us.length<9223372036854775808
 all: ∀p∈us,RuleIn w p
theorem InR.below {w w':World}{v:Value}{us:List (Ru×Value)}(h:InR w v us)(hb:Below w.heap.size w w'):InR w' v us:=⟨h.row.below hb,h.len,fun p hp=>(h.all p hp).below hb⟩
theorem flt_ret {fn:Func}(s:Nat)(h:fn.results= #[ResultVar.cell s 26]){R:Ending→World→Prop}{a:Act}{w:World}(g:Nat)(er at_:Int)(hd:a.defers=[])(h2:a.tmps.getD s undef= .pointer (some ⟨g,0,none⟩))
  (hg:w.heap[g]? =some (.cells #[.int .i64 er,.int .i64 at_] 26 (0,0))) (hR:R (.returned (.agg #[.int .i64 er,.int .i64 at_])) w):bodyPost Tryd.prog fn R .ret a w:=by
 refine bodyPost_ret (v:= .agg #[.int .i64 er,.int .i64 at_]) ?_ hd hR;have h2':a.tmps[s]?.getD undef= .pointer (some ⟨g,0,none⟩):=by simpa using h2
 have hv:=run_loadVar_row (P:=Tryd.prog) w g 26 26 _ _ _ hg faultType rfl (by kernel_rfl);simp[results,h,h2',asAddr,hv]
set_option maxRecDepth 100000 in
set_option maxHeartbeats 1000000 in
theorem wrule_any (u:Ru)(p:Option Addr)(c:Nat)(w:World)(h:RuleIn w (u,.slice p u.2.kids.length c)):
  Calls Tryd.prog 64 #[.agg #[.string ⟨u.1.toArray⟩,.int .i64 u.2.kind,.int .i64 u.2.a,.int .i64 u.2.b,.string ⟨u.2.name.toArray⟩,.slice p u.2.kids.length c]] w fun r w'=>r= .returned (.int .i64 (ruleP u))∧Below w.heap.size w w':=by
 obtain⟨h1,h2,d,h3⟩:=h;dsimp only at h1 h2 h3;have hbA:=(Below.refl w.heap.size w).alloc (Nat.le_refl _) (.cells #[.string ⟨u.1.toArray⟩,.int .i64 u.2.kind,.int .i64 u.2.a,.int .i64 u.2.b,.string ⟨u.2.name.toArray⟩,.slice p u.2.kids.length c] 52);have hxA:=heap_alloc_new w (.cells #[.string ⟨u.1.toArray⟩,.int .i64 u.2.kind,.int .i64 u.2.a,.int .i64 u.2.b,.string ⟨u.2.name.toArray⟩,.slice p u.2.kids.length c] 52);generalize hwA:w.alloc (.cells #[.string ⟨u.1.toArray⟩,.int .i64 u.2.kind,.int .i64 u.2.a,.int .i64 u.2.b,.string ⟨u.2.name.toArray⟩,.slice p u.2.kids.length c] 52)=wA at*;have z0:=(cell_of_row _ _ 0 _ _ _ hxA).trans rfl;have cN:=named_big ⟨u.1.toArray⟩ u.1 rfl h1 wA;have HP:Hid (ruleP u=if namedL u.1=false then 7 else(shapeP u.2 1 0).1):=rfl;cases hnb:namedL u.1 with
 |false=>
  have HE:Hid (ruleP u=7):=(by show _=_;rw[HP.out,if_pos hnb]);rw[hnb]at cN;clear HP h3 hxA;go_enter Tryd.func64,Tryd.ntmps64;go_wp2_with fail;refine cN.mono ?_;rintro r w1 ⟨rfl,hb1⟩;have hbw:=hbA.trans (hb1.mono hbA.size);clear cN hb1 hbA hwA z0;go_wp2_with fail;go_ret;rw[HE.out];exact⟨rfl,hbw⟩
 |true=>
  have HE:Hid (ruleP u=(shapeP u.2 1 0).1):=(by show _=_;rw[HP.out,if_neg (by simp[hnb])]);rw[hnb]at cN;have hszA:w.heap.size<wA.heap.size:=lt_of_block hxA;clear HP;go_enter Tryd.func64,Tryd.ntmps64;go_wp2_with fail;refine cN.mono ?_;rintro r w1 ⟨rfl,hb1⟩;have hb1w:=hbA.trans (hb1.mono hbA.size);have hsz1:=hb1.size;have hx1:=(hb1.block _ (lt_of_block hxA)).trans hxA;have hbC:Below w1.heap.size w1 (w1.alloc (.cells #[.int .i64 0] 3)):=(Below.refl _ _).alloc (Nat.le_refl _) _;have hn2:=heap_alloc_new w1 (.cells #[.int .i64 0] 3);have hxC:=(hbC.block _ (lt_of_block hx1)).trans hx1;have hlx:=lt_of_block hx1;have hbCw:=hb1w.trans (hbC.mono hb1w.size);generalize hwC:w1.alloc (.cells #[.int .i64 0] 3)=wC at*;have z2:=(cell_of_row _ _ 0 _ _ _ hn2).trans rfl;have y2:=frozen_of_row _ _ 0 _ _ hn2;have hc2:CntAt (wC.setCell ⟨w1.heap.size,0,none⟩ (.int .i64 0)) w1.heap.size 0:=heap_setCell_same _ _ 0 _ _ _ hn2;have hx2:=(heap_setCell_other wC ⟨w1.heap.size,0,none⟩ w.heap.size (.int .i64 0) (by show w.heap.size≠w1.heap.size;omega)).trans hxC;have hb2w:Below w.heap.size w (wC.setCell ⟨w1.heap.size,0,none⟩ (.int .i64 0)):=hbCw.setCell (p:=⟨w1.heap.size,0,none⟩) (by show w.heap.size≤w1.heap.size;omega) _;have cE:=wexpr_any (B:=fun k=>k<w.heap.size) (gn:=w1.heap.size) (fun k hk=>by omega) d u.2 (.slice p u.2.kids.length c) (wC.setCell ⟨w1.heap.size,0,none⟩ (.int .i64 0)) 1 0 (h3.kept fun g hg _=>hb2w.block g hg) h2 hc2 (by omega) (by omega);unfold exV at cE;clear cN h3 hc2 hx1 hb1 hbA hxA z0 hwA hbC hn2 hxC hbCw;generalize hw2:wC.setCell ⟨w1.heap.size,0,none⟩ (.int .i64 0)=w2 at*;have e1:=(cell_of_row _ _ 1 _ _ _ hx2).trans rfl;have e2:=(cell_of_row _ _ 2 _ _ _ hx2).trans rfl;have e3:=(cell_of_row _ _ 3 _ _ _ hx2).trans rfl;have e4:=(cell_of_row _ _ 4 _ _ _ hx2).trans rfl;have e5:=(cell_of_row _ _ 5 _ _ _ hx2).trans rfl;go_wp2_with fail;refine cE.mono ?_;rintro r w3 ⟨rfl,-,hk3⟩;have hb3w:Below w.heap.size w w3:=⟨hk3.os.trans hb2w.os,hk3.tape.trans hb2w.tape,hk3.output.trans hb2w.output,Nat.le_trans hb2w.size hk3.size,fun k hk=>(hk3.block k (by have:=hb2w.size;omega) (fun e=>by have:=Option.some.inj e;omega)).trans (hb2w.block k hk)⟩
  clear cE hk3 hb2w hw2 e1 e2 e3 e4 e5 hx2;go_wp2_with fail;go_ret;rw[HE.out];exact⟨rfl,hb3w⟩
set_option maxRecDepth 100000 in
set_option maxHeartbeats 2000000 in
theorem wrong_any (us:List (Ru×Value))(v:Value)(w:World)(h:InR w v us):
  Calls Tryd.prog 36 #[v] w fun r w'=>r= .returned (.agg #[.int .i64 (wrongR (us.map (fun p=>p.1))).1,.int .i64 ((wrongR (us.map (fun p=>p.1))).2:Int)])∧Below w.heap.size w w':=by
 have hlen:=h.len
 have hform: ∃p c,v= .slice p us.length c:=by
  rcases h.row with⟨rfl,p,c,hv⟩|⟨g,o,c,hv,_⟩
  ·exact⟨p,c,hv⟩
  ·exact⟨_,c,hv⟩
 obtain⟨p,c,rfl⟩:=hform;have hb0:=(Below.refl w.heap.size w).alloc (Nat.le_refl _) (.cells #[.int .i64 0,.int .i64 0] 26);have hr0:=heap_alloc_new w (.cells #[.int .i64 0,.int .i64 0] 26);generalize hX:wrongR (us.map (fun p=>p.1))=X;have hX':=hX;unfold wrongR at hX';rw[List.length_map]at hX';have HIN:Hid (InR w (.slice p us.length c) us):=h;clear hX;generalize hwA:w.alloc (.cells #[.int .i64 0,.int .i64 0] 26)=wA at*;by_cases hm:40<us.length
 ·have hm':(40:Int)<(us.length:Int):=by omega
  rw[if_pos hm]at hX';subst hX';clear HIN h;go_enter Tryd.func36,Tryd.ntmps36;go_wp2_with(refine wpList_store_row rfl 26 _ _ rfl _ _ rfl rfl _ _ hr0 (by kernel_rfl) (by simp) (by simp[Value.oneCell']) ?_)
  exact flt_ret 2 (by kernel_rfl) w.heap.size 5 0 rfl rfl (setRow_heap _ _ _ _ _ _ hr0) ⟨rfl,below_setRow hb0 (Nat.le_refl _) _⟩
 ·have hm': ¬(40:Int)<(us.length:Int):=by omega
  rw[if_neg hm]at hX';have HS:Hid (wrongL ((us.map (fun p=>p.1)).drop 0) 0=X):=hX';clear hX' h;go_enter Tryd.func36,Tryd.ntmps36;go_wp2_with fail;clear hwA;go_loopw [12] (fun t wr=> ∃j:Nat,t= .int .i64 (j:Int)∧j≤us.length∧wrongL ((us.map (fun p=>p.1)).drop j) j=X∧wr.heap[w.heap.size]? =some (.cells #[.int .i64 0,.int .i64 0] 26 (0,0))∧Below w.heap.size w wr) (fun t _=>us.length-(intOf t).toNat);case atStart=>exact⟨0,rfl,by omega,HS.out,hr0,hb0⟩
  case round=>
   obtain⟨j,rfl,hj,hXr,hrr,hbr⟩:=hrel;clear HS hr0 hb0;have hj0:(0:Int)≤(j:Int):=(by omega);have hj4:(j:Int)≤40:=(by omega);by_cases hlt:j<us.length
   ·have hlt':(j:Int)<(us.length:Int):=(by omega);obtain⟨⟨u,sk⟩,hjk⟩: ∃k,us[j]? =some k:=⟨us[j],List.getElem?_eq_getElem hlt⟩
    have hju:(us.map (fun p=>p.1))[j]? =some u:=(by rw[List.getElem?_map,hjk];rfl);rw[wrongL_step hju]at hXr;have hin:=HIN.out.all _ (List.mem_of_getElem? hjk)
    obtain⟨pk,ck,hsk⟩: ∃p c,sk= .slice p u.2.kids.length c:=by
     obtain⟨_,_,d,hd⟩:=hin;exact hd.form
    subst hsk;rcases HIN.out.row with⟨h,_⟩|⟨g,o,c',hsl,_,hcells⟩
    ·rw[h]at hlt;simp at hlt
    injection hsl with e1 e2 e3;subst e1;subst e3;obtain⟨d0,d1,d2,d3,d4,d5⟩:=hcells j _ hjk;dsimp only at d0 d1 d2 d3 d4 d5;have f0:=(hbr.cell (block_lt_of_cell d0)).trans d0;have f1:=(hbr.cell (block_lt_of_cell d1)).trans d1;have f2:=(hbr.cell (block_lt_of_cell d2)).trans d2;have f3:=(hbr.cell (block_lt_of_cell d3)).trans d3;have f4:=(hbr.cell (block_lt_of_cell d4)).trans d4;have f5:=(hbr.cell (block_lt_of_cell d5)).trans d5;have hbB:Below wr.heap.size wr (wr.alloc (.cells #[.string ⟨u.1.toArray⟩,.int .i64 u.2.kind,.int .i64 u.2.a,.int .i64 u.2.b,.string ⟨u.2.name.toArray⟩,.slice pk u.2.kids.length ck] 52)):=(Below.refl _ _).alloc (Nat.le_refl _) _;have hxB:=heap_alloc_new wr (.cells #[.string ⟨u.1.toArray⟩,.int .i64 u.2.kind,.int .i64 u.2.a,.int .i64 u.2.b,.string ⟨u.2.name.toArray⟩,.slice pk u.2.kids.length ck] 52);have hbBw:=hbr.trans (hbB.mono hbr.size);have hrB:=(hbB.block _ (lt_of_block hrr)).trans hrr;have cR:=wrule_any u pk ck _ (hin.below hbBw);clear d0 d1 d2 d3 d4 d5 hcells hin hjk hju hbB hrr hbr;have HXr:Hid ((if ruleP u≠0 then(ruleP u,j) else wrongL ((us.map (fun p=>p.1)).drop (j+1)) (j+1))=X):=hXr;clear hXr;generalize ruleP u=R at*;generalize hwB:wr.alloc (.cells #[.string ⟨u.1.toArray⟩,.int .i64 u.2.kind,.int .i64 u.2.a,.int .i64 u.2.b,.string ⟨u.2.name.toArray⟩,.slice pk u.2.kids.length ck] 52)=wB at*;go_wp2_with(refine wpList_load_row rfl 52 _ rfl _ rfl _ _ _ _ hxB ruleType rfl (by kernel_rfl) ?_)
    refine cR.mono ?_;rintro r w3 ⟨rfl,hb3⟩;have hb3w:=hbBw.trans (hb3.mono hbBw.size);have hr3:=(hb3.block _ (lt_of_block hrB)).trans hrB;clear cR hb3 hbBw hrB hxB hwB f0 f1 f2 f3 f4 f5;by_cases hy:R=0
    ·subst hy;have hXX:=HXr.out;rw[if_neg (by simp)]at hXX;have HN:Hid (wrongL ((us.map (fun p=>p.1)).drop (j+1)) (j+1)=X):=hXX;clear hXX HXr;go_wp2_with fail;go_roundw;case rel=>exact⟨j+1,by go_num,by omega,HN.out,hr3,hb3w⟩
     case measure=>simp[intOf];omega
    ·have hyb:(R !=0)=true:=(by simpa using hy);have hXX:=HXr.out;rw[if_pos hy]at hXX;subst hXX;clear HXr;go_wp2_with(refine wpList_store_row rfl 26 _ _ rfl _ _ rfl rfl _ _ hr3 (by kernel_rfl) (by simp) (by simp[Value.oneCell']) ?_)
     exact flt_ret 2 (by kernel_rfl) w.heap.size R (j:Int) rfl rfl (setRow_heap _ _ _ _ _ _ hr3) ⟨rfl,below_setRow hb3w (Nat.le_refl _) _⟩
   ·have hlt': ¬(j:Int)<(us.length:Int):=(by omega);rw[List.drop_eq_nil_of_le (by simp;omega)]at hXr;have hXX:(0,0)=X:=hXr;subst hXX;clear hXr;go_wp2_with(refine wpList_store_row rfl 26 _ _ rfl _ _ rfl rfl _ _ hrr (by kernel_rfl) (by simp) (by simp[Value.oneCell']) ?_)
    exact flt_ret 2 (by kernel_rfl) w.heap.size 0 0 rfl rfl (setRow_heap _ _ _ _ _ _ hrr) ⟨rfl,below_setRow hbr (Nat.le_refl _) _⟩
end Go.Proofs.YtpmobjgnmidolaaDoor
/- What the document's At, Speaks and Unknown come to. -/
namespace Go.Proofs.YtpmobjgnmidolaaDoor
open Go.RowKit Lx
theorem hid5 {p:Prop}(h:p):Hid p:=h
theorem InR.cells {w:World}{us:List (Ru×Value)}{pv:Option Addr}{cv:Nat}(h:InR w (.slice pv us.length cv) us): ∀(j:Nat) (p:Ru×Value),us[j]? =some p→ ∃g o:Nat,pv=some ⟨g,o,none⟩∧
   w.cell? ⟨g,o+j*6,none⟩=some (.string ⟨p.1.1.toArray⟩)∧w.cell? ⟨g,o+j*6+1,none⟩=some (.int .i64 p.1.2.kind)∧w.cell? ⟨g,o+j*6+2,none⟩=some (.int .i64 p.1.2.a)∧w.cell? ⟨g,o+j*6+3,none⟩=some (.int .i64 p.1.2.b)∧
   w.cell? ⟨g,o+j*6+4,none⟩=some (.string ⟨p.1.2.name.toArray⟩)∧w.cell? ⟨g,o+j*6+5,none⟩=some p.2:=fun j p hj=>by
 rcases h.row with⟨h0,_⟩|⟨g,o,c,hv',hl,hc⟩
 ·rw[h0]at hj;simp at hj
 ·injection hv' with e1;exact⟨g,o,e1,hc j p hj⟩
theorem InR.form {w:World}{v:Value}{us:List (Ru×Value)}(h:InR w v us): ∃p c,v= .slice p us.length c:=by
 rcases h.row with⟨rfl,p,c,hv⟩|⟨g,o,c,hv,_⟩
 ·exact⟨p,c,hv⟩
 ·exact⟨_,c,hv⟩
theorem name_same (x y:List UInt8):(x==y)=decide (x=y):=by
 by_cases h:x=y
 ·subst h;simp
 ·simp[h]
set_option maxRecDepth 100000 in
set_option maxHeartbeats 1000000 in
theorem at_any (us:List (Ru×Value))(v:Value)(x:List UInt8)(w:World)(h:InR w v us):Calls Tryd.prog 50 #[v,.string ⟨x.toArray⟩] w fun r w'=>r= .returned (.int .i64 (atP5 (us.map (fun p=>p.1)) x))∧Below w.heap.size w w':=by
 obtain⟨pv,cv,rfl⟩:=h.form;have HK:=hid5 h.cells;have hlen:=h.len
 have HA:Hid (∀p∈us,∃q n c,p.2= .slice q n c):=fun p hp=>by
  obtain⟨_,_,d,hd⟩:=h.all p hp;obtain⟨q,c,e⟩:=hd.form;exact⟨q,_,c,e⟩
 clear h;go_enter Tryd.func50,Tryd.ntmps50;go_wp2_with fail;go_loopw [5,6,9] (fun _ _ t wr=> ∃j:Nat,t= .int .i64 (j:Int)∧j≤us.length∧atP5 (us.map (fun p=>p.1)) x=atF ((us.map (fun p=>p.1)).drop j) j x∧Below w.heap.size w wr) (fun _ _ t _=>us.length-(intOf t).toNat);case atStart=>exact⟨0,rfl,by omega,rfl,Below.refl _ _⟩
 case round=>
  obtain⟨j,rfl,hj,hX,hbr⟩:=hrel;have hj0:(0:Int)≤(j:Int):=(by omega);by_cases hlt:j<us.length
  ·have hlt':(j:Int)<(us.length:Int):=(by omega);obtain⟨⟨u,sk⟩,hjk⟩: ∃p,us[j]? =some p:=⟨us[j],List.getElem?_eq_getElem hlt⟩
   have hum:(us.map (fun p=>p.1))[j]? =some u:=(by rw[List.getElem?_map,hjk];rfl);rw[atF_step hum]at hX;obtain⟨g,o,hpe,c0,c1,c2,c3,c4,c5⟩:=HK.out j _ hjk;obtain⟨qs,ns,cs,hsk⟩:=HA.out _ (List.mem_of_getElem? hjk);dsimp only at c0 c1 c2 c3 c4 c5 hsk;subst hsk hpe;have d0:=(hbr.cell (block_lt_of_cell c0)).trans c0;have d1:=(hbr.cell (block_lt_of_cell c1)).trans c1;have d2:=(hbr.cell (block_lt_of_cell c2)).trans c2;have d3:=(hbr.cell (block_lt_of_cell c3)).trans c3;have d4:=(hbr.cell (block_lt_of_cell c4)).trans c4;have d5:=(hbr.cell (block_lt_of_cell c5)).trans c5;have hbA:=hbr.alloc hbr.size (.cells #[.string ⟨u.1.toArray⟩,.int .i64 u.2.kind,.int .i64 u.2.a,.int .i64 u.2.b,.string ⟨u.2.name.toArray⟩,.slice qs ns cs] 52);have hns:=name_same u.1 x;clear hum hjk c0 c1 c2 c3 c4 c5;by_cases hux:u.1=x
   ·rw[if_pos hux]at hX;rw[decide_eq_true hux]at hns;have HX:=hid5 hX;clear hX hux HK HA;go_wp2_with fail;go_ret;exact⟨by(rw[HX.out])<;>rfl,hbA⟩
   ·rw[if_neg hux]at hX;rw[decide_eq_false hux]at hns;have HX:=hid5 hX;clear hX hux;go_wp2_with fail;go_roundw;case rel=>exact⟨j+1,by go_num,by omega,HX.out,hbA⟩
    case measure=>simp[intOf];omega
  ·have ej:j=us.length:=(by omega);have hlt': ¬(j:Int)<(us.length:Int):=(by omega)
   have HX:Hid (atP5 (us.map (fun p=>p.1)) x= -1):=by
    show _=_;rw[hX,List.drop_of_length_le (by simp;omega)];rfl
   clear hX HK HA ej;go_wp2_with fail;go_ret;exact⟨by(rw[HX.out])<;>rfl,hbr⟩
end Go.Proofs.YtpmobjgnmidolaaDoor
/- A map from names to numbers: what Numbers makes; and whether a row of numbers holds one. -/
namespace Go.Proofs.YtpmobjgnmidolaaDoor
open Go.RowKit Lx
theorem mapT5:Tryd.prog.underlying 46=some (.map 9 3):=by kernel_rfl
theorem strT5:Tryd.prog.underlying 9=some .string:=by kernel_rfl
theorem find_push (k:Value)(e:MapEntry): ∀(es:List MapEntry) (i:Nat),Instr.findNow .string k (es++[e]) i=match Instr.findNow .string k es i with
  |some (some r)=>some (some r)
  |some none=>(match Instr.sameNow .string k e.key with|some true=>some (some (i+es.length,e.val))|some false=>some none|none=>none)
  |none=>none
 |[],i=>by
  simp only[List.nil_append,Instr.findNow,List.length_nil,Nat.add_zero];cases Instr.sameNow .string k e.key with
  |none=>rfl
  |some b=>cases b<;>rfl
 |x::es,i=>by
  simp only[List.cons_append,Instr.findNow];cases Instr.sameNow .string k x.key with
  |none=>rfl
  |some b=>
   cases b with
   |true=>rfl
   |false=>
    have:=find_push k e es (i+1);rw[this];simp only[List.length_cons];rw[show i+1+es.length=i+(es.length+1) by omega]
def EsN (es:List MapEntry)(l:List Ru):Prop:= ∀x:List UInt8,(0≤atP5 l x∧ ∃i,Instr.findNow .string (.string ⟨x.toArray⟩) es 0=some (some (i,.int .i64 (atP5 l x))))∨(atP5 l x= -1∧Instr.findNow .string (.string ⟨x.toArray⟩) es 0=some none)
def MapN (w:World)(b:Nat)(l:List Ru):Prop:= ∃es c,w.heap[b]? =some (.map es c)∧EsN es.toList l
theorem MapN.later {w w':World}{b:Nat}{l:List Ru}(h:MapN w b l)(hk:w'.heap[b]? =w.heap[b]?):MapN w' b l:=by
 obtain⟨es,c,h1,h2⟩:=h;exact⟨es,c,hk.trans h1,h2⟩
theorem lt_of_map {w:World}{b:Nat}{l:List Ru}(h:MapN w b l):b<w.heap.size:=by
 obtain⟨es,c,h1,_⟩:=h;exact(Array.getElem?_eq_some_iff.1 h1).1
theorem atF_snoc: ∀(l:List Ru) (i:Nat) (u:Ru) (x:List UInt8),atF (l++[u]) i x=if 0≤atF l i x then atF l i x else if u.1=x then((i+l.length:Nat):Int) else-1
 |[],i,u,x=>by simp[atF]
 |v::l,i,u,x=>by
  have:=atF_snoc l (i+1) u x;have e1:atF (v::l++[u]) i x=if v.1=x then(i:Int) else atF (l++[u]) (i+1) x:=rfl;have e2:atF (v::l) i x=if v.1=x then(i:Int) else atF l (i+1) x:=rfl;by_cases h:v.1=x
  ·rw[if_pos h]at e1 e2;rw[e1,e2,if_pos (by omega)]
  ·rw[if_neg h]at e1 e2;rw[e1,e2,this,List.length_cons,show i+1+l.length=i+(l.length+1) by omega]
theorem same_str (x y:List UInt8):Instr.sameNow .string (.string ⟨x.toArray⟩) (.string ⟨y.toArray⟩)=some (decide (x=y)):=by
 have e:((⟨x.toArray⟩:ByteArray)==⟨y.toArray⟩)=decide (x=y):=by
  show(x.toArray==y.toArray)=_;by_cases h:x=y
  ·subst h;simp
  ·simp[h]
 simp[Instr.sameNow,e]
theorem EsN.taken {es:List MapEntry}{l:List Ru}{u:Ru}(h:EsN es l)(ht:0≤atP5 l u.1):EsN es (l++[u]):=fun x=>by
 have e:atP5 (l++[u]) x=atP5 l x:=by
  unfold atP5 at*;rw[atF_snoc];split
  ·rfl
  ·rename_i hx;have hne:u.1≠x:=fun e=>(by subst e;exact hx ht);rw[if_neg hne];have:=atF_bd l 0 x;omega
 rw[e];exact h x
theorem EsN.push {es:List MapEntry}{l:List Ru}{u:Ru}{c:Nat}(h:EsN es l):EsN (es++[⟨.string ⟨u.1.toArray⟩,.int .i64 (l.length:Int),c⟩]) (l++[u]):=fun x=>by
 rw[find_push]
 have e:atP5 (l++[u]) x=if 0≤atP5 l x then atP5 l x else if u.1=x then(l.length:Int) else-1:=by
  unfold atP5;rw[atF_snoc,Nat.zero_add]
 rcases h x with⟨h1,i,h2⟩|⟨h1,h2⟩
 ·rw[if_pos h1]at e;rw[h2,e];exact .inl ⟨h1,i,rfl⟩
 ·rw[if_neg (by omega)]at e;rw[h2];dsimp only;rw[same_str];by_cases hx:x=u.1
  ·subst hx;rw[if_pos rfl]at e;rw[e,decide_eq_true rfl];exact .inl ⟨by omega,_,rfl⟩
  ·rw[if_neg (fun e=>hx e.symm)]at e;rw[e,decide_eq_false hx];exact .inr ⟨rfl,rfl⟩
theorem EsN.nil:EsN [] []:=fun _=> .inr ⟨rfl,rfl⟩
theorem look5 {w:World}{b:Nat}{l:List Ru}(h:MapN w b l)(x:List UInt8):(Instr.lookup 46 (.map (some b)) (.string ⟨x.toArray⟩) true).run Tryd.prog w= .ok (.tuple #[.int .i64 (if 0≤atP5 l x then atP5 l x else 0),.bool (decide (0≤atP5 l x))]) w:=by
 obtain⟨es,c,hb,hE⟩:=h;have hc: ∀z,(Instr.checkKey z 10000 9 (.string ⟨x.toArray⟩)).run Tryd.prog w= .ok () w:=fun z=>MapKept.run_checkKey (k:= .string _) strT5 (by simp[MapKept.IsKey]) z 9999;have hz:(zeroValue 3).run Tryd.prog w= .ok (.int .i64 0) w:=by kernel_rfl
 rcases hE x with⟨h1,i,h2⟩|⟨h1,h2⟩
 ·simp[Instr.lookup,run_underlying mapT5,MapKept.run_getObj_map hb,hc,MapKept.run_findKey strT5 h2,Result.andThen,h1]
 ·simp[Instr.lookup,run_underlying mapT5,MapKept.run_getObj_map hb,hc,MapKept.run_findKey strT5 h2,hz,Result.andThen,h1]
theorem look6 {w:World}{b:Nat}{l:List Ru}(h:MapN w b l)(x:List UInt8)(hx:0≤atP5 l x):(Instr.lookup 46 (.map (some b)) (.string ⟨x.toArray⟩) false).run Tryd.prog w= .ok (.int .i64 (atP5 l x)) w:=by
 obtain⟨es,c,hb,hE⟩:=h;have hc: ∀z,(Instr.checkKey z 10000 9 (.string ⟨x.toArray⟩)).run Tryd.prog w= .ok () w:=fun z=>MapKept.run_checkKey (k:= .string _) strT5 (by simp[MapKept.IsKey]) z 9999;rcases hE x with⟨h1,i,h2⟩|⟨h1,h2⟩
 ·simp[Instr.lookup,run_underlying mapT5,MapKept.run_getObj_map hb,hc,MapKept.run_findKey strT5 h2,Result.andThen]
 ·omega
theorem ins5 {w:World}{b:Nat}{l:List Ru}{u:Ru}(h:MapN w b l)(ht:atP5 l u.1= -1): ∃o,(Instr.mapUpdate 46 (.map (some b)) (.string ⟨u.1.toArray⟩) (.int .i64 (l.length:Int))).run Tryd.prog w= .ok () (putB5 w b o)∧MapN (putB5 w b o) b (l++[u]):=by
 obtain⟨es,c,hb,hE⟩:=h;have hc:(Instr.checkKey false 10000 9 (.string ⟨u.1.toArray⟩)).run Tryd.prog w= .ok () w:=MapKept.run_checkKey (k:= .string _) strT5 (by simp[MapKept.IsKey]) false 9999
 have hn:Instr.findNow .string (.string ⟨u.1.toArray⟩) es.toList 0=some none:=by
  rcases hE u.1 with⟨h1,_⟩|⟨_,h2⟩
  ·omega
  ·exact h2
 refine⟨.map (es.push ⟨.string ⟨u.1.toArray⟩,.int .i64 (l.length:Int),c⟩) (c+1),?_,es.push ⟨.string ⟨u.1.toArray⟩,.int .i64 (l.length:Int),c⟩,c+1,(MapKept.heap_set hb).1,?_⟩
 ·simp[Instr.mapUpdate,run_underlying mapT5,MapKept.run_getObj_map hb,hc,MapKept.run_findKey strT5 hn,MapKept.run_setObj_map _ hb,Result.andThen,putB5]
 ·rw[Array.toList_push];exact hE.push
theorem make_hint (n:Nat)(_:n<9223372036854775808)(w:World):(Instr.makeMap 46 (some (.int .i64 (n:Int)))).run Tryd.prog w= .ok (.map (some w.heap.size)) (w.alloc (.map #[] 0)):=by
 unfold Instr.makeMap;simp[go_sem]
def OutNu (us:List (Ru×Value))(w:World)(r:Ending)(w':World):Prop:= ∃b,r= .returned (.map (some b))∧w.heap.size≤b∧MapN w' b (us.map (fun p=>p.1))∧Below w.heap.size w w'
def NRel (us:List (Ru×Value))(w:World)(t:Value)(wr:World):Prop:= ∃j:Nat,t= .int .i64 (j:Int)∧j≤us.length∧MapN wr w.heap.size ((us.map (fun p=>p.1)).take j)∧Below w.heap.size w wr
set_option maxRecDepth 100000 in
set_option maxHeartbeats 1000000 in
theorem numbers_any (us:List (Ru×Value))(v:Value)(w:World)(h:InR w v us):Calls Tryd.prog 14 #[v] w (OutNu us w):=by
 obtain⟨pv,cv,rfl⟩:=h.form;have HK:=hid5 h.cells;have hlen:=h.len
 have HA:Hid (∀p∈us,∃q n c,p.2= .slice q n c):=fun p hp=>by
  obtain⟨_,_,d,hd⟩:=h.all p hp;obtain⟨q,c,e⟩:=hd.form;exact⟨q,_,c,e⟩
 clear h;have hb0:=(Below.refl w.heap.size w).alloc (Nat.le_refl _) (.map #[] 0);have hm0:MapN (w.alloc (.map #[] 0)) w.heap.size []:=⟨#[],0,(MapKept.heap_alloc w _).1,EsN.nil⟩
 have hmk:=fun W=>make_hint us.length hlen W;go_enter Tryd.func14,Tryd.ntmps14;go_wp2_with fail;go_loopw [4,5,6,7,13] (fun _ _ _ _ t wr=>NRel us w t wr) (fun _ _ _ _ t _=>us.length-(intOf t).toNat);case atStart=>exact⟨0,rfl,by omega,hm0,hb0⟩
 case round=>
  obtain⟨j,rfl,hj,hM,hbr⟩:=hrel;clear hb0 hm0;have hj0:(0:Int)≤(j:Int):=(by omega);by_cases hlt:j<us.length
  ·have hlt':(j:Int)<(us.length:Int):=(by omega);obtain⟨⟨u,sk⟩,hjk⟩: ∃p,us[j]? =some p:=⟨us[j],List.getElem?_eq_getElem hlt⟩
   have htk:(us.map (fun p=>p.1)).take (j+1)=(us.map (fun p=>p.1)).take j++[u]:=by
    have hum:(us.map (fun p=>p.1))[j]? =some u:=(by rw[List.getElem?_map,hjk];rfl);rw[List.take_add_one,hum];rfl
   have htl:((us.map (fun p=>p.1)).take j).length=j:=(by simp;omega);obtain⟨g,o,hpe,c0,c1,c2,c3,c4,c5⟩:=HK.out j _ hjk;obtain⟨qs,ns,cs,hsk⟩:=HA.out _ (List.mem_of_getElem? hjk);dsimp only at c0 c1 c2 c3 c4 c5 hsk;subst hsk hpe;have d0:=(hbr.cell (block_lt_of_cell c0)).trans c0;have d1:=(hbr.cell (block_lt_of_cell c1)).trans c1;have d2:=(hbr.cell (block_lt_of_cell c2)).trans c2;have d3:=(hbr.cell (block_lt_of_cell c3)).trans c3;have d4:=(hbr.cell (block_lt_of_cell c4)).trans c4;have d5:=(hbr.cell (block_lt_of_cell c5)).trans c5;have hbA:=hbr.alloc hbr.size (.cells #[.string ⟨u.1.toArray⟩,.int .i64 u.2.kind,.int .i64 u.2.a,.int .i64 u.2.b,.string ⟨u.2.name.toArray⟩,.slice qs ns cs] 52);have hxB:=heap_alloc_new wr (.cells #[.string ⟨u.1.toArray⟩,.int .i64 u.2.kind,.int .i64 u.2.a,.int .i64 u.2.b,.string ⟨u.2.name.toArray⟩,.slice qs ns cs] 52);have hMA:MapN (wr.alloc (.cells #[.string ⟨u.1.toArray⟩,.int .i64 u.2.kind,.int .i64 u.2.a,.int .i64 u.2.b,.string ⟨u.2.name.toArray⟩,.slice qs ns cs] 52)) w.heap.size ((us.map (fun p=>p.1)).take j):=hM.later (Below.heap_alloc _ _ _ (lt_of_map hM));have hlk:=look5 hMA u.1;clear hjk c0 c1 c2 c3 c4 c5 hM;generalize hwB:wr.alloc (.cells #[.string ⟨u.1.toArray⟩,.int .i64 u.2.kind,.int .i64 u.2.a,.int .i64 u.2.b,.string ⟨u.2.name.toArray⟩,.slice qs ns cs] 52)=wB at*;have z0:=(cell_of_row _ _ 0 _ _ _ hxB).trans rfl;by_cases ht:0≤atP5 ((us.map (fun p=>p.1)).take j) u.1
   ·rw[if_pos ht,decide_eq_true ht]at hlk
    have hMN:MapN wB w.heap.size ((us.map (fun p=>p.1)).take (j+1)):=by
     obtain⟨es,c,h1,h2⟩:=hMA;rw[htk];exact⟨es,c,h1,h2.taken ht⟩
    generalize atP5 ((us.map (fun p=>p.1)).take j) u.1=n at*;have HM:=hid5 hMN;clear hMA htk htl hMN ht;go_wp2_with fail;go_roundw;case rel=>exact⟨j+1,by go_num,by omega,HM.out,hbA⟩
    case measure=>simp[intOf];omega
   ·rw[if_neg ht,decide_eq_false ht]at hlk
    have hm1:atP5 ((us.map (fun p=>p.1)).take j) u.1= -1:=by
     have:=(atP5_bd ((us.map (fun p=>p.1)).take j) u.1).1;omega
    obtain⟨ob,hup,hMN⟩:=ins5 hMA hm1;rw[htl]at hup;rw[←htk]at hMN;have hbN:=putB5_below hbA (Nat.le_refl _) ob;have HM:=hid5 hMN;clear hMA htk htl hMN ht hm1;go_wp2_with fail;go_roundw;case rel=>exact⟨j+1,by go_num,by omega,HM.out,hbN⟩
    case measure=>simp[intOf];omega
  ·have ej:j=us.length:=(by omega);have hlt': ¬(j:Int)<(us.length:Int):=(by omega)
   have HO:Hid (OutNu us w (.returned (.map (some w.heap.size))) wr):=by
    refine⟨w.heap.size,rfl,Nat.le_refl _,?_,hbr⟩;rw[ej,List.take_of_length_le (by simp)]at hM;exact hM
   clear hM HK HA ej;go_wp2_with fail;go_ret;exact HO.out
end Go.Proofs.YtpmobjgnmidolaaDoor
/- What slices.Index and slices.Contains of numbers come to. -/
namespace Go.Proofs.YtpmobjgnmidolaaDoor
end Go.Proofs.YtpmobjgnmidolaaDoor
/- What reached comes to: the marks that are followed. -/
namespace Go.Proofs.YtpmobjgnmidolaaDoor
open Go.RowKit Lx
def bcells (n:Nat)(m:Nat→Bool):Array Value:=((List.range n).map fun i=>Value.bool (m i)).toArray
theorem bcells_at {n:Nat}{m:Nat→Bool}{i:Nat}(h:i<n):(bcells n m)[i]? =some (.bool (m i)):=by
 simp[bcells,h]
theorem bcells_set {n:Nat}{m:Nat→Bool}{i:Nat}:(bcells n m).setIfInBounds i (.bool true)=bcells n (upd m i):=by
 apply Array.ext
 ·simp[bcells]
 ·intro k h1 h2;have hk:k<n:=(by simpa[bcells] using h2);rw[Array.getElem_setIfInBounds (by simpa[bcells] using hk)];by_cases e:i=k
  ·subst e;simp[bcells,upd]
  ·rw[if_neg e];simp[bcells,upd,show k≠i from fun h=>e h.symm]
theorem bcells_none (n:Nat):madeCells #[Value.bool false] n=bcells n (fun _=>false):=by
 apply Array.ext
 ·simp[bcells,madeCells]
 ·intro k h1 h2;simp[bcells,madeCells,Nat.mod_one]
structure RowsI (w:World)(so:Value)(n:Nat)(S:Nat→List Nat):Prop where
 form: ∃p c,so= .slice p n c∧ ∀i,i<n→ ∃(g o:Nat) (v:Value),p=some ⟨g,o,none⟩∧w.cell? ⟨g,o+i,none⟩=some v∧RowI w v ((S i).map fun k:Nat=>(k:Int))
 lt: ∀i,∀k∈S i,k<n
theorem RowsI.below {w w':World}{so:Value}{n:Nat}{S:Nat→List Nat}(h:RowsI w so n S)(hb:Below w.heap.size w w'):RowsI w' so n S:=by
 obtain⟨p,c,h1,h2⟩:=h.form;refine⟨⟨p,c,h1,fun i hi=> ?_⟩,h.lt⟩;obtain⟨g,o,v,e,hc,hr⟩:=h2 i hi;exact⟨g,o,v,e,(hb.cell (block_lt_of_cell hc)).trans hc,hr.below hb⟩
structure FSt (w:World)(n:Nat)(so:Value)(m:Nat→Bool)(wr:World):Prop where
 bel:Below w.heap.size w wr
 b1:wr.heap[w.heap.size]? =some (.cells #[so] 85 (0,0))
 marks:wr.heap[w.heap.size+1]? =some (.cells (bcells n m) 4 (0,0))
 b2:wr.heap[w.heap.size+1+1]? =some (.cells #[.slice (some ⟨w.heap.size+1,0,none⟩) n n] 61 (0,0))
 b3:wr.heap[w.heap.size+1+1+1]? =some (.cells #[.func (.func 68) #[] #[.pointer (some ⟨w.heap.size,0,none⟩),.pointer (some ⟨w.heap.size+1+1,0,none⟩),.pointer (some ⟨w.heap.size+1+1+1,0,none⟩)]] 76 (0,0))
theorem FSt.set {w wr:World}{n:Nat}{so:Value}{m:Nat→Bool}(h:FSt w n so m wr)(i:Nat):FSt w n so (upd m i) (wr.setCell ⟨w.heap.size+1,i,none⟩ (.bool true)):=by
 have ho: ∀q,q≠w.heap.size+1→(wr.setCell ⟨w.heap.size+1,i,none⟩ (.bool true)).heap[q]? =wr.heap[q]? :=fun q hq=>heap_setCell_other wr ⟨w.heap.size+1,i,none⟩ q _ hq;refine⟨h.bel.setCell (by show w.heap.size≤w.heap.size+1;omega) _,(ho _ (by omega)).trans h.b1,?_,(ho _ (by omega)).trans h.b2,(ho _ (by omega)).trans h.b3⟩;rw[←bcells_set];exact heap_setCell_same wr (w.heap.size+1) i _ _ _ h.marks
def folL (S:Nat→List Nat)(f:Nat)(m:Nat→Bool)(l:List Nat):Nat→Bool:=l.foldl (fun m n=>if m n=true then m else fol S f (upd m n) n) m
def FRel (w:World)(n:Nat)(so:Value)(S:Nat→List Nat)(f:Nat)(m:Nat→Bool)(r:Nat)(t:Value)(wr:World):Prop:= ∃j:Nat,t= .int .i64 (j:Int)∧j≤(S r).length∧(∀k,m k=true→folL S f m ((S r).take j) k=true)∧FSt w n so (folL S f m ((S r).take j)) wr
def OutF (w:World)(n:Nat)(so:Value)(m':Nat→Bool)(e:Ending)(w':World):Prop:=e= .returned (.tuple #[])∧FSt w n so m' w'
set_option maxRecDepth 100000 in
set_option maxHeartbeats 2000000 in
theorem follow_any (w:World)(so:Value)(n:Nat)(S:Nat→List Nat)(hS:RowsI w so n S)(hn:n<9223372036854775808): ∀(f:Nat) (m:Nat→Bool) (r:Nat) (wr:World),FSt w n so m wr→r<n→unm m n+1≤f→
  Calls Tryd.prog 68 #[.int .i64 (r:Int),.pointer (some ⟨w.heap.size,0,none⟩),.pointer (some ⟨w.heap.size+1+1,0,none⟩),.pointer (some ⟨w.heap.size+1+1+1,0,none⟩)] wr (OutF w n so (fol S f m r))
 |0,_,_,_,_,_,h=>by omega
 |f+1,m,r,wr,hF,hr,hu=>by
  have ih:=follow_any w so n S hS hn f;obtain⟨p,c,rfl,hrows⟩:=hS.form;obtain⟨g,o,v,hp,hcv,hrow⟩:=hrows r hr;subst hp;obtain⟨pv,cv,rfl,hlv,hcells⟩:=hrow;have hltS:=hS.lt r;rw[List.length_map]at hlv;rw[List.length_map]at hcv;have HC:Hid (∀(j k:Nat),(S r)[j]? =some k→ ∃g o:Nat,pv=some ⟨g,o,none⟩∧w.cell? ⟨g,o+j,none⟩=some (.int .i64 (k:Int))):=fun j k hj=>hcells j _ (by rw[List.getElem?_map,hj];rfl);have HL:Hid (∀j k:Nat,(S r)[j]? =some k→k<n):=fun j k hj=>hltS k (List.mem_of_getElem? hj);have HX:Hid (fol S (f+1) m r=folL S f m (S r)):=rfl;have d0:=(hF.bel.cell (block_lt_of_cell hcv)).trans hcv;have k1:=(cell_of_row _ _ 0 _ _ _ hF.b1).trans rfl;have hr0:(0:Int)≤(r:Int):=(by omega);have hrn:(r:Int)<(n:Int):=(by omega);clear hcells hltS hrows hcv;go_enter Tryd.func68,Tryd.ntmps68;go_wp2_with fail;go_loopw [6,12] (fun _ t wr=>FRel w n (.slice (some ⟨g,o,none⟩) n c) S f m r t wr) (fun _ t _=>(S r).length-(intOf t).toNat);case atStart=>exact⟨0,rfl,by omega,fun k hk=>hk,hF⟩
  case round=>
   obtain⟨j,rfl,hj,hup,hst⟩:=hrel;clear hF d0 k1;have hj0:(0:Int)≤(j:Int):=(by omega);by_cases hlt:j<(S r).length
   ·have hlt':(j:Int)<((S r).length:Int):=(by omega);obtain⟨k,hjk⟩: ∃k,(S r)[j]? =some k:=⟨(S r)[j],List.getElem?_eq_getElem hlt⟩
    have hkn:=HL.out j k hjk;obtain⟨g',o',hpv,c0⟩:=HC.out j k hjk;subst hpv;have e0:=(hst.bel.cell (block_lt_of_cell c0)).trans c0
    have hstep:folL S f m ((S r).take (j+1))=if folL S f m ((S r).take j) k=true then folL S f m ((S r).take j) else fol S f (upd (folL S f m ((S r).take j)) k) k:=by
     unfold folL;rw[List.take_add_one,hjk,Option.toList_some,List.foldl_append];rfl
    have k2:=(cell_of_row _ _ 0 _ _ _ hst.b2).trans rfl;have k3:=(cell_of_row _ _ 0 _ _ _ hst.b3).trans rfl;have km:=(cell_of_row _ _ k _ _ _ hst.marks).trans (bcells_at hkn);have kz:=frozen_of_row _ _ k _ _ hst.marks;have hk0:(0:Int)≤(k:Int):=(by omega);have hkI:(k:Int)<(n:Int):=(by omega);have hle:=unm_le hup n;generalize hM:folL S f m ((S r).take j)=M at*;cases hMk:M k with
    |true=>
     rw[hMk]at km;rw[if_pos hMk]at hstep;have HN:Hid (FRel w n (.slice (some ⟨g,o,none⟩) n c) S f m r (.int .i64 ((j+1:Nat):Int)) wr):=⟨j+1,rfl,by omega,by rw[hstep];exact hup,by rw[hstep];exact hst⟩
     clear hstep hup hst hMk hM HC HL c0 ih;go_wp2_with fail;go_roundw;case rel=>exact HN.out
     case measure=>simp[intOf];omega
    |false=>
     rw[hMk]at km;rw[if_neg (by rw[hMk];decide)]at hstep;have hu':=unm_upd hMk n hkn;have hst2:=hst.set k;have cI:=ih (upd M k) k _ hst2 hkn (by omega);have k3':=(cell_of_row _ _ 0 _ _ _ hst2.b3).trans rfl;have hup2: ∀q,m q=true→fol S f (upd M k) k q=true:=fun q hq=>(fol_ok hS.lt f (upd M k) k (by omega)).up q (by simp[upd,hup q hq]);have HN:Hid (∀W,FSt w n (.slice (some ⟨g,o,none⟩) n c) (fol S f (upd M k) k) W→FRel w n (.slice (some ⟨g,o,none⟩) n c) S f m r (.int .i64 ((j+1:Nat):Int)) W):=fun W hW=>⟨j+1,rfl,by omega,by rw[hstep];exact hup2,by rw[hstep];exact hW⟩
     clear hup hst hMk hM c0 ih hst2 hup2 hstep;go_wp2_with fail;refine cI.mono ?_;rintro e w2 ⟨rfl,hst3⟩;clear cI;go_wp2_with fail;go_roundw;case rel=>exact HN.out _ hst3
     case measure=>simp[intOf];omega
   ·have hlt': ¬(j:Int)<((S r).length:Int):=(by omega)
    have HN:Hid (FSt w n (.slice (some ⟨g,o,none⟩) n c) (fol S (f+1) m r) wr):=by
     have e:(S r).take j=S r:=List.take_of_length_le (by omega);rw[e]at hst;show FSt _ _ _ _ _;rw[HX.out];exact hst
    clear hst hup HC HL ih HX;go_wp2_with fail;refine bodyPost_ret (results_none rfl _ _ _) rfl ?_;exact⟨rfl,HN.out⟩
def OutRe (n:Nat)(m:Nat→Bool)(w:World)(e:Ending)(w':World):Prop:= ∃g,e= .returned (.slice (some ⟨g,0,none⟩) n n)∧w'.heap[g]? =some (.cells (bcells n m) 4 (0,0))∧Below w.heap.size w w'
theorem boolInfo:(Tryd.prog.info? 4).map (fun i=>(i.zero,i.size,i.bytes))=some (some (.bool false),1,1):=by kernel_rfl
theorem boolsType:Tryd.prog.underlying 61=some (.slice 4):=by kernel_rfl
set_option maxRecDepth 100000 in
set_option maxHeartbeats 2000000 in
theorem reached_any (so:Value)(n:Nat)(S:Nat→List Nat)(r:Nat)(w:World)(hS:RowsI w so n S)(hn:n≤1000000)(hr:r<n):
  Calls Tryd.prog 42 #[so,.int .i64 (r:Int)] w (OutRe n (fol S (n+1) (fun _=>false) r) w):=by
 obtain⟨p,c,rfl,_⟩:=hS.form;have hmk:=run_make_row' (P:=Tryd.prog) 61 4 (.bool false) 1 boolsType boolInfo rfl .i64 .i64 n (by omega) (by omega)
 have hz:unm (fun _=>false) n≤n:=by
  have: ∀n,unm (fun _=>false) n=n:=by
   intro n;induction n with
   |zero=>rfl
   |succ n ih=>simp[unm,ih];omega
  rw[this];omega
 rw[bcells_none]at hmk;have bA:=(Below.refl w.heap.size w).alloc (Nat.le_refl _) (.cells #[.slice p n c] 85);have bB:=bA.alloc bA.size (.cells (bcells n (fun _=>false)) 4);have bC:=bB.alloc bB.size (.cells #[.slice (some ⟨w.heap.size+1,0,none⟩) n n] 61);have bD:=bC.alloc bC.size (.cells #[.nilFunc] 76);have s1:(w.alloc (.cells #[.slice p n c] 85)).heap.size=w.heap.size+1:=by simp
 have s2:((w.alloc (.cells #[.slice p n c] 85)).alloc (.cells (bcells n (fun _=>false)) 4)).heap.size=w.heap.size+1+1:=by simp
 have s3:(((w.alloc (.cells #[.slice p n c] 85)).alloc (.cells (bcells n (fun _=>false)) 4)).alloc (.cells #[.slice (some ⟨w.heap.size+1,0,none⟩) n n] 61)).heap.size=w.heap.size+1+1+1:=by simp
 have h0:((((w.alloc (.cells #[.slice p n c] 85)).alloc (.cells (bcells n (fun _=>false)) 4)).alloc (.cells #[.slice (some ⟨w.heap.size+1,0,none⟩) n n] 61)).alloc (.cells #[.nilFunc] 76)).heap[w.heap.size]? =some (.cells #[.slice p n c] 85 (0,0)):=(Below.heap_alloc _ _ _ (by rw[s3];omega)).trans ((Below.heap_alloc _ _ _ (by rw[s2];omega)).trans ((Below.heap_alloc _ _ _ (by rw[s1];omega)).trans (heap_alloc_new w _)))
 have h1:((((w.alloc (.cells #[.slice p n c] 85)).alloc (.cells (bcells n (fun _=>false)) 4)).alloc (.cells #[.slice (some ⟨w.heap.size+1,0,none⟩) n n] 61)).alloc (.cells #[.nilFunc] 76)).heap[w.heap.size+1]? =some (.cells (bcells n (fun _=>false)) 4 (0,0)):=by
  refine(Below.heap_alloc _ _ _ (by rw[s3];omega)).trans ((Below.heap_alloc _ _ _ (by rw[s2];omega)).trans ?_);have:=heap_alloc_new (w.alloc (.cells #[.slice p n c] 85)) (.cells (bcells n (fun _=>false)) 4);rw[s1]at this;exact this
 have h2:((((w.alloc (.cells #[.slice p n c] 85)).alloc (.cells (bcells n (fun _=>false)) 4)).alloc (.cells #[.slice (some ⟨w.heap.size+1,0,none⟩) n n] 61)).alloc (.cells #[.nilFunc] 76)).heap[w.heap.size+1+1]? =some (.cells #[.slice (some ⟨w.heap.size+1,0,none⟩) n n] 61 (0,0)):=by
  refine(Below.heap_alloc _ _ _ (by rw[s3];omega)).trans ?_;have:=heap_alloc_new ((w.alloc (.cells #[.slice p n c] 85)).alloc (.cells (bcells n (fun _=>false)) 4)) (.cells #[.slice (some ⟨w.heap.size+1,0,none⟩) n n] 61);rw[s2]at this;exact this
 have h3:((((w.alloc (.cells #[.slice p n c] 85)).alloc (.cells (bcells n (fun _=>false)) 4)).alloc (.cells #[.slice (some ⟨w.heap.size+1,0,none⟩) n n] 61)).alloc (.cells #[.nilFunc] 76)).heap[w.heap.size+1+1+1]? =some (.cells #[.nilFunc] 76 (0,0)):=by
  have:=heap_alloc_new (((w.alloc (.cells #[.slice p n c] 85)).alloc (.cells (bcells n (fun _=>false)) 4)).alloc (.cells #[.slice (some ⟨w.heap.size+1,0,none⟩) n n] 61)) (.cells #[.nilFunc] 76);rw[s3]at this;exact this
 have z3:=(cell_of_row _ _ 0 _ _ _ h3).trans rfl;have y3:=frozen_of_row _ _ 0 _ _ h3;generalize hW4:((((w.alloc (.cells #[.slice p n c] 85)).alloc (.cells (bcells n (fun _=>false)) 4)).alloc (.cells #[.slice (some ⟨w.heap.size+1,0,none⟩) n n] 61)).alloc (.cells #[.nilFunc] 76))=W4 at*;have ho: ∀q,q≠w.heap.size+1+1+1→(W4.setCell ⟨w.heap.size+1+1+1,0,none⟩ (.func (.func 68) #[] #[.pointer (some ⟨w.heap.size,0,none⟩),.pointer (some ⟨w.heap.size+1+1,0,none⟩),.pointer (some ⟨w.heap.size+1+1+1,0,none⟩)])).heap[q]? =W4.heap[q]? :=fun q hq=>heap_setCell_other W4 ⟨w.heap.size+1+1+1,0,none⟩ q _ hq
 have hst:FSt w n (.slice p n c) (fun _=>false) (W4.setCell ⟨w.heap.size+1+1+1,0,none⟩ (.func (.func 68) #[] #[.pointer (some ⟨w.heap.size,0,none⟩),.pointer (some ⟨w.heap.size+1+1,0,none⟩),.pointer (some ⟨w.heap.size+1+1+1,0,none⟩)])):=
  ⟨bD.setCell (by show w.heap.size≤w.heap.size+1+1+1;omega) _,(ho _ (by omega)).trans h0,(ho _ (by omega)).trans h1,(ho _ (by omega)).trans h2,heap_setCell_same W4 (w.heap.size+1+1+1) 0 _ _ _ h3⟩
 have cF:=follow_any w (.slice p n c) n S hS (by omega) (n+1) (fun _=>false) r _ hst hr (by omega);have k3:=(cell_of_row _ _ 0 _ _ _ hst.b3).trans rfl;have hmf: ∀(fn:Fn) (first cap:Array Value) (w:World),(Instr.makeFunc fn first cap).run Tryd.prog w= .ok (.func fn first cap) w:=fun _ _ _ _=>rfl;clear bA bB bC bD s1 s2 s3 hst hz h0 h1 h2 h3 ho;go_enter Tryd.func42,Tryd.ntmps42;go_wp2_with fail;refine cF.mono ?_;rintro e w2 ⟨rfl,hst⟩;have k2:=(cell_of_row _ _ 0 _ _ _ hst.b2).trans rfl;have HO:Hid (OutRe n (fol S (n+1) (fun _=>false) r) w (.returned (.slice (some ⟨w.heap.size+1,0,none⟩) n n)) w2):=⟨_,rfl,hst.marks,hst.bel⟩
 clear cF hst;go_wp2_with fail;go_ret;exact HO.out
end Go.Proofs.YtpmobjgnmidolaaDoor
