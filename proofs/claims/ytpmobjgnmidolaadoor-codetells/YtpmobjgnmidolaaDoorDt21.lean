/- What parse.Parse comes to: the deferred call. -/
import Derived.Test.YtpmobjgnmidolaaDoorDt07
import Derived.Defers
import Derived.Recover
import Derived.MapKept
import Derived.Carry
import Derived.Lib.ConvBytes
namespace Go.Proofs.YtpmobjgnmidolaaDoor
open Go.RowKit Lx
end Go.Proofs.YtpmobjgnmidolaaDoor
/- What parse.Parse comes to. -/
namespace Go.Proofs.YtpmobjgnmidolaaDoor
open Go.RowKit Lx
end Go.Proofs.YtpmobjgnmidolaaDoor
/- The document's reader in memory, and what its small functions come to. -/
namespace Go.Proofs.YtpmobjgnmidolaaDoor
open Go.RowKit Lx
variable {all:List Tk} {E g:Nat} {v:Value} {w:World} {i n:Nat} {er at_:Int}
end Go.Proofs.YtpmobjgnmidolaaDoor
/- What the document's need, get and made come to. -/
namespace Go.Proofs.YtpmobjgnmidolaaDoor
open Go.RowKit Lx
variable {all:List Tk} {E g:Nat} {v:Value} {w:World} {i n:Nat} {er at_:Int}
end Go.Proofs.YtpmobjgnmidolaaDoor
/- What the document's get and made come to. -/
namespace Go.Proofs.YtpmobjgnmidolaaDoor
open Go.RowKit Lx
variable {all:List Tk} {E g:Nat} {v:Value} {w:World} {i n:Nat} {er at_:Int}
end Go.Proofs.YtpmobjgnmidolaaDoor
/- What the document's Thing, Factor and Sum come to where something is wrong already: nothing turns. -/
namespace Go.Proofs.YtpmobjgnmidolaaDoor
open Go.RowKit Lx
variable {all:List Tk} {E g:Nat} {v:Value} {w:World} {i n:Nat} {er at_:Int}
end Go.Proofs.YtpmobjgnmidolaaDoor
/- What the document's reader meets, in the plain reader's words. -/
namespace Go.Proofs.YtpmobjgnmidolaaDoor
open Go.RowKit Lx
variable {all:List Tk} {E g:Nat} {v:Value} {w:World} {i n:Nat} {er at_:Int}
end Go.Proofs.YtpmobjgnmidolaaDoor
/- A map that is written out, and what is looked up in it. -/
namespace Go.Proofs.YtpmobjgnmidolaaDoor
open Go.RowKit Lx
variable {w:World} {r:Nat} {es:Array MapEntry} {c:Nat}
def putB (w:World)(b:Nat)(o:Obj):World:={w with heap:=w.heap.setIfInBounds b o}
theorem putB_same {o o':Obj}(hb:w.heap[r]? =some o):(putB w r o').heap[r]? =some o':=(MapKept.heap_set hb).1
theorem putB_below {r n:Nat}{w0:World}(h:Below n w0 w)(hr:n≤r)(o:Obj):Below n w0 (putB w r o):=
 ⟨h.os,h.tape,h.output,by simpa[putB] using h.size,fun k hk=>by
   rw[←h.block k hk];show(w.heap.setIfInBounds r o)[k]? =_;rw[Array.getElem?_setIfInBounds_ne (by omega)]⟩
end Go.Proofs.YtpmobjgnmidolaaDoor
/- The map of how many kids a kind has, as the document writes it out, and what is looked up in it. -/
namespace Go.Proofs.YtpmobjgnmidolaaDoor
open Go.RowKit Lx
variable {w:World} {r:Nat} {es:Array MapEntry} {c:Nat}
theorem kmapT:Tryd.prog.underlying 140=some (.map 3 3):=by kernel_rfl
theorem intT:Tryd.prog.underlying 3=some (.int .i64):=by kernel_rfl
theorem ins_newI (hb:w.heap[r]? =some (.map es c))(k:Int)(x:Value)(hn:Instr.findNow (.int .i64) (.int .i64 k) es.toList 0=some none):
  (Instr.mapUpdate 140 (.map (some r)) (.int .i64 k) x).run Tryd.prog w= .ok () (putB w r (.map (es.push ⟨.int .i64 k,x,c⟩) (c+1))):=by
 have hc:(Instr.checkKey false 10000 3 (.int .i64 k)).run Tryd.prog w= .ok () w:=MapKept.run_checkKey (k:= .int .i64 k) intT (by simp[MapKept.IsKey]) false 9999;simp[Instr.mapUpdate,run_underlying kmapT,MapKept.run_getObj_map hb,hc,MapKept.run_findKey intT hn,MapKept.run_setObj_map _ hb,Result.andThen,putB]
def kindM:Array MapEntry:= #[⟨.int .i64 1,.int .i64 0,0⟩,⟨.int .i64 2,.int .i64 0,1⟩,⟨.int .i64 3,.int .i64 0,2⟩,⟨.int .i64 10,.int .i64 0,3⟩,⟨.int .i64 4,.int .i64 1,4⟩,⟨.int .i64 5,.int .i64 1,5⟩,⟨.int .i64 9,.int .i64 1,6⟩,⟨.int .i64 6,.int .i64 2,7⟩,⟨.int .i64 7,.int .i64 2,8⟩,⟨.int .i64 8,.int .i64 2,9⟩]
theorem kind_find (k:Int): ∃a,Instr.findNow (.int .i64) (.int .i64 k) kindM.toList 0=some a∧(match a with|some (_,u)=>u= .int .i64 (kidsP k:Int)∧(1≤k∧k≤10)|none=>kidsP k=0∧ ¬(1≤k∧k≤10)):=by
 by_cases c1:k=1
 ·subst c1;exact⟨_,rfl,rfl,by decide⟩
 by_cases c2:k=2
 ·subst c2;exact⟨_,rfl,rfl,by decide⟩
 by_cases c3:k=3
 ·subst c3;exact⟨_,rfl,rfl,by decide⟩
 by_cases c4:k=4
 ·subst c4;exact⟨_,rfl,rfl,by decide⟩
 by_cases c5:k=5
 ·subst c5;exact⟨_,rfl,rfl,by decide⟩
 by_cases c6:k=6
 ·subst c6;exact⟨_,rfl,rfl,by decide⟩
 by_cases c7:k=7
 ·subst c7;exact⟨_,rfl,rfl,by decide⟩
 by_cases c8:k=8
 ·subst c8;exact⟨_,rfl,rfl,by decide⟩
 by_cases c9:k=9
 ·subst c9;exact⟨_,rfl,rfl,by decide⟩
 by_cases c10:k=10
 ·subst c10;exact⟨_,rfl,rfl,by decide⟩
 refine⟨none,?_,?_,by omega⟩
 ·unfold kindM;have e1:(k==1)=false:=beq_eq_false_iff_ne.2 c1;have e2:(k==2)=false:=beq_eq_false_iff_ne.2 c2;have e3:(k==3)=false:=beq_eq_false_iff_ne.2 c3;have e4:(k==4)=false:=beq_eq_false_iff_ne.2 c4;have e5:(k==5)=false:=beq_eq_false_iff_ne.2 c5;have e6:(k==6)=false:=beq_eq_false_iff_ne.2 c6;have e7:(k==7)=false:=beq_eq_false_iff_ne.2 c7;have e8:(k==8)=false:=beq_eq_false_iff_ne.2 c8;have e9:(k==9)=false:=beq_eq_false_iff_ne.2 c9;have e10:(k==10)=false:=beq_eq_false_iff_ne.2 c10;simp only[Instr.findNow,Instr.sameNow,↓reduceIte,e1,e2,e3,e4,e5,e6,e7,e8,e9,e10]
 ·unfold kidsP;rw[if_neg (by omega),if_neg (by omega)]
theorem kind_look (hb:w.heap[r]? =some (.map kindM 10))(k:Int):
  (Instr.lookup 140 (.map (some r)) (.int .i64 k) true).run Tryd.prog w= .ok (.tuple #[.int .i64 (kidsP k:Int),.bool (decide (1≤k∧k≤10))]) w:=by
 have hc:(Instr.checkKey false 10000 3 (.int .i64 k)).run Tryd.prog w= .ok () w:=MapKept.run_checkKey (k:= .int .i64 k) intT (by simp[MapKept.IsKey]) false 9999;obtain⟨a,h1,h2⟩:=kind_find k;have hz:(zeroValue 3).run Tryd.prog w= .ok (.int .i64 0) w:=by kernel_rfl
 have hem:kindM.isEmpty=false:=by rfl
 cases a with
 |none=>
  obtain⟨h3,h4⟩:=h2;simp[Instr.lookup,run_underlying kmapT,MapKept.run_getObj_map hb,hem,hc,MapKept.run_findKey intT h1,hz,Result.andThen,h3];omega
 |some q=>
  obtain⟨j,u⟩:=q;obtain⟨h3,h4⟩:=h2;simp[Instr.lookup,run_underlying kmapT,MapKept.run_getObj_map hb,hem,hc,MapKept.run_findKey intT h1,Result.andThen,h3,h4]
theorem kinds_all (w:World): ∃W1 W2 W3 W4 W5 W6 W7 W8 W9 W10:World,
  (Instr.mapUpdate 140 (.map (some w.heap.size)) (.int .i64 1) (.int .i64 0)).run Tryd.prog (w.alloc (.map #[] 0))= .ok () W1∧
  (Instr.mapUpdate 140 (.map (some w.heap.size)) (.int .i64 2) (.int .i64 0)).run Tryd.prog W1= .ok () W2∧
  (Instr.mapUpdate 140 (.map (some w.heap.size)) (.int .i64 3) (.int .i64 0)).run Tryd.prog W2= .ok () W3∧
  (Instr.mapUpdate 140 (.map (some w.heap.size)) (.int .i64 10) (.int .i64 0)).run Tryd.prog W3= .ok () W4∧
  (Instr.mapUpdate 140 (.map (some w.heap.size)) (.int .i64 4) (.int .i64 1)).run Tryd.prog W4= .ok () W5∧
  (Instr.mapUpdate 140 (.map (some w.heap.size)) (.int .i64 5) (.int .i64 1)).run Tryd.prog W5= .ok () W6∧
  (Instr.mapUpdate 140 (.map (some w.heap.size)) (.int .i64 9) (.int .i64 1)).run Tryd.prog W6= .ok () W7∧
  (Instr.mapUpdate 140 (.map (some w.heap.size)) (.int .i64 6) (.int .i64 2)).run Tryd.prog W7= .ok () W8∧
  (Instr.mapUpdate 140 (.map (some w.heap.size)) (.int .i64 7) (.int .i64 2)).run Tryd.prog W8= .ok () W9∧
  (Instr.mapUpdate 140 (.map (some w.heap.size)) (.int .i64 8) (.int .i64 2)).run Tryd.prog W9= .ok () W10∧
  W10.heap[w.heap.size]? =some (.map kindM 10)∧Below w.heap.size w W10:=by
 have m0:=heap_alloc_new w (.map #[] 0);have b0:=(Below.refl w.heap.size w).alloc (Nat.le_refl _) (.map #[] 0);have i1:=ins_newI m0 1 (.int .i64 0) (by rfl);have m1:=putB_same (o':= .map #[⟨.int .i64 1,.int .i64 0,0⟩] 1) m0;have b1:=putB_below b0 (Nat.le_refl _) (.map #[⟨.int .i64 1,.int .i64 0,0⟩] 1);have i2:=ins_newI m1 2 (.int .i64 0) (by rfl);have m2:=putB_same (o':= .map #[⟨.int .i64 1,.int .i64 0,0⟩,⟨.int .i64 2,.int .i64 0,1⟩] 2) m1;have b2:=putB_below b1 (Nat.le_refl _) (.map #[⟨.int .i64 1,.int .i64 0,0⟩,⟨.int .i64 2,.int .i64 0,1⟩] 2);have i3:=ins_newI m2 3 (.int .i64 0) (by rfl);have m3:=putB_same (o':= .map #[⟨.int .i64 1,.int .i64 0,0⟩,⟨.int .i64 2,.int .i64 0,1⟩,⟨.int .i64 3,.int .i64 0,2⟩] 3) m2;have b3:=putB_below b2 (Nat.le_refl _) (.map #[⟨.int .i64 1,.int .i64 0,0⟩,⟨.int .i64 2,.int .i64 0,1⟩,⟨.int .i64 3,.int .i64 0,2⟩] 3);have i4:=ins_newI m3 10 (.int .i64 0) (by rfl);have m4:=putB_same (o':= .map #[⟨.int .i64 1,.int .i64 0,0⟩,⟨.int .i64 2,.int .i64 0,1⟩,⟨.int .i64 3,.int .i64 0,2⟩,⟨.int .i64 10,.int .i64 0,3⟩] 4) m3;have b4:=putB_below b3 (Nat.le_refl _) (.map #[⟨.int .i64 1,.int .i64 0,0⟩,⟨.int .i64 2,.int .i64 0,1⟩,⟨.int .i64 3,.int .i64 0,2⟩,⟨.int .i64 10,.int .i64 0,3⟩] 4);have i5:=ins_newI m4 4 (.int .i64 1) (by rfl);have m5:=putB_same (o':= .map #[⟨.int .i64 1,.int .i64 0,0⟩,⟨.int .i64 2,.int .i64 0,1⟩,⟨.int .i64 3,.int .i64 0,2⟩,⟨.int .i64 10,.int .i64 0,3⟩,⟨.int .i64 4,.int .i64 1,4⟩] 5) m4;have b5:=putB_below b4 (Nat.le_refl _) (.map #[⟨.int .i64 1,.int .i64 0,0⟩,⟨.int .i64 2,.int .i64 0,1⟩,⟨.int .i64 3,.int .i64 0,2⟩,⟨.int .i64 10,.int .i64 0,3⟩,⟨.int .i64 4,.int .i64 1,4⟩] 5);have i6:=ins_newI m5 5 (.int .i64 1) (by rfl);have m6:=putB_same (o':= .map #[⟨.int .i64 1,.int .i64 0,0⟩,⟨.int .i64 2,.int .i64 0,1⟩,⟨.int .i64 3,.int .i64 0,2⟩,⟨.int .i64 10,.int .i64 0,3⟩,⟨.int .i64 4,.int .i64 1,4⟩,⟨.int .i64 5,.int .i64 1,5⟩] 6) m5;have b6:=putB_below b5 (Nat.le_refl _) (.map #[⟨.int .i64 1,.int .i64 0,0⟩,⟨.int .i64 2,.int .i64 0,1⟩,⟨.int .i64 3,.int .i64 0,2⟩,⟨.int .i64 10,.int .i64 0,3⟩,⟨.int .i64 4,.int .i64 1,4⟩,⟨.int .i64 5,.int .i64 1,5⟩] 6);have i7:=ins_newI m6 9 (.int .i64 1) (by rfl);have m7:=putB_same (o':= .map #[⟨.int .i64 1,.int .i64 0,0⟩,⟨.int .i64 2,.int .i64 0,1⟩,⟨.int .i64 3,.int .i64 0,2⟩,⟨.int .i64 10,.int .i64 0,3⟩,⟨.int .i64 4,.int .i64 1,4⟩,⟨.int .i64 5,.int .i64 1,5⟩,⟨.int .i64 9,.int .i64 1,6⟩] 7) m6;have b7:=putB_below b6 (Nat.le_refl _) (.map #[⟨.int .i64 1,.int .i64 0,0⟩,⟨.int .i64 2,.int .i64 0,1⟩,⟨.int .i64 3,.int .i64 0,2⟩,⟨.int .i64 10,.int .i64 0,3⟩,⟨.int .i64 4,.int .i64 1,4⟩,⟨.int .i64 5,.int .i64 1,5⟩,⟨.int .i64 9,.int .i64 1,6⟩] 7);have i8:=ins_newI m7 6 (.int .i64 2) (by rfl);have m8:=putB_same (o':= .map #[⟨.int .i64 1,.int .i64 0,0⟩,⟨.int .i64 2,.int .i64 0,1⟩,⟨.int .i64 3,.int .i64 0,2⟩,⟨.int .i64 10,.int .i64 0,3⟩,⟨.int .i64 4,.int .i64 1,4⟩,⟨.int .i64 5,.int .i64 1,5⟩,⟨.int .i64 9,.int .i64 1,6⟩,⟨.int .i64 6,.int .i64 2,7⟩] 8) m7;have b8:=putB_below b7 (Nat.le_refl _) (.map #[⟨.int .i64 1,.int .i64 0,0⟩,⟨.int .i64 2,.int .i64 0,1⟩,⟨.int .i64 3,.int .i64 0,2⟩,⟨.int .i64 10,.int .i64 0,3⟩,⟨.int .i64 4,.int .i64 1,4⟩,⟨.int .i64 5,.int .i64 1,5⟩,⟨.int .i64 9,.int .i64 1,6⟩,⟨.int .i64 6,.int .i64 2,7⟩] 8);have i9:=ins_newI m8 7 (.int .i64 2) (by rfl);have m9:=putB_same (o':= .map #[⟨.int .i64 1,.int .i64 0,0⟩,⟨.int .i64 2,.int .i64 0,1⟩,⟨.int .i64 3,.int .i64 0,2⟩,⟨.int .i64 10,.int .i64 0,3⟩,⟨.int .i64 4,.int .i64 1,4⟩,⟨.int .i64 5,.int .i64 1,5⟩,⟨.int .i64 9,.int .i64 1,6⟩,⟨.int .i64 6,.int .i64 2,7⟩,⟨.int .i64 7,.int .i64 2,8⟩] 9) m8;have b9:=putB_below b8 (Nat.le_refl _) (.map #[⟨.int .i64 1,.int .i64 0,0⟩,⟨.int .i64 2,.int .i64 0,1⟩,⟨.int .i64 3,.int .i64 0,2⟩,⟨.int .i64 10,.int .i64 0,3⟩,⟨.int .i64 4,.int .i64 1,4⟩,⟨.int .i64 5,.int .i64 1,5⟩,⟨.int .i64 9,.int .i64 1,6⟩,⟨.int .i64 6,.int .i64 2,7⟩,⟨.int .i64 7,.int .i64 2,8⟩] 9);have i10:=ins_newI m9 8 (.int .i64 2) (by rfl);have m10:=putB_same (o':= .map #[⟨.int .i64 1,.int .i64 0,0⟩,⟨.int .i64 2,.int .i64 0,1⟩,⟨.int .i64 3,.int .i64 0,2⟩,⟨.int .i64 10,.int .i64 0,3⟩,⟨.int .i64 4,.int .i64 1,4⟩,⟨.int .i64 5,.int .i64 1,5⟩,⟨.int .i64 9,.int .i64 1,6⟩,⟨.int .i64 6,.int .i64 2,7⟩,⟨.int .i64 7,.int .i64 2,8⟩,⟨.int .i64 8,.int .i64 2,9⟩] 10) m9;have b10:=putB_below b9 (Nat.le_refl _) (.map #[⟨.int .i64 1,.int .i64 0,0⟩,⟨.int .i64 2,.int .i64 0,1⟩,⟨.int .i64 3,.int .i64 0,2⟩,⟨.int .i64 10,.int .i64 0,3⟩,⟨.int .i64 4,.int .i64 1,4⟩,⟨.int .i64 5,.int .i64 1,5⟩,⟨.int .i64 9,.int .i64 1,6⟩,⟨.int .i64 6,.int .i64 2,7⟩,⟨.int .i64 7,.int .i64 2,8⟩,⟨.int .i64 8,.int .i64 2,9⟩] 10);exact⟨_,_,_,_,_,_,_,_,_,_,i1,i2,i3,i4,i5,i6,i7,i8,i9,i10,m10,b10⟩
end Go.Proofs.YtpmobjgnmidolaaDoor
/- What slotref3.digit, low, sign and Word come to. -/
namespace Go.Proofs.YtpmobjgnmidolaaDoor
open Go.RowKit Lx
theorem rdigit_any (c:UInt8)(w:World):Calls Tryd.prog 94 #[.int .u8 (c.toNat:Int)] w fun e w'=>e= .returned (.bool (isD c))∧w'=w:=by
 unfold isD;by_cases h1:48≤c.toNat
 ·by_cases h2:c.toNat≤57
  ·have i1:(48:Int)≤(c.toNat:Int):=(by omega);have i2:(c.toNat:Int)≤57:=(by omega);rw[decide_eq_true h1,decide_eq_true h2];go_enter Tryd.func94,Tryd.ntmps94;go_wp2;go_ret;exact⟨rfl,rfl⟩
  ·have i1:(48:Int)≤(c.toNat:Int):=(by omega);have i2: ¬(c.toNat:Int)≤57:=(by omega);rw[decide_eq_true h1,decide_eq_false h2];go_enter Tryd.func94,Tryd.ntmps94;go_wp2;go_ret;exact⟨rfl,rfl⟩
 ·have i1: ¬(48:Int)≤(c.toNat:Int):=by omega
  rw[decide_eq_false h1];go_enter Tryd.func94,Tryd.ntmps94;go_wp2;go_ret;exact⟨rfl,rfl⟩
theorem rlow_any (c:UInt8)(w:World):Calls Tryd.prog 93 #[.int .u8 (c.toNat:Int)] w fun e w'=>e= .returned (.bool (isL c))∧w'=w:=by
 unfold isL;by_cases h1:97≤c.toNat
 ·by_cases h2:c.toNat≤122
  ·have i1:(97:Int)≤(c.toNat:Int):=(by omega);have i2:(c.toNat:Int)≤122:=(by omega);rw[decide_eq_true h1,decide_eq_true h2];go_enter Tryd.func93,Tryd.ntmps93;go_wp2;go_ret;exact⟨rfl,rfl⟩
  ·have i1:(97:Int)≤(c.toNat:Int):=(by omega);have i2: ¬(c.toNat:Int)≤122:=(by omega);rw[decide_eq_true h1,decide_eq_false h2];go_enter Tryd.func93,Tryd.ntmps93;go_wp2;go_ret;exact⟨rfl,rfl⟩
 ·have i1: ¬(97:Int)≤(c.toNat:Int):=by omega
  rw[decide_eq_false h1];go_enter Tryd.func93,Tryd.ntmps93;go_wp2;go_ret;exact⟨rfl,rfl⟩
def rwordsL:List (List UInt8):=[[114,117,108,101],[110,101,118,101,114],[97,108,119,97,121,115],[119,101,101,107,108,121],[100,97,116,101,115],[115,104,105,102,116],[109,111,110],[116,117,101],[119,101,100],[116,104,117],[102,114,105],[115,97,116],[115,117,110]]
def rwordCells:Array Value:=(rwordsL.map fun l=>Value.string ⟨l.toArray⟩).toArray
theorem rwordCell (j:Nat)(hj:j<13):rwordCells[j]? =some (.string ⟨(rwordsL.getD j []).toArray⟩):=by
 have h:j<rwordsL.length:=hj;unfold rwordCells;simp only[List.getElem?_toArray,List.getElem?_map,List.getD_eq_getElem?_getD,List.getElem?_eq_getElem h];rfl
theorem rword_mem (x:List UInt8):x∈rwordsL↔x∈wordsL:=by
 unfold rwordsL wordsL;simp only[List.mem_cons,List.not_mem_nil,or_false];constructor
 ·rintro(h|h|h|h|h|h|h|h|h|h|h|h|h)<;>subst h<;>simp
 ·rintro(h|h|h|h|h|h|h|h|h|h|h|h|h)<;>subst h<;>simp
theorem rword_no {x:List UInt8}(h: ∀j,j<13→rwordsL.getD j []≠x):isWordL x=false:=by
 cases e:isWordL x with
 |false=>rfl
 |true=>
  unfold isWordL at e;rw[List.any_eq_true]at e;obtain⟨y,hy,hx⟩:=e;have hyx:y=x:=(by simpa using hx);subst hyx;obtain⟨j,hj,hjx⟩:=List.getElem_of_mem ((rword_mem y).2 hy);have hj':j<13:=hj;exact absurd (by simpa[List.getD,hj] using hjx) (h j hj')
theorem rword_yes {x:List UInt8}(j:Nat)(hj:j<13)(h:rwordsL.getD j []=x):isWordL x=true:=by
 have hj':j<rwordsL.length:=hj;have hm:x∈rwordsL:=by rw[←h];simp[List.getD,hj']
 unfold isWordL;rw[List.any_eq_true];exact⟨x,(rword_mem x).1 hm,beq_self_eq_true x⟩
set_option maxRecDepth 10000 in
set_option maxHeartbeats 400000 in
theorem rword_any (x:ByteArray)(l:List UInt8)(hx:x.data.toList=l)(w:World):
  Calls Tryd.prog 95 #[.string x] w fun e w'=>e= .returned (.bool (isWordL l))∧Below w.heap.size w w':=by
 have hg:(w.alloc (.cells rwordCells 9)).heap[w.heap.size]? =some (.cells rwordCells 9 (0,0)):=heap_alloc_new w _;have hb:Below w.heap.size w (w.alloc (.cells rwordCells 9)):=(Below.refl _ _).alloc (Nat.le_refl _) _;have HC:Hid (∀j,j<13→(w.alloc (.cells rwordCells 9)).cell? ⟨w.heap.size,j,none⟩=some (.string ⟨(rwordsL.getD j []).toArray⟩)):=fun j hj=>by rw[cell_of_row _ _ _ _ _ _ hg,rwordCell j hj]
 have hW:(w.alloc (.cells #[.string ⟨#[114,117,108,101]⟩,.string ⟨#[110,101,118,101,114]⟩,.string ⟨#[97,108,119,97,121,115]⟩,.string ⟨#[119,101,101,107,108,121]⟩,.string ⟨#[100,97,116,101,115]⟩,.string ⟨#[115,104,105,102,116]⟩,.string ⟨#[109,111,110]⟩,.string ⟨#[116,117,101]⟩,.string ⟨#[119,101,100]⟩,.string ⟨#[116,104,117]⟩,.string ⟨#[102,114,105]⟩,.string ⟨#[115,97,116]⟩,.string ⟨#[115,117,110]⟩] 9))=w.alloc (.cells rwordCells 9):=rfl;generalize w.alloc (.cells rwordCells 9)=w1 at*;clear hg;go_enter Tryd.func95,Tryd.ntmps95;go_wp2;go_loop [7] (fun i=> ∃k:Nat,k≤13∧i= .int .i64 k∧ ∀j,j<k→rwordsL.getD j []≠l) (fun i=>13-(intOf i).toNat);case atStart=>exact⟨0,by omega,rfl,fun i h=>by omega⟩
 case round=>
  obtain⟨k,hk,rfl,hall⟩:=hrel;have HA:Hid (∀j,j<k→rwordsL.getD j []≠l):=hall;clear hall;by_cases hlt:k<13
  ·have hlt':(k:Int)<13:=(by omega);have hk0:(0:Int)≤(k:Int):=(by omega);have ck:=HC.out k hlt;generalize hy:(⟨(rwordsL.getD k []).toArray⟩:ByteArray)=y at ck;have hyl:y.data.toList=rwordsL.getD k []:=(by rw[←hy]);by_cases he:rwordsL.getD k []=l
   ·have hq:(y.toList==x.toList)=true:=(by rw[Lib.toList_data,Lib.toList_data,hyl,hx,he];simp);have hWd:Hid (isWordL l=true):=rword_yes k hlt he;clear he hyl hy hW;go_wp2;go_ret;exact⟨by rw[hWd.out];rfl,hb⟩
   ·have hq:(y.toList==x.toList)=false:=by
     rw[Lib.toList_data,Lib.toList_data,hyl,hx];rw[beq_eq_false_iff_ne];exact he
    have HE:Hid (rwordsL.getD k []≠l):=he;clear he hyl hy hW;go_wp2;go_round
    case rel=>
     refine⟨k+1,by omega,by go_num,fun j hj=> ?_⟩;by_cases e:j=k
     ·subst e;exact HE.out
     ·exact HA.out j (by omega)
    case measure=>simp[intOf];omega
  ·have hkl:k=13:=(by omega);subst hkl;have hWd:Hid (isWordL l=false):=rword_no HA.out;clear hW;go_wp2;go_ret;exact⟨by rw[hWd.out];rfl,hb⟩
end Go.Proofs.YtpmobjgnmidolaaDoor
/- What slotref3.digits comes to. -/
namespace Go.Proofs.YtpmobjgnmidolaaDoor
open Go.RowKit Lx
theorem below_bytes (w:World)(e:TypeId)(s:ByteArray):Below w.heap.size w (Lib.bytesWorld w e s):=⟨rfl,rfl,rfl,by rw[Lib.bytesWorld_size];omega,fun k hk=>Lib.bytesWorld_at_old w e s k hk⟩
theorem bytesT:Tryd.prog.underlying 144=some (.slice 5):=by kernel_rfl
end Go.Proofs.YtpmobjgnmidolaaDoor
/- What slotref3.Named comes to. -/
namespace Go.Proofs.YtpmobjgnmidolaaDoor
open Go.RowKit Lx
theorem wordLen_all: ∀{l:List UInt8},wordLen l=l.length→ ∀i,i<l.length→pcAt l i=true
 |[],_,i,h=>by simp at h
 |c::l,h,i,hi=>by
  by_cases hc:isL c=true
  ·simp only[wordLen,hc,if_true,List.length_cons]at h;have hr:runOf isC l=l.length:=(by omega);cases i with
   |zero=>simpa[pcAt] using hc
   |succ i=>
    have hi':i<l.length:=(by simpa using hi);have:=runOf_all isC l i (by omega);simpa[pcAt] using this
  ·simp[wordLen,hc]at h
end Go.Proofs.YtpmobjgnmidolaaDoor
/- What can be a name, of whatever length: the document's. -/
namespace Go.Proofs.YtpmobjgnmidolaaDoor
open Go.RowKit Lx
set_option maxRecDepth 10000 in
set_option maxHeartbeats 400000 in
theorem rnamed_big (s:ByteArray)(l:List UInt8)(hs:s.data.toList=l)(hl:l.length≤9223372036854775807)(w:World):
  Calls Tryd.prog 71 #[.string s] w fun e w'=>e= .returned (.bool (namedL l))∧Below w.heap.size w w':=by
 have hz:s.size=l.length:=by rw[←hs,Lib.size_eq]
 have hcw:=Lib.run_convert_string_bytes (P:=Tryd.prog) w 9 144 5 s Tryd.underlying9 bytesT Tryd.underlying5;have hbb:=below_bytes w 5 s
 have HC:Hid (∀j,j<l.length→(Lib.bytesWorld w 5 s).cell? ⟨w.heap.size,j,none⟩=some (.int .u8 ((l.getD j 0).toNat:Int))):=fun j hj=>by
  rw[Lib.bytesWorld_cell w 5 _ j (by omega),hs]
 rw[hz]at hcw;generalize Lib.bytesWorld w 5 s=wB at*;generalize grownCap w l.length 0 5=cap at*;go_enter Tryd.func71,Tryd.ntmps71;go_wp2;go_loop [8] (fun i=> ∃j:Nat,j≤l.length∧i= .int .i64 j∧ ∀i,i<j→pcAt l i=true) (fun i=>l.length-(intOf i).toNat);case atStart=>exact⟨0,by omega,rfl,fun i h=>by omega⟩
 case round=>
  obtain⟨j,hj,rfl,hall⟩:=hrel;have HA:Hid (∀i,i<j→pcAt l i=true):=hall;clear hall;by_cases hlt:j<l.length
  ·have hlt':(j:Int)<(l.length:Int):=(by omega);have hj0:(0:Int)≤(j:Int):=(by omega);have cj:=HC.out j hlt
   have hp:pcAt l j=if j=0 then isL (l.getD j 0) else isC (l.getD j 0):=by
    unfold pcAt;split
    ·rename_i h;rw[h]
    ·rfl
   have cl:=fun w=>rlow_any (l.getD j 0) w;have cd:=fun w=>rdigit_any (l.getD j 0) w;generalize hc:l.getD j 0=c at*
   have stop:pcAt l j=false→Hid (namedL l=false):=fun h=>by
    show namedL l=false;have: ¬wordLen l=l.length:=fun e=>(by rw[wordLen_all e j hlt]at h;cases h);simp[namedL,this]
   have next:pcAt l j=true→Hid (∀i,i<j+1→pcAt l i=true):=fun h i hi=>by
    by_cases e:i=j
    ·rw[e];exact h
    ·exact HA.out i (by omega)
   cases hL:isL c with
   |true=>
    have hN:=next (by rw[hp];split<;>simp[hL,isC])
    rw[hL]at cl;clear hp hL stop next HA hcw
    go_wp2_with(first
     |(go_at_call 93;refine(cl _).mono ?_;rintro e w' ⟨rfl,rfl⟩)
     |(go_at_call 94;refine(cd _).mono ?_;rintro e w' ⟨rfl,rfl⟩))
    go_round;case rel=>exact⟨j+1,by omega,by go_num,hN.out⟩
    case measure=>simp[intOf];omega
   |false=>
    rw[hL]at cl;by_cases h0:j=0
    ·have hS:=stop (by rw[hp,if_pos h0,hL]);clear hp hL stop next HA hj0 hlt' hcw
     subst h0;have hlt0:(0:Int)<(l.length:Int):=(by omega)
     go_wp2_with(first
      |(go_at_call 93;refine(cl _).mono ?_;rintro e w' ⟨rfl,rfl⟩)
      |(go_at_call 94;refine(cd _).mono ?_;rintro e w' ⟨rfl,rfl⟩))
     go_ret;exact⟨by rw[hS.out];rfl,hbb⟩
    ·have h0':((j:Int)==0)=false:=(by simp;omega);cases hD:isD c with
     |true=>
      have hN:=next (by rw[hp,if_neg h0];simp[hD,isC])
      rw[hD]at cd;clear hp hL hD stop next HA hcw h0
      go_wp2_with(first
       |(go_at_call 93;refine(cl _).mono ?_;rintro e w' ⟨rfl,rfl⟩)
       |(go_at_call 94;refine(cd _).mono ?_;rintro e w' ⟨rfl,rfl⟩))
      go_round;case rel=>exact⟨j+1,by omega,by go_num,hN.out⟩
      case measure=>simp[intOf];omega
     |false=>
      rw[hD]at cd;by_cases h95:c.toNat=95
      ·have hN:=next (by rw[hp,if_neg h0];simp[isC,h95])
       have i95:((c.toNat:Int) !=95)=false:=(by simp;omega);clear hp hL hD stop next HA h95 hcw h0
       go_wp2_with(first
        |(go_at_call 93;refine(cl _).mono ?_;rintro e w' ⟨rfl,rfl⟩)
        |(go_at_call 94;refine(cd _).mono ?_;rintro e w' ⟨rfl,rfl⟩))
       go_round;case rel=>exact⟨j+1,by omega,by go_num,hN.out⟩
       case measure=>simp[intOf];omega
      ·have hS:=stop (by rw[hp,if_neg h0];simp[isC,h95,hL,hD]);have i95:((c.toNat:Int) !=95)=true:=(by simp;omega);clear hp hL hD stop next HA h95 hcw h0
       go_wp2_with(first
        |(go_at_call 93;refine(cl _).mono ?_;rintro e w' ⟨rfl,rfl⟩)
        |(go_at_call 94;refine(cd _).mono ?_;rintro e w' ⟨rfl,rfl⟩))
       go_ret;exact⟨by rw[hS.out];rfl,hbb⟩
  ·have hjl:j=l.length:=(by omega);have hwl:wordLen l=l.length:=wordLen_eq l l.length (Nat.le_refl _) (by rw[←hjl];exact HA.out) fun h=>(by omega);have cw:=fun w=>rword_any s l hs w;have hlt': ¬(j:Int)<(l.length:Int):=(by omega);clear hcw;by_cases h0:l.length=0
   ·have hS:Hid (namedL l=false):=(by show namedL l=false;simp[namedL,h0]);have i0: ¬(0:Int)<(l.length:Int):=(by omega);clear h0 hwl;go_wp2_with(go_at_call 95;refine(cw _).mono ?_;rintro e w1 ⟨rfl,hb1⟩)
    go_ret;exact⟨by rw[hS.out];rfl,hbb⟩
   ·have i0:(0:Int)<(l.length:Int):=(by omega);by_cases h20:l.length≤20
    ·have i20:(l.length:Int)≤20:=(by omega);have hS:Hid (namedL l= !isWordL l):=(by show namedL l=_;simp[namedL,h0,h20,hwl]);clear h0 hwl;generalize isWordL l=b at*;go_wp2_with(go_at_call 95;refine(cw _).mono ?_;rintro e w1 ⟨rfl,hb1⟩;have hbw:=hbb.trans (hb1.mono hbb.size))
     go_ret;exact⟨by rw[hS.out];rfl,hbw⟩
    ·have i20: ¬(l.length:Int)≤20:=(by omega);have hS:Hid (namedL l=false):=(by show namedL l=false;simp[namedL,h20]);clear h0 hwl h20;go_wp2_with(go_at_call 95;refine(cw _).mono ?_;rintro e w1 ⟨rfl,hb1⟩)
     go_ret;exact⟨by rw[hS.out];rfl,hbb⟩
end Go.Proofs.YtpmobjgnmidolaaDoor
