/- Which day of the week a day is; whether a day is one of those of a guard. -/
import Derived.Test.YtpmobjgnmidolaaDoorDt11
import Derived.Test.YtpmobjgnmidolaaDoorDt09
import Derived.Test.YtpmobjgnmidolaaDoorDt10
import Derived.Deep.MidRow
import Derived.Test.YtpmobjgnmidolaaDoorDt03
namespace Go.Proofs.YtpmobjgnmidolaaDoor
open Go.RowKit Lx
set_option maxHeartbeats 400000 in
theorem isDay6 (n:Int)(w:World)(a:0≤n)(b:n<146097):Calls Tryd.prog 122 #[.int .i64 n] w fun e w'=>e= .returned (.bool true)∧w'=w:=by
 go_enter Tryd.func122,Tryd.ntmps122;go_wp2;go_ret;exact⟨rfl,rfl⟩
def wkd (n:Int):Int:=(n+5).tmod 7
theorem wkd_eq (n:Int)(a:0≤n):wkd n=(n+5)%7:=by
 unfold wkd;rw[Int.tmod_eq_emod_of_nonneg (by omega)]
theorem wkd_bd (n:Int)(a:0≤n):0≤wkd n∧wkd n<7:=by
 rw[wkd_eq n a];omega
set_option maxHeartbeats 400000 in
theorem week6 (n:Int)(w:World)(a:0≤n)(b:n<146097):Calls Tryd.prog 105 #[.int .i64 n] w fun e w'=>e= .returned (.int .i64 (wkd n))∧w'=w:=by
 have c1:=isDay6 n w a b;have hb:=wkd_bd n a;have hw:(n+5).tmod 7=wkd n:=rfl;go_enter Tryd.func105,Tryd.ntmps105;go_wp2_with fail;refine c1.mono ?_;rintro e w' ⟨rfl,rfl⟩;clear c1;go_wp2_with fail;go_ret;exact⟨rfl,rfl⟩
structure DaySt (w:World)(g:Nat)(n:Int)(lv:Value)(mb:Nat)(kv mv':Value):Prop where
 blk:w.heap[g]? =some (.cells #[.int .i64 n,lv,.map (some mb),kv,mv'] 71 (0,0))
def wkB (n a:Int):Bool:=bits BinOp.and IntKind.i64 (a/2^(wkd n).toNat) 1==1
set_option maxHeartbeats 400000 in
theorem isOf4 (g:Nat)(n:Int)(lv:Value)(mb:Nat)(kv mv':Value)(e:Ex)(pe:Option Addr)(ce:Nat)(w:World)(h:DaySt w g n lv mb kv mv')(a:0≤n)(b:n<146097)(hk:e.kind=4):
  Calls Tryd.prog 77 #[.pointer (some ⟨g,0,none⟩),.agg #[.int .i64 e.kind,.int .i64 e.a,.int .i64 e.b,.string ⟨e.name.toArray⟩,.slice pe e.kids.length ce]] w fun r w'=>r= .returned (.bool (wkB n e.a))∧Below w.heap.size w w':=by
 have k0:=(cell_of_row _ _ 0 _ _ _ h.blk).trans rfl;have bA:=(Below.refl w.heap.size w).alloc (Nat.le_refl _) (.cells #[.int .i64 e.kind,.int .i64 e.a,.int .i64 e.b,.string ⟨e.name.toArray⟩,.slice pe e.kids.length ce] 50);have k0':=(bA.cell (block_lt_of_cell k0)).trans k0;have hb:=wkd_bd n a;have cw:=fun W=>week6 n W a b;rw[hk]at bA k0'⊢;go_enter Tryd.func77,Tryd.ntmps77;go_wp2_with fail;go_quiet ((go_at_call 105;exact Calls.quiet_of_same (cw _)));go_wp2_with fail;go_ret;exact⟨rfl,below_drewN bA nq⟩
set_option maxHeartbeats 400000 in
theorem isOf5 (g:Nat)(n:Int)(lv:Value)(mb:Nat)(kv mv':Value)(e:Ex)(pe:Option Addr)(ce:Nat)(w:World)(h:DaySt w g n lv mb kv mv')(hk:e.kind=5):
  Calls Tryd.prog 77 #[.pointer (some ⟨g,0,none⟩),.agg #[.int .i64 e.kind,.int .i64 e.a,.int .i64 e.b,.string ⟨e.name.toArray⟩,.slice pe e.kids.length ce]] w fun r w'=>r= .returned (.bool (decide (e.a≤n)&&decide (n≤e.b)))∧Below w.heap.size w w':=by
 have k0:=(cell_of_row _ _ 0 _ _ _ h.blk).trans rfl;have bA:=(Below.refl w.heap.size w).alloc (Nat.le_refl _) (.cells #[.int .i64 e.kind,.int .i64 e.a,.int .i64 e.b,.string ⟨e.name.toArray⟩,.slice pe e.kids.length ce] 50);have k0':=(bA.cell (block_lt_of_cell k0)).trans k0;rw[hk]at bA k0'⊢;by_cases h1:e.a≤n
 ·by_cases h2:n≤e.b
  ·rw[decide_eq_true h1,decide_eq_true h2];go_enter Tryd.func77,Tryd.ntmps77;go_wp2_with fail;go_quiet (fail);go_wp2_with fail;go_ret;exact⟨rfl,below_drewN bA nq⟩
  ·rw[decide_eq_true h1,decide_eq_false h2];have hd2:decide (n≤e.b)=false:=decide_eq_false h2;go_enter Tryd.func77,Tryd.ntmps77;go_wp2_with fail;go_quiet (fail);go_wp2_with fail;go_ret
   first
    |exact⟨rfl,below_drewN bA nq⟩
    |exact⟨congrArg (fun x=>Ending.returned (.bool x)) hd2,below_drewN bA nq⟩
 ·rw[decide_eq_false h1];have hd1:decide (e.a≤n)=false:=decide_eq_false h1;go_enter Tryd.func77,Tryd.ntmps77;go_wp2_with fail;go_quiet (fail);go_wp2_with fail;go_ret;exact⟨rfl,below_drewN bA nq⟩
end Go.Proofs.YtpmobjgnmidolaaDoor
/- The day's struct in memory: what is known of rules, and what they mean. -/
namespace Go.Proofs.YtpmobjgnmidolaaDoor
open Go.RowKit Lx
theorem heap_setCells_other (b:Nat): ∀(vs:List Value) (o:Nat) (w:World) (q:Nat),q≠b→(w.setCells b o vs).heap[q]? =w.heap[q]?
 |[],_,_,_,_=>rfl
 |v::vs,o,w,q,h=>by
  rw[World.setCells,heap_setCells_other b vs (o+1) _ q h];exact heap_setCell_other w ⟨b,o,none⟩ q v h
theorem below_setCellsM {w:World}(b:Nat)(hb:w.heap.size≤b): ∀(vs:List Value) (o:Nat) (W:World),Below w.heap.size w W→Below w.heap.size w (W.setCells b o vs)
 |[],_,_,h=>h
 |v::vs,o,W,h=>by
  rw[World.setCells];exact below_setCellsM b hb vs (o+1) _ (h.setCell hb v)
theorem range_later {W W':World}{b o:Nat}{cs:List Value}(h:W.rangeAt b o cs)(hb:Below W.heap.size W W'):W'.rangeAt b o cs:=fun j v hv=>(hb.cell (block_lt_of_cell (h j v hv))).trans (h j v hv)
structure MSt (w:World)(n g gk gm mb:Nat)(day:Int)(lv:Value)(l:List Ru)(K:Nat→Bool)(M:Nat→Nat→Bool)(W:World):Prop where
 bel:Below w.heap.size w W
 blk:W.heap[g]? =some (.cells #[.int .i64 day,lv,.map (some mb),.slice (some ⟨gk,0,none⟩) n n,.slice (some ⟨gm,0,none⟩) n n] 71 (0,0))
 known:W.heap[gk]? =some (.cells (bcells n K) 4 (0,0))
 meant: ∀i,i<n→W.rangeAt gm (i*23) (mv (M i)).toList
 held: ∃cs,W.heap[gm]? =some (.cells cs 37 (0,0))
 nums:MapN W mb l
 lo:w.heap.size≤g∧w.heap.size≤gk∧w.heap.size≤gm
 ne:g≠gk∧g≠gm∧gk≠gm∧mb≠gk∧mb≠gm
variable {w W W':World} {n g gk gm mb:Nat} {day:Int} {lv:Value} {l:List Ru} {K:Nat→Bool} {M:Nat→Nat→Bool}
theorem MSt.later (h:MSt w n g gk gm mb day lv l K M W)(hb:Below W.heap.size W W'):MSt w n g gk gm mb day lv l K M W':=
 ⟨h.bel.trans (hb.mono h.bel.size),(hb.block _ (lt_of_block h.blk)).trans h.blk,(hb.block _ (lt_of_block h.known)).trans h.known,fun i hi=>range_later (h.meant i hi) hb,by
   obtain⟨cs,hc⟩:=h.held;exact⟨cs,(hb.block _ (lt_of_block hc)).trans hc⟩,h.nums.later (hb.block _ (lt_of_map h.nums)),h.lo,h.ne⟩
theorem MSt.mark (h:MSt w n g gk gm mb day lv l K M W)(i:Nat):MSt w n g gk gm mb day lv l (upd K i) M (W.setCell ⟨gk,i,none⟩ (.bool true)):=by
 obtain⟨n1,n2,n3,n4,n5⟩:=h.ne;have ho: ∀q,q≠gk→(W.setCell ⟨gk,i,none⟩ (.bool true)).heap[q]? =W.heap[q]? :=fun q hq=>heap_setCell_other W ⟨gk,i,none⟩ q _ hq;refine⟨h.bel.setCell h.lo.2.1 _,(ho _ n1).trans h.blk,?_,fun j hj=> ?_,?_,h.nums.later (ho _ n4),h.lo,h.ne⟩
 ·rw[←bcells_set];exact heap_setCell_same W gk i _ _ _ h.known
 ·intro k v hv;rw[←h.meant j hj k v hv];exact World.cell?_setCell_other _ _ _ _ (fun e=>n3 (congrArg Addr.block e))
 ·obtain⟨cs,hc⟩:=h.held;exact⟨cs,(ho _ (fun e=>n3 e.symm)).trans hc⟩
theorem heap_setCells_cells (b:Nat){t:TypeId}: ∀(vs:List Value) (o:Nat) (W:World),(∃cs,W.heap[b]? =some (.cells cs t (0,0)))→ ∃cs,(W.setCells b o vs).heap[b]? =some (.cells cs t (0,0))
 |[],_,_,h=>h
 |v::vs,o,W,h=>by
  rw[World.setCells];obtain⟨cs,hc⟩:=h;exact heap_setCells_cells b vs (o+1) _ ⟨_,heap_setCell_same W b o cs t v hc⟩
def updM (M:Nat→Nat→Bool)(i:Nat)(f:Nat→Bool):Nat→Nat→Bool:=fun j=>if j=i then f else M j
theorem MSt.there (h:MSt w n g gk gm mb day lv l K M W){i:Nat}(hi:i<n):W.there gm (i*23) 23:=fun j hj=>by
 obtain⟨cs,hc⟩:=h.held;refine⟨(h.meant i hi).isSome j (by rw[Array.length_toList,mv_size];exact hj),frozen_of_row _ _ _ _ _ hc⟩
theorem MSt.put (h:MSt w n g gk gm mb day lv l K M W){i:Nat}(hi:i<n)(f:Nat→Bool):MSt w n g gk gm mb day lv l K (updM M i f) (W.setCells gm (i*23) (mv f).toList):=by
 obtain⟨n1,n2,n3,n4,n5⟩:=h.ne;have ho: ∀q,q≠gm→(W.setCells gm (i*23) (mv f).toList).heap[q]? =W.heap[q]? :=fun q hq=>heap_setCells_other gm _ _ W q hq;refine⟨below_setCellsM gm h.lo.2.2 _ _ _ h.bel,(ho _ n2).trans h.blk,(ho _ n3).trans h.known,fun j hj=> ?_,heap_setCells_cells gm _ _ W h.held,h.nums.later (ho _ n5),h.lo,h.ne⟩;by_cases e:j=i
 ·subst e;rw[updM,if_pos rfl];exact World.rangeAt_setCells_same W gm _ _ (by rw[Array.length_toList,mv_size];exact h.there hj)
 ·rw[updM,if_neg e];refine World.rangeAt_setCells_apart (h.meant j hj) gm _ _ (.inr ?_);rw[Array.length_toList,Array.length_toList,mv_size,mv_size];omega
end Go.Proofs.YtpmobjgnmidolaaDoor
/- What a rule means, as the program finds it out: a rule that is known. -/
namespace Go.Proofs.YtpmobjgnmidolaaDoor
open Go.RowKit Lx
variable {w W W':World} {n g gk gm mb:Nat} {day:Int} {lv:Value} {l:List Ru} {K:Nat→Bool} {M:Nat→Nat→Bool}
theorem maskT6:Tryd.prog.underlying 37=some (.array 23 35):=by kernel_rfl
theorem maskLen (f:Nat→Bool):(Tryd.prog.info? 37).map (fun i=>i.size)=some (mv f).toList.length:=by
 rw[Array.length_toList];exact maskSize f
theorem wpList_load_mask {W:World}{ops:Array Oper}{rest:List Oper}{op:Oper}{a:Act}{Q:Exit→Act→World→Prop}(hgd:op.guard=none)(x:Operand)(ho:op.op= .load 37 x)(b o:Nat)(hx:a.eval x= .pointer (some ⟨b,o,none⟩))(f:Nat→Bool)(hc:W.rangeAt b o (mv f).toList)
  (h:wpList Tryd.prog ops Q rest (a.put op.dst (.agg (mv f))) W):wpList Tryd.prog ops Q (op::rest) a W:=
 wpList_load_mid hgd 37 x ho b o hx (mv f).toList _ hc maskT6 rfl (maskLen f) (by rw[Array.toArray_toList];exact h)
theorem wp_load_mask {op:Oper}{a:Act}{W:World}{K:Act→World→Prop}{Q:Exit→Act→World→Prop}(x:Operand)(ho:op.op= .load 37 x)(b o:Nat)(hx:a.eval x= .pointer (some ⟨b,o,none⟩))(f:Nat→Bool)(hc:W.rangeAt b o (mv f).toList)
  (h:K (a.put op.dst (.agg (mv f))) W):op.wp Tryd.prog a W K Q:=
 wp_load_mid 37 x ho b o hx (mv f).toList _ hc maskT6 rfl (maskLen f) (by rw[Array.toArray_toList];exact h)
set_option maxRecDepth 100000 in
set_option maxHeartbeats 1000000 in
theorem rule_known (h:MSt w n g gk gm mb day lv l K M W){i:Nat}(hi:i<n)(hn:n≤40)(hK:K i=true):
  Calls Tryd.prog 25 #[.pointer (some ⟨g,0,none⟩),.int .i64 (i:Int)] W fun e w'=>e= .returned (.agg (mv (M i)))∧Below W.heap.size W w':=by
 have hz:=mv_lit;have bA:=(Below.refl W.heap.size W).alloc (Nat.le_refl _) (.cells (mv fun _=>false) 37);have nA:=heap_alloc_new W (.cells (mv fun _=>false) 37);have h':=h.later bA;generalize hwA:W.alloc (.cells (mv fun _=>false) 37)=WA at*;have k3:=(cell_of_row _ _ 3 _ _ _ h'.blk).trans rfl;have k4:=(cell_of_row _ _ 4 _ _ _ h'.blk).trans rfl;have ki:=(cell_of_row _ _ i _ _ _ h'.known).trans (bcells_at hi);rw[hK]at ki;have hi0:(0:Int)≤(i:Int):=by omega
 have hin:(i:Int)<(n:Int):=by omega
 have hn40:(n:Int)≤40:=by omega
 have HM:=hid5 (h'.meant i hi);clear h hK h';go_enter Tryd.func25,Tryd.ntmps25
 go_wp2_with(first
  |(refine wpList_load_mask rfl _ rfl gm (i*23) rfl (M i) HM.out ?_)
  |(refine wpList_store_row rfl 37 _ _ rfl _ _ rfl rfl _ _ nA (maskSize _) (by simp[mv_size]) (mv_all _) ?_))
 refine bodyPost_ret (v:= .agg (mv (M i))) ?_ rfl ⟨rfl,?_⟩
 ·exact results_cell_row rfl _ _ W.heap.size _ _ _ _ rfl (setRow_heap _ _ _ _ _ _ nA) maskType rfl (maskSize _)
 ·exact below_setRow bA (Nat.le_refl _) _
end Go.Proofs.YtpmobjgnmidolaaDoor
/- The week's bit, as the program and as the document ask for it. -/
namespace Go.Proofs.YtpmobjgnmidolaaDoor
open Go.RowKit Lx
end Go.Proofs.YtpmobjgnmidolaaDoor
/- What is kept while rules' meanings are found out. -/
namespace Go.Proofs.YtpmobjgnmidolaaDoor
open Go.RowKit Lx
variable {w W W':World} {n g gk gm mb:Nat} {day:Int} {lv:Value} {l:List Ru} {K:Nat→Bool} {M:Nat→Nat→Bool}
theorem MSt.keep (h:MSt w n g gk gm mb day lv l K M W)(hb:Below w.heap.size w W')(hk: ∀q,q=g∨q=gk∨q=gm∨q=mb→W'.heap[q]? =W.heap[q]?):MSt w n g gk gm mb day lv l K M W':=by
 refine⟨hb,(hk _ (by simp)).trans h.blk,(hk _ (by simp)).trans h.known,fun i hi j v hv=> ?_,?_,h.nums.later (hk _ (by simp)),h.lo,h.ne⟩
 ·exact(World.cell?_of_block (hk _ (by simp))).trans (h.meant i hi j v hv)
 ·obtain⟨cs,hc⟩:=h.held;exact⟨cs,(hk _ (by simp)).trans hc⟩
structure MD where
 w:World
 n:Nat
 g:Nat
 gk:Nat
 gm:Nat
 mb:Nat
 day:Int
 lv:Value
 l:List Ru
 V:Nat→Nat→Bool
def MD.st (D:MD)(K:Nat→Bool)(M:Nat→Nat→Bool)(W:World):Prop:=MSt D.w D.n D.g D.gk D.gm D.mb D.day D.lv D.l K M W
def MI (D:MD)(K:Nat→Bool)(W:World):Prop:= ∃M,D.st K M W∧ ∀i,i<D.n→K i=true→M i=D.V i
def Kp (D:MD)(W W':World):Prop:=W.heap.size≤W'.heap.size∧ ∀q,q<W.heap.size→q≠D.gk→q≠D.gm→W'.heap[q]? =W.heap[q]?
def MQ (D:MD)(P:(Nat→Bool)→Prop)(W W':World):Prop:=(∃K,MI D K W'∧P K)∧Kp D W W'
def Les (K K':Nat→Bool):Prop:= ∀i,K i=true→K' i=true
variable {D:MD} {P:(Nat→Bool)→Prop} {W0:World} {K0 K1:Nat→Bool}
theorem Les.refl (K:Nat→Bool):Les K K:=fun _ h=>h
theorem Kp.refl (D:MD)(W:World):Kp D W W:=⟨Nat.le_refl _,fun _ _ _ _=>rfl⟩
theorem Kp.trans (h:Kp D W0 W)(h':Kp D W W'):Kp D W0 W':=⟨Nat.le_trans h.1 h'.1,fun q a b c=>(h'.2 q (Nat.lt_of_lt_of_le a h.1) b c).trans (h.2 q a b c)⟩
theorem Kp.below (h:Below W.heap.size W W'):Kp D W W':=⟨h.size,fun q a _ _=>h.block q a⟩
theorem MI.later (h:MI D K W)(hb:Below W.heap.size W W'):MI D K W':=by
 obtain⟨M,h1,h2⟩:=h;exact⟨M,MSt.later h1 hb,h2⟩
theorem MI.bel (h:MI D K W):Below D.w.heap.size D.w W:=by
 obtain⟨M,h1,h2⟩:=h;exact MSt.bel h1
theorem MI.blk (h:MI D K W):W.heap[D.g]? =some (.cells #[.int .i64 D.day,D.lv,.map (some D.mb),.slice (some ⟨D.gk,0,none⟩) D.n D.n,.slice (some ⟨D.gm,0,none⟩) D.n D.n] 71 (0,0)):=by
 obtain⟨M,h1,h2⟩:=h;exact MSt.blk h1
theorem MI.nums (h:MI D K W):MapN W D.mb D.l:=by
 obtain⟨M,h1,h2⟩:=h;exact MSt.nums h1
theorem MI.lts (h:MI D K W): ∀q,q=D.g∨q=D.gk∨q=D.gm∨q=D.mb→q<W.heap.size:=by
 obtain⟨M,h1,h2⟩:=h;rintro q (rfl|rfl|rfl|rfl)
 ·exact lt_of_block (MSt.blk h1)
 ·exact lt_of_block (MSt.known h1)
 ·obtain⟨cs,hc⟩:=MSt.held h1;exact lt_of_block hc
 ·exact lt_of_map (MSt.nums h1)
theorem MQ.bel (h:MQ D P W W'):Below D.w.heap.size D.w W':=by
 obtain⟨⟨K,h1,_⟩,_⟩:=h;exact h1.bel
theorem MQ.blk (h:MQ D P W W'):W'.heap[D.g]? =some (.cells #[.int .i64 D.day,D.lv,.map (some D.mb),.slice (some ⟨D.gk,0,none⟩) D.n D.n,.slice (some ⟨D.gm,0,none⟩) D.n D.n] 71 (0,0)):=by
 obtain⟨⟨K,h1,_⟩,_⟩:=h;exact h1.blk
theorem MQ.nums (h:MQ D P W W'):MapN W' D.mb D.l:=by
 obtain⟨⟨K,h1,_⟩,_⟩:=h;exact h1.nums
theorem MQ.start (h:MI D K W)(hb:Below W.heap.size W W'):MQ D (Les K) W W':=⟨⟨K,h.later hb,Les.refl K⟩,Kp.below hb⟩
theorem MQ.up (h:MQ D (Les K0) W0 W)(hc: ∀K,MI D K W→MQ D (Les K) W W'):MQ D (Les K0) W0 W':=by
 obtain⟨⟨K1,h1,h2⟩,h3⟩:=h;obtain⟨⟨K2,h4,h5⟩,h6⟩:=hc K1 h1;exact⟨⟨K2,h4,fun i hi=>h5 i (h2 i hi)⟩,h3.trans h6⟩
theorem MQ.on (h2:Les K0 K1)(h3:Kp D W0 W)(h:MQ D (Les K1) W W'):MQ D (Les K0) W0 W':=by
 obtain⟨⟨K2,h4,h5⟩,h6⟩:=h;exact⟨⟨K2,h4,fun i hi=>h5 i (h2 i hi)⟩,h3.trans h6⟩
theorem MQ.onP (h2:Les K0 K1)(h3:Kp D W0 W)(h:MQ D (fun K'=>Les K1 K'∧P K') W W'):MQ D (Les K0) W0 W':=by
 obtain⟨⟨K2,h4,h5,_⟩,h6⟩:=h;exact⟨⟨K2,h4,fun i hi=>h5 i (h2 i hi)⟩,h3.trans h6⟩
theorem MQ.low (h:MQ D (Les K0) W0 W)(hb:Below W.heap.size W W'):MQ D (Les K0) W0 W':=h.up fun _ h'=>MQ.start h' hb
theorem MQ.drew (h:MQ D (Les K0) W0 W):MQ D (Les K0) W0 W.drew:=h.low (Below.refl _ _).drew
theorem MQ.ret {W1:World}(h0:MI D K W)(hb:Below W.heap.size W W1){r:Nat}(hr:W.heap.size≤r)(h:MQ D P W1 W')(cs:Array Value):MQ D P W (W'.setRow r cs):=by
 obtain⟨⟨K2,⟨M,h1,h2⟩,h3⟩,h4⟩:=h;have hlt:=h0.lts;have hs:=h0.bel.size;refine⟨⟨K2,⟨M,MSt.keep h1 (below_setRow (MSt.bel h1) (by omega) _) fun q hq=>setRow_other _ _ _ _ (by have:=hlt q hq;omega),h2⟩,h3⟩,?_,fun q a b c=> ?_⟩
 ·have:=hb.size;have:=h4.1;simp only[World.setRow,Array.size_modify];omega
 ·rw[setRow_other _ _ _ _ (by omega),h4.2 q (by have:=hb.size;omega) b c];exact hb.block q a
theorem MQ.own {W1:World}(h0:MI D K W)(h:MQ D P W1 W'){r:Nat}(hr:W.heap.size≤r){o:Obj}(ho:W1.heap[r]? =some o):W'.heap[r]? =some o:=by
 have h1:=h0.lts D.gk (by simp);have h2:=h0.lts D.gm (by simp);exact(h.2.2 r (lt_of_block ho) (by omega) (by omega)).trans ho
theorem MQ.mask (h:MQ D (Les K0) W0 W){i:Nat}(hi:i<D.n): ∃K M,D.st K M W∧(∀j,j<D.n→K j=true→M j=D.V j)∧Les K0 K∧W.there D.gm (i*23) 23:=by
 obtain⟨⟨K,⟨M,h1,h2⟩,h3⟩,_⟩:=h;exact⟨K,M,h1,h2,h3,MSt.there h1 hi⟩
end Go.Proofs.YtpmobjgnmidolaaDoor
/- What a rule means, as the program finds it out: a rule that is not known yet. Written by genmnf.py. -/
namespace Go.Proofs.YtpmobjgnmidolaaDoor
open Go.RowKit Lx
theorem size_setCellsM (b:Nat): ∀(vs:List Value) (o:Nat) (w:World),(w.setCells b o vs).heap.size=w.heap.size
 |[],_,_=>rfl
 |v::vs,o,w=>by
  rw[World.setCells,size_setCellsM b vs (o+1)];simp[World.setCell]
set_option maxRecDepth 100000 in
set_option maxHeartbeats 2000000 in
theorem rule_new {D:MD}{K0:Nat→Bool}{W:World}{us:List (Ru×Value)}{b o cv i:Nat}{u:Ru}{ps:Option Addr}{cs:Nat}(hin:InR D.w D.lv us)(hn:D.n≤40)(hlv:D.lv= .slice (some ⟨b,o,none⟩) D.n cv)(hlen:us.length=D.n)(hu:us[i]? =some (u,.slice ps u.2.kids.length cs))(h:MI D K0 W)(hK0:K0 i=false)
  (hE: ∀K W,MI D K W→Calls Tryd.prog 59 #[.pointer (some ⟨D.g,0,none⟩),exV u.2 (.slice ps u.2.kids.length cs)] W fun r W'=>r= .returned (.agg (mv (D.V i)))∧MQ D (Les K) W W'):
  Calls Tryd.prog 25 #[.pointer (some ⟨D.g,0,none⟩),.int .i64 (i:Int)] W fun r W'=>r= .returned (.agg (mv (D.V i)))∧MQ D (fun K=>Les K0 K∧K i=true) W W':=by
 have hi:i<D.n:=by rw[←hlen];exact(List.getElem?_eq_some_iff.1 hu).1
 have HV:=hid5 hlv
 obtain⟨q1,q2,q3,q4,q5⟩:D.w.cell? ⟨b,o+i*6+1,none⟩=some (.int .i64 u.2.kind)∧D.w.cell? ⟨b,o+i*6+1+1,none⟩=some (.int .i64 u.2.a)∧D.w.cell? ⟨b,o+i*6+1+2,none⟩=some (.int .i64 u.2.b)∧D.w.cell? ⟨b,o+i*6+1+3,none⟩=some (.string ⟨u.2.name.toArray⟩)∧D.w.cell? ⟨b,o+i*6+1+4,none⟩=some (.slice ps u.2.kids.length cs):=by
  rw[hlv,←hlen]at hin;obtain⟨g',o',e,_,c1,c2,c3,c4,c5⟩:=hin.cells i _ hu;cases e;exact⟨c1,c2,c3,c4,c5⟩
 have hz:=mv_lit;have bA:=(Below.refl W.heap.size W).alloc (Nat.le_refl _) (.cells (mv fun _=>false) 37);have nA:=heap_alloc_new W (.cells (mv fun _=>false) 37);generalize hwA:W.alloc (.cells (mv fun _=>false) 37)=WA at*;have hA:=h.later bA;have hJ0:MQ D (Les K0) WA WA:=MQ.start hA (Below.refl _ _);have k3:=(cell_of_row _ _ 3 _ _ _ hA.blk).trans rfl
 have ki:WA.cell? ⟨D.gk,i,none⟩=some (.bool false):=by
  obtain⟨M,h1,_⟩:=hA;rw[←hK0];exact(cell_of_row _ _ i _ _ _ (MSt.known h1)).trans (bcells_at hi)
 have hi0:(0:Int)≤(i:Int):=by omega
 have hiI:(i:Int)<(D.n:Int):=by omega
 have hn40:(D.n:Int)≤40:=by omega
 unfold exV at hE;have HE:=hid5 hE;clear hlv hin hK0 hu hlen hn hE;go_enter Tryd.func25,Tryd.ntmps25;go_wp2_with fail;clear k3 ki hwA hA;refine wp_region_lastK (MQ D (Les K0) WA) (hJ0.drew) (by kernel_rfl) (by kernel_rfl) (by kernel_rfl) (by kernel_rfl) 16 (by kernel_rfl) (by kernel_rfl) [(13,.pointer (some ⟨D.g,0,none⟩)),(14,.pointer (some ⟨D.g,0,none⟩)),(15,.pointer (some ⟨D.g,4,none⟩)),(16,.slice (some ⟨D.gm,0,none⟩) D.n D.n),(17,.int .i64 (i:Int)),(18,.pointer (some ⟨D.g,0,none⟩)),(19,.pointer (some ⟨D.g,0,none⟩)),(20,.pointer (some ⟨D.g,0,none⟩)),(21,.pointer (some ⟨D.g,1,none⟩)),(22,.slice (some ⟨b,o,none⟩) D.n cv),(23,.int .i64 (i:Int)),(24,.pointer (some ⟨b,o+i*6,none⟩)),(25,.pointer (some ⟨b,o+i*6+1,none⟩)),(26,.agg #[.int .i64 u.2.kind,.int .i64 u.2.a,.int .i64 u.2.b,.string ⟨u.2.name.toArray⟩,.slice ps u.2.kids.length cs]),(27,.agg (mv (D.V i))),(28,.pointer (some ⟨D.gm,i*23,none⟩))] (by kernel_rfl) (by kernel_rfl) ?_ ?_
 ·intro i' s v o' L A W2 ho hv hdep hJ hkept hhas;match i',ho,hv with
  |0,ho,hv=>
   cases Option.some.inj ho;cases Option.some.inj hv;have h0:A.tmps[0]?.getD undef= .pointer (some ⟨D.g,0,none⟩):=(gd A 0).trans (hkept 0 (by kernel_rfl));refine wpOp_step rfl (fun K hK=> ?_);go_simp;exact hK _ _ ⟨rfl,hJ⟩
  |1,ho,hv=>
   cases Option.some.inj ho;cases Option.some.inj hv;have h13:A.tmps[13]?.getD undef= .pointer (some ⟨D.g,0,none⟩):=(gd A 13).trans (hhas 0 13 _ rfl (hdep ⟨0,.data⟩ (by simp) rfl));refine wpOp_step rfl (fun K hK=> ?_);go_simp;exact hK _ _ ⟨rfl,hJ⟩
  |2,ho,hv=>
   cases Option.some.inj ho;cases Option.some.inj hv;have h14:A.tmps[14]?.getD undef= .pointer (some ⟨D.g,0,none⟩):=(gd A 14).trans (hhas 1 14 _ rfl (hdep ⟨1,.data⟩ (by simp) rfl));refine wpOp_step rfl (fun K hK=> ?_);go_simp;exact hK _ _ ⟨rfl,hJ⟩
  |3,ho,hv=>
   cases Option.some.inj ho;cases Option.some.inj hv;have h15:A.tmps[15]?.getD undef= .pointer (some ⟨D.g,4,none⟩):=(gd A 15).trans (hhas 2 15 _ rfl (hdep ⟨2,.data⟩ (by simp) rfl));have k4:W2.cell? ⟨D.g,4,none⟩=some (.slice (some ⟨D.gm,0,none⟩) D.n D.n):=(cell_of_row _ _ 4 _ _ _ hJ.blk).trans rfl;refine wpOp_step rfl (fun K hK=> ?_);go_simp;exact hK _ _ ⟨rfl,hJ⟩
  |4,ho,hv=>
   cases Option.some.inj ho;cases Option.some.inj hv;have h1:A.tmps[1]?.getD undef= .int .i64 (i:Int):=(gd A 1).trans (hkept 1 (by kernel_rfl));refine wpOp_step rfl (fun K hK=> ?_);go_simp;exact hK _ _ ⟨rfl,hJ⟩
  |5,ho,hv=>
   cases Option.some.inj ho;cases Option.some.inj hv;have h0:A.tmps[0]?.getD undef= .pointer (some ⟨D.g,0,none⟩):=(gd A 0).trans (hkept 0 (by kernel_rfl));refine wpOp_step rfl (fun K hK=> ?_);go_simp;exact hK _ _ ⟨rfl,hJ⟩
  |6,ho,hv=>
   cases Option.some.inj ho;cases Option.some.inj hv;have h0:A.tmps[0]?.getD undef= .pointer (some ⟨D.g,0,none⟩):=(gd A 0).trans (hkept 0 (by kernel_rfl));refine wpOp_step rfl (fun K hK=> ?_);go_simp;exact hK _ _ ⟨rfl,hJ⟩
  |7,ho,hv=>
   cases Option.some.inj ho;cases Option.some.inj hv;have h19:A.tmps[19]?.getD undef= .pointer (some ⟨D.g,0,none⟩):=(gd A 19).trans (hhas 6 19 _ rfl (hdep ⟨6,.data⟩ (by simp) rfl));refine wpOp_step rfl (fun K hK=> ?_);go_simp;exact hK _ _ ⟨rfl,hJ⟩
  |8,ho,hv=>
   cases Option.some.inj ho;cases Option.some.inj hv;have h20:A.tmps[20]?.getD undef= .pointer (some ⟨D.g,0,none⟩):=(gd A 20).trans (hhas 7 20 _ rfl (hdep ⟨7,.data⟩ (by simp) rfl));refine wpOp_step rfl (fun K hK=> ?_);go_simp;exact hK _ _ ⟨rfl,hJ⟩
  |9,ho,hv=>
   cases Option.some.inj ho;cases Option.some.inj hv;have h21:A.tmps[21]?.getD undef= .pointer (some ⟨D.g,1,none⟩):=(gd A 21).trans (hhas 8 21 _ rfl (hdep ⟨8,.data⟩ (by simp) rfl));have k1:W2.cell? ⟨D.g,1,none⟩=some (.slice (some ⟨b,o,none⟩) D.n cv):=((cell_of_row _ _ 1 _ _ _ hJ.blk).trans rfl).trans (congrArg some HV.out);refine wpOp_step rfl (fun K hK=> ?_);go_simp;exact hK _ _ ⟨rfl,hJ⟩
  |10,ho,hv=>
   cases Option.some.inj ho;cases Option.some.inj hv;have h1:A.tmps[1]?.getD undef= .int .i64 (i:Int):=(gd A 1).trans (hkept 1 (by kernel_rfl));refine wpOp_step rfl (fun K hK=> ?_);go_simp;exact hK _ _ ⟨rfl,hJ⟩
  |11,ho,hv=>
   cases Option.some.inj ho;cases Option.some.inj hv;have h22:A.tmps[22]?.getD undef= .slice (some ⟨b,o,none⟩) D.n cv:=(gd A 22).trans (hhas 9 22 _ rfl (hdep ⟨9,.data⟩ (by simp) rfl));have h23:A.tmps[23]?.getD undef= .int .i64 (i:Int):=(gd A 23).trans (hhas 10 23 _ rfl (hdep ⟨10,.data⟩ (by simp) rfl));refine wpOp_step rfl (fun K hK=> ?_);go_simp;exact hK _ _ ⟨rfl,hJ⟩
  |12,ho,hv=>
   cases Option.some.inj ho;cases Option.some.inj hv;have h24:A.tmps[24]?.getD undef= .pointer (some ⟨b,o+i*6,none⟩):=(gd A 24).trans (hhas 11 24 _ rfl (hdep ⟨11,.data⟩ (by simp) rfl));refine wpOp_step rfl (fun K hK=> ?_);go_simp;exact hK _ _ ⟨rfl,hJ⟩
  |13,ho,hv=>
   cases Option.some.inj ho;cases Option.some.inj hv;have h25:A.tmps[25]?.getD undef= .pointer (some ⟨b,o+i*6+1,none⟩):=(gd A 25).trans (hhas 12 25 _ rfl (hdep ⟨12,.data⟩ (by simp) rfl));have e1:W2.cell? ⟨b,o+i*6+1,none⟩=some (.int .i64 u.2.kind):=(hJ.bel.cell (block_lt_of_cell q1)).trans q1;have e2:W2.cell? ⟨b,o+i*6+1+1,none⟩=some (.int .i64 u.2.a):=(hJ.bel.cell (block_lt_of_cell q2)).trans q2;have e3:W2.cell? ⟨b,o+i*6+1+2,none⟩=some (.int .i64 u.2.b):=(hJ.bel.cell (block_lt_of_cell q3)).trans q3;have e4:W2.cell? ⟨b,o+i*6+1+3,none⟩=some (.string ⟨u.2.name.toArray⟩):=(hJ.bel.cell (block_lt_of_cell q4)).trans q4;have e5:W2.cell? ⟨b,o+i*6+1+4,none⟩=some (.slice ps u.2.kids.length cs):=(hJ.bel.cell (block_lt_of_cell q5)).trans q5;refine wpOp_step rfl (fun K hK=> ?_);go_simp;exact hK _ _ ⟨rfl,hJ⟩
  |14,ho,hv=>
   cases Option.some.inj ho;cases Option.some.inj hv;have h18:A.tmps[18]?.getD undef= .pointer (some ⟨D.g,0,none⟩):=(gd A 18).trans (hhas 5 18 _ rfl (hdep ⟨5,.data⟩ (by simp) rfl));have h26:A.tmps[26]?.getD undef= .agg #[.int .i64 u.2.kind,.int .i64 u.2.a,.int .i64 u.2.b,.string ⟨u.2.name.toArray⟩,.slice ps u.2.kids.length cs]:=(gd A 26).trans (hhas 13 26 _ rfl (hdep ⟨13,.data⟩ (by simp) rfl));obtain⟨⟨K1,hM1,hle1⟩,hkp1⟩:=id hJ;refine wpOp_step rfl (fun K hK=> ?_);go_simp;refine(HE.out K1 W2 hM1).mono ?_;rintro e' W' ⟨rfl,hb'⟩;exact hK _ _ ⟨rfl,MQ.on hle1 hkp1 hb'⟩
  |15,ho,hv=>
   cases Option.some.inj ho;cases Option.some.inj hv;have h16:A.tmps[16]?.getD undef= .slice (some ⟨D.gm,0,none⟩) D.n D.n:=(gd A 16).trans (hhas 3 16 _ rfl (hdep ⟨3,.data⟩ (by simp) rfl));have h17:A.tmps[17]?.getD undef= .int .i64 (i:Int):=(gd A 17).trans (hhas 4 17 _ rfl (hdep ⟨4,.data⟩ (by simp) rfl));refine wpOp_step rfl (fun K hK=> ?_);go_simp;exact hK _ _ ⟨rfl,hJ⟩
  |kk+16,ho,hv=>simp at hv
 ·intro o' W2 A ho hJ hA;obtain⟨K3,M3,hst,hrt,hle,hth⟩:=hJ.mask hi;cases Option.some.inj ho
  have hx:A.eval (.tmp 28)= .pointer (some ⟨D.gm,i*23,none⟩):=by
   rw[hA];simp only[putAll_cons,putAll_nil,Act.put,List.setIfInBounds_toArray,List.set_cons_succ,List.set_cons_zero];rfl
  have hy:A.eval (.tmp 27)= .agg (mv (D.V i)):=by
   rw[hA];simp only[putAll_cons,putAll_nil,Act.put,List.setIfInBounds_toArray,List.set_cons_succ,List.set_cons_zero];rfl
  refine wpOp_step rfl (fun K hK=> ?_);show Oper.wp _ _ _ _ _ _;refine wp_store_mid 37 _ _ rfl D.gm (i*23) (mv (D.V i)) hx hy (by rw[mv_size];exact hth) (maskSize _) (mv_all _) ?_;have h3:D.st K3 (updM M3 i (D.V i)) (W2.setCells D.gm (i*23) (mv (D.V i)).toList):=MSt.put hst hi (D.V i);refine hK _ _ ⟨⟨undef,rfl⟩,?_⟩;subst hA;simp only[putAll_cons,putAll_nil,Act.put,List.setIfInBounds_toArray,List.set_cons_succ,List.set_cons_zero];have n3:(W2.setCells D.gm (i*23) (mv (D.V i)).toList).heap[W.heap.size]? =some (.cells (mv fun _=>false) 37 (0,0)):=(heap_setCells_other D.gm _ _ W2 _ (by have:=h.lts D.gm (by simp);omega)).trans (hJ.own h (Nat.le_refl _) nA)
  have hk3:Kp D WA (W2.setCells D.gm (i*23) (mv (D.V i)).toList):=⟨by
   rw[size_setCellsM]
   exact hJ.2.1,fun q a b c=>(heap_setCells_other D.gm _ _ W2 q c).trans (hJ.2.2 q a b c)⟩
  clear hK hth hx hy;generalize W2.setCells D.gm (i*23) (mv (D.V i)).toList=W3 at*;have h4:D.st (upd K3 i) (updM M3 i (D.V i)) (W3.setCell ⟨D.gk,i,none⟩ (.bool true)):=MSt.mark h3 i;have n4:(W3.setCell ⟨D.gk,i,none⟩ (.bool true)).heap[W.heap.size]? =some (.cells (mv fun _=>false) 37 (0,0)):=(heap_setCell_other W3 ⟨D.gk,i,none⟩ _ _ (by show W.heap.size≠D.gk;have:=h.lts D.gk (by simp);omega)).trans n3
  have hQ:MQ D (fun K'=>Les K0 K'∧K' i=true) WA (W3.setCell ⟨D.gk,i,none⟩ (.bool true)):=by
   refine⟨⟨upd K3 i,⟨_,h4,fun j hj hKj=> ?_⟩,fun j hj=> ?_,by simp[upd]⟩,?_,fun q a b c=>(heap_setCell_other W3 ⟨D.gk,i,none⟩ q _ b).trans (hk3.2 q a b c)⟩
   ·by_cases e:j=i
    ·subst e;simp[updM]
    ·rw[updM,if_neg e];exact hrt j hj (by simpa[upd,e] using hKj)
   ·have:=hle j hj;show(decide (j=i)||K3 j)=true;rw[this,Bool.or_true]
   ·simpa[World.setCell] using hk3.1
  have k3:=(cell_of_row _ _ 3 _ _ _ (MSt.blk h3)).trans rfl;have ki:=(cell_of_row _ _ i _ _ _ (MSt.known h3)).trans (bcells_at hi);have kf:=frozen_of_row _ _ i _ _ (MSt.known h3);have k4:=(cell_of_row _ _ 4 _ _ _ (MSt.blk h4)).trans rfl;have hm4:=MSt.meant h4 i hi;rw[show updM M3 i (D.V i) i=D.V i by simp[updM]]at hm4;have HM:=hid5 hm4;have HQ:=hid5 (MQ.ret h bA (Nat.le_refl _) hQ (mv (D.V i)));clear hm4 hQ h4 h3 hst hrt hle hJ hk3;generalize hw4:W3.setCell ⟨D.gk,i,none⟩ (.bool true)=W4 at*
  go_wp2_with(first
   |(refine wpList_load_mask rfl _ rfl D.gm (i*23) rfl (D.V i) HM.out ?_)
   |(refine wpList_store_row rfl 37 _ _ rfl _ _ rfl rfl _ _ n4 (maskSize _) (by simp[mv_size]) (mv_all _) ?_))
  refine bodyPost_ret (v:= .agg (mv (D.V i))) ?_ rfl ⟨rfl,?_⟩
  ·exact results_cell_row rfl _ _ W.heap.size _ _ _ _ rfl (setRow_heap _ _ _ _ _ _ n4) maskType rfl (maskSize _)
  ·exact HQ.out
end Go.Proofs.YtpmobjgnmidolaaDoor
/- What an expression's kid means, as the program finds it out. Written by genmng.py. -/
namespace Go.Proofs.YtpmobjgnmidolaaDoor
open Go.RowKit Lx
theorem MQ.far {D:MD}{P:(Nat→Bool)→Prop}{W1 W':World}(h:MQ D P W1 W'){r:Nat}(h1:r≠D.gk)(h2:r≠D.gm){o:Obj}(ho:W1.heap[r]? =some o):W'.heap[r]? =some o:=(h.2.2 r (lt_of_block ho) h1 h2).trans ho
set_option maxRecDepth 100000 in
set_option maxHeartbeats 1000000 in
theorem kid_any {D:MD}{K0:Nat→Bool}{W:World}{e k:Ex}{f:Nat→Bool}{bd be b o c j:Nat}{ps:Option Addr}{cs:Nat}(h:MI D K0 W)(hj:e.kids[j]? =some k)(hlen:e.kids.length<9223372036854775808)
  (hbd:W.heap[bd]? =some (.cells #[.pointer (some ⟨D.g,0,none⟩)] 113 (0,0))) (hbe:W.heap[be]? =some (.cells #[.int .i64 e.kind,.int .i64 e.a,.int .i64 e.b,.string ⟨e.name.toArray⟩,.slice (some ⟨b,o,none⟩) e.kids.length c] 50 (0,0)))
  (d1:bd≠D.gk) (d2:bd≠D.gm) (d3:be≠D.gk) (d4:be≠D.gm)
  (q0:D.w.cell? ⟨b,o+j*5,none⟩=some (.int .i64 k.kind)) (q1:D.w.cell? ⟨b,o+j*5+1,none⟩=some (.int .i64 k.a)) (q2:D.w.cell? ⟨b,o+j*5+2,none⟩=some (.int .i64 k.b)) (q3:D.w.cell? ⟨b,o+j*5+3,none⟩=some (.string ⟨k.name.toArray⟩)) (q4:D.w.cell? ⟨b,o+j*5+4,none⟩=some (.slice ps k.kids.length cs))
  (hE: ∀K W,MI D K W→Calls Tryd.prog 59 #[.pointer (some ⟨D.g,0,none⟩),exV k (.slice ps k.kids.length cs)] W fun r W'=>r= .returned (.agg (mv f))∧MQ D (Les K) W W'):
  Calls Tryd.prog 75 #[.int .i64 (j:Int),.pointer (some ⟨bd,0,none⟩),.pointer (some ⟨be,0,none⟩)] W fun r W'=>r= .returned (.agg (mv f))∧MQ D (Les K0) W W':=by
 have hjl:(j:Int)<(e.kids.length:Int):=by have:=(List.getElem?_eq_some_iff.1 hj).1;omega
 have hj0:(0:Int)≤(j:Int):=by omega
 have hlI:(e.kids.length:Int)<9223372036854775808:=by omega
 have hz:=mv_lit;have bA:=(Below.refl W.heap.size W).alloc (Nat.le_refl _) (.cells (mv fun _=>false) 37);have nA:=heap_alloc_new W (.cells (mv fun _=>false) 37);generalize hwA:W.alloc (.cells (mv fun _=>false) 37)=WA at*;have hA:=h.later bA;have hJ0:MQ D (Les K0) WA WA:=MQ.start hA (Below.refl _ _);have hbd':=(bA.block _ (lt_of_block hbd)).trans hbd;have hbe':=(bA.block _ (lt_of_block hbe)).trans hbe;have HBd:=hid5 (fun(W2:World) (hJ:MQ D (Les K0) WA W2)=>hJ.far d1 d2 hbd');have HBe:=hid5 (fun(W2:World) (hJ:MQ D (Les K0) WA W2)=>hJ.far d3 d4 hbe');unfold exV at hE;have HE:=hid5 hE;clear hE hbd hbe hbd' hbe' d1 d2 d3 d4 hj hA;go_enter Tryd.func75,Tryd.ntmps75;go_wp2_with fail;clear hwA;refine wp_region_lastK (MQ D (Les K0) WA) (hJ0.drew) (by kernel_rfl) (by kernel_rfl) (by kernel_rfl) (by kernel_rfl) 7 (by kernel_rfl) (by kernel_rfl) [(5,.pointer (some ⟨D.g,0,none⟩)),(6,.pointer (some ⟨be,4,none⟩)),(7,.slice (some ⟨b,o,none⟩) e.kids.length c),(8,.int .i64 (j:Int)),(9,.pointer (some ⟨b,o+j*5,none⟩)),(10,.agg #[.int .i64 k.kind,.int .i64 k.a,.int .i64 k.b,.string ⟨k.name.toArray⟩,.slice ps k.kids.length cs]),(11,.agg (mv f))] (by kernel_rfl) (by kernel_rfl) ?_ ?_
 ·intro i' s v o' L A W2 ho hv hdep hJ hkept hhas;match i',ho,hv with
  |0,ho,hv=>
   cases Option.some.inj ho;cases Option.some.inj hv;have h1:A.tmps[1]?.getD undef= .pointer (some ⟨bd,0,none⟩):=(gd A 1).trans (hkept 1 (by kernel_rfl));have kd:W2.cell? ⟨bd,0,none⟩=some (.pointer (some ⟨D.g,0,none⟩)):=(cell_of_row _ _ 0 _ _ _ (HBd.out W2 hJ)).trans rfl;refine wpOp_step rfl (fun K hK=> ?_);go_simp;exact hK _ _ ⟨rfl,hJ⟩
  |1,ho,hv=>
   cases Option.some.inj ho;cases Option.some.inj hv;have h2:A.tmps[2]?.getD undef= .pointer (some ⟨be,0,none⟩):=(gd A 2).trans (hkept 2 (by kernel_rfl));refine wpOp_step rfl (fun K hK=> ?_);go_simp;exact hK _ _ ⟨rfl,hJ⟩
  |2,ho,hv=>
   cases Option.some.inj ho;cases Option.some.inj hv;have h6:A.tmps[6]?.getD undef= .pointer (some ⟨be,4,none⟩):=(gd A 6).trans (hhas 1 6 _ rfl (hdep ⟨1,.data⟩ (by simp) rfl));have ke:W2.cell? ⟨be,4,none⟩=some (.slice (some ⟨b,o,none⟩) e.kids.length c):=(cell_of_row _ _ 4 _ _ _ (HBe.out W2 hJ)).trans rfl;refine wpOp_step rfl (fun K hK=> ?_);go_simp;exact hK _ _ ⟨rfl,hJ⟩
  |3,ho,hv=>
   cases Option.some.inj ho;cases Option.some.inj hv;have h0:A.tmps[0]?.getD undef= .int .i64 (j:Int):=(gd A 0).trans (hkept 0 (by kernel_rfl));refine wpOp_step rfl (fun K hK=> ?_);go_simp;exact hK _ _ ⟨rfl,hJ⟩
  |4,ho,hv=>
   cases Option.some.inj ho;cases Option.some.inj hv;have h7:A.tmps[7]?.getD undef= .slice (some ⟨b,o,none⟩) e.kids.length c:=(gd A 7).trans (hhas 2 7 _ rfl (hdep ⟨2,.data⟩ (by simp) rfl));have h8:A.tmps[8]?.getD undef= .int .i64 (j:Int):=(gd A 8).trans (hhas 3 8 _ rfl (hdep ⟨3,.data⟩ (by simp) rfl));refine wpOp_step rfl (fun K hK=> ?_);go_simp;exact hK _ _ ⟨rfl,hJ⟩
  |5,ho,hv=>
   cases Option.some.inj ho;cases Option.some.inj hv;have h9:A.tmps[9]?.getD undef= .pointer (some ⟨b,o+j*5,none⟩):=(gd A 9).trans (hhas 4 9 _ rfl (hdep ⟨4,.data⟩ (by simp) rfl));have e0:W2.cell? ⟨b,o+j*5,none⟩=some (.int .i64 k.kind):=(hJ.bel.cell (block_lt_of_cell q0)).trans q0;have e1:W2.cell? ⟨b,o+j*5+1,none⟩=some (.int .i64 k.a):=(hJ.bel.cell (block_lt_of_cell q1)).trans q1;have e2:W2.cell? ⟨b,o+j*5+2,none⟩=some (.int .i64 k.b):=(hJ.bel.cell (block_lt_of_cell q2)).trans q2;have e3:W2.cell? ⟨b,o+j*5+3,none⟩=some (.string ⟨k.name.toArray⟩):=(hJ.bel.cell (block_lt_of_cell q3)).trans q3;have e4:W2.cell? ⟨b,o+j*5+4,none⟩=some (.slice ps k.kids.length cs):=(hJ.bel.cell (block_lt_of_cell q4)).trans q4;refine wpOp_step rfl (fun K hK=> ?_);go_simp;exact hK _ _ ⟨rfl,hJ⟩
  |6,ho,hv=>
   cases Option.some.inj ho;cases Option.some.inj hv;have h5:A.tmps[5]?.getD undef= .pointer (some ⟨D.g,0,none⟩):=(gd A 5).trans (hhas 0 5 _ rfl (hdep ⟨0,.data⟩ (by simp) rfl));have h10:A.tmps[10]?.getD undef= .agg #[.int .i64 k.kind,.int .i64 k.a,.int .i64 k.b,.string ⟨k.name.toArray⟩,.slice ps k.kids.length cs]:=(gd A 10).trans (hhas 5 10 _ rfl (hdep ⟨5,.data⟩ (by simp) rfl));obtain⟨⟨K1,hM1,hle1⟩,hkp1⟩:=id hJ;refine wpOp_step rfl (fun K hK=> ?_);go_simp;refine(HE.out K1 W2 hM1).mono ?_;rintro e' W' ⟨rfl,hb'⟩;exact hK _ _ ⟨rfl,MQ.on hle1 hkp1 hb'⟩
  |kk+7,ho,hv=>simp at hv
 ·intro o' W2 A ho hJ hA;cases Option.some.inj ho
  have hx:A.eval (.tmp 4)= .pointer (some ⟨W.heap.size,0,none⟩):=by
   rw[hA];simp only[putAll_cons,putAll_nil,Act.put,List.setIfInBounds_toArray,List.set_cons_succ,List.set_cons_zero];rfl
  have hy:A.eval (.tmp 11)= .agg (mv f):=by
   rw[hA];simp only[putAll_cons,putAll_nil,Act.put,List.setIfInBounds_toArray,List.set_cons_succ,List.set_cons_zero];rfl
  have n2:=hJ.own h (Nat.le_refl _) nA;refine wpOp_step rfl (fun K hK=> ?_);show Oper.wp _ _ _ _ _ _;refine wp_store_row 37 _ _ rfl _ _ hx hy _ _ n2 (maskSize _) (by simp[mv_size]) (mv_all _) ?_;refine hK _ _ ⟨⟨undef,rfl⟩,?_⟩;change Exit.then _ _ Exit.normal A _;subst hA;simp only[putAll_cons,putAll_nil,Act.put,List.setIfInBounds_toArray,List.set_cons_succ,List.set_cons_zero];have HQ:=hid5 (MQ.ret h bA (Nat.le_refl _) hJ (mv f));have N2:=hid5 (setRow_heap _ _ _ (mv f) _ _ n2);clear hK hJ hx hy;go_wp2_with fail;refine bodyPost_ret (v:= .agg (mv f)) ?_ rfl ⟨rfl,?_⟩
  ·exact results_cell_row rfl _ _ W.heap.size _ _ _ _ rfl N2.out maskType rfl (maskSize _)
  ·exact HQ.out
end Go.Proofs.YtpmobjgnmidolaaDoor
