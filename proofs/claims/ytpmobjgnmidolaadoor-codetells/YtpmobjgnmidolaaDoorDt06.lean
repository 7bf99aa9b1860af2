/- What slotref2.Union, Diff and Both come to. -/
import Derived.Test.YtpmobjgnmidolaaDoorDt05
import Derived.Test.YtpmobjgnmidolaaDoorDt02
import Derived.Test.YtpmobjgnmidolaaDoorDt03
import Derived.Laws.StructEq
import Derived.Test.YtpmobjgnmidolaaDoorCards
import Derived.Test.YtpmobjgnmidolaaDoorTie
import Derived.ProofKit
import Derived.LaidMore
import Derived.OpenShut
import Derived.Stop.Joined
import Derived.SevenTiedAt
import Derived.Lib.SmallJoins
import Derived.Lib.LaidTab
import Derived.Carry
namespace Go.Proofs.YtpmobjgnmidolaaDoor
open Go.RowKit Msk
theorem hmkf: ∀(fn:Fn) (first cap:Array Value) (w:World),(Instr.makeFunc fn first cap).run Tryd.prog w= .ok (.func fn first cap) w:=fun _ _ _ _=>rfl
set_option maxRecDepth 10000 in
set_option maxHeartbeats 400000 in
theorem unionC (f g:Nat→Bool)(i A B:Nat)(w:World)(ha:w.heap[A]? =some (.cells (mv f) 37 (0,0)))(hb:w.heap[B]? =some (.cells (mv g) 37 (0,0))):
  Calls Tryd.prog 117 #[.int .i64 (i:Int),.pointer (some ⟨A,0,none⟩),.pointer (some ⟨B,0,none⟩)] w fun e w'=>e= .returned (.bool (hasB f (i:Int)||hasB g (i:Int)))∧Below w.heap.size w w':=by
 have c2: ∀w,Calls Tryd.prog 74 #[.agg (mv g),.int .i64 (i:Int)] w fun e w'=>e= .returned (.bool (hasB g (i:Int)))∧Below w.heap.size w w':=fun w=>has_ref g (i:Int) w;cases hh:hasB f (i:Int) with
 |false=>
  have c1: ∀w,Calls Tryd.prog 74 #[.agg (mv f),.int .i64 (i:Int)] w fun e w'=>e= .returned (.bool false)∧Below w.heap.size w w':=fun w=>by
   have:=has_ref f (i:Int) w;rw[hh]at this;exact this
  rw[Bool.false_or];clear hh;generalize hasB g (i:Int)=y at*;go_enter Tryd.func117,Tryd.ntmps117
  go_wp2_with(first
   |(refine wpList_load_row rfl 37 _ rfl _ rfl _ _ _ _ ha maskType rfl (maskSize _) ?_)
   |(go_at_call 74;refine(c1 _).mono ?_;rintro e w1 ⟨rfl,hb1⟩;have hb2:=(hb1.block _ (lt_of_block hb)).trans hb;clear c1)
   |(refine load_g (by rfl) _ (by rfl) _ (by rfl) g (by assumption) ?_)
   |(go_at_call 74;refine(c2 _).mono ?_;rintro e w2 ⟨rfl,hb3⟩;have hb4:=hb1.trans (hb3.mono hb1.size)))
  go_ret;exact⟨rfl,hb4⟩
 |true=>
  have c1: ∀w,Calls Tryd.prog 74 #[.agg (mv f),.int .i64 (i:Int)] w fun e w'=>e= .returned (.bool true)∧Below w.heap.size w w':=fun w=>by
   have:=has_ref f (i:Int) w;rw[hh]at this;exact this
  rw[Bool.true_or];clear hh;generalize hasB g (i:Int)=y at*;go_enter Tryd.func117,Tryd.ntmps117
  go_wp2_with(first
   |(refine wpList_load_row rfl 37 _ rfl _ rfl _ _ _ _ ha maskType rfl (maskSize _) ?_)
   |(go_at_call 74;refine(c1 _).mono ?_;rintro e w1 ⟨rfl,hb1⟩;have hb2:=(hb1.block _ (lt_of_block hb)).trans hb;clear c1)
   |(refine load_g (by rfl) _ (by rfl) _ (by rfl) g (by assumption) ?_)
   |(go_at_call 74;refine(c2 _).mono ?_;rintro e w2 ⟨rfl,hb3⟩;have hb4:=hb1.trans (hb3.mono hb1.size)))
  go_ret;exact⟨rfl,hb1⟩
set_option maxRecDepth 10000 in
set_option maxHeartbeats 400000 in
theorem union_ref (f g:Nat→Bool)(w:World):
  Calls Tryd.prog 100 #[.agg (mv f),.agg (mv g)] w fun e w'=>e= .returned (.agg (mv fun i=>(f i||g i)&&decide (i<1440)))∧Below w.heap.size w w':=by
 have hz:=mv_lit;have hmf:=hmkf;have h0:(((w.alloc (.cells (mv f) 37)).alloc (.cells (mv g) 37)).alloc (.cells (mv fun _=>false) 37)).heap[w.heap.size]? =some (.cells (mv f) 37 (0,0)):=by (repeat (first | refine blk_old _ _ _ (by simp only [size_alloc]; omega) ?_ | exact blk_new _ _ _ (by first | rfl | simp only [size_alloc])))
 have h1:(((w.alloc (.cells (mv f) 37)).alloc (.cells (mv g) 37)).alloc (.cells (mv fun _=>false) 37)).heap[w.heap.size+1]? =some (.cells (mv g) 37 (0,0)):=by (repeat (first | refine blk_old _ _ _ (by simp only [size_alloc]; omega) ?_ | exact blk_new _ _ _ (by first | rfl | simp only [size_alloc])))
 have h2:(((w.alloc (.cells (mv f) 37)).alloc (.cells (mv g) 37)).alloc (.cells (mv fun _=>false) 37)).heap[w.heap.size+2]? =some (.cells (mv fun _=>false) 37 (0,0)):=by (repeat (first | refine blk_old _ _ _ (by simp only [size_alloc]; omega) ?_ | exact blk_new _ _ _ (by first | rfl | simp only [size_alloc])))
 have hb0:Below w.heap.size w (((w.alloc (.cells (mv f) 37)).alloc (.cells (mv g) 37)).alloc (.cells (mv fun _=>false) 37)):=(((Below.refl _ _).alloc (Nat.le_refl _) _).alloc (by simp) _).alloc (by simp;omega) _;have cm:=make_ref (fun i=>(hasB f (i:Int)||hasB g (i:Int))) 117 #[.pointer (some ⟨w.heap.size,0,none⟩),.pointer (some ⟨w.heap.size+1,0,none⟩)] _ (fun _ _=>by simp[go_sem]) fun i wr _ hbr=>unionC f g i w.heap.size (w.heap.size+1) wr ((hbr.block _ (lt_of_block h0)).trans h0) ((hbr.block _ (lt_of_block h1)).trans h1)
 rw[show(mv fun i=>(hasB f (i:Int)||hasB g (i:Int))&&decide (i<1440))=mv fun i=>(f i||g i)&&decide (i<1440) from mv_ext fun i _=>by
  rw[hasB_nat,hasB_nat];by_cases h:i<1440<;>simp[h]]at cm
 clear h0 h1;go_enter Tryd.func100,Tryd.ntmps100
 go_wp2_with(first
  |(go_at_call 96;refine cm.mono ?_;rintro e w1 ⟨rfl,hb1⟩;have h3:=(hb1.block _ (lt_of_block h2)).trans h2;have hb2:=hb0.trans (hb1.mono hb0.size);clear h2 hb1)
  |(refine wpList_store_row rfl 37 _ _ rfl _ _ rfl rfl _ _ h3 (maskSize _) (by simp[mv_size]) (mv_all _) ?_))
 refine bodyPost_ret (v:= .agg (mv fun i=>(f i||g i)&&decide (i<1440))) ?_ rfl ⟨rfl,below_setRow hb2 (by omega) _⟩;exact results_cell_row rfl _ _ (w.heap.size+2) _ _ _ _ rfl (setRow_heap _ _ _ _ _ _ h3) maskType rfl (maskSize _)
set_option maxRecDepth 10000 in
set_option maxHeartbeats 400000 in
theorem diffC (f g:Nat→Bool)(i A B:Nat)(w:World)(ha:w.heap[A]? =some (.cells (mv f) 37 (0,0)))(hb:w.heap[B]? =some (.cells (mv g) 37 (0,0))):
  Calls Tryd.prog 118 #[.int .i64 (i:Int),.pointer (some ⟨A,0,none⟩),.pointer (some ⟨B,0,none⟩)] w fun e w'=>e= .returned (.bool (hasB f (i:Int)&& !hasB g (i:Int)))∧Below w.heap.size w w':=by
 have c2: ∀w,Calls Tryd.prog 74 #[.agg (mv g),.int .i64 (i:Int)] w fun e w'=>e= .returned (.bool (hasB g (i:Int)))∧Below w.heap.size w w':=fun w=>has_ref g (i:Int) w;cases hh:hasB f (i:Int) with
 |false=>
  have c1: ∀w,Calls Tryd.prog 74 #[.agg (mv f),.int .i64 (i:Int)] w fun e w'=>e= .returned (.bool false)∧Below w.heap.size w w':=fun w=>by
   have:=has_ref f (i:Int) w;rw[hh]at this;exact this
  rw[Bool.false_and];clear hh;generalize hasB g (i:Int)=y at*;go_enter Tryd.func118,Tryd.ntmps118
  go_wp2_with(first
   |(refine wpList_load_row rfl 37 _ rfl _ rfl _ _ _ _ ha maskType rfl (maskSize _) ?_)
   |(go_at_call 74;refine(c1 _).mono ?_;rintro e w1 ⟨rfl,hb1⟩;have hb2:=(hb1.block _ (lt_of_block hb)).trans hb;clear c1)
   |(refine load_g (by rfl) _ (by rfl) _ (by rfl) g (by assumption) ?_)
   |(go_at_call 74;refine(c2 _).mono ?_;rintro e w2 ⟨rfl,hb3⟩;have hb4:=hb1.trans (hb3.mono hb1.size)))
  go_ret;exact⟨rfl,hb1⟩
 |true=>
  have c1: ∀w,Calls Tryd.prog 74 #[.agg (mv f),.int .i64 (i:Int)] w fun e w'=>e= .returned (.bool true)∧Below w.heap.size w w':=fun w=>by
   have:=has_ref f (i:Int) w;rw[hh]at this;exact this
  rw[Bool.true_and];clear hh;generalize hasB g (i:Int)=y at*;go_enter Tryd.func118,Tryd.ntmps118
  go_wp2_with(first
   |(refine wpList_load_row rfl 37 _ rfl _ rfl _ _ _ _ ha maskType rfl (maskSize _) ?_)
   |(go_at_call 74;refine(c1 _).mono ?_;rintro e w1 ⟨rfl,hb1⟩;have hb2:=(hb1.block _ (lt_of_block hb)).trans hb;clear c1)
   |(refine load_g (by rfl) _ (by rfl) _ (by rfl) g (by assumption) ?_)
   |(go_at_call 74;refine(c2 _).mono ?_;rintro e w2 ⟨rfl,hb3⟩;have hb4:=hb1.trans (hb3.mono hb1.size)))
  go_ret;exact⟨rfl,hb4⟩
set_option maxRecDepth 10000 in
set_option maxHeartbeats 400000 in
theorem diff_ref (f g:Nat→Bool)(w:World):
  Calls Tryd.prog 101 #[.agg (mv f),.agg (mv g)] w fun e w'=>e= .returned (.agg (mv fun i=>(f i&& !g i)&&decide (i<1440)))∧Below w.heap.size w w':=by
 have hz:=mv_lit;have hmf:=hmkf;have h0:(((w.alloc (.cells (mv f) 37)).alloc (.cells (mv g) 37)).alloc (.cells (mv fun _=>false) 37)).heap[w.heap.size]? =some (.cells (mv f) 37 (0,0)):=by (repeat (first | refine blk_old _ _ _ (by simp only [size_alloc]; omega) ?_ | exact blk_new _ _ _ (by first | rfl | simp only [size_alloc])))
 have h1:(((w.alloc (.cells (mv f) 37)).alloc (.cells (mv g) 37)).alloc (.cells (mv fun _=>false) 37)).heap[w.heap.size+1]? =some (.cells (mv g) 37 (0,0)):=by (repeat (first | refine blk_old _ _ _ (by simp only [size_alloc]; omega) ?_ | exact blk_new _ _ _ (by first | rfl | simp only [size_alloc])))
 have h2:(((w.alloc (.cells (mv f) 37)).alloc (.cells (mv g) 37)).alloc (.cells (mv fun _=>false) 37)).heap[w.heap.size+2]? =some (.cells (mv fun _=>false) 37 (0,0)):=by (repeat (first | refine blk_old _ _ _ (by simp only [size_alloc]; omega) ?_ | exact blk_new _ _ _ (by first | rfl | simp only [size_alloc])))
 have hb0:Below w.heap.size w (((w.alloc (.cells (mv f) 37)).alloc (.cells (mv g) 37)).alloc (.cells (mv fun _=>false) 37)):=(((Below.refl _ _).alloc (Nat.le_refl _) _).alloc (by simp) _).alloc (by simp;omega) _;have cm:=make_ref (fun i=>(hasB f (i:Int)&& !hasB g (i:Int))) 118 #[.pointer (some ⟨w.heap.size,0,none⟩),.pointer (some ⟨w.heap.size+1,0,none⟩)] _ (fun _ _=>by simp[go_sem]) fun i wr _ hbr=>diffC f g i w.heap.size (w.heap.size+1) wr ((hbr.block _ (lt_of_block h0)).trans h0) ((hbr.block _ (lt_of_block h1)).trans h1)
 rw[show(mv fun i=>(hasB f (i:Int)&& !hasB g (i:Int))&&decide (i<1440))=mv fun i=>(f i&& !g i)&&decide (i<1440) from mv_ext fun i _=>by
  rw[hasB_nat,hasB_nat];by_cases h:i<1440<;>simp[h]]at cm
 clear h0 h1;go_enter Tryd.func101,Tryd.ntmps101
 go_wp2_with(first
  |(go_at_call 96;refine cm.mono ?_;rintro e w1 ⟨rfl,hb1⟩;have h3:=(hb1.block _ (lt_of_block h2)).trans h2;have hb2:=hb0.trans (hb1.mono hb0.size);clear h2 hb1)
  |(refine wpList_store_row rfl 37 _ _ rfl _ _ rfl rfl _ _ h3 (maskSize _) (by simp[mv_size]) (mv_all _) ?_))
 refine bodyPost_ret (v:= .agg (mv fun i=>(f i&& !g i)&&decide (i<1440))) ?_ rfl ⟨rfl,below_setRow hb2 (by omega) _⟩;exact results_cell_row rfl _ _ (w.heap.size+2) _ _ _ _ rfl (setRow_heap _ _ _ _ _ _ h3) maskType rfl (maskSize _)
set_option maxRecDepth 10000 in
set_option maxHeartbeats 400000 in
theorem bothC (f g:Nat→Bool)(i A B:Nat)(w:World)(ha:w.heap[A]? =some (.cells (mv f) 37 (0,0)))(hb:w.heap[B]? =some (.cells (mv g) 37 (0,0))):
  Calls Tryd.prog 119 #[.int .i64 (i:Int),.pointer (some ⟨A,0,none⟩),.pointer (some ⟨B,0,none⟩)] w fun e w'=>e= .returned (.bool (hasB f (i:Int)&&hasB g (i:Int)))∧Below w.heap.size w w':=by
 have c2: ∀w,Calls Tryd.prog 74 #[.agg (mv g),.int .i64 (i:Int)] w fun e w'=>e= .returned (.bool (hasB g (i:Int)))∧Below w.heap.size w w':=fun w=>has_ref g (i:Int) w;cases hh:hasB f (i:Int) with
 |false=>
  have c1: ∀w,Calls Tryd.prog 74 #[.agg (mv f),.int .i64 (i:Int)] w fun e w'=>e= .returned (.bool false)∧Below w.heap.size w w':=fun w=>by
   have:=has_ref f (i:Int) w;rw[hh]at this;exact this
  rw[Bool.false_and];clear hh;generalize hasB g (i:Int)=y at*;go_enter Tryd.func119,Tryd.ntmps119
  go_wp2_with(first
   |(refine wpList_load_row rfl 37 _ rfl _ rfl _ _ _ _ ha maskType rfl (maskSize _) ?_)
   |(go_at_call 74;refine(c1 _).mono ?_;rintro e w1 ⟨rfl,hb1⟩;have hb2:=(hb1.block _ (lt_of_block hb)).trans hb;clear c1)
   |(refine load_g (by rfl) _ (by rfl) _ (by rfl) g (by assumption) ?_)
   |(go_at_call 74;refine(c2 _).mono ?_;rintro e w2 ⟨rfl,hb3⟩;have hb4:=hb1.trans (hb3.mono hb1.size)))
  go_ret;exact⟨rfl,hb1⟩
 |true=>
  have c1: ∀w,Calls Tryd.prog 74 #[.agg (mv f),.int .i64 (i:Int)] w fun e w'=>e= .returned (.bool true)∧Below w.heap.size w w':=fun w=>by
   have:=has_ref f (i:Int) w;rw[hh]at this;exact this
  rw[Bool.true_and];clear hh;generalize hasB g (i:Int)=y at*;go_enter Tryd.func119,Tryd.ntmps119
  go_wp2_with(first
   |(refine wpList_load_row rfl 37 _ rfl _ rfl _ _ _ _ ha maskType rfl (maskSize _) ?_)
   |(go_at_call 74;refine(c1 _).mono ?_;rintro e w1 ⟨rfl,hb1⟩;have hb2:=(hb1.block _ (lt_of_block hb)).trans hb;clear c1)
   |(refine load_g (by rfl) _ (by rfl) _ (by rfl) g (by assumption) ?_)
   |(go_at_call 74;refine(c2 _).mono ?_;rintro e w2 ⟨rfl,hb3⟩;have hb4:=hb1.trans (hb3.mono hb1.size)))
  go_ret;exact⟨rfl,hb4⟩
set_option maxRecDepth 10000 in
set_option maxHeartbeats 400000 in
theorem both_ref (f g:Nat→Bool)(w:World):
  Calls Tryd.prog 102 #[.agg (mv f),.agg (mv g)] w fun e w'=>e= .returned (.agg (mv fun i=>(f i&&g i)&&decide (i<1440)))∧Below w.heap.size w w':=by
 have hz:=mv_lit;have hmf:=hmkf;have h0:(((w.alloc (.cells (mv f) 37)).alloc (.cells (mv g) 37)).alloc (.cells (mv fun _=>false) 37)).heap[w.heap.size]? =some (.cells (mv f) 37 (0,0)):=by (repeat (first | refine blk_old _ _ _ (by simp only [size_alloc]; omega) ?_ | exact blk_new _ _ _ (by first | rfl | simp only [size_alloc])))
 have h1:(((w.alloc (.cells (mv f) 37)).alloc (.cells (mv g) 37)).alloc (.cells (mv fun _=>false) 37)).heap[w.heap.size+1]? =some (.cells (mv g) 37 (0,0)):=by (repeat (first | refine blk_old _ _ _ (by simp only [size_alloc]; omega) ?_ | exact blk_new _ _ _ (by first | rfl | simp only [size_alloc])))
 have h2:(((w.alloc (.cells (mv f) 37)).alloc (.cells (mv g) 37)).alloc (.cells (mv fun _=>false) 37)).heap[w.heap.size+2]? =some (.cells (mv fun _=>false) 37 (0,0)):=by (repeat (first | refine blk_old _ _ _ (by simp only [size_alloc]; omega) ?_ | exact blk_new _ _ _ (by first | rfl | simp only [size_alloc])))
 have hb0:Below w.heap.size w (((w.alloc (.cells (mv f) 37)).alloc (.cells (mv g) 37)).alloc (.cells (mv fun _=>false) 37)):=(((Below.refl _ _).alloc (Nat.le_refl _) _).alloc (by simp) _).alloc (by simp;omega) _;have cm:=make_ref (fun i=>(hasB f (i:Int)&&hasB g (i:Int))) 119 #[.pointer (some ⟨w.heap.size,0,none⟩),.pointer (some ⟨w.heap.size+1,0,none⟩)] _ (fun _ _=>by simp[go_sem]) fun i wr _ hbr=>bothC f g i w.heap.size (w.heap.size+1) wr ((hbr.block _ (lt_of_block h0)).trans h0) ((hbr.block _ (lt_of_block h1)).trans h1)
 rw[show(mv fun i=>(hasB f (i:Int)&&hasB g (i:Int))&&decide (i<1440))=mv fun i=>(f i&&g i)&&decide (i<1440) from mv_ext fun i _=>by
  rw[hasB_nat,hasB_nat];by_cases h:i<1440<;>simp[h]]at cm
 clear h0 h1;go_enter Tryd.func102,Tryd.ntmps102
 go_wp2_with(first
  |(go_at_call 96;refine cm.mono ?_;rintro e w1 ⟨rfl,hb1⟩;have h3:=(hb1.block _ (lt_of_block h2)).trans h2;have hb2:=hb0.trans (hb1.mono hb0.size);clear h2 hb1)
  |(refine wpList_store_row rfl 37 _ _ rfl _ _ rfl rfl _ _ h3 (maskSize _) (by simp[mv_size]) (mv_all _) ?_))
 refine bodyPost_ret (v:= .agg (mv fun i=>(f i&&g i)&&decide (i<1440))) ?_ rfl ⟨rfl,below_setRow hb2 (by omega) _⟩;exact results_cell_row rfl _ _ (w.heap.size+2) _ _ _ _ rfl (setRow_heap _ _ _ _ _ _ h3) maskType rfl (maskSize _)
end Go.Proofs.YtpmobjgnmidolaaDoor
/- What slotref2.Shift comes to. -/
namespace Go.Proofs.YtpmobjgnmidolaaDoor
open Go.RowKit Msk
set_option maxRecDepth 10000 in
set_option maxHeartbeats 400000 in
theorem shiftC (f:Nat→Bool)(x:Int)(i A B:Nat)(w:World)(hi:i<1440)(hx0: -1440≤x)(hx1:x≤1440)(ha:w.heap[A]? =some (.cells (mv f) 37 (0,0)))(hb:w.heap[B]? =some (.cells #[.int .i64 x] 3 (0,0))):
  Calls Tryd.prog 120 #[.int .i64 (i:Int),.pointer (some ⟨A,0,none⟩),.pointer (some ⟨B,0,none⟩)] w fun e w'=>e= .returned (.bool (hasB f ((i:Int)-x)))∧Below w.heap.size w w':=by
 have c1:=fun w=>has_ref f ((i:Int)-x) w;have cb:=cell_of_one hb;have q1:IntKind.i64.wrap ((i:Int)-x)=(i:Int)-x:=by rw[IntKind.wrap_i64];omega
 go_enter Tryd.func120,Tryd.ntmps120
 go_wp2_with(first
  |(refine wpList_load_row rfl 37 _ rfl _ rfl _ _ _ _ ha maskType rfl (maskSize _) ?_)
  |(go_at_call 74;refine(c1 _).mono ?_;rintro e w1 ⟨rfl,hb1⟩))
 go_ret;exact⟨rfl,hb1⟩
set_option maxRecDepth 10000 in
set_option maxHeartbeats 400000 in
theorem shift_ref (f:Nat→Bool)(x:Int)(w:World):
  Calls Tryd.prog 103 #[.agg (mv f),.int .i64 x] w fun e w'=>e= .returned (.agg (mv (shf f x)))∧Below w.heap.size w w':=by
 have hz:=mv_lit;have hmf:=hmkf;have h0:(((w.alloc (.cells (mv f) 37)).alloc (.cells #[.int .i64 x] 3)).alloc (.cells (mv fun _=>false) 37)).heap[w.heap.size]? =some (.cells (mv f) 37 (0,0)):=by (repeat (first | refine blk_old _ _ _ (by simp only [size_alloc]; omega) ?_ | exact blk_new _ _ _ (by first | rfl | simp only [size_alloc])))
 have h1:(((w.alloc (.cells (mv f) 37)).alloc (.cells #[.int .i64 x] 3)).alloc (.cells (mv fun _=>false) 37)).heap[w.heap.size+1]? =some (.cells #[.int .i64 x] 3 (0,0)):=by (repeat (first | refine blk_old _ _ _ (by simp only [size_alloc]; omega) ?_ | exact blk_new _ _ _ (by first | rfl | simp only [size_alloc])))
 have h2:(((w.alloc (.cells (mv f) 37)).alloc (.cells #[.int .i64 x] 3)).alloc (.cells (mv fun _=>false) 37)).heap[w.heap.size+2]? =some (.cells (mv fun _=>false) 37 (0,0)):=by (repeat (first | refine blk_old _ _ _ (by simp only [size_alloc]; omega) ?_ | exact blk_new _ _ _ (by first | rfl | simp only [size_alloc])))
 have hb0:Below w.heap.size w (((w.alloc (.cells (mv f) 37)).alloc (.cells #[.int .i64 x] 3)).alloc (.cells (mv fun _=>false) 37)):=(((Below.refl _ _).alloc (Nat.le_refl _) _).alloc (by simp) _).alloc (by simp;omega) _;by_cases hx:x< -1440∨1440<x
 ·rw[←shf_none f x (by omega)];clear h0 h1;rcases hx with hx|hx
  ·have hx': ¬1440<x:=(by omega);go_enter Tryd.func103,Tryd.ntmps103;go_wp2_with(refine wpList_store_row rfl 37 _ _ rfl _ _ rfl rfl _ _ h2 (maskSize _) (by simp[mv_size]) (mv_all _) ?_)
   refine bodyPost_ret (v:= .agg (mv fun _=>false)) ?_ rfl ⟨rfl,below_setRow hb0 (by omega) _⟩;exact results_cell_row rfl _ _ (w.heap.size+2) _ _ _ _ rfl (setRow_heap _ _ _ _ _ _ h2) maskType rfl (maskSize _)
  ·go_enter Tryd.func103,Tryd.ntmps103;go_wp2_with(refine wpList_store_row rfl 37 _ _ rfl _ _ rfl rfl _ _ h2 (maskSize _) (by simp[mv_size]) (mv_all _) ?_)
   refine bodyPost_ret (v:= .agg (mv fun _=>false)) ?_ rfl ⟨rfl,below_setRow hb0 (by omega) _⟩;exact results_cell_row rfl _ _ (w.heap.size+2) _ _ _ _ rfl (setRow_heap _ _ _ _ _ _ h2) maskType rfl (maskSize _)
 ·have hx0: -1440≤x:=by omega
  have hx1:x≤1440:=(by omega);have n0: ¬x< -1440:=(by omega);have n1: ¬1440<x:=(by omega);clear hx;have cm:=make_ref (fun i=>hasB f ((i:Int)-x)) 120 #[.pointer (some ⟨w.heap.size,0,none⟩),.pointer (some ⟨w.heap.size+1,0,none⟩)] _ (fun _ _=>by simp[go_sem]) fun i wr hi hbr=>shiftC f x i w.heap.size (w.heap.size+1) wr hi hx0 hx1 ((hbr.block _ (lt_of_block h0)).trans h0) ((hbr.block _ (lt_of_block h1)).trans h1)
  rw[show(mv fun i=>hasB f ((i:Int)-x)&&decide (i<1440))=mv (shf f x) from mv_ext fun i _=>by
   unfold hasB shf;have e:(0≤(i:Int)-x)=(x≤(i:Int)):=(by apply propext;omega);simp only[e];cases decide (i<1440)<;>cases decide (x≤(i:Int))<;>cases decide ((i:Int)-x<1440)<;>simp]at cm
  go_enter Tryd.func103,Tryd.ntmps103
  go_wp2_with(first
   |(go_at_call 96;refine cm.mono ?_;rintro e w1 ⟨rfl,hb1⟩;have h3:=(hb1.block _ (lt_of_block h2)).trans h2;have hb2:=hb0.trans (hb1.mono hb0.size);clear h2 hb1)
   |(refine wpList_store_row rfl 37 _ _ rfl _ _ rfl rfl _ _ h3 (maskSize _) (by simp[mv_size]) (mv_all _) ?_))
  refine bodyPost_ret (v:= .agg (mv (shf f x))) ?_ rfl ⟨rfl,below_setRow hb2 (by omega) _⟩;exact results_cell_row rfl _ _ (w.heap.size+2) _ _ _ _ rfl (setRow_heap _ _ _ _ _ _ h3) maskType rfl (maskSize _)
end Go.Proofs.YtpmobjgnmidolaaDoor
/- What the document's Ints comes to where both rows are the same. -/
namespace Go.Proofs.YtpmobjgnmidolaaDoor
open Go.RowKit
end Go.Proofs.YtpmobjgnmidolaaDoor
/- What slotref2.Spans comes to: the spans of a mask, minute by minute. -/
namespace Go.Proofs.YtpmobjgnmidolaaDoor
open Go.RowKit Msk
theorem flat_len: ∀l:List (Int×Int),(flat l).length=l.length*2
 |[]=>rfl
 |s::l=>by simp[flat,flat_len l];omega
theorem own_put {w:World}{base:Nat}{v:Value}{l:List (Int×Int)}{a b:Int}(h:w.ownsRow base 110 2 v (l.length+1) (flat (l++[(a,b)]))):
  ∃g cap:Nat,v= .slice (some ⟨g,0,none⟩) (l.length+1) cap∧base≤g∧(∃cur,w.heap[g]? =some (.cells cur 110 (0,0)))∧w.cell? ⟨g,l.length*2+1,none⟩=some (.int .i64 b)∧
   ∀b':Int,(w.setCell ⟨g,l.length*2+1,none⟩ (.int .i64 b')).ownsRow base 110 2 v (l.length+1) (flat (l++[(a,b')])):=by
 obtain⟨h1,h2⟩:=h;rcases h2 with⟨_,h3⟩|⟨g,cap,cur,hv,hg,hh,h4,h5,h6,h7⟩
 ·omega
 ·rw[flat_snoc]at h7;have hl:=flat_len l;refine⟨g,cap,hv,hg,⟨cur,hh⟩,?_,fun b'=>⟨by rw[flat_len];simp,.inr ⟨g,cap,_,hv,hg,heap_setCell_same _ _ _ _ _ _ hh,h4,h5,by simpa using h6,?_⟩⟩⟩
  ·rw[cell_of_row _ _ _ _ _ _ hh]
   have e:(cur.toList.take ((l.length+1)*2))[l.length*2+1]? =some (.int .i64 b):=by
    rw[h7,List.getElem?_append_right (by omega),show l.length*2+1-(flat l).length=1 by omega];rfl
   rw[List.getElem?_take]at e;split at e
   ·simpa using e
   ·cases e
  ·rw[Array.toList_setIfInBounds,List.take_set,h7,flat_snoc,List.set_append_right _ _ (by omega),show l.length*2+1-(flat l).length=1 by omega];rfl
theorem rs_snoc (f:Nat→Bool)(k:Nat)(hf:f k=true)(hp:k=0∨f (k-1)=false):rs f (k+1)=rs f k++[((k:Int),(k:Int)+1)]:=by
 rw[rs,if_pos hf,if_neg];rintro⟨h1,h2⟩;rcases hp with hp|hp
 ·exact h1 hp
 ·rw[hp]at h2;cases h2
theorem rs_more (f:Nat→Bool)(k:Nat)(hf:f k=true)(h0:k≠0)(hp:f (k-1)=true): ∃l a b,rs f k=l++[(a,b)]∧rs f (k+1)=l++[(a,(k:Int)+1)]:=by
 have hne: ∃l s,rs f k=l++[s]:=by
  obtain⟨j,rfl⟩: ∃j,k=j+1:=⟨k-1,by omega⟩
  have hp':f j=true:=(by simpa using hp);rw[rs,if_pos hp'];split
  ·exact⟨_,_,rfl⟩
  ·exact⟨_,_,rfl⟩
 obtain⟨l,⟨a,b⟩,e⟩:=hne;refine⟨l,a,b,e,?_⟩;rw[rs,if_pos hf,if_pos ⟨h0,hp⟩,e];simp
set_option maxRecDepth 10000 in
set_option maxHeartbeats 400000 in
theorem spans_refO (f:Nat→Bool)(w:World):
  Calls Tryd.prog 54 #[.agg (mv f)] w fun e w'=>(∃v,e= .returned v∧w'.ownsRow w.heap.size 110 2 v (rs f 1440).length (flat (rs f 1440))∧(rs f 1440).length≤1440)∧Below w.heap.size w w':=by
 obtain⟨i0,hi,hz0,hz1,hz2⟩:=info_parts info33;have h1:(w.alloc (.cells (mv f) 37)).heap[w.heap.size]? =some (.cells (mv f) 37 (0,0)):=by (repeat (first | refine blk_old _ _ _ (by simp only [size_alloc]; omega) ?_ | exact blk_new _ _ _ (by first | rfl | simp only [size_alloc])))
 have hb0:Below w.heap.size w (w.alloc (.cells (mv f) 37)):=(Below.refl _ _).alloc (Nat.le_refl _) _;go_enter Tryd.func54,Tryd.ntmps54;go_wp2;go_loopw [3,4] (fun v i wr=> ∃k:Nat,k≤1440∧i= .int .i64 k∧(rs f k).length≤k∧wr.ownsRow w.heap.size 110 2 v (rs f k).length (flat (rs f k))∧wr.heap[w.heap.size]? =some (.cells (mv f) 37 (0,0))∧Below w.heap.size w wr) (fun _ i _=>1440-(intOf i).toNat);case atStart=>exact⟨0,by omega,rfl,by simp[rs],World.ownsRow_nil _ _ _ _,h1,hb0⟩
 case round=>
  obtain⟨k,hk,rfl,hlen,hown,hm,hbel⟩:=hrel;clear h1 hb0;by_cases hlt:k<1440
  ·have hlt':(k:Int)<1440:=(by omega)
   have hc: ∀w,Calls Tryd.prog 74 #[.agg (mv f),.int .i64 (k:Int)] w fun e w'=>e= .returned (.bool (f k))∧Below w.heap.size w w':=fun w=>by
    have:=has_ref f (k:Int) w;rw[hasB_nat,decide_eq_true hlt,Bool.true_and]at this;exact this
   have hd: ∀w,Calls Tryd.prog 74 #[.agg (mv f),.int .i64 ((k:Int)-1)] w fun e w'=>e= .returned (.bool (hasB f ((k:Int)-1)))∧Below w.heap.size w w':=fun w=>has_ref f _ w;have q1:IntKind.i64.wrap ((k:Int)-1)=(k:Int)-1:=(by rw[IntKind.wrap_i64];omega);have q2:IntKind.i64.wrap ((k:Int)+1)=(k:Int)+1:=(by rw[IntKind.wrap_i64];omega);cases hf:f k with
   |false=>
    rw[hf]at hc;have hrs:rs f (k+1)=rs f k:=(by rw[rs,hf];simp);have HR:Hid (rs f (k+1)=rs f k):=hrs;clear hrs hf hd
    go_wp2_with(first
     |(refine wpList_load_row rfl 37 _ rfl _ rfl _ _ _ _ hm maskType rfl (maskSize _) ?_)
     |(go_at_call 74;have _t:=hm;refine(hc _).mono ?_;rintro e w1 ⟨rfl,hb1⟩;have hm1:=(hb1.block _ (lt_of_block hm)).trans hm;have hown1:=sown_below hown hb1;have hbel1:=hbel.trans (hb1.mono hbel.size);clear _t hm hown hbel hb1)
     |(refine wpList_load_row rfl 37 _ rfl _ rfl _ _ _ _ hm1 maskType rfl (maskSize _) ?_)
     |(go_at_call 74;have _t:=hm1;refine(hc _).mono ?_;rintro e w2 ⟨rfl,hb2⟩;have hm2:=(hb2.block _ (lt_of_block hm1)).trans hm1;have hown2:=sown_below hown1 hb2;have hbel2:=hbel1.trans (hb2.mono hbel1.size);clear _t hm1 hown1 hbel1 hb2))
    go_roundw;case rel=>exact⟨k+1,by omega,by go_num,by rw[HR.out];omega,by rw[HR.out];exact hown2,hm2,hbel2⟩
    case measure=>simp[intOf];omega
   |true=>
    rw[hf]at hc;cases hp:hasB f ((k:Int)-1) with
    |true=>
     rw[hp]at hd
     obtain⟨j0,j1⟩:k≠0∧f (k-1)=true:=by
      unfold hasB at hp;simp only[Bool.and_eq_true,decide_eq_true_eq]at hp;have e:((k:Int)-1).toNat=k-1:=(by omega);rw[e]at hp;exact⟨by omega,hp.2⟩
     obtain⟨l,a,b,e1,e2⟩:=rs_more f k hf j0 j1;rw[e1]at hown hlen;have hl1:l.length+1≤k:=(by simpa using hlen);have hown0:wr.ownsRow w.heap.size 110 2 u3 (l.length+1) (flat (l++[(a,b)])):=(by simpa using hown);have HR:Hid (rs f (k+1)=l++[(a,(k:Int)+1)]):=e2;clear e1 e2 hf hp hlen hown j0 j1
     go_wp2_with(first
      |(refine wpList_load_row rfl 37 _ rfl _ rfl _ _ _ _ hm maskType rfl (maskSize _) ?_)
      |(go_at_call 74;have _t:=hm;refine(hc _).mono ?_;rintro e w1 ⟨rfl,hb1⟩;have hm1:=(hb1.block _ (lt_of_block hm)).trans hm;have hown1:=sown_below hown0 hb1;have hbel1:=hbel.trans (hb1.mono hbel.size);clear _t hm hown0 hbel hb1)
      |(refine load_g (by rfl) _ (by rfl) _ (by rfl) f (by assumption) ?_)
      |(go_at_call 74;have _t:=hm1;refine(hd _).mono ?_;rintro e w2 ⟨rfl,hb2⟩;have hm2:=(hb2.block _ (lt_of_block hm1)).trans hm1;have hown2:=sown_below hown1 hb2;have hbel2:=hbel1.trans (hb2.mono hbel1.size);clear _t hm1 hown1 hbel1 hb2 hd)
      |(refine wpList_load_row rfl 37 _ rfl _ rfl _ _ _ _ hm2 maskType rfl (maskSize _) ?_)
      |(go_at_call 74;have _t:=hm2;refine(hc _).mono ?_;rintro e w3 ⟨rfl,hb3⟩;have hm3:=(hb3.block _ (lt_of_block hm2)).trans hm2;have hown3:=sown_below hown2 hb3;have hbel3:=hbel2.trans (hb3.mono hbel2.size);clear _t hm2 hown2 hbel2 hb3 hc;obtain⟨g,cap,rfl,hgB,⟨cur,hh⟩,hcell,hput⟩:=own_put hown3;have fm:=frozen_of_row _ _ (l.length*2+1) _ _ hh;have HP:Hid (∀b':Int,(w3.setCell ⟨g,l.length*2+1,none⟩ (.int .i64 b')).ownsRow w.heap.size 110 2 (.slice (some ⟨g,0,none⟩) (l.length+1) cap) (l.length+1) (flat (l++[(a,b')]))):=hput;clear hput hown3))
     have hne:w.heap.size≠g:=fun e=>by
      subst e;rw[hm3]at hh;exact absurd (Obj.cells.inj (Option.some.inj hh)).2.1 (by decide)
     go_roundw;case rel=>exact⟨k+1,by omega,by go_num,by rw[HR.out];simp;omega,by rw[HR.out];simpa using HP.out _,(heap_setCell_other _ _ _ _ hne).trans hm3,hbel3.setCell hgB _⟩
     case measure=>simp[intOf];omega
    |false=>
     rw[hp]at hd
     have j1:k=0∨f (k-1)=false:=by
      by_cases h0:k=0
      ·exact .inl h0
      ·right;unfold hasB at hp;have e:((k:Int)-1).toNat=k-1:=(by omega);have a1:(0:Int)≤(k:Int)-1:=(by omega);have a2:(k:Int)-1<1440:=(by omega);rw[e,decide_eq_true a1,decide_eq_true a2,Bool.true_and,Bool.true_and]at hp;exact hp
     have e2:=rs_snoc f k hf j1;have HR:Hid (rs f (k+1)=rs f k++[((k:Int),(k:Int)+1)]):=e2;clear e2 hf hp j1;generalize rs f k=l at*
     go_wp2_with(first
      |(refine wpList_load_row rfl 37 _ rfl _ rfl _ _ _ _ hm maskType rfl (maskSize _) ?_)
      |(go_at_call 74;have _t:=hm;refine(hc _).mono ?_;rintro e w1 ⟨rfl,hb1⟩;have hm1:=(hb1.block _ (lt_of_block hm)).trans hm;have hown1:=sown_below hown hb1;have hbel1:=hbel.trans (hb1.mono hbel.size);clear _t hm hown hbel hb1)
      |(refine load_g (by rfl) _ (by rfl) _ (by rfl) f (by assumption) ?_)
      |(go_at_call 74;have _t:=hm1;refine(hd _).mono ?_;rintro e w2 ⟨rfl,hb2⟩;have hm2:=(hb2.block _ (lt_of_block hm1)).trans hm1;have hown2:=sown_below hown1 hb2;have hbel2:=hbel1.trans (hb2.mono hbel1.size);clear _t hm1 hown1 hbel1 hb2 hd)
      |(at_builtin;refine wpList_append_own _ rfl _ _ 64 rfl w.heap.size 110 i0 (.agg #[.int .i64 0,.int .i64 0]) 2 16 spansType hi hz0 hz1 hz2 rfl (by decide) u3 l.length (flat l) rfl (hown2.alloc _) ⟨w2.heap.size,0,none⟩ 1 1 [.int .i64 (k:Int),.int .i64 0] rfl rfl ?c1 ?c2 ?c3 ?c4 ?c5 ?_))
     case c1=>
      intro j u hj;match j,hj with
      |0,hj=>simp at hj;subst hj;simp[Addr.add]
      |1,hj=>simp at hj;subst hj;simp[Addr.add]
     case c2=>intro u hu;simp at hu;rcases hu with rfl|rfl<;>rfl
     case c3=>unfold maxLen;omega
     case c4=>omega
     case c5=>have:=hbel2.size;simp;omega
     ·intro v' w3 hown' hgrow _;have hown3:w3.ownsRow w.heap.size 110 2 v' (l.length+1) (flat (l++[((k:Int),0)])):=(by rw[flat_snoc];exact hown');have hm3:=(hgrow.block _ (lt_of_block (blk_old _ (.cells #[.int .i64 (k:Int),.int .i64 0] 110) _ (lt_of_block hm2) hm2)) (fun e=>sown_type hown2 hm2 (by decide) e.symm)).trans (blk_old _ (.cells #[.int .i64 (k:Int),.int .i64 0] 110) _ (lt_of_block hm2) hm2);have hbel3:Below w.heap.size w w3:=(hbel2.alloc hbel2.size _).grown hgrow (by have:=hbel2.size;simp only[size_alloc];omega) (fun k hk=>(hown2.lt k hk).1);clear hown' hgrow hown2 hm2 hbel2
      go_wp2_with(first
       |(refine wpList_load_row rfl 37 _ rfl _ rfl _ _ _ _ hm3 maskType rfl (maskSize _) ?_)
       |(go_at_call 74;refine(hc _).mono ?_;rintro e w4 ⟨rfl,hb4⟩;have hm4:=(hb4.block _ (lt_of_block hm3)).trans hm3;have hown4:=sown_below hown3 hb4;have hbel4:=hbel3.trans (hb4.mono hbel3.size);clear hm3 hown3 hbel3 hb4 hc;obtain⟨g,cap,rfl,hgB,⟨cur,hh⟩,hcell,hput⟩:=own_put hown4;have fm:=frozen_of_row _ _ (l.length*2+1) _ _ hh;have HP:Hid (∀b':Int,(w4.setCell ⟨g,l.length*2+1,none⟩ (.int .i64 b')).ownsRow w.heap.size 110 2 (.slice (some ⟨g,0,none⟩) (l.length+1) cap) (l.length+1) (flat (l++[((k:Int),b')]))):=hput;clear hput hown4))
      have hne:w.heap.size≠g:=fun e=>by
       subst e;rw[hm4]at hh;exact absurd (Obj.cells.inj (Option.some.inj hh)).2.1 (by decide)
      go_roundw;case rel=>exact⟨k+1,by omega,by go_num,by rw[HR.out];simp;omega,by rw[HR.out];simpa using HP.out _,(heap_setCell_other _ _ _ _ hne).trans hm4,hbel4.setCell hgB _⟩
      case measure=>simp[intOf];omega
  ·have hkl:k=1440:=(by omega);subst hkl;have HR:Hid (wr.ownsRow w.heap.size 110 2 u3 (rs f 1440).length (flat (rs f 1440))∧(rs f 1440).length≤1440):=⟨hown,by omega⟩
   clear hown;go_wp2;go_ret;exact⟨⟨_,rfl,HR.out⟩,hbel⟩
end Go.Proofs.YtpmobjgnmidolaaDoor
/- What slotref2.Same comes to at two rows of the same spans: true. -/
namespace Go.Proofs.YtpmobjgnmidolaaDoor
open Go.RowKit Msk
theorem eqSpan (a b a' b':Int)(w:World):(Op.equalIn 10000 110 (.agg #[.int .i64 a,.int .i64 b]) (.agg #[.int .i64 a',.int .i64 b'])).run Tryd.prog w= .ok (a==a'&&b==b') w:=by
 rw[run_equalIn_struct w 9999 110 _ _ (by kernel_rfl) (by kernel_rfl)];simp[Program.fieldsOf,Tryd.underlying110,Op.eqFields];go_simp;by_cases h1:a=a'<;>by_cases h2:b=b'<;>simp[h1,h2]
theorem neqSpan (a b:Int)(w:World):(binOp .neq 110 (.agg #[.int .i64 a,.int .i64 b]) (.agg #[.int .i64 a,.int .i64 b])).run Tryd.prog w= .ok (.bool false) w:=by
 rw[run_neq_struct,eqSpan];simp[Result.andThen]
attribute [local go_sem] neqSpan
theorem Row.form {w:World}{v:Value}{l:List (Int×Int)}(h:Row w v l): ∃p c,v= .slice p l.length c:=by
 rcases h with⟨c,h,rfl⟩|⟨g,o,c,h,_⟩
 ·exact⟨none,c,h⟩
 ·exact⟨_,c,h⟩
set_option maxHeartbeats 1000000 in
theorem same_true (v v':Value)(l:List (Int×Int))(w:World)(h:Row w v l)(h':Row w v' l):
  Calls Tryd.prog 22 #[v,v'] w fun e w'=>e= .returned (.bool true)∧Below w.heap.size w w':=by
 by_cases hl:l=[]
 ·subst hl;obtain⟨p,c,rfl⟩:=h.form;obtain⟨p',c',rfl⟩:=h'.form;clear h h';go_enter Tryd.func22,Tryd.ntmps22;go_wp2;refine wp_loop_rounds 1 ?_;rw[rounds_succ];go_wp2;go_ret;exact⟨rfl,Below.refl _ _⟩
 ·rcases h with⟨_,_,h⟩|⟨g,o,c,rfl,hlen,hc⟩
  ·exact absurd h hl
  rcases h' with⟨_,_,h⟩|⟨g',o',c',rfl,_,hc'⟩
  ·exact absurd h hl
  have HC:Hid (∀j,j<l.length→w.cell? ⟨g,o+j*2,none⟩=some (.int .i64 (l.getD j (0,0)).1)∧w.cell? ⟨g,o+j*2+1,none⟩=some (.int .i64 (l.getD j (0,0)).2)):=hc;have HC':Hid (∀j,j<l.length→w.cell? ⟨g',o'+j*2,none⟩=some (.int .i64 (l.getD j (0,0)).1)∧w.cell? ⟨g',o'+j*2+1,none⟩=some (.int .i64 (l.getD j (0,0)).2)):=hc';clear hc hc' hl;go_enter Tryd.func22,Tryd.ntmps22;go_wp2;go_loopw [13] (fun i wr=> ∃k:Nat,k≤l.length∧i= .int .i64 k∧Below w.heap.size w wr) (fun i _=>l.length-(intOf i).toNat);case atStart=>exact⟨0,Nat.zero_le _,rfl,Below.refl _ _⟩
  case round=>
   obtain⟨k,hk,rfl,hbel⟩:=hrel;by_cases hlt:k<l.length
   ·obtain⟨c1,c2⟩:=HC.out k hlt;obtain⟨c3,c4⟩:=HC'.out k hlt;have d1:=(hbel.cell (block_lt_of_cell c1)).trans c1;have d2:=(hbel.cell (block_lt_of_cell c2)).trans c2;have d3:=(hbel.cell (block_lt_of_cell c3)).trans c3;have d4:=(hbel.cell (block_lt_of_cell c4)).trans c4;generalize l.getD k (0,0)=s at d1 d2 d3 d4;obtain⟨x,y⟩:=s;dsimp only at d1 d2 d3 d4;have hi0:(0:Int)≤(k:Int):=(by omega);have hi1:(k:Int)<(l.length:Int):=(by omega);clear c1 c2 c3 c4;go_wp2;go_quiet (fail);go_wp2;go_roundw;case rel=>exact⟨k+1,by omega,by go_num,below_drewN hbel _⟩
    case measure=>simp[intOf];omega
   ·have hkl:k=l.length:=(by omega);subst hkl;go_wp2;go_ret;exact⟨rfl,hbel⟩
end Go.Proofs.YtpmobjgnmidolaaDoor
/- What the condition on the listed table gives the walks, the start that meets it, and how a mask that came in reads. -/
namespace Go.Proofs.YtpmobjgnmidolaaDoor
open Go.ChangeShapes Go.WideShapes Go.ChangeAt Go.WideMaps Go.WideElems Go.RowKit Go.Joins Msk
abbrev laid1:List (String×DataW Unit):=Rows.codeTellsRow.laid
def tabName:String:=(Rows.codeTellsRow.named.headD default)
def tabInts:List Int:=Lib.deBruijn64tab.map fun(n:Nat)=>(n:Int)
theorem own:ownKnob Tryd.prog.godebug=none:=by kernel_rfl
theorem gTab:Tryd.prog.globalNamed tabName=some 0:=by kernel_rfl
theorem tTab:(Tryd.prog.globals[0]?).map (·.type)=some 158:=by kernel_rfl
theorem cU8:Tryd.prog.cellsOf 5=1:=by kernel_rfl
theorem cTab:Tryd.prog.cellsOf 158=64:=by kernel_rfl
theorem door_met (os:Os)(args:Array Value):laidMetH Tryd.prog laid1 ((World.doorLaid Tryd.prog 400 os).forCall (fun _ _=>0) ⟨#[],args,[]⟩).memory:=
 laidMetH_of_parts3 (fuel:=8) (laidMet_of_run' 8 (by kernel_rfl) (by kernel_rfl)) (by kernel_rfl) (by kernel_rfl)
theorem tab_of_laid {W:World}(h:laidMetH Tryd.prog laid1 W):Tab W:=by
 rw[MakeChecks.laidMetH_plain _ _ _ (by kernel_rfl)]at h;have t:Lib.TabIs Tryd.prog W tabName .u8 tabInts:=Lib.tabIs_of_head (name:=tabName) (rest:=[]) gTab tTab Tryd.underlying158 Tryd.underlying5 cU8 cTab h;intro i hi;have:=t.cell gTab i (by simpa[tabInts,Lib.deBruijn64tab] using hi);rw[this];have hl:i<Lib.deBruijn64tab.length:=by simpa[Lib.deBruijn64tab] using hi
 simp[tabInts,List.getD,hl]
end Go.Proofs.YtpmobjgnmidolaaDoor
