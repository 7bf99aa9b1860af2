/- A mask as the program holds it: an array of words; what its cells are, and what the bits' operations make of words. -/
import Derived.Test.YtpmobjgnmidolaaDoorRows
import Derived.Test.YtpmobjgnmidolaaDoorDt01
import Derived.WalkKit
import Derived.WalkSpells
import Derived.WalkLawsBesides
import Derived.Deep.QuietTactic
import Derived.BigQuiet
import Derived.Laws.Bits64b
import Derived.Laws.Rows
import Derived.Laws.Tables
import Derived.Deep.WholeRow
import Derived.Deep.RegionHeld3
import Derived.Deep.DrawnRows
import Derived.Laws.CopyOwn
import Derived.Lib.TrailingZeros
namespace Go.Proofs.YtpmobjgnmidolaaDoor
open Go.RowKit Msk
def mv (f:Nat→Bool):Array Value:=Array.ofFn (n:=23) fun k=>Value.int .u64 (wd f k.val:Int)
theorem mv_size (f:Nat→Bool):(mv f).size=23:=by simp[mv]
theorem mv_get (f:Nat→Bool)(k:Nat)(hk:k<23):(mv f)[k]? =some (.int .u64 (wd f k:Int)):=by
 simp[mv,hk]
theorem mv_all (f:Nat→Bool):(mv f).all (·.oneCell')=true:=by
 rw[Array.all_eq_true];intro i hi;simp[mv,Value.oneCell']
theorem mv_ext {f g:Nat→Bool}(h: ∀i,i<1472→f i=g i):mv f=mv g:=by
 unfold mv;congr 1;funext k;have hk:=k.isLt;rw[wd_ext (f:=f) (g:=g) fun j hj=>h _ (by omega)]
theorem mv_set (f g:Nat→Bool)(k:Nat)(hk:k<23):(mv f).setIfInBounds k (.int .u64 (wd g k:Int))=mv (fun i=>if i/64=k then g i else f i):=by
 apply Array.ext_getElem?;intro i;rw[Array.getElem?_setIfInBounds];by_cases hi:k=i
 ·subst hi;rw[if_pos rfl,if_pos (by rw[mv_size];exact hk),mv_get _ k hk];rw[wd_ext (f:=g) (g:=fun i=>if i/64=k then g i else f i) fun j hj=>by rw[if_pos (by omega)]]
 ·rw[if_neg hi];by_cases hlt:i<23
  ·rw[mv_get _ i hlt,mv_get _ i hlt];rw[wd_ext (f:=f) (g:=fun i=>if i/64=k then g i else f i) fun j hj=>by rw[if_neg (by omega)]]
  ·rw[Array.getElem?_eq_none (by rw[mv_size];omega),Array.getElem?_eq_none (by rw[mv_size];omega)]
theorem mv_zero:mv (fun _=>false)=Array.replicate 23 (.int .u64 0):=by
 apply Array.ext_getElem?;intro i;by_cases hlt:i<23
 ·rw[mv_get _ i hlt,wd_zero];simp[hlt]
 ·rw[Array.getElem?_eq_none (by rw[mv_size];omega)];simp[hlt]
theorem mv_lit:(#[.int .u64 0, .int .u64 0, .int .u64 0, .int .u64 0, .int .u64 0, .int .u64 0, .int .u64 0, .int .u64 0, .int .u64 0, .int .u64 0, .int .u64 0, .int .u64 0, .int .u64 0, .int .u64 0, .int .u64 0, .int .u64 0, .int .u64 0, .int .u64 0, .int .u64 0, .int .u64 0, .int .u64 0, .int .u64 0, .int .u64 0]:Array Value)=mv (fun _=>false):=by rw[mv_zero];rfl
theorem andNot_nat (a b:Nat)(ha:a<18446744073709551616)(hb:b<18446744073709551616):
  bits .andNot .u64 (a:Int) (b:Int)=((a&&&(18446744073709551616-(b+1)):Nat):Int):=by
 have h1:(BitVec.ofInt 64 (a:Int)).toNat=a:=by
  rw[BitVec.ofInt_natCast,BitVec.toNat_ofNat];exact Nat.mod_eq_of_lt (by omega)
 have h2:(BitVec.ofInt 64 (b:Int)).toNat=b:=by
  rw[BitVec.ofInt_natCast,BitVec.toNat_ofNat];exact Nat.mod_eq_of_lt (by omega)
 have hx:a&&&(18446744073709551616-(b+1))≤a:=Nat.and_le_left;show IntKind.u64.wrap ((BitVec.ofInt 64 (a:Int)&&& ~~~BitVec.ofInt 64 (b:Int)).toNat:Int)=_;have e:(2:Nat)^64-1-b=18446744073709551616-(b+1):=by omega
 rw[BitVec.toNat_and,BitVec.toNat_not,h1,h2,IntKind.wrap_u64,e];omega
theorem last_word:(4294967295:Nat)=wd (fun i=>decide (i<1440)) 22:=by
 refine wd_eq _ 22 _ (by omega) fun j hj=> ?_;have e:(4294967295:Nat)=2^32-1:=by decide
 rw[e,ones_bit];have:(j<32)=(64*22+j<1440):=by apply propext;omega
 simp only[this]
theorem mv_trim (f:Nat→Bool):(mv f).setIfInBounds 22 (.int .u64 (bits .and .u64 (wd f 22:Int) 4294967295))=mv fun i=>f i&&decide (i<1440):=by
 have e:bits .and .u64 (wd f 22:Int) 4294967295=((wd (fun i=>f i&&decide (i<1440)) 22:Nat):Int):=by
  have:=bits_and_u64_nat (wd f 22) 4294967295 (wd_lt f 22) (by omega);rw[←wd_and f (fun i=>decide (i<1440)) 22,←last_word];exact this
 rw[e,mv_set _ _ 22 (by omega)];refine mv_ext fun i hi=> ?_;by_cases h:i/64=22
 ·rw[if_pos h]
 ·rw[if_neg h];have:i<1440:=(by omega);simp[this]
theorem cell_mv {w:World}{g:Nat}{f:Nat→Bool}{t:TypeId}(hg:w.heap[g]? =some (.cells (mv f) t (0,0)))(k:Nat)(hk:k<23):w.cell? ⟨g,k,none⟩=some (.int .u64 (wd f k:Int)):=by
 rw[cell_of_row w g k _ t (0,0) hg,mv_get f k hk]
theorem cell_set_far (w:World)(a:Addr)(v:Value)(p:Addr)(h:p.block≠a.block):(w.setCell a v).drew.cell? p=w.cell? p:=
 World.cell?_of_block (w:=w) (Below.heap_setCell w a v p.block h)
theorem mv_start (h:Nat→Bool):mv (fun _=>false)=mv (fun i=>decide (i<64*0)&&h i):=mv_ext fun i _=>by simp
theorem mv_step (k:Nat)(hk:k<23)(h:Nat→Bool):(mv fun i=>decide (i<64*k)&&h i).setIfInBounds k (.int .u64 (wd h k:Int))=mv fun i=>decide (i<64*(k+1))&&h i:=by
 rw[mv_set _ _ k hk];refine mv_ext fun i hi=> ?_;by_cases h:i/64=k
 ·have:i<64*(k+1):=by omega
  simp[h,this]
 ·have:(i<64*k)=(i<64*(k+1)):=by apply propext;omega
  simp only[h,if_false,this]
theorem mv_full (h:Nat→Bool):(mv fun i=>decide (i<64*23)&&h i)=mv h:=mv_ext fun i hi=>by
 have:i<64*23:=by omega
 simp[this]
theorem blk_eq {w:World}{g:Nat}{c c':Array Value}{t:TypeId}(hg:w.heap[g]? =some (.cells c t (0,0)))(e:c=c'):w.heap[g]? =some (.cells c' t (0,0)):=by rw[hg,e]
theorem size_alloc (w:World)(o:Obj):(w.alloc o).heap.size=w.heap.size+1:=by show(w.heap.push o).size=_;simp
theorem blk_new (w:World)(o:Obj)(k:Nat)(h:k=w.heap.size):(w.alloc o).heap[k]? =some o:=by subst h;exact heap_alloc_new w o
theorem blk_old (w:World)(o:Obj)(k:Nat)(h:k<w.heap.size){x:Obj}(hx:w.heap[k]? =some x):(w.alloc o).heap[k]? =some x:=(Below.heap_alloc w o k h).trans hx
theorem maskSize (f:Nat→Bool):(Tryd.prog.info? 37).map (·.size)=some (mv f).size:=by rw[mv_size];kernel_rfl
theorem maskType:Tryd.prog.underlying 37=some (.array 23 35):=by kernel_rfl
end Go.Proofs.YtpmobjgnmidolaaDoor
/- An object is put into the heap. -/
namespace Go.Proofs.YtpmobjgnmidolaaDoor
open Go.RowKit
def putB5 (w:World)(b:Nat)(o:Obj):World:={w with heap:=w.heap.setIfInBounds b o}
theorem putB5_below {r n:Nat}{w0 w:World}(h:Below n w0 w)(hr:n≤r)(o:Obj):Below n w0 (putB5 w r o):=
 ⟨h.os,h.tape,h.output,by simpa[putB5] using h.size,fun k hk=>by
   rw[←h.block k hk];show(w.heap.setIfInBounds r o)[k]? =_;rw[Array.getElem?_setIfInBounds_ne (by omega)]⟩
end Go.Proofs.YtpmobjgnmidolaaDoor
/- Rows of numbers; what slices.Index and slices.Contains of numbers come to. -/
namespace Go.Proofs.YtpmobjgnmidolaaDoor
open Go.RowKit
theorem hidr {p:Prop}(h:p):Hid p:=h
def RowI (w:World)(v:Value)(ns:List Int):Prop:= ∃p c,v= .slice p ns.length c∧ns.length<9223372036854775808∧ ∀(j:Nat) (n:Int),ns[j]? =some n→ ∃g o:Nat,p=some ⟨g,o,none⟩∧w.cell? ⟨g,o+j,none⟩=some (.int .i64 n)
theorem RowI.below {w w':World}{v:Value}{ns:List Int}(h:RowI w v ns)(hb:Below w.heap.size w w'):RowI w' v ns:=by
 obtain⟨p,c,h1,h2,h3⟩:=h;refine⟨p,c,h1,h2,fun j n hj=> ?_⟩;obtain⟨g,o,e,hc⟩:=h3 j n hj;exact⟨g,o,e,(hb.cell (block_lt_of_cell hc)).trans hc⟩
def idxF:List Int→Nat→Int→Int
 |[],_,_=> -1
 |m::l,i,n=>if m=n then(i:Int) else idxF l (i+1) n
theorem idxF_step {l:List Int}{j:Nat}{m n:Int}(h:l[j]? =some m):idxF (l.drop j) j n=if m=n then(j:Int) else idxF (l.drop (j+1)) (j+1) n:=by
 obtain⟨h1,h2⟩:=List.getElem?_eq_some_iff.1 h;rw[List.drop_eq_getElem_cons h1,h2];rfl
theorem idxF_mem: ∀(l:List Int) (i:Nat) (n:Int),(0≤idxF l i n)↔n∈l
 |[],i,n=>by simp[idxF]
 |m::l,i,n=>by
  have:=idxF_mem l (i+1) n;simp only[idxF,List.mem_cons];by_cases h:m=n
  ·rw[if_pos h];constructor
   ·intro _;exact .inl h.symm
   ·intro _;omega
  ·rw[if_neg h,this];constructor
   ·exact .inr
   ·rintro(e|e)
    ·exact absurd e.symm h
    ·exact e
set_option maxRecDepth 100000 in
set_option maxHeartbeats 1000000 in
theorem index5_any (ns:List Int)(v:Value)(n:Int)(w:World)(h:RowI w v ns):Calls Tryd.prog 67 #[v,.int .i64 n] w fun r w'=>r= .returned (.int .i64 (idxF ns 0 n))∧Below w.heap.size w w':=by
 obtain⟨p,c,rfl,hlen,hc⟩:=h;have HC:=hidr hc;clear hc;go_enter Tryd.func67,Tryd.ntmps67;go_wp2_with fail;go_loopw [5,8] (fun _ t wr=> ∃j:Nat,t= .int .i64 (j:Int)∧j≤ns.length∧idxF ns 0 n=idxF (ns.drop j) j n∧wr=w) (fun _ t _=>ns.length-(intOf t).toNat);case atStart=>exact⟨0,rfl,by omega,rfl,rfl⟩
 case round=>
  obtain⟨j,rfl,hj,hX,rfl⟩:=hrel;have hj0:(0:Int)≤(j:Int):=(by omega);by_cases hlt:j<ns.length
  ·have hlt':(j:Int)<(ns.length:Int):=(by omega);obtain⟨m,hjk⟩: ∃p,ns[j]? =some p:=⟨ns[j],List.getElem?_eq_getElem hlt⟩
   rw[idxF_step hjk]at hX;obtain⟨g,o,hpe,c0⟩:=HC.out j _ hjk;subst hpe;by_cases hmn:m=n
   ·rw[if_pos hmn]at hX;have hb:(n==m)=true:=(by rw[hmn];simp);have HX:=hidr hX;clear hX hjk HC hmn;go_wp2_with fail;go_ret;exact⟨by(rw[HX.out])<;>rfl,Below.refl _ _⟩
   ·rw[if_neg hmn]at hX;have hb:(n==m)=false:=beq_eq_false_iff_ne.2 (fun e=>hmn e.symm);have HX:=hidr hX;clear hX hjk hmn;go_wp2_with fail;go_roundw;case rel=>exact⟨j+1,by go_num,by omega,HX.out,trivial⟩
    case measure=>simp[intOf];omega
  ·have hlt': ¬(j:Int)<(ns.length:Int):=(by omega)
   have HX:Hid (idxF ns 0 n= -1):=by
    show _=_;rw[hX,List.drop_of_length_le (by omega)];rfl
   clear hX HC;go_wp2_with fail;go_ret;exact⟨by(rw[HX.out])<;>rfl,Below.refl _ _⟩
set_option maxRecDepth 100000 in
theorem contains5_any (ns:List Int)(v:Value)(n:Int)(w:World)(h:RowI w v ns):Calls Tryd.prog 40 #[v,.int .i64 n] w fun r w'=>r= .returned (.bool (decide (n∈ns)))∧Below w.heap.size w w':=by
 have c1:=index5_any ns v n w h;obtain⟨p,c,rfl,_,_⟩:=h
 have HD:Hid (decide (n∈ns)=decide (0≤idxF ns 0 n)):=by
  show _=_;have hm:=idxF_mem ns 0 n;by_cases hn:n∈ns
  ·rw[decide_eq_true hn,decide_eq_true (hm.2 hn)]
  ·rw[decide_eq_false hn,decide_eq_false (fun e=>hn (hm.1 e))]
 go_enter Tryd.func40,Tryd.ntmps40;go_wp2_with fail;refine c1.mono ?_;rintro r w1 ⟨rfl,hb⟩;clear c1;generalize idxF ns 0 n=q at*;go_wp2_with fail;go_ret;exact⟨by(rw[HD.out])<;>rfl,hb⟩
end Go.Proofs.YtpmobjgnmidolaaDoor
/- What masks.trim, combine, Union, Diff and Both come to. -/
namespace Go.Proofs.YtpmobjgnmidolaaDoor
open Go.RowKit Msk
set_option maxHeartbeats 400000 in
theorem trim_any (f:Nat→Bool)(w:World):
  Calls Tryd.prog 57 #[.agg (mv f)] w fun e w'=>e= .returned (.agg (mv fun i=>f i&&decide (i<1440)))∧Below w.heap.size w w':=by
 have g22:=mv_get f 22 (by omega);have e22:=mv_trim f;have hz:=mv_lit;go_enter Tryd.func57,Tryd.ntmps57
 go_wp2_with(first
  |(refine wpList_load_row rfl 37 _ rfl _ rfl _ _ _ _ (heap_alloc2_old _ _ _) maskType rfl (maskSize _) ?_)
  |(refine wpList_store_row rfl 37 _ _ rfl _ _ rfl rfl _ _ (heap_alloc2_new _ _ _) (maskSize _) (by simp[mv_size]) (mv_all _) ?_))
 refine bodyPost_ret (v:= .agg (mv fun i=>f i&&decide (i<1440))) ?_ rfl ⟨rfl,?_⟩
 ·exact results_cell_row rfl _ _ (w.heap.size+1) _ _ _ _ rfl (setRow_heap _ _ _ _ _ _ (heap_alloc2_new _ _ _)) maskType rfl (maskSize _)
 ·exact below_setRow (((Below.refl _ _).alloc (Nat.le_refl _) _).alloc (by simp) _) (by omega) _
attribute [local go_sem↓] Go.wp_at_zero Go.wp_at_succ
set_option maxRecDepth 100000 in
set_option maxHeartbeats 1000000 in
theorem combine_any (K:Nat)(o:Bool→Bool→Bool)(hK: ∀(f g:Nat→Bool) (k:Nat) (w:World),Calls Tryd.prog K #[.int .u64 (wd f k:Int),.int .u64 (wd g k:Int)] w fun e w'=>e= .returned (.int .u64 (wd (fun i=>o (f i) (g i)) k:Int))∧w'=w)
  (eK: ∀args w,(callFunc K args).run Tryd.prog w= .ok (.enter K args) w) (a b:Nat→Bool) (w:World):
  Calls Tryd.prog 106 #[.agg (mv a),.agg (mv b),.func (.func K) #[] #[]] w fun e w'=>e= .returned (.agg (mv fun i=>o (a i) (b i)&&decide (i<1440)))∧Below w.heap.size w w':=by
 have hz:=mv_lit;go_enter Tryd.func106,Tryd.ntmps106;go_wp2
 go_loopw [9] (fun i wr=> ∃k:Nat,k≤23∧i= .int .i64 k∧wr.heap[w.heap.size]? =some (.cells (mv a) 37 (0,0))∧wr.heap[w.heap.size+1]? =some (.cells (mv b) 37 (0,0))∧wr.heap[w.heap.size+1+1]? =some (.cells (mv fun _=>false) 37 (0,0))∧
  wr.heap[w.heap.size+1+1+1]? =some (.cells (mv fun i=>decide (i<64*k)&&o (a i) (b i)) 37 (0,0))∧Below w.heap.size w wr) (fun i _=>23-(intOf i).toNat)
 case atStart=>
  refine⟨0,by omega,rfl,?_,?_,?_,?_,?_⟩
  ·(repeat (first | refine blk_old _ _ _ (by simp only [size_alloc]; omega) ?_ | exact blk_new _ _ _ (by first | rfl | simp only [size_alloc])))
  ·(repeat (first | refine blk_old _ _ _ (by simp only [size_alloc]; omega) ?_ | exact blk_new _ _ _ (by first | rfl | simp only [size_alloc])))
  ·(repeat (first | refine blk_old _ _ _ (by simp only [size_alloc]; omega) ?_ | exact blk_new _ _ _ (by first | rfl | simp only [size_alloc])))
  ·refine blk_eq ?_ (mv_start _);(repeat (first | refine blk_old _ _ _ (by simp only [size_alloc]; omega) ?_ | exact blk_new _ _ _ (by first | rfl | simp only [size_alloc])))
  ·exact((((Below.refl _ _).alloc (Nat.le_refl _) _).alloc (by simp) _).alloc (by simp;omega) _).alloc (by simp;omega) _
 case round=>
  obtain⟨k,hk,rfl,ha,hb,ho,hm,hbel⟩:=hrel;by_cases hlt:k<23
  ·have ca:=cell_mv ha k hlt;have cb:=cell_mv hb k hlt;have cm:=cell_mv hm k hlt;have fm:=frozen_of_row _ _ k _ _ hm;have hi0:(0:Int)≤(k:Int):=(by omega);have hi1:(k:Int)<23:=(by omega);have n1:w.heap.size+1+1+1≠w.heap.size:=(by omega);have n2:w.heap.size+1+1≠w.heap.size:=(by omega);go_wp2
   go_region_held3 (fun w'=>w'.cell? ⟨w.heap.size,k,none⟩=some (.int .u64 (wd a k:Int))∧w'.cell? ⟨w.heap.size+1,k,none⟩=some (.int .u64 (wd b k:Int)))
    (go_keep)
    ((refine(hK a b k _).mono ?_;rintro e w' ⟨rfl,rfl⟩))
   go_wp2;go_roundw
   case rel=>
    refine⟨k+1,by omega,by go_num,?_,?_,?_,?_,?_⟩
    ·exact(heap_setCell_other _ _ _ _ (by dsimp only;omega)).trans ha
    ·exact(heap_setCell_other _ _ _ _ (by dsimp only;omega)).trans hb
    ·exact(heap_setCell_other _ _ _ _ (by dsimp only;omega)).trans ho
    ·exact blk_eq (heap_setCell_same _ _ _ _ _ _ hm) (mv_step k hlt fun i=>o (a i) (b i))
    ·exact(hbel.setCell (by dsimp only;omega) _).drew
   case measure=>simp[intOf];omega
  ·have hk23:k=23:=(by omega);subst hk23;have hm':=blk_eq hm (mv_full fun i=>o (a i) (b i));clear hm
   go_wp2_with(first
    |(refine wpList_load_row rfl 37 _ rfl _ rfl _ _ _ _ hm' maskType rfl (maskSize _) ?_)
    |(go_at_call 57;refine(trim_any _ _).mono ?_;rintro e w' ⟨rfl,hb'⟩;have ho':=(hb'.block (w.heap.size+1+1) (lt_of_block ho)).trans ho)
    |(refine wpList_store_row rfl 37 _ _ rfl _ _ rfl rfl _ _ (by assumption) (maskSize _) (by simp[mv_size]) (mv_all _) ?_))
   refine bodyPost_ret (v:= .agg (mv fun i=>o (a i) (b i)&&decide (i<1440))) ?_ rfl ⟨rfl,?_⟩
   ·exact results_cell_row rfl _ _ (w.heap.size+1+1) _ _ _ _ rfl (setRow_heap _ _ _ _ _ _ ho') maskType rfl (maskSize _)
   ·exact below_setRow (hbel.trans (hb'.mono hbel.size)) (by omega) _
theorem or_any (f g:Nat→Bool)(k:Nat)(w:World):Calls Tryd.prog 107 #[.int .u64 (wd f k:Int),.int .u64 (wd g k:Int)] w fun e w'=>e= .returned (.int .u64 (wd (fun i=>f i||g i) k:Int))∧w'=w:=by
 have e1:=bits_or_u64_nat _ _ (wd_lt f k) (wd_lt g k);rw[wd_or]at e1;go_enter Tryd.func107,Tryd.ntmps107;go_wp2;go_ret;exact⟨rfl,rfl⟩
theorem and_any (f g:Nat→Bool)(k:Nat)(w:World):Calls Tryd.prog 109 #[.int .u64 (wd f k:Int),.int .u64 (wd g k:Int)] w fun e w'=>e= .returned (.int .u64 (wd (fun i=>f i&&g i) k:Int))∧w'=w:=by
 have e1:=bits_and_u64_nat _ _ (wd_lt f k) (wd_lt g k);rw[wd_and]at e1;go_enter Tryd.func109,Tryd.ntmps109;go_wp2;go_ret;exact⟨rfl,rfl⟩
theorem not_any (f g:Nat→Bool)(k:Nat)(w:World):Calls Tryd.prog 108 #[.int .u64 (wd f k:Int),.int .u64 (wd g k:Int)] w fun e w'=>e= .returned (.int .u64 (wd (fun i=>f i&& !g i) k:Int))∧w'=w:=by
 have e1:=andNot_nat _ _ (wd_lt f k) (wd_lt g k);rw[wd_andNot]at e1;go_enter Tryd.func108,Tryd.ntmps108;go_wp2;go_ret;exact⟨rfl,rfl⟩
set_option maxHeartbeats 400000 in
theorem union_any (a b:Nat→Bool)(w:World):
  Calls Tryd.prog 78 #[.agg (mv a),.agg (mv b)] w fun e w'=>e= .returned (.agg (mv fun i=>(a i||b i)&&decide (i<1440)))∧Below w.heap.size w w':=by
 have hz:=mv_lit;have h1:(((w.alloc (.cells (mv a) 37)).alloc (.cells (mv b) 37)).alloc (.cells (mv fun _=>false) 37)).heap[w.heap.size]? =some (.cells (mv a) 37 (0,0)):=by (repeat (first | refine blk_old _ _ _ (by simp only [size_alloc]; omega) ?_ | exact blk_new _ _ _ (by first | rfl | simp only [size_alloc])))
 have h2:(((w.alloc (.cells (mv a) 37)).alloc (.cells (mv b) 37)).alloc (.cells (mv fun _=>false) 37)).heap[w.heap.size+1]? =some (.cells (mv b) 37 (0,0)):=by (repeat (first | refine blk_old _ _ _ (by simp only [size_alloc]; omega) ?_ | exact blk_new _ _ _ (by first | rfl | simp only [size_alloc])))
 have h3:(((w.alloc (.cells (mv a) 37)).alloc (.cells (mv b) 37)).alloc (.cells (mv fun _=>false) 37)).heap[w.heap.size+1+1]? =some (.cells (mv fun _=>false) 37 (0,0)):=by (repeat (first | refine blk_old _ _ _ (by simp only [size_alloc]; omega) ?_ | exact blk_new _ _ _ (by first | rfl | simp only [size_alloc])))
 have hb0:Below w.heap.size w (((w.alloc (.cells (mv a) 37)).alloc (.cells (mv b) 37)).alloc (.cells (mv fun _=>false) 37)):=(((Below.refl _ _).alloc (Nat.le_refl _) _).alloc (by simp) _).alloc (by simp only[size_alloc];omega) _;go_enter Tryd.func78,Tryd.ntmps78
 go_wp2_with(first
  |(refine wpList_load_row rfl 37 _ rfl _ rfl _ _ _ _ h1 maskType rfl (maskSize _) ?_)
  |(refine wpList_load_row rfl 37 _ rfl _ rfl _ _ _ _ h2 maskType rfl (maskSize _) ?_)
  |(go_at_call 106;refine(combine_any 107 (fun x y=>x||y) or_any (fun _ _=>by simp[go_sem]) a b _).mono ?_;rintro e w' ⟨rfl,hb'⟩;have ho':=(hb'.block _ (lt_of_block h3)).trans h3)
  |(refine wpList_store_row rfl 37 _ _ rfl _ _ rfl rfl _ _ (by assumption) (maskSize _) (by simp[mv_size]) (mv_all _) ?_))
 refine bodyPost_ret (v:= .agg (mv fun i=>(a i||b i)&&decide (i<1440))) ?_ rfl ⟨rfl,?_⟩
 ·exact results_cell_row rfl _ _ (w.heap.size+1+1) _ _ _ _ rfl (setRow_heap _ _ _ _ _ _ ho') maskType rfl (maskSize _)
 ·exact below_setRow (hb0.trans (hb'.mono hb0.size)) (by omega) _
set_option maxHeartbeats 400000 in
theorem diff_any (a b:Nat→Bool)(w:World):
  Calls Tryd.prog 79 #[.agg (mv a),.agg (mv b)] w fun e w'=>e= .returned (.agg (mv fun i=>(a i&& !b i)&&decide (i<1440)))∧Below w.heap.size w w':=by
 have hz:=mv_lit;have h1:(((w.alloc (.cells (mv a) 37)).alloc (.cells (mv b) 37)).alloc (.cells (mv fun _=>false) 37)).heap[w.heap.size]? =some (.cells (mv a) 37 (0,0)):=by (repeat (first | refine blk_old _ _ _ (by simp only [size_alloc]; omega) ?_ | exact blk_new _ _ _ (by first | rfl | simp only [size_alloc])))
 have h2:(((w.alloc (.cells (mv a) 37)).alloc (.cells (mv b) 37)).alloc (.cells (mv fun _=>false) 37)).heap[w.heap.size+1]? =some (.cells (mv b) 37 (0,0)):=by (repeat (first | refine blk_old _ _ _ (by simp only [size_alloc]; omega) ?_ | exact blk_new _ _ _ (by first | rfl | simp only [size_alloc])))
 have h3:(((w.alloc (.cells (mv a) 37)).alloc (.cells (mv b) 37)).alloc (.cells (mv fun _=>false) 37)).heap[w.heap.size+1+1]? =some (.cells (mv fun _=>false) 37 (0,0)):=by (repeat (first | refine blk_old _ _ _ (by simp only [size_alloc]; omega) ?_ | exact blk_new _ _ _ (by first | rfl | simp only [size_alloc])))
 have hb0:Below w.heap.size w (((w.alloc (.cells (mv a) 37)).alloc (.cells (mv b) 37)).alloc (.cells (mv fun _=>false) 37)):=(((Below.refl _ _).alloc (Nat.le_refl _) _).alloc (by simp) _).alloc (by simp only[size_alloc];omega) _;go_enter Tryd.func79,Tryd.ntmps79
 go_wp2_with(first
  |(refine wpList_load_row rfl 37 _ rfl _ rfl _ _ _ _ h1 maskType rfl (maskSize _) ?_)
  |(refine wpList_load_row rfl 37 _ rfl _ rfl _ _ _ _ h2 maskType rfl (maskSize _) ?_)
  |(go_at_call 106;refine(combine_any 108 (fun x y=>x&& !y) not_any (fun _ _=>by simp[go_sem]) a b _).mono ?_;rintro e w' ⟨rfl,hb'⟩;have ho':=(hb'.block _ (lt_of_block h3)).trans h3)
  |(refine wpList_store_row rfl 37 _ _ rfl _ _ rfl rfl _ _ (by assumption) (maskSize _) (by simp[mv_size]) (mv_all _) ?_))
 refine bodyPost_ret (v:= .agg (mv fun i=>(a i&& !b i)&&decide (i<1440))) ?_ rfl ⟨rfl,?_⟩
 ·exact results_cell_row rfl _ _ (w.heap.size+1+1) _ _ _ _ rfl (setRow_heap _ _ _ _ _ _ ho') maskType rfl (maskSize _)
 ·exact below_setRow (hb0.trans (hb'.mono hb0.size)) (by omega) _
set_option maxHeartbeats 400000 in
theorem both_any (a b:Nat→Bool)(w:World):
  Calls Tryd.prog 80 #[.agg (mv a),.agg (mv b)] w fun e w'=>e= .returned (.agg (mv fun i=>(a i&&b i)&&decide (i<1440)))∧Below w.heap.size w w':=by
 have hz:=mv_lit;have h1:(((w.alloc (.cells (mv a) 37)).alloc (.cells (mv b) 37)).alloc (.cells (mv fun _=>false) 37)).heap[w.heap.size]? =some (.cells (mv a) 37 (0,0)):=by (repeat (first | refine blk_old _ _ _ (by simp only [size_alloc]; omega) ?_ | exact blk_new _ _ _ (by first | rfl | simp only [size_alloc])))
 have h2:(((w.alloc (.cells (mv a) 37)).alloc (.cells (mv b) 37)).alloc (.cells (mv fun _=>false) 37)).heap[w.heap.size+1]? =some (.cells (mv b) 37 (0,0)):=by (repeat (first | refine blk_old _ _ _ (by simp only [size_alloc]; omega) ?_ | exact blk_new _ _ _ (by first | rfl | simp only [size_alloc])))
 have h3:(((w.alloc (.cells (mv a) 37)).alloc (.cells (mv b) 37)).alloc (.cells (mv fun _=>false) 37)).heap[w.heap.size+1+1]? =some (.cells (mv fun _=>false) 37 (0,0)):=by (repeat (first | refine blk_old _ _ _ (by simp only [size_alloc]; omega) ?_ | exact blk_new _ _ _ (by first | rfl | simp only [size_alloc])))
 have hb0:Below w.heap.size w (((w.alloc (.cells (mv a) 37)).alloc (.cells (mv b) 37)).alloc (.cells (mv fun _=>false) 37)):=(((Below.refl _ _).alloc (Nat.le_refl _) _).alloc (by simp) _).alloc (by simp only[size_alloc];omega) _;go_enter Tryd.func80,Tryd.ntmps80
 go_wp2_with(first
  |(refine wpList_load_row rfl 37 _ rfl _ rfl _ _ _ _ h1 maskType rfl (maskSize _) ?_)
  |(refine wpList_load_row rfl 37 _ rfl _ rfl _ _ _ _ h2 maskType rfl (maskSize _) ?_)
  |(go_at_call 106;refine(combine_any 109 (fun x y=>x&&y) and_any (fun _ _=>by simp[go_sem]) a b _).mono ?_;rintro e w' ⟨rfl,hb'⟩;have ho':=(hb'.block _ (lt_of_block h3)).trans h3)
  |(refine wpList_store_row rfl 37 _ _ rfl _ _ rfl rfl _ _ (by assumption) (maskSize _) (by simp[mv_size]) (mv_all _) ?_))
 refine bodyPost_ret (v:= .agg (mv fun i=>(a i&&b i)&&decide (i<1440))) ?_ rfl ⟨rfl,?_⟩
 ·exact results_cell_row rfl _ _ (w.heap.size+1+1) _ _ _ _ rfl (setRow_heap _ _ _ _ _ _ ho') maskType rfl (maskSize _)
 ·exact below_setRow (hb0.trans (hb'.mono hb0.size)) (by omega) _
end Go.Proofs.YtpmobjgnmidolaaDoor
/- What the small functions on numbers come to: ones, wordEnd, and the library's OnesCount64 and TrailingZeros64. -/
namespace Go.Proofs.YtpmobjgnmidolaaDoor
open Go.RowKit Msk
theorem ret_val {v v':Value}(h:v=v'):Ending.returned v= .returned v':=by rw[h]
theorem int_eq {k:IntKind}{a b:Int}(h:a=b):Value.int k a= .int k b:=by rw[h]
theorem ones_num (n:Nat)(hn:n≤64):IntKind.u64.wrap (IntKind.u64.wrap (2^n)-1)=((2^n-1:Nat):Int):=by
 rw[IntKind.wrap_u64,IntKind.wrap_u64];have hp:(1:Nat)≤2^n:=Nat.two_pow_pos n;have hc:((2:Int)^n)=((2^n:Nat):Int):=by simp
 rw[hc];by_cases h:n=64
 ·subst h;decide
 ·have hl:2^n≤2^63:=Nat.pow_le_pow_right (by omega) (by omega);generalize 2^n=p at*;omega
theorem ones_any (n:Nat)(hn:n≤64)(w:World):Calls Tryd.prog 121 #[.int .i64 n] w fun e w'=>e= .returned (.int .u64 ((2^n-1:Nat):Int))∧w'=w:=by
 go_enter Tryd.func121,Tryd.ntmps121;go_wp2;go_ret;exact⟨ret_val (int_eq (ones_num n hn)),rfl⟩
theorem ones_at (d:Int)(h0:0≤d)(h1:d≤64)(w:World):Calls Tryd.prog 121 #[.int .i64 d] w fun e w'=>e= .returned (.int .u64 ((2^d.toNat-1:Nat):Int))∧w'=w:=by
 have:=ones_any d.toNat (by omega) w;rw[Int.toNat_of_nonneg h0]at this;exact this
theorem wordEnd_any (n:Nat)(hn:n≤1440)(w:World):Calls Tryd.prog 115 #[.int .i64 n] w fun e w'=>e= .returned (.int .i64 ((64*(n/64)+64:Nat):Int))∧w'=w:=by
 go_enter Tryd.func115,Tryd.ntmps115;go_wp2;go_ret;exact⟨ret_val (int_eq (by omega)),rfl⟩
def Tab (w:World):Prop:= ∀j,j<64→w.cell? ⟨0,j,none⟩=some (.int .u8 ((Lib.deBruijn64tab.getD j 0:Nat):Int))
theorem Tab.later {w w':World}(h:Tab w)(hb:Below w.heap.size w w'):Tab w':=fun j hj=>(hb.cell (block_lt_of_cell (h j hj))).trans (h j hj)
theorem tz_key (x a:Nat)(hx:x<18446744073709551616)(hx0:x≠0)(hlow:x&&&(18446744073709551616-x)=a):
  IntKind.u64.wrap (bits BinOp.and IntKind.u64 (x:Int) (IntKind.u64.wrap (-(x:Int)))*285870213051353865)/288230376151711744=((a*285870213051353865%18446744073709551616/288230376151711744:Nat):Int):=by
 have e1:IntKind.u64.wrap (-(x:Int))=((18446744073709551616-x:Nat):Int):=by rw[IntKind.wrap_u64];omega
 rw[e1,bits_and_u64_nat x _ hx (by omega),hlow,IntKind.wrap_u64];omega
set_option maxHeartbeats 400000 in
theorem tz_core (x k idx:Nat)(w:World)(hx0:((x:Int)==0)=false)
  (key:IntKind.u64.wrap (bits BinOp.and IntKind.u64 (x:Int) (IntKind.u64.wrap (-(x:Int)))*285870213051353865)/288230376151711744=(idx:Int))
  (hi:idx<64) (hk:k<64) (hcell:w.cell? ⟨0,idx,none⟩=some (.int .u8 k)):
  Calls Tryd.prog 116 #[.int .u64 x] w fun e w'=>e= .returned (.int .i64 k)∧w'=w:=by
 go_enter Tryd.func116,Tryd.ntmps116;go_wp2_with(simp only[key])
 go_ret;exact⟨rfl,rfl⟩
theorem tz_any (x:Nat)(hx:x<18446744073709551616)(hx0:x≠0)(w:World)(hT:Tab w):
  ∃k:Nat,k<64∧x.testBit k=true∧(∀j,j<k→x.testBit j=false)∧Calls Tryd.prog 116 #[.int .u64 x] w fun e w'=>e= .returned (.int .i64 k)∧w'=w:=by
 obtain⟨hlow,hk⟩:=Lib.lowest_bit 64 x hx0 hx;obtain⟨hi,htab⟩:=Lib.deBruijn64_at _ hk;have hcell:=hT _ hi;rw[htab]at hcell
 have hb: ∀j,j≤Lib.ctz 64 x→x.testBit j=decide (j=Lib.ctz 64 x):=by
  obtain⟨m,hm,hlt⟩:=Lib.ctzFrom_spec 64 x (by omega) hx;have e:Lib.ctz 64 x=Lib.ctzFrom 64 x:=(by simp[Lib.ctz,hx0]);rw[e];clear hcell htab hi hlow hk e;generalize Lib.ctzFrom 64 x=k at*;intro j hj;rw[hm,Nat.mul_comm,Nat.testBit_mul_two_pow];by_cases hjk:j=k
  ·subst hjk;simp
  ·have: ¬k≤j:=(by omega);simp[this,hjk]
 exact⟨_,hk,by rw[hb _ (Nat.le_refl _)];simp,fun j hj=>by rw[hb _ (by omega)];simp;omega,tz_core x _ _ w (by simp;omega) (tz_key x _ hx hx0 hlow) hi hk hcell⟩
end Go.Proofs.YtpmobjgnmidolaaDoor
/- What masks.later and earlier come to, and masks.Shift. -/
namespace Go.Proofs.YtpmobjgnmidolaaDoor
open Go.RowKit Msk
theorem up_one (f:Nat→Bool)(by' i q r:Nat)(hq:q=by'/64)(hr:r=by'%64)(hi:q≤i):
  IntKind.u64.wrap ((wd f (i-q):Int)*2^r)=((wd (fun t=>decide (by'≤t)&&decide (64*(i-q)≤t-by')&&f (t-by')) i:Nat):Int):=by
 have e1:wd (fun t=>decide (by'≤t)&&decide (64*(i-q)≤t-by')&&f (t-by')) i=wd f (i-q)*2^r%18446744073709551616:=by
  symm;refine wd_eq _ _ _ (Nat.mod_lt _ (by omega)) fun j hj=> ?_;rw[shl_bit _ _ j hj,wd_bit];by_cases h:r≤j
  ·have a1:by'≤64*i+j:=(by omega);have a2:64*(i-q)≤64*i+j-by':=(by omega);have a3:64*(i-q)+(j-r)=64*i+j-by':=(by omega);have a4:j-r<64:=(by omega);simp[h,a1,a2,a3,a4]
  ·by_cases a1:by'≤64*i+j
   ·have a2: ¬64*(i-q)≤64*i+j-by':=(by omega);simp[h,a2]
   ·simp[h,a1]
 rw[IntKind.wrap_u64,e1];have:((2:Int)^r)=((2^r:Nat):Int):=by simp
 rw[this];omega
theorem up_two (f:Nat→Bool)(by' i q r:Nat)(hq:q=by'/64)(hr:r=by'%64)(hi:q<i):
  ((wd (fun t=>decide (by'≤t)&&decide (64*(i-q)≤t-by')&&f (t-by')) i|||wd f (i-q-1)/2^(64-r):Nat))=wd (fun t=>decide (by'≤t)&&f (t-by')) i:=by
 have l1:=wd_lt f (i-q-1);have l2:wd f (i-q-1)/2^(64-r)≤wd f (i-q-1):=Nat.div_le_self _ _;refine wd_eq _ _ _ (show _<2^64 from Nat.or_lt_two_pow (wd_lt _ _) (by omega)) fun j hj=> ?_;rw[Nat.testBit_or,wd_bit,shr_bit,wd_bit];have a1:by'≤64*i+j:=by omega
 by_cases h:r≤j
 ·have a2:64*(i-q)≤64*i+j-by':=by omega
  have a4: ¬j+(64-r)<64:=(by omega);simp[hj,a1,a2,a4]
 ·have a2: ¬64*(i-q)≤64*i+j-by':=by omega
  have a3:64*(i-q-1)+(j+(64-r))=64*i+j-by':=(by omega);have a4:j+(64-r)<64:=(by omega);simp[hj,a1,a2,a3,a4]
theorem down_one (f:Nat→Bool)(by' i q r:Nat)(hq:q=by'/64)(hr:r=by'%64)(hi:q≤i):
  wd f i/2^r=wd (fun t=>decide (t+by'<64*(i+1))&&f (t+by')) (i-q):=by
 have l2:wd f i/2^r≤wd f i:=Nat.div_le_self _ _;have l1:=wd_lt f i;refine wd_eq _ _ _ (by omega) fun j hj=> ?_;rw[shr_bit,wd_bit];by_cases h:j+r<64
 ·have a1:64*(i-q)+j+by'<64*(i+1):=by omega
  have a2:64*i+(j+r)=64*(i-q)+j+by':=(by omega);simp[h,a1,a2]
 ·have a1: ¬64*(i-q)+j+by'<64*(i+1):=by omega
  simp[h,a1]
theorem down_two (f:Nat→Bool)(by' i q r:Nat)(hq:q=by'/64)(hr:r=by'%64)(hi:q≤i):
  bits .or .u64 (wd (fun t=>decide (t+by'<64*(i+1))&&f (t+by')) (i-q):Int) (IntKind.u64.wrap ((wd f (i+1):Int)*2^(64-r)))=((wd (fun t=>f (t+by')) (i-q):Nat):Int):=by
 have e1:IntKind.u64.wrap ((wd f (i+1):Int)*2^(64-r))=((wd (fun t=> !decide (t+by'<64*(i+1))&&f (t+by')) (i-q):Nat):Int):=by
  have e2:wd (fun t=> !decide (t+by'<64*(i+1))&&f (t+by')) (i-q)=wd f (i+1)*2^(64-r)%18446744073709551616:=by
   symm;refine wd_eq _ _ _ (Nat.mod_lt _ (by omega)) fun j hj=> ?_;rw[shl_bit _ _ j hj,wd_bit];by_cases h:64-r≤j
   ·have a1: ¬64*(i-q)+j+by'<64*(i+1):=(by omega);have a2:64*(i+1)+(j-(64-r))=64*(i-q)+j+by':=(by omega);have a3:j-(64-r)<64:=(by omega);simp[h,a1,a2,a3]
   ·have a1:64*(i-q)+j+by'<64*(i+1):=(by omega);simp[h,a1]
  rw[IntKind.wrap_u64,e2];have:((2:Int)^(64-r))=((2^(64-r):Nat):Int):=(by simp);rw[this];omega
 rw[e1,bits_or_u64_nat _ _ (wd_lt _ _) (wd_lt _ _),wd_or]
 have e3:wd (fun t=>(decide (t+by'<64*(i+1))&&f (t+by'))||(!decide (t+by'<64*(i+1))&&f (t+by'))) (i-q)=wd (fun t=>f (t+by')) (i-q):=wd_ext fun j _=>by
  cases decide (64*(i-q)+j+by'<64*(i+1))<;>simp
 rw[e3]
theorem up_put1 (f:Nat→Bool)(b i q r d:Nat)(hq:q=b/64)(hr:r=b%64)(hd:i=q+d):
  IntKind.u64.wrap ((wd f d:Int)*2^r)=((wd (fun t=>decide (b≤t)&&decide (64*d≤t-b)&&f (t-b)) i:Nat):Int):=by
 have:=up_one f b i q r hq hr (by omega);have e:i-q=d:=by omega
 rw[e]at this;exact this
theorem up_put0 (f:Nat→Bool)(b q r:Nat)(hq:q=b/64)(hr:r=b%64):
  IntKind.u64.wrap ((wd f 0:Int)*2^r)=((wd (fun t=>decide (b≤t)&&f (t-b)) q:Nat):Int):=by
 rw[up_put1 f b q q r 0 hq hr rfl];have e3:wd (fun t=>decide (b≤t)&&decide (64*0≤t-b)&&f (t-b)) q=wd (fun t=>decide (b≤t)&&f (t-b)) q:=wd_ext fun j _=>by simp
 rw[e3]
theorem up_put2 (f:Nat→Bool)(b i q r d:Nat)(hq:q=b/64)(hr:r=b%64)(hd:i=q+(d+1)):
  bits .or .u64 (wd (fun t=>decide (b≤t)&&decide (64*(d+1)≤t-b)&&f (t-b)) i:Int) ((wd f d:Int)/2^(64-r))=((wd (fun t=>decide (b≤t)&&f (t-b)) i:Nat):Int):=by
 have:=up_two f b i q r hq hr (by omega);have e:i-q=d+1:=by omega
 rw[e]at this;have e2:((wd f d:Int)/2^(64-r))=((wd f d/2^(64-r):Nat):Int):=by simp
 have l2:wd f d/2^(64-r)≤wd f d:=Nat.div_le_self _ _;have l1:=wd_lt f d;rw[e2,bits_or_u64_nat _ _ (wd_lt _ _) (by omega)];exact congrArg _ this
theorem down_put1 (f:Nat→Bool)(b i q r d:Nat)(hq:q=b/64)(hr:r=b%64)(hd:i=q+d):
  (wd f i:Int)/2^r=((wd (fun t=>decide (t+b<64*(i+1))&&f (t+b)) d:Nat):Int):=by
 have:=down_one f b i q r hq hr (by omega);have e:i-q=d:=by omega
 rw[e]at this;rw[←this];simp
theorem down_put2 (f:Nat→Bool)(b i q r d:Nat)(hq:q=b/64)(hr:r=b%64)(hd:i=q+d)(hi:i<22):
  bits .or .u64 (wd (fun t=>decide (t+b<64*(i+1))&&f (t+b)) d:Int) (IntKind.u64.wrap ((wd f (i+1):Int)*2^(64-r)))=((wd (fun t=>decide (t+b<1472)&&f (t+b)) d:Nat):Int):=by
 have:=down_two f b i q r hq hr (by omega);have e:i-q=d:=by omega
 rw[e]at this;rw[this]
 have e3:wd (fun t=>f (t+b)) d=wd (fun t=>decide (t+b<1472)&&f (t+b)) d:=wd_ext fun j _=>by
  have:64*d+j+b<1472:=(by omega);simp[this]
 rw[e3]
theorem mv_step2 (k:Nat)(hk:k<23)(h:Nat→Bool)(v:Value):((mv fun i=>decide (i<64*k)&&h i).setIfInBounds k v).setIfInBounds k (.int .u64 (wd h k:Int))=mv fun i=>decide (i<64*(k+1))&&h i:=by
 rw[Array.setIfInBounds_setIfInBounds];exact mv_step k hk h
theorem up_start (f:Nat→Bool)(b q:Nat)(hq:q=b/64):mv (fun _=>false)=mv (fun t=>decide (t<64*q)&&(decide (b≤t)&&f (t-b))):=mv_ext fun t _=>by
 by_cases h:t<64*q
 ·have: ¬b≤t:=by omega
  simp[this]
 ·simp[h]
set_option maxRecDepth 10000 in
set_option maxHeartbeats 2000000 in
theorem later_any (f:Nat→Bool)(b:Nat)(hb:b<1440)(w:World):
  Calls Tryd.prog 111 #[.agg (mv f),.int .i64 b] w fun e w'=>e= .returned (.agg (mv fun t=>decide (b≤t)&&f (t-b)))∧Below w.heap.size w w':=by
 have hz:=mv_lit;obtain⟨q,hq⟩: ∃q:Nat,q=b/64:=⟨_,rfl⟩
 obtain⟨r,hr⟩: ∃r:Nat,r=b%64:=⟨_,rfl⟩
 have HQ:Hid (q=b/64):=hq;have HR:Hid (r=b%64):=hr;have t1:(b:Int)/64=(q:Int):=by omega
 have t2:(b:Int)%64=(r:Int):=by omega
 have hq23:q<23:=by omega
 have hr64:r<64:=by omega
 clear hq hr;go_enter Tryd.func111,Tryd.ntmps111;go_wp2
 go_loopw [8] (fun i wr=> ∃k d:Nat,k≤23∧k=q+d∧i= .int .i64 k∧wr.heap[w.heap.size]? =some (.cells (mv f) 37 (0,0))∧wr.heap[w.heap.size+1]? =some (.cells (mv fun _=>false) 37 (0,0))∧
  wr.heap[w.heap.size+1+1]? =some (.cells (mv fun t=>decide (t<64*k)&&(decide (b≤t)&&f (t-b))) 37 (0,0))∧Below w.heap.size w wr) (fun i _=>23-(intOf i).toNat)
 case atStart=>
  refine⟨q,0,by omega,rfl,rfl,?_,?_,?_,?_⟩
  ·(repeat (first | refine blk_old _ _ _ (by simp only [size_alloc]; omega) ?_ | exact blk_new _ _ _ (by first | rfl | simp only [size_alloc])))
  ·(repeat (first | refine blk_old _ _ _ (by simp only [size_alloc]; omega) ?_ | exact blk_new _ _ _ (by first | rfl | simp only [size_alloc])))
  ·refine blk_eq ?_ (up_start f b q HQ.out);(repeat (first | refine blk_old _ _ _ (by simp only [size_alloc]; omega) ?_ | exact blk_new _ _ _ (by first | rfl | simp only [size_alloc])))
  ·exact(((Below.refl _ _).alloc (Nat.le_refl _) _).alloc (by simp) _).alloc (by simp only[size_alloc];omega) _
 case round=>
  obtain⟨k,d,hk,hkd,rfl,ha,ho,hm,hbel⟩:=hrel;have HD:Hid (k=q+d):=hkd;by_cases hlt:k<23
  ·have ca:=cell_mv ha d (by omega);have cm:=cell_mv hm k hlt;have fm:=frozen_of_row _ _ k _ _ hm;have e1:(k:Int)-(q:Int)=(d:Int):=(by omega);have hi0:(0:Int)≤(d:Int):=(by omega);have hi1:(d:Int)<23:=(by omega);by_cases hd0:d=0
   ·subst hd0;have p1:=up_put0 f b q r HQ.out HR.out;have hkq:k=q:=hkd;subst hkq;clear hkd;go_wp2;go_roundw
    case rel=>
     refine⟨k+1,1,by omega,rfl,by go_num,?_,?_,?_,hbel.setCell (by dsimp only;omega) _⟩
     ·exact(heap_setCell_other _ _ _ _ (by dsimp only;omega)).trans ha
     ·exact(heap_setCell_other _ _ _ _ (by dsimp only;omega)).trans ho
     ·exact blk_eq (heap_setCell_same _ _ _ _ _ _ hm) (mv_step k hlt fun t=>decide (b≤t)&&f (t-b))
    case measure=>simp[intOf];omega
   ·obtain⟨c,hc⟩: ∃c,d=c+1:=⟨d-1,by omega⟩
    have p1:=up_put1 f b k q r d HQ.out HR.out hkd;have p2:=up_put2 f b k q r c HQ.out HR.out (by omega);rw[←hc]at p2;have e2:(d:Int)-1=(c:Int):=(by omega);have e3:IntKind.i64.wrap ((k:Int)-(q:Int))=(d:Int):=(by rw[IntKind.wrap_i64];omega);have e4:IntKind.i64.wrap ((d:Int)-1)=(c:Int):=(by rw[IntKind.wrap_i64];omega);have e5:IntKind.i64.wrap (64-(r:Int))=64-(r:Int):=(by rw[IntKind.wrap_i64];omega);have e6:(64-(r:Int)).toNat=64-r:=(by omega);have e7:(0:Int)≤64-(r:Int):=(by omega);have j0:(0:Int)≤(c:Int):=(by omega);have j1:(c:Int)<23:=(by omega);have cc:=cell_mv ha c (by omega);have hgt:(q:Int)<(k:Int):=(by omega);generalize (fun t=>decide (b≤t)&&decide (64*d≤t-b)&&f (t-b))=G1 at p1 p2;have c1:(wr.setCell ⟨w.heap.size+1+1,k,none⟩ (.int .u64 (wd G1 k:Int))).cell? ⟨w.heap.size,c,none⟩=some (.int .u64 (wd f c:Int)):=(cell_set_far _ _ _ _ (by dsimp only;omega)).trans cc;have hm2:=heap_setCell_same _ _ k _ _ (.int .u64 (wd G1 k:Int)) hm
    have c2:(wr.setCell ⟨w.heap.size+1+1,k,none⟩ (.int .u64 (wd G1 k:Int))).cell? ⟨w.heap.size+1+1,k,none⟩=some (.int .u64 (wd G1 k:Int)):=by
     rw[cell_of_row _ _ k _ _ _ hm2];simp[mv_size,hlt]
    have f2:=frozen_of_row _ _ k _ _ hm2;have HM2:Hid ((wr.setCell ⟨w.heap.size+1+1,k,none⟩ (.int .u64 (wd G1 k:Int))).heap[w.heap.size+1+1]? =some (.cells ((mv fun t=>decide (t<64*k)&&(decide (b≤t)&&f (t-b))).setIfInBounds k (.int .u64 (wd G1 k:Int))) 37 (0,0))):=hm2;clear hm2 hkd hc;go_wp2;go_region;go_wp2;go_roundw
    case rel=>
     have hD:=HD.out;refine⟨k+1,d+1,by omega,by omega,by go_num,?_,?_,?_,((hbel.setCell (by dsimp only;omega) _).setCell (by dsimp only;omega) _).drew⟩
     ·exact((heap_setCell_other _ _ _ _ (by dsimp only;omega)).trans (heap_setCell_other _ _ _ _ (by dsimp only;omega))).trans ha
     ·exact((heap_setCell_other _ _ _ _ (by dsimp only;omega)).trans (heap_setCell_other _ _ _ _ (by dsimp only;omega))).trans ho
     ·exact blk_eq (heap_setCell_same _ _ _ _ _ _ HM2.out) (mv_step2 k hlt (fun t=>decide (b≤t)&&f (t-b)) _)
    case measure=>simp[intOf];omega
  ·have hk23:k=23:=(by omega);subst hk23;have hm':=blk_eq hm (mv_full _);clear hm HD hkd
   go_wp2_with(first
    |(refine wpList_load_row rfl 37 _ rfl _ rfl _ _ _ _ hm' maskType rfl (maskSize _) ?_)
    |(refine wpList_store_row rfl 37 _ _ rfl _ _ rfl rfl _ _ ho (maskSize _) (by simp[mv_size]) (mv_all _) ?_))
   refine bodyPost_ret (v:= .agg (mv fun t=>decide (b≤t)&&f (t-b))) ?_ rfl ⟨rfl,?_⟩
   ·exact results_cell_row rfl _ _ (w.heap.size+1) _ _ _ _ rfl (setRow_heap _ _ _ _ _ _ ho) maskType rfl (maskSize _)
   ·exact below_setRow hbel (by omega) _
end Go.Proofs.YtpmobjgnmidolaaDoor
/- What masks.earlier comes to, and masks.Shift. -/
namespace Go.Proofs.YtpmobjgnmidolaaDoor
open Go.RowKit Msk
theorem down_full (f:Nat→Bool)(b q d:Nat)(hq:q=b/64)(hd:23=q+d):(mv fun t=>decide (t<64*d)&&(decide (t+b<1472)&&f (t+b)))=mv fun t=>decide (t+b<1472)&&f (t+b):=mv_ext fun t ht=>by
 by_cases h:t<64*d
 ·simp[h]
 ·have: ¬t+b<1472:=by omega
  simp[this]
theorem down_put22 (f:Nat→Bool)(b i q r d:Nat)(hq:q=b/64)(hr:r=b%64)(hd:i=q+d)(h22:i=22):
  (wd f i:Int)/2^r=((wd (fun t=>decide (t+b<1472)&&f (t+b)) d:Nat):Int):=by
 rw[down_put1 f b i q r d hq hr hd]
 rw[wd_ext (f:=fun t=>decide (t+b<64*(i+1))&&f (t+b)) (g:=fun t=>decide (t+b<1472)&&f (t+b)) fun j _=>by
  have:(64*d+j+b<64*(i+1))=(64*d+j+b<1472):=(by apply propext;omega);simp only[this]]
set_option maxRecDepth 10000 in
set_option maxHeartbeats 2000000 in
theorem earlier_any (f:Nat→Bool)(b:Nat)(hb:b<1440)(w:World):
  Calls Tryd.prog 110 #[.agg (mv f),.int .i64 b] w fun e w'=>e= .returned (.agg (mv fun t=>decide (t+b<1472)&&f (t+b)))∧Below w.heap.size w w':=by
 have hz:=mv_lit;obtain⟨q,hq⟩: ∃q:Nat,q=b/64:=⟨_,rfl⟩
 obtain⟨r,hr⟩: ∃r:Nat,r=b%64:=⟨_,rfl⟩
 have HQ:Hid (q=b/64):=hq;have HR:Hid (r=b%64):=hr;have t1:(b:Int)/64=(q:Int):=by omega
 have t2:(b:Int)%64=(r:Int):=by omega
 have hq23:q<23:=by omega
 have hr64:r<64:=by omega
 clear hq hr;go_enter Tryd.func110,Tryd.ntmps110;go_wp2
 go_loopw [8] (fun i wr=> ∃k d:Nat,k≤23∧k=q+d∧i= .int .i64 k∧wr.heap[w.heap.size]? =some (.cells (mv f) 37 (0,0))∧wr.heap[w.heap.size+1]? =some (.cells (mv fun _=>false) 37 (0,0))∧
  wr.heap[w.heap.size+1+1]? =some (.cells (mv fun t=>decide (t<64*d)&&(decide (t+b<1472)&&f (t+b))) 37 (0,0))∧Below w.heap.size w wr) (fun i _=>23-(intOf i).toNat)
 case atStart=>
  refine⟨q,0,by omega,rfl,rfl,?_,?_,?_,?_⟩
  ·(repeat (first | refine blk_old _ _ _ (by simp only [size_alloc]; omega) ?_ | exact blk_new _ _ _ (by first | rfl | simp only [size_alloc])))
  ·(repeat (first | refine blk_old _ _ _ (by simp only [size_alloc]; omega) ?_ | exact blk_new _ _ _ (by first | rfl | simp only [size_alloc])))
  ·refine blk_eq ?_ (mv_start _);(repeat (first | refine blk_old _ _ _ (by simp only [size_alloc]; omega) ?_ | exact blk_new _ _ _ (by first | rfl | simp only [size_alloc])))
  ·exact(((Below.refl _ _).alloc (Nat.le_refl _) _).alloc (by simp) _).alloc (by simp only[size_alloc];omega) _
 case round=>
  obtain⟨k,d,hk,hkd,rfl,ha,ho,hm,hbel⟩:=hrel;have HD:Hid (k=q+d):=hkd;by_cases hlt:k<23
  ·have ca:=cell_mv ha k (by omega);have hd23:d<23:=(by omega);have cm:=cell_mv hm d hd23;have fm:=frozen_of_row _ _ d _ _ hm;have e1:(k:Int)-(q:Int)=(d:Int):=(by omega);have hi0:(0:Int)≤(d:Int):=(by omega);have hi1:(d:Int)<23:=(by omega);have p1:=down_put1 f b k q r d HQ.out HR.out hkd;by_cases hd0:k=22
   ·have hlast:(22:Int)≤(k:Int):=(by omega);have p3:=down_put22 f b k q r d HQ.out HR.out hkd hd0;have HK:Hid (k=22):=hd0;clear p1 hkd hd0;go_wp2;go_roundw
    case rel=>
     have hD:=HD.out;have hK:=HK.out;refine⟨k+1,d+1,by omega,by omega,by go_num,?_,?_,?_,hbel.setCell (by dsimp only;omega) _⟩
     ·exact(heap_setCell_other _ _ _ _ (by dsimp only;omega)).trans ha
     ·exact(heap_setCell_other _ _ _ _ (by dsimp only;omega)).trans ho
     ·exact blk_eq (heap_setCell_same _ _ _ _ _ _ hm) (mv_step d hd23 fun t=>decide (t+b<1472)&&f (t+b))
    case measure=>
     have hK:=HK.out;simp[intOf];omega
   ·have p2:=down_put2 f b k q r d HQ.out HR.out hkd (by omega);generalize (fun t=>decide (t+b<64*(k+1))&&f (t+b))=G1 at p1 p2;obtain⟨c,hc⟩: ∃c,c=k+1:=⟨_,rfl⟩
    rw[←hc]at p2;have e2:(k:Int)+1=(c:Int):=(by omega);have e3:IntKind.i64.wrap ((k:Int)-(q:Int))=(d:Int):=(by rw[IntKind.wrap_i64];omega);have e4:IntKind.i64.wrap ((k:Int)+1)=(c:Int):=(by rw[IntKind.wrap_i64];omega);have e5:IntKind.i64.wrap (64-(r:Int))=64-(r:Int):=(by rw[IntKind.wrap_i64];omega);have e6:(64-(r:Int)).toNat=64-r:=(by omega);have e7:(0:Int)≤64-(r:Int):=(by omega);have j0:(0:Int)≤(c:Int):=(by omega);have j1:(c:Int)<23:=(by omega);have cc:=cell_mv ha c (by omega);have c1:(wr.setCell ⟨w.heap.size+1+1,d,none⟩ (.int .u64 (wd G1 d:Int))).cell? ⟨w.heap.size,c,none⟩=some (.int .u64 (wd f c:Int)):=(cell_set_far _ _ _ _ (by dsimp only;omega)).trans cc;have hm2:=heap_setCell_same _ _ d _ _ (.int .u64 (wd G1 d:Int)) hm
    have c2:(wr.setCell ⟨w.heap.size+1+1,d,none⟩ (.int .u64 (wd G1 d:Int))).cell? ⟨w.heap.size+1+1,d,none⟩=some (.int .u64 (wd G1 d:Int)):=by
     rw[cell_of_row _ _ d _ _ _ hm2];simp[mv_size,hd23]
    have f2:=frozen_of_row _ _ d _ _ hm2;have HM2:Hid ((wr.setCell ⟨w.heap.size+1+1,d,none⟩ (.int .u64 (wd G1 d:Int))).heap[w.heap.size+1+1]? =some (.cells ((mv fun t=>decide (t<64*d)&&(decide (t+b<1472)&&f (t+b))).setIfInBounds d (.int .u64 (wd G1 d:Int))) 37 (0,0))):=hm2;have HC:Hid (c=k+1):=hc;clear hm2 hkd hc;go_wp2;go_region;go_wp2;go_roundw
    case rel=>
     have hD:=HD.out;have hC:=HC.out;refine⟨c,d+1,by omega,by omega,by go_num,?_,?_,?_,((hbel.setCell (by dsimp only;omega) _).setCell (by dsimp only;omega) _).drew⟩
     ·exact((heap_setCell_other _ _ _ _ (by dsimp only;omega)).trans (heap_setCell_other _ _ _ _ (by dsimp only;omega))).trans ha
     ·exact((heap_setCell_other _ _ _ _ (by dsimp only;omega)).trans (heap_setCell_other _ _ _ _ (by dsimp only;omega))).trans ho
     ·refine blk_eq (heap_setCell_same _ _ _ _ _ _ HM2.out) ?_;exact mv_step2 d hd23 (fun t=>decide (t+b<1472)&&f (t+b)) _
    case measure=>
     have hC:=HC.out;simp[intOf];omega
  ·have hk23:k=23:=(by omega);subst hk23;have hm':=blk_eq hm (down_full f b q d HQ.out HD.out);clear hm HD hkd
   go_wp2_with(first
    |(refine wpList_load_row rfl 37 _ rfl _ rfl _ _ _ _ hm' maskType rfl (maskSize _) ?_)
    |(refine wpList_store_row rfl 37 _ _ rfl _ _ rfl rfl _ _ ho (maskSize _) (by simp[mv_size]) (mv_all _) ?_))
   refine bodyPost_ret (v:= .agg (mv fun t=>decide (t+b<1472)&&f (t+b))) ?_ rfl ⟨rfl,?_⟩
   ·exact results_cell_row rfl _ _ (w.heap.size+1) _ _ _ _ rfl (setRow_heap _ _ _ _ _ _ ho) maskType rfl (maskSize _)
   ·exact below_setRow hbel (by omega) _
end Go.Proofs.YtpmobjgnmidolaaDoor
/- What masks.Shift comes to. -/
namespace Go.Proofs.YtpmobjgnmidolaaDoor
open Go.RowKit Msk
def shf (f:Nat→Bool)(x:Int)(t:Nat):Bool:=decide (t<1440)&&(decide (x≤(t:Int))&&(decide ((t:Int)-x<1440)&&f ((t:Int)-x).toNat))
theorem shf_none (f:Nat→Bool)(x:Int)(h:x≤ -1440∨1440≤x):(mv fun _=>false)=mv (shf f x):=mv_ext fun t _=>by
 unfold shf;by_cases h1:t<1440
 ·by_cases h2:x≤(t:Int)
  ·have: ¬(t:Int)-x<1440:=(by omega);simp[this]
  ·simp[h2]
 ·simp[h1]
theorem shf_up (f:Nat→Bool)(b:Nat):(mv fun t=>(decide (b≤t)&&f (t-b))&&decide (t<1440))=mv (shf f (b:Int)):=mv_ext fun t _=>by
 unfold shf;by_cases h1:t<1440
 ·by_cases h2:b≤t
  ·have e1:((t:Int)-(b:Int)).toNat=t-b:=(by omega);have e2:(b:Int)≤(t:Int):=(by omega);have e3:(t:Int)-(b:Int)<1440:=(by omega);simp[h1,h2,e1,e3]
  ·have e2: ¬(b:Int)≤(t:Int):=(by omega);simp[h2]
 ·simp[h1]
theorem shf_down (f:Nat→Bool)(b:Nat):(mv fun t=>decide (t+b<1472)&&(f (t+b)&&decide (t+b<1440)))=mv (shf f (-(b:Int))):=mv_ext fun t _=>by
 unfold shf;by_cases h1:t+b<1440
 ·have e1:((t:Int)- -(b:Int)).toNat=t+b:=by omega
  have e2: -(b:Int)≤(t:Int):=(by omega);have e3:(t:Int)- -(b:Int)<1440:=(by omega);have e4:t+b<1472:=(by omega);have e5:t<1440:=(by omega);rw[e1];simp only[h1,e2,e3,e4,e5,decide_true,Bool.true_and,Bool.and_true]
 ·have e3: ¬(t:Int)- -(b:Int)<1440:=by omega
  simp only[h1,e3,decide_false,Bool.and_false,Bool.false_and]
set_option maxRecDepth 10000 in
set_option maxHeartbeats 2000000 in
theorem mshift_any (f:Nat→Bool)(x:Int)(w:World)(hx0: -9223372036854775808≤x)(hx1:x≤9223372036854775807):
  Calls Tryd.prog 81 #[.agg (mv f),.int .i64 x] w fun e w'=>e= .returned (.agg (mv (shf f x)))∧Below w.heap.size w w':=by
 have hz:=mv_lit;have h1:((w.alloc (.cells (mv f) 37)).alloc (.cells (mv fun _=>false) 37)).heap[w.heap.size]? =some (.cells (mv f) 37 (0,0)):=by (repeat (first | refine blk_old _ _ _ (by simp only [size_alloc]; omega) ?_ | exact blk_new _ _ _ (by first | rfl | simp only [size_alloc])))
 have h3:((w.alloc (.cells (mv f) 37)).alloc (.cells (mv fun _=>false) 37)).heap[w.heap.size+1]? =some (.cells (mv fun _=>false) 37 (0,0)):=by (repeat (first | refine blk_old _ _ _ (by simp only [size_alloc]; omega) ?_ | exact blk_new _ _ _ (by first | rfl | simp only [size_alloc])))
 have hb0:Below w.heap.size w ((w.alloc (.cells (mv f) 37)).alloc (.cells (mv fun _=>false) 37)):=((Below.refl _ _).alloc (Nat.le_refl _) _).alloc (by simp) _;rcases(show(x≤ -1440)∨(1440≤x)∨(-1440<x∧x<0)∨(0≤x∧x<1440) from by omega) with h|h|⟨h,h'⟩|⟨h,h'⟩
 ·rw[←shf_none f x (.inl h)];go_enter Tryd.func81,Tryd.ntmps81;go_wp2_with(refine wpList_store_row rfl 37 _ _ rfl _ _ rfl rfl _ _ h3 (maskSize _) (by simp[mv_size]) (mv_all _) ?_)
  refine bodyPost_ret (v:= .agg (mv fun _=>false)) ?_ rfl ⟨rfl,below_setRow hb0 (by omega) _⟩;exact results_cell_row rfl _ _ (w.heap.size+1) _ _ _ _ rfl (setRow_heap _ _ _ _ _ _ h3) maskType rfl (maskSize _)
 ·rw[←shf_none f x (.inr h)];have hno: ¬x≤ -1440:=(by omega);go_enter Tryd.func81,Tryd.ntmps81;go_wp2_with(refine wpList_store_row rfl 37 _ _ rfl _ _ rfl rfl _ _ h3 (maskSize _) (by simp[mv_size]) (mv_all _) ?_)
  refine bodyPost_ret (v:= .agg (mv fun _=>false)) ?_ rfl ⟨rfl,below_setRow hb0 (by omega) _⟩;exact results_cell_row rfl _ _ (w.heap.size+1) _ _ _ _ rfl (setRow_heap _ _ _ _ _ _ h3) maskType rfl (maskSize _)
 ·obtain⟨b,hb⟩: ∃b:Nat,-x=b:=⟨(-x).toNat,by omega⟩
  have hb2:b<1440:=(by omega);have hx:x= -(b:Int):=(by omega);have hshf:=shf_down f b;rw[←hx]at hshf;rw[←hshf];clear hshf hx;go_enter Tryd.func81,Tryd.ntmps81
  go_wp2_with(first
   |(refine wpList_load_row rfl 37 _ rfl _ rfl _ _ _ _ h1 maskType rfl (maskSize _) ?_)
   |(go_at_call 57;refine(trim_any _ _).mono ?_;rintro e w' ⟨rfl,hb'⟩;have ho':=(hb'.block _ (lt_of_block h3)).trans h3)
   |(go_at_call 110;refine(earlier_any _ _ hb2 _).mono ?_;rintro e w'' ⟨rfl,hb''⟩;have ho'':=(hb''.block _ (lt_of_block ho')).trans ho')
   |(refine wpList_store_row rfl 37 _ _ rfl _ _ rfl rfl _ _ ho'' (maskSize _) (by simp[mv_size]) (mv_all _) ?_))
  refine bodyPost_ret (v:= .agg (mv fun t=>decide (t+b<1472)&&(f (t+b)&&decide (t+b<1440)))) ?_ rfl ⟨rfl,?_⟩
  ·exact results_cell_row rfl _ _ (w.heap.size+1) _ _ _ _ rfl (setRow_heap _ _ _ _ _ _ ho'') maskType rfl (maskSize _)
  ·have hb1:=hb0.trans (hb'.mono hb0.size);exact below_setRow (hb1.trans (hb''.mono hb1.size)) (by omega) _
 ·obtain⟨b,rfl⟩: ∃b:Nat,x=b:=⟨x.toNat,by omega⟩
  rw[←shf_up f b];have hb2:b<1440:=(by omega);go_enter Tryd.func81,Tryd.ntmps81
  go_wp2_with(first
   |(refine wpList_load_row rfl 37 _ rfl _ rfl _ _ _ _ h1 maskType rfl (maskSize _) ?_)
   |(go_at_call 111;refine(later_any _ _ hb2 _).mono ?_;rintro e w' ⟨rfl,hb'⟩;have ho':=(hb'.block _ (lt_of_block h3)).trans h3)
   |(go_at_call 57;refine(trim_any _ _).mono ?_;rintro e w'' ⟨rfl,hb''⟩;have ho'':=(hb''.block _ (lt_of_block ho')).trans ho')
   |(refine wpList_store_row rfl 37 _ _ rfl _ _ rfl rfl _ _ ho'' (maskSize _) (by simp[mv_size]) (mv_all _) ?_))
  refine bodyPost_ret (v:= .agg (mv fun t=>(decide (b≤t)&&f (t-b))&&decide (t<1440))) ?_ rfl ⟨rfl,?_⟩
  ·exact results_cell_row rfl _ _ (w.heap.size+1) _ _ _ _ rfl (setRow_heap _ _ _ _ _ _ ho'') maskType rfl (maskSize _)
  ·have hb1:=hb0.trans (hb'.mono hb0.size);exact below_setRow (hb1.trans (hb''.mono hb1.size)) (by omega) _
end Go.Proofs.YtpmobjgnmidolaaDoor
/- Code, plainly: who calls whom; what is wrong with an instruction, with a rule's code, with all. -/
namespace Vx
abbrev Way (E:Nat→Nat→Bool)(i k:Nat):Prop:=Relation.TransGen (fun a b=>E a b=true) i k
def wars (E:Nat→Nat→Bool):Nat→Nat→Nat→Bool
 |0,i,k=>E i k
 |m+1,i,k=>wars E m i k||(wars E m i m&&wars E m m k)
theorem wars_mono {E:Nat→Nat→Bool}{m i k:Nat}(h:wars E m i k=true): ∀d,wars E (m+d) i k=true
 |0=>h
 |d+1=>by
  show wars E ((m+d)+1) i k=true;simp only[wars,wars_mono h d,Bool.true_or]
theorem wars_cat {E:Nat→Nat→Bool}{m i j k:Nat}(hj:j<m)(h1:wars E m i j=true)(h2:wars E m j k=true):wars E m i k=true:=by
 induction m generalizing i j k with
 |zero=>omega
 |succ m ih=>
  by_cases hjm:j=m
  ·subst hjm;simp only[wars,Bool.or_eq_true,Bool.and_eq_true]at h1 h2⊢
   have a:wars E j i j=true:=by
    rcases h1 with h|⟨h,_⟩<;>exact h
   have b:wars E j j k=true:=by
    rcases h2 with h|⟨_,h⟩<;>exact h
   exact .inr ⟨a,b⟩
  ·have hj':j<m:=(by omega);simp only[wars,Bool.or_eq_true,Bool.and_eq_true]at h1 h2⊢;rcases h1 with h1|⟨h1,h1'⟩
   ·rcases h2 with h2|⟨h2,h2'⟩
    ·exact .inl (ih hj' h1 h2)
    ·exact .inr ⟨ih hj' h1 h2,h2'⟩
   ·rcases h2 with h2|⟨h2,h2'⟩
    ·exact .inr ⟨h1,ih hj' h1' h2⟩
    ·exact .inr ⟨h1,h2'⟩
structure In where
 op:Int
 a:Int
 b:Int
 to:Int
 sp:List (Int×Int)
structure Cd where
 ins:List In
 high:Int
 steps:Int
def in0:In:=⟨0,0,0,0,[]⟩
def cd0:Cd:=⟨[],0,0⟩
def risL:List (Int×Int)→Int→Bool
 |[],_=>true
 |s::l,e=>if s.1≤e∨s.2≤s.1∨1440<s.2 then false else risL l s.2
def insE (x:In)(k n rules:Nat):Int:=
 if x.op=2∨x.op=3∨x.op=4 then 0
 else if x.op=1 then(if risL x.sp (-1)=true then 0 else 2)
 else if x.op=5 then(if x.a≠0∧ -1439≤x.a∧x.a≤1439 then 0 else 3)
 else if x.op=6 then(if(k:Int)+2≤x.to∧x.to≤n then(if 1≤x.a∧x.a≤127 then 0 else 3) else 8)
 else if x.op=7 then(if(k:Int)+2≤x.to∧x.to≤n then(if 0≤x.a∧x.a≤x.b∧x.b<146097 then 0 else 3) else 8)
 else if x.op=8 then(if 0≤x.a∧x.a<rules then 0 else 6)
 else 1
def eff (x:In):Int:=if x.op=1∨x.op=8 then 1 else if x.op=2∨x.op=3∨x.op=4 then-1 else 0
def tk (x:In):Int:=if x.op=5 then 1 else if x.op=2∨x.op=3∨x.op=4 then 2 else 0
def isG (x:In):Prop:=x.op=6∨x.op=7
def hAt (l:List In):Nat→Int
 |0=>0
 |j+1=>hAt l j+eff (l.getD j in0)
def mxH (cs:List Cd)(l:List In):Nat→Int
 |0=>0
 |j+1=>max (if(l.getD j in0).op=8 then max (mxH cs l j) (hAt l j+(cs.getD (l.getD j in0).a.toNat cd0).high) else mxH cs l j) (hAt l (j+1))
def stS (cs:List Cd)(l:List In):Nat→Int
 |0=>0
 |j+1=>stS cs l j+1+(if(l.getD j in0).op=8 then(cs.getD (l.getD j in0).a.toNat cd0).steps else 0)
theorem getD_of {l:List In}{j:Nat}{x:In}(h:l[j]? =some x):l.getD j in0=x:=by simp[List.getD,h]
theorem hAt_step {l:List In}{j:Nat}{x:In}(h:l[j]? =some x):hAt l (j+1)=hAt l j+eff x:=by rw[hAt,getD_of h]
theorem mxH_step {cs:List Cd}{l:List In}{j:Nat}{x:In}(h:l[j]? =some x):mxH cs l (j+1)=max (if x.op=8 then max (mxH cs l j) (hAt l j+(cs.getD x.a.toNat cd0).high) else mxH cs l j) (hAt l (j+1)):=by rw[mxH,getD_of h]
theorem stS_step {cs:List Cd}{l:List In}{j:Nat}{x:In}(h:l[j]? =some x):stS cs l (j+1)=stS cs l j+1+(if x.op=8 then(cs.getD x.a.toNat cd0).steps else 0):=by rw[stS,getD_of h]
theorem hAt_mx (cs:List Cd)(l:List In): ∀j,hAt l j≤mxH cs l j
 |0=>Int.le_refl _
 |j+1=>by
  simp only[mxH];omega
structure WellV (l:List In):Prop where
 tk: ∀j x,l[j]? =some x→tk x≤hAt l j
 to: ∀j x,l[j]? =some x→isG x→hAt l x.to.toNat=hAt l j+1
 fin:hAt l l.length=1
def callE (cs:List Cd)(i k:Nat):Bool:=(cs.getD i cd0).ins.any fun x=>decide (x.op=8)&&decide (x.a=(k:Int))
end Vx
