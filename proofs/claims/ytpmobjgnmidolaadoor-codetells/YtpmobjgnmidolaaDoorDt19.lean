/- A row of one mask, made. -/
import Derived.Test.YtpmobjgnmidolaaDoorDt14
import Derived.Great.BuildSlice
import Derived.Great.FillDense
import Derived.Test.YtpmobjgnmidolaaDoorDt11
import Derived.Test.YtpmobjgnmidolaaDoorDt06
namespace Go.Proofs.YtpmobjgnmidolaaDoor
open Go.RowKit Lx Msk
theorem wpList_bslice_mask {ops:Array Oper}{rest:List Oper}{op:Oper}{a:Act}{w:World}{Q:Exit→Act→World→Prop}(hg:op.guard=none)(x:Operand)(ho:op.op= .buildSlice 32 1 #[(0,x)])(f:Nat→Bool)(hx:a.eval x= .agg (mv f))
  (h:wpList Tryd.prog ops Q rest (a.put op.dst (.slice (some ⟨w.heap.size,0,none⟩) 1 1)) (w.alloc (.cells (mv f) 37))):wpList Tryd.prog ops Q (op::rest) a w:=by
 obtain⟨i,hi,hzz⟩:=Option.map_eq_some_iff.1 maskInfo6;simp only[Prod.mk.injEq]at hzz;obtain⟨hz,hs,_⟩:=hzz;refine wpList_buildSlice hg 32 37 1 _ ho (mv f) i _ masksType6 hi hz (by rw[hs];decide) (by rw[hs];decide) ?_ h;rw[hs]
 have h1:=Great.fill_whole (s:=23) (by decide) [Value.agg (mv f)] ((Array.range (1*23)).map ((Value.agg #[.int .u64 0, .int .u64 0, .int .u64 0, .int .u64 0, .int .u64 0, .int .u64 0, .int .u64 0, .int .u64 0, .int .u64 0, .int .u64 0, .int .u64 0, .int .u64 0, .int .u64 0, .int .u64 0, .int .u64 0, .int .u64 0, .int .u64 0, .int .u64 0, .int .u64 0, .int .u64 0, .int .u64 0, .int .u64 0, .int .u64 0]).cells[· %(Value.agg #[.int .u64 0, .int .u64 0, .int .u64 0, .int .u64 0, .int .u64 0, .int .u64 0, .int .u64 0, .int .u64 0, .int .u64 0, .int .u64 0, .int .u64 0, .int .u64 0, .int .u64 0, .int .u64 0, .int .u64 0, .int .u64 0, .int .u64 0, .int .u64 0, .int .u64 0, .int .u64 0, .int .u64 0, .int .u64 0, .int .u64 0]).cells.size]!)) (fun v hv=>by
  have:v= .agg (mv f):=(by simpa using hv);subst this;exact mv_size f) (by simp)
 have e:(List.flatMap (fun v:Value=>v.cells.toList) [Value.agg (mv f)]).toArray=mv f:=by simp[Value.cells]
 rw[e]at h1;have e2:(Array.map (fun x:Nat×Operand=>(x.1,a.eval x.2)) #[(0,x)]).toList=([Value.agg (mv f)].zipIdx 0).map fun x=>(x.2,x.1):=by simp[hx]
 rw[←h1,←e2]
end Go.Proofs.YtpmobjgnmidolaaDoor
/- What the document's Ints comes to where both rows are the same. -/
namespace Go.Proofs.YtpmobjgnmidolaaDoor
end Go.Proofs.YtpmobjgnmidolaaDoor
/- What the document's Reach comes to. -/
namespace Go.Proofs.YtpmobjgnmidolaaDoor
open Go.RowKit Lx
theorem bcells_setb {n:Nat}{m:Nat→Bool}{i:Nat}{b:Bool}:(bcells n m).setIfInBounds i (.bool b)=bcells n (fun k=>if k=i then b else m k):=by
 apply Array.ext
 ·simp[bcells]
 ·intro k h1 h2;have hk:k<n:=(by simpa[bcells] using h2);rw[Array.getElem_setIfInBounds (by simpa[bcells] using hk)];by_cases e:i=k
  ·subst e;simp[bcells]
  ·rw[if_neg e];simp[bcells,show k≠i from fun h=>e h.symm]
def ocells (n p:Nat)(rs:Nat→Nat):Array Value:=((List.range n).map fun j=>if j<p then Value.slice (some ⟨rs j,0,none⟩) n n else .slice none 0 0).toArray
theorem ocells_at {n p:Nat}{rs:Nat→Nat}{j:Nat}(h:j<p)(hn:j<n):(ocells n p rs)[j]? =some (.slice (some ⟨rs j,0,none⟩) n n):=by
 simp[ocells,hn,h]
theorem ocells_not {n p:Nat}{rs:Nat→Nat}{j:Nat}(h:p≤j)(hn:j<n):(ocells n p rs)[j]? =some (.slice none 0 0):=by
 simp[ocells,hn];omega
theorem ocells_none (n:Nat)(rs:Nat→Nat):madeCells #[Value.slice none 0 0] n=ocells n 0 rs:=by
 apply Array.ext
 ·simp[ocells,madeCells]
 ·intro k h1 h2;simp[ocells,madeCells,Nat.mod_one]
theorem ocells_set {n p q:Nat}{rs:Nat→Nat}:(ocells n p rs).setIfInBounds p (.slice (some ⟨q,0,none⟩) n n)=ocells n (p+1) (fun j=>if j=p then q else rs j):=by
 apply Array.ext
 ·simp[ocells]
 ·intro k h1 h2;have hk:k<n:=(by simpa[ocells] using h2);rw[Array.getElem_setIfInBounds (by simpa[ocells] using hk)];by_cases e:p=k
  ·subst e;simp[ocells]
  ·rw[if_neg e];have e2:k≠p:=fun h=>e h.symm;by_cases h:k<p
   ·simp[ocells,e2,h,show k<p+1 by omega]
   ·simp[ocells,h,show¬k<p+1 by omega]
def upd2 (M:Nat→Nat→Bool)(i k:Nat)(b:Bool):Nat→Nat→Bool:=fun i' k'=>if i'=i∧k'=k then b else M i' k'
structure RcM (w:World)(n p:Nat)(rs:Nat→Nat)(M:Nat→Nat→Bool)(W:World):Prop where
 bel:Below w.heap.size w W
 outer:W.heap[w.heap.size]? =some (.cells (ocells n p rs) 61 (0,0))
 rows: ∀j,j<p→W.heap[rs j]? =some (.cells (bcells n (M j)) 4 (0,0))
 inj: ∀j k,j<p→k<p→rs j=rs k→j=k
 gt: ∀j,j<p→w.heap.size<rs j
 le:p≤n
theorem RcM.below {w W W':World}{n p:Nat}{rs:Nat→Nat}{M:Nat→Nat→Bool}(h:RcM w n p rs M W)(hb:Below W.heap.size W W'):RcM w n p rs M W':=
 ⟨h.bel.trans (hb.mono h.bel.size),(hb.block _ (lt_of_block h.outer)).trans h.outer,fun j hj=>(hb.block _ (lt_of_block (h.rows j hj))).trans (h.rows j hj),h.inj,h.gt,h.le⟩
theorem RcM.same {w W:World}{n p:Nat}{rs:Nat→Nat}{M M':Nat→Nat→Bool}(h:RcM w n p rs M W)(he: ∀j k,j<p→k<n→M j k=M' j k):RcM w n p rs M' W:=by
 refine⟨h.bel,h.outer,fun j hj=> ?_,h.inj,h.gt,h.le⟩;rw[h.rows j hj]
 have:bcells n (M j)=bcells n (M' j):=by
  unfold bcells;congr 1;apply List.map_congr_left;intro k hk;rw[he j k hj (List.mem_range.1 hk)]
 rw[this]
theorem RcM.out {w W:World}{n p:Nat}{rs:Nat→Nat}{M:Nat→Nat→Bool}(h:RcM w n p rs M W){i:Nat}(hi:i<p):W.cell? ⟨w.heap.size,i,none⟩=some (.slice (some ⟨rs i,0,none⟩) n n):=
 (cell_of_row _ _ i _ _ _ h.outer).trans (ocells_at hi (by have:=h.le;omega))
theorem RcM.cell {w W:World}{n p:Nat}{rs:Nat→Nat}{M:Nat→Nat→Bool}(h:RcM w n p rs M W){i k:Nat}(hi:i<p)(hk:k<n):W.cell? ⟨rs i,k,none⟩=some (.bool (M i k)):=
 (cell_of_row _ _ k _ _ _ (h.rows i hi)).trans (bcells_at hk)
theorem RcM.frz {w W:World}{n p:Nat}{rs:Nat→Nat}{M:Nat→Nat→Bool}(h:RcM w n p rs M W){i:Nat}(hi:i<p)(k:Nat):W.frozen? ⟨rs i,k,none⟩=false:=frozen_of_row _ _ k _ _ (h.rows i hi)
theorem RcM.set {w W:World}{n p:Nat}{rs:Nat→Nat}{M:Nat→Nat→Bool}(h:RcM w n p rs M W){i k:Nat}{b:Bool}(hi:i<p):RcM w n p rs (upd2 M i k b) (W.setCell ⟨rs i,k,none⟩ (.bool b)):=by
 have ho: ∀q,q≠rs i→(W.setCell ⟨rs i,k,none⟩ (.bool b)).heap[q]? =W.heap[q]? :=fun q hq=>heap_setCell_other W ⟨rs i,k,none⟩ q _ hq;have hg:=h.gt i hi;refine⟨h.bel.setCell (by show w.heap.size≤rs i;omega) _,(ho _ (by omega)).trans h.outer,fun j hj=> ?_,h.inj,h.gt,h.le⟩;by_cases e:j=i
 ·subst e;have:=heap_setCell_same W (rs j) k _ _ (.bool b) (h.rows j hj);rw[bcells_setb]at this;rw[this]
  have e2:upd2 M j k b j=fun k'=>if k'=k then b else M j k':=by
   funext k';simp[upd2]
  rw[e2]
 ·rw[ho _ (fun h'=>e (h.inj j i hj hi h'))]
  have e2:upd2 M i k b j=M j:=by
   funext k';simp[upd2,e]
  rw[e2];exact h.rows j hj
theorem RcM.add {w W:World}{n p:Nat}{rs:Nat→Nat}{M:Nat→Nat→Bool}(h:RcM w n p rs M W)(hp:p<n):RcM w n (p+1) (fun j=>if j=p then W.heap.size else rs j) (fun j k=>if j=p then false else M j k) ((W.alloc (.cells (bcells n (fun _=>false)) 4)).setCell ⟨w.heap.size,p,none⟩ (.slice (some ⟨W.heap.size,0,none⟩) n n)):=by
 have hsz:=h.bel.size;have hlo:=lt_of_block h.outer;have bA:=(Below.refl W.heap.size W).alloc (Nat.le_refl _) (.cells (bcells n (fun _=>false)) 4);have ho: ∀q,q≠w.heap.size→((W.alloc (.cells (bcells n (fun _=>false)) 4)).setCell ⟨w.heap.size,p,none⟩ (.slice (some ⟨W.heap.size,0,none⟩) n n)).heap[q]? =(W.alloc (.cells (bcells n (fun _=>false)) 4)).heap[q]? :=fun q hq=>heap_setCell_other _ ⟨w.heap.size,p,none⟩ q _ hq;have hA:=h.below bA;refine⟨hA.bel.setCell (by show w.heap.size≤w.heap.size;omega) _,?_,fun j hj=> ?_,fun j k hj hk=> ?_,fun j hj=> ?_,by omega⟩
 ·have:=heap_setCell_same _ w.heap.size p _ _ (.slice (some ⟨W.heap.size,0,none⟩) n n) hA.outer;rw[ocells_set]at this;exact this
 ·by_cases e:j=p
  ·subst e;simp only[if_pos];rw[ho _ (by omega)];exact heap_alloc_new W _
  ·simp only[if_neg e];have hj':j<p:=(by omega);have:=h.gt j hj';rw[ho _ (by omega)];exact hA.rows j hj'
 ·have hl1: ∀q,q<p→rs q<W.heap.size:=fun q hq=>lt_of_block (h.rows q hq);by_cases e:j=p
  ·by_cases e':k=p
   ·intro _;omega
   ·rw[if_pos e,if_neg e'];have:=hl1 k (by omega);intro h';omega
  ·by_cases e':k=p
   ·rw[if_neg e,if_pos e'];have:=hl1 j (by omega);intro h';omega
   ·rw[if_neg e,if_neg e'];exact h.inj j k (by omega) (by omega)
 ·split
  ·omega
  ·exact h.gt j (by omega)
def stE (E:Nat→Nat→Bool)(i k:Nat):Nat→Nat→Bool:=fun i' k'=>if i'<i∨(i'=i∧k'<k) then E i' k' else false
def stW (E:Nat→Nat→Bool)(m i k:Nat):Nat→Nat→Bool:=fun i' k'=>if i'<i∨(i'=i∧k'<k) then wars E (m+1) i' k' else wars E m i' k'
theorem wars_col (E:Nat→Nat→Bool)(m i:Nat):wars E (m+1) i m=wars E m i m:=by
 simp only[wars];cases wars E m i m<;>simp
theorem wars_row (E:Nat→Nat→Bool)(m k:Nat):wars E (m+1) m k=wars E m m k:=by
 simp only[wars];cases wars E m m k<;>simp
theorem stW_col (E:Nat→Nat→Bool)(m i k i':Nat):stW E m i k i' m=wars E m i' m:=by
 unfold stW;split
 ·exact wars_col E m i'
 ·rfl
theorem stW_row (E:Nat→Nat→Bool)(m i k k':Nat):stW E m i k m k'=wars E m m k':=by
 unfold stW;split
 ·exact wars_row E m k'
 ·rfl
theorem stW_here (E:Nat→Nat→Bool)(m i k:Nat):stW E m i k i k=wars E m i k:=if_neg (by omega)
theorem stW_next (E:Nat→Nat→Bool)(m i k:Nat):upd2 (stW E m i k) i k (wars E m i k||(wars E m i m&&wars E m m k))=stW E m i (k+1):=by
 funext i' k';unfold upd2 stW;by_cases e:i'=i∧k'=k
 ·obtain⟨rfl,rfl⟩:=e;rw[if_pos ⟨rfl,rfl⟩,if_pos (.inr ⟨rfl,by omega⟩)];rfl
 ·rw[if_neg e];by_cases h:i'<i∨(i'=i∧k'<k)
  ·rw[if_pos h,if_pos (by omega)]
  ·rw[if_neg h,if_neg (by omega)]
theorem stE_next (E:Nat→Nat→Bool)(i k:Nat):upd2 (stE E i k) i k (E i k)=stE E i (k+1):=by
 funext i' k';unfold upd2 stE;by_cases e:i'=i∧k'=k
 ·obtain⟨rfl,rfl⟩:=e;rw[if_pos ⟨rfl,rfl⟩,if_pos (.inr ⟨rfl,by omega⟩)]
 ·rw[if_neg e];by_cases h:i'<i∨(i'=i∧k'<k)
  ·rw[if_pos h,if_pos (by omega)]
  ·rw[if_neg h,if_neg (by omega)]
theorem slInfo6:(Tryd.prog.info? 61).map (fun i=>(i.zero,i.size,i.bytes))=some (some (.slice none 0 0),1,24):=by kernel_rfl
theorem boolssType:Tryd.prog.underlying 59=some (.slice 61):=by kernel_rfl
end Go.Proofs.YtpmobjgnmidolaaDoor
