/- Short words. -/
import Derived.Test.YtlkehieagdkgiaaGreatDoorRows
import Derived.Below
import Derived.Laws.Rows
import Derived.OneCell
import Derived.WalkKit
import Derived.WalkSpells
import Derived.WalkLawsBesides
import Derived.Deep.QuietTactic
import Derived.BigQuiet
import Derived.Laws.Bits64b
import Derived.Laws.Tables
import Derived.Deep.WholeRow
import Derived.Deep.MidRow
open Go.Proofs.Tryz
namespace Go.Proofs.YtlkehieagdkgiaaGreatDoor
open Go Go.RowKit
namespace Lx
end Lx
namespace Vx
end Vx
namespace Mx
end Mx
namespace Msk
end Msk
theorem ax:type_of% @if_neg:= @if_neg
theorem ay:type_of% @List.getElem?_eq_getElem:= @List.getElem?_eq_getElem
theorem az:type_of% @List.setIfInBounds_toArray:= @List.setIfInBounds_toArray
theorem aA:type_of% @wpList_store_row:= @wpList_store_row
theorem aB:type_of% @if_pos:= @if_pos
theorem aD:type_of% @Nat.le_refl:= @Nat.le_refl
theorem aE:type_of% @List.getElem?_eq_some_iff:= @List.getElem?_eq_some_iff
theorem aG:type_of% @heap_alloc_new:= @heap_alloc_new
theorem aH:type_of% @Below.refl:= @Below.refl
theorem aI:type_of% @lt_of_block:= @lt_of_block
theorem aJ:type_of% @List.set_cons_zero:= @List.set_cons_zero
theorem aK:type_of% @List.set_cons_succ:= @List.set_cons_succ
theorem aL:type_of% @setRow_heap:= @setRow_heap
theorem aM:type_of% @Option.some.inj:= @Option.some.inj
theorem aN:type_of% @List.mem_of_getElem? := @List.mem_of_getElem?
theorem aO:type_of% @List.length_append:= @List.length_append
theorem aP:type_of% @heap_setCell_other:= @heap_setCell_other
theorem aR:type_of% @wpList_load_row:= @wpList_load_row
theorem aU:type_of% @Nat.lt_of_lt_of_le:= @Nat.lt_of_lt_of_le
theorem aW:type_of% @setRow_other:= @setRow_other
theorem aX:type_of% @List.length_map:= @List.length_map
theorem aY:type_of% @bodyPost_ret:= @bodyPost_ret
theorem aZ:type_of% @heap_setCell_same:= @heap_setCell_same
theorem a8:type_of% @cell_of_row:= @cell_of_row
theorem bc:type_of% @results_cell_row:= @results_cell_row
theorem bf:type_of% @List.mem_cons_self:= @List.mem_cons_self
theorem bg:type_of% @Nat.le_trans:= @Nat.le_trans
theorem bh:type_of% @decide_eq_false:= @decide_eq_false
theorem bj:type_of% @List.getElem?_map:= @List.getElem?_map
theorem bm:type_of% @beq_eq_false_iff_ne:= @beq_eq_false_iff_ne
theorem bn:type_of% @decide_eq_true:= @decide_eq_true
theorem bo:type_of% @List.mem_cons:= @List.mem_cons
theorem bp:type_of% @frozen_of_row:= @frozen_of_row
theorem br:type_of% @Bool.and_eq_true:= @Bool.and_eq_true
theorem bv:type_of% @Array.getElem?_toList:= @Array.getElem?_toList
theorem bx:type_of% @IntKind.wrap_i64:= @IntKind.wrap_i64
theorem bz:type_of% @decide_eq_true_eq:= @decide_eq_true_eq
theorem bG:type_of% @List.mem_cons_of_mem:= @List.mem_cons_of_mem
theorem bK:type_of% @List.drop_eq_getElem_cons:= @List.drop_eq_getElem_cons
theorem bL:type_of% @List.mem_singleton:= @List.mem_singleton
theorem bN:type_of% @List.mem_append:= @List.mem_append
theorem bO:type_of% @List.length_cons:= @List.length_cons
theorem bQ:type_of% @Nat.zero_add:= @Nat.zero_add
theorem bT:type_of% @List.getD_eq_getElem?_getD:= @List.getD_eq_getElem?_getD
theorem cg:type_of% @block_lt_of_cell:= @block_lt_of_cell
theorem cj:type_of% @Int.toNat_natCast:= @Int.toNat_natCast
theorem cQ:type_of% @Array.length_toList:= @Array.length_toList
theorem df:type_of% @List.getElem?_append_right:= @List.getElem?_append_right
theorem dg:type_of% @List.take_of_length_le:= @List.take_of_length_le
theorem dl:type_of% @World.ownsRow_nil:= @World.ownsRow_nil
theorem dm:type_of% @List.mem_append_right:= @List.mem_append_right
theorem dn:type_of% @List.drop_of_length_le:= @List.drop_of_length_le
theorem dp:type_of% @Array.getElem?_eq_some_iff:= @Array.getElem?_eq_some_iff
theorem dt:type_of% @Array.getElem?_setIfInBounds_ne:= @Array.getElem?_setIfInBounds_ne
theorem du:type_of% @List.all_eq_true:= @List.all_eq_true
theorem dw:type_of% @below_drewN:= @below_drewN
theorem dD:type_of% @List.append_assoc:= @List.append_assoc
theorem dH:type_of% @List.getElem?_take_of_lt:= @List.getElem?_take_of_lt
theorem dI:type_of% @List.mem_map:= @List.mem_map
theorem dJ:type_of% @List.mem_append_left:= @List.mem_append_left
theorem dL:type_of% @Nat.zero_le:= @Nat.zero_le
theorem dM:type_of% @Classical.byContradiction:= @Classical.byContradiction
theorem dO:type_of% @List.map_append:= @List.map_append
theorem dR:type_of% @List.map_cons:= @List.map_cons
theorem dS:type_of% @Below.heap_alloc:= @Below.heap_alloc
theorem dV:type_of% @List.getElem?_append_left:= @List.getElem?_append_left
theorem dX:type_of% @wp_load_row:= @wp_load_row
theorem eB:type_of% @List.length_singleton:= @List.length_singleton
theorem eE:type_of% @run_loadVar_row:= @run_loadVar_row
theorem eI:type_of% @World.cell?_of_block:= @World.cell?_of_block
theorem eN:type_of% @Option.map_eq_some_iff:= @Option.map_eq_some_iff
theorem eR:type_of% @List.length_take:= @List.length_take
theorem eU:type_of% @List.getElem?_eq_none:= @List.getElem?_eq_none
theorem eX:type_of% @wp_store_row:= @wp_store_row
theorem fb:type_of% @of_decide_eq_true:= @of_decide_eq_true
theorem fc:type_of% @results_none:= @results_none
theorem fk:type_of% @And.intro:= @And.intro
theorem fw:type_of% @List.map_nil:= @List.map_nil
theorem fz:type_of% @List.getElem?_set_self:= @List.getElem?_set_self
theorem fE:type_of% @Nat.min_eq_left:= @Nat.min_eq_left
theorem fF:type_of% @List.length_nil:= @List.length_nil
theorem fI:type_of% @List.length_drop:= @List.length_drop
theorem fL:type_of% @Calls.quiet_of_same:= @Calls.quiet_of_same
theorem fN:type_of% @List.flatMap_append:= @List.flatMap_append
theorem fV:type_of% @List.take_add_one:= @List.take_add_one
theorem gc:type_of% @List.getElem?_set_ne:= @List.getElem?_set_ne
theorem gg:type_of% @MapKept.run_getObj_map:= @MapKept.run_getObj_map
theorem gh:type_of% @Int.le_refl:= @Int.le_refl
theorem gu:type_of% @Array.getElem?_eq_getElem:= @Array.getElem?_eq_getElem
theorem gz:type_of% @List.eq_nil_of_length_eq_zero:= @List.eq_nil_of_length_eq_zero
theorem gC:type_of% @run_underlying:= @run_underlying
theorem gJ:type_of% @List.append_nil:= @List.append_nil
theorem gM:type_of% @List.take_length:= @List.take_length
theorem gT:type_of% @Array.getElem?_setIfInBounds_self_of_lt:= @Array.getElem?_setIfInBounds_self_of_lt
theorem gX:type_of% @Result.andThen_ok:= @Result.andThen_ok
theorem gY:type_of% @MapKept.run_findKey:= @MapKept.run_findKey
theorem ie:type_of% @List.take_append_drop:= @List.take_append_drop
theorem ik:type_of% @IntKind.wrap_u64:= @IntKind.wrap_u64
theorem il:type_of% @Array.size_setIfInBounds:= @Array.size_setIfInBounds
theorem iC:type_of% @List.length_eq_zero_iff:= @List.length_eq_zero_iff
theorem iD:type_of% @List.getElem?_replicate:= @List.getElem?_replicate
theorem iG:type_of% @Bool.or_eq_true:= @Bool.or_eq_true
theorem iH:type_of% @List.attach_map_subtype_val:= @List.attach_map_subtype_val
theorem iN:type_of% @Nat.sub_self:= @Nat.sub_self
theorem iP:type_of% @List.map_toArray:= @List.map_toArray
theorem iS:type_of% @List.mem_range:= @List.mem_range
theorem iZ:type_of% @Exists.intro:= @Exists.intro
theorem jh:type_of% @wpList_append_own:= @wpList_append_own
theorem jj:type_of% @List.sum_cons:= @List.sum_cons
theorem jk:type_of% @Bool.true_and:= @Bool.true_and
theorem jp:type_of% @Bool.and_false:= @Bool.and_false
theorem jw:type_of% @info_parts:= @info_parts
theorem jA:type_of% @List.getElem?_take:= @List.getElem?_take
theorem jB:type_of% @World.grownBy.refl:= @World.grownBy.refl
theorem jC:type_of% @Sem.run_bind:= @Sem.run_bind
theorem jH:type_of% @List.length_set:= @List.length_set
theorem j9:type_of% @List.map_map:= @List.map_map
theorem kb:type_of% @Sem.run_pure:= @Sem.run_pure
theorem kh:type_of% @Nat.le_of_eq:= @Nat.le_of_eq
abbrev ab (g o:Nat):Value:= .pointer (some ⟨g,o,none⟩)
abbrev ae (g o:Nat):Addr:=⟨g,o,none⟩
abbrev af:Value:= .slice none 0 0
abbrev ag (n:Int):Value:= .int .i64 n
abbrev ah (c:Array Value)(t:TypeId):Option Obj:=some (.cells c t (0,0))
theorem ai {w w':World}{k:Nat}{o:Obj}(b:Below w.heap.size w w')(h:w.heap[k]? =some o):w'.heap[k]? =some o:=(b.block _ (aI h)).trans h
theorem aj {w w':World}{a:Addr}{v:Value}(b:Below w.heap.size w w')(h:w.cell? a=some v):w'.cell? a=some v:=(b.cell (cg h)).trans h
theorem ak {w:World}{g:Nat}{c:Array Value}{t:TypeId}{f:Nat×Nat}(k:Nat)(h:w.heap[g]? =some (.cells c t f)):w.cell? ⟨g,k,none⟩=c[k]? :=a8 _ _ k _ _ _ h
theorem am (w:World)(o:Obj):Below w.heap.size w (w.alloc o):=(aH _ _).alloc (aD _) o
abbrev aq (a b:World):Prop:=Below a.heap.size a b
theorem au {α:Type}(a:α): ∃q,a=q:=⟨_,rfl⟩
theorem aw {a b c:World}(h:Below a.heap.size a b)(k:Below b.heap.size b c):Below a.heap.size a c:=h.trans (k.mono h.size)
def Rg (p:Prop):Prop:=p
theorem Rg.o {p:Prop}(h:Rg p):p:=h
end Go.Proofs.YtlkehieagdkgiaaGreatDoor
