/- Short words. -/
import Derived.Test.YtpdoienkhgnceaaGreatDoorRows
import Derived.Below
import Derived.Laws.Rows
import Derived.OneCell
import Derived.WalkKit
import Derived.WalkSpells
import Derived.WalkLawsBesides
import Derived.Deep.QuietTactic
import Derived.BigQuiet
import Derived.Laws.Bits64b
import Derived.Laws.Tables
import Derived.Deep.WholeRow
import Derived.Deep.MidRow
open Go.Proofs.Tryz
namespace Go.Proofs.YtpdoienkhgnceaaGreatDoor
open Go Go.RowKit
namespace Lx
end Lx
namespace Vx
end Vx
namespace Mx
end Mx
namespace Msk
end Msk
theorem aw:type_of% @if_neg:= @if_neg
theorem ax:type_of% @if_pos:= @if_pos
theorem ay:type_of% @Option.some.inj:= @Option.some.inj
theorem az:type_of% @List.getElem?_eq_getElem:= @List.getElem?_eq_getElem
theorem aA:type_of% @Nat.le_refl:= @Nat.le_refl
theorem aB:type_of% @heap_alloc_new:= @heap_alloc_new
theorem aC:type_of% @wpList_store_row:= @wpList_store_row
theorem aD:type_of% @List.setIfInBounds_toArray:= @List.setIfInBounds_toArray
theorem aE:type_of% @List.getElem?_eq_some_iff:= @List.getElem?_eq_some_iff
theorem aF:type_of% @Below.refl:= @Below.refl
theorem aH:type_of% @lt_of_block:= @lt_of_block
theorem aI:type_of% @List.set_cons_zero:= @List.set_cons_zero
theorem aJ:type_of% @List.set_cons_succ:= @List.set_cons_succ
theorem aK:type_of% @setRow_heap:= @setRow_heap
theorem aL:type_of% @List.mem_of_getElem? := @List.mem_of_getElem?
theorem aM:type_of% @heap_setCell_other:= @heap_setCell_other
theorem aN:type_of% @List.length_append:= @List.length_append
theorem aO:type_of% @wpList_load_row:= @wpList_load_row
theorem aQ:type_of% @setRow_other:= @setRow_other
theorem aT:type_of% @Nat.lt_of_lt_of_le:= @Nat.lt_of_lt_of_le
theorem aU:type_of% @block_lt_of_cell:= @block_lt_of_cell
theorem aV:type_of% @List.mem_cons_self:= @List.mem_cons_self
theorem aW:type_of% @cell_of_row:= @cell_of_row
theorem aX:type_of% @bodyPost_ret:= @bodyPost_ret
theorem aY:type_of% @heap_setCell_same:= @heap_setCell_same
theorem bc:type_of% @decide_eq_true:= @decide_eq_true
theorem bf:type_of% @List.getElem?_map:= @List.getElem?_map
theorem bh:type_of% @Nat.le_trans:= @Nat.le_trans
theorem bj:type_of% @List.mem_cons_of_mem:= @List.mem_cons_of_mem
theorem bl:type_of% @beq_eq_false_iff_ne:= @beq_eq_false_iff_ne
theorem bm:type_of% @List.length_map:= @List.length_map
theorem bn:type_of% @results_cell_row:= @results_cell_row
theorem bo:type_of% @decide_eq_false:= @decide_eq_false
theorem bq:type_of% @Array.getElem?_toList:= @Array.getElem?_toList
theorem bu:type_of% @frozen_of_row:= @frozen_of_row
theorem bv:type_of% @List.mem_cons:= @List.mem_cons
theorem bx:type_of% @Bool.and_eq_true:= @Bool.and_eq_true
theorem bz:type_of% @Array.getElem?_eq_some_iff:= @Array.getElem?_eq_some_iff
theorem bG:type_of% @List.drop_eq_getElem_cons:= @List.drop_eq_getElem_cons
theorem bJ:type_of% @List.mem_singleton:= @List.mem_singleton
theorem bK:type_of% @List.length_cons:= @List.length_cons
theorem bL:type_of% @decide_eq_true_eq:= @decide_eq_true_eq
theorem bN:type_of% @Nat.zero_add:= @Nat.zero_add
theorem bQ:type_of% @IntKind.wrap_i64:= @IntKind.wrap_i64
theorem cg:type_of% @Array.length_toList:= @Array.length_toList
theorem cQ:type_of% @List.map_cons:= @List.map_cons
theorem cZ:type_of% @List.mem_append:= @List.mem_append
theorem da:type_of% @List.take_of_length_le:= @List.take_of_length_le
theorem df:type_of% @World.ownsRow_nil:= @World.ownsRow_nil
theorem di:type_of% @Int.toNat_natCast:= @Int.toNat_natCast
theorem dj:type_of% @Array.getElem?_setIfInBounds_ne:= @Array.getElem?_setIfInBounds_ne
theorem dl:type_of% @List.all_eq_true:= @List.all_eq_true
theorem dn:type_of% @List.drop_of_length_le:= @List.drop_of_length_le
theorem dq:type_of% @wpOp_step:= @wpOp_step
theorem du:type_of% @below_drewN:= @below_drewN
theorem dw:type_of% @List.append_assoc:= @List.append_assoc
theorem dB:type_of% @List.mem_map:= @List.mem_map
theorem dD:type_of% @Below.heap_alloc:= @Below.heap_alloc
theorem dJ:type_of% @List.getElem?_take_of_lt:= @List.getElem?_take_of_lt
theorem dM:type_of% @of_decide_eq_true:= @of_decide_eq_true
theorem dP:type_of% @World.cell?_of_block:= @World.cell?_of_block
theorem dR:type_of% @List.getElem?_append_right:= @List.getElem?_append_right
theorem dU:type_of% @Nat.zero_le:= @Nat.zero_le
theorem dV:type_of% @List.map_append:= @List.map_append
theorem dZ:type_of% @run_loadVar_row:= @run_loadVar_row
theorem ef:type_of% @List.length_take:= @List.length_take
theorem eo:type_of% @wp_store_row:= @wp_store_row
theorem eC:type_of% @wpList_append_own:= @wpList_append_own
theorem eE:type_of% @List.getD_eq_getElem?_getD:= @List.getD_eq_getElem?_getD
theorem eG:type_of% @List.length_singleton:= @List.length_singleton
theorem eN:type_of% @results_none:= @results_none
theorem eO:type_of% @Array.getElem?_eq_getElem:= @Array.getElem?_eq_getElem
theorem eP:type_of% @List.getElem?_append_left:= @List.getElem?_append_left
theorem eU:type_of% @Option.map_eq_some_iff:= @Option.map_eq_some_iff
theorem eY:type_of% @List.attach_map_subtype_val:= @List.attach_map_subtype_val
theorem fb:type_of% @List.mem_append_right:= @List.mem_append_right
theorem fc:type_of% @List.getElem?_eq_none:= @List.getElem?_eq_none
theorem fh:type_of% @wp_load_row:= @wp_load_row
theorem fi:type_of% @List.length_drop:= @List.length_drop
theorem fu:type_of% @List.map_nil:= @List.map_nil
theorem fB:type_of% @Calls.quiet_of_same:= @Calls.quiet_of_same
theorem fC:type_of% @List.flatMap_append:= @List.flatMap_append
theorem fF:type_of% @List.take_add_one:= @List.take_add_one
theorem fN:type_of% @List.length_nil:= @List.length_nil
theorem fO:type_of% @List.mem_append_left:= @List.mem_append_left
theorem fQ:type_of% @List.getElem?_set_self:= @List.getElem?_set_self
theorem fR:type_of% @MapKept.run_getObj_map:= @MapKept.run_getObj_map
theorem fX:type_of% @List.eq_nil_of_length_eq_zero:= @List.eq_nil_of_length_eq_zero
theorem gu:type_of% @Nat.min_eq_left:= @Nat.min_eq_left
theorem gy:type_of% @Int.le_refl:= @Int.le_refl
theorem gC:type_of% @List.getElem?_take:= @List.getElem?_take
theorem gG:type_of% @List.length_eq_zero_iff:= @List.length_eq_zero_iff
theorem gH:type_of% @List.getElem?_set_ne:= @List.getElem?_set_ne
theorem gI:type_of% @List.take_length:= @List.take_length
theorem gO:type_of% @Array.getElem?_setIfInBounds_self_of_lt:= @Array.getElem?_setIfInBounds_self_of_lt
theorem gS:type_of% @run_underlying:= @run_underlying
theorem gV:type_of% @MapKept.run_findKey:= @MapKept.run_findKey
theorem gZ:type_of% @List.take_append_drop:= @List.take_append_drop
theorem ie:type_of% @IntKind.wrap_u64:= @IntKind.wrap_u64
theorem ig:type_of% @Array.size_setIfInBounds:= @Array.size_setIfInBounds
theorem il:type_of% @List.sum_cons:= @List.sum_cons
theorem ip:type_of% @List.mem_range:= @List.mem_range
theorem iy:type_of% @List.getElem?_replicate:= @List.getElem?_replicate
theorem iB:type_of% @Result.andThen_ok:= @Result.andThen_ok
theorem iD:type_of% @Bool.or_eq_true:= @Bool.or_eq_true
theorem iE:type_of% @List.append_nil:= @List.append_nil
theorem iU:type_of% @List.map_map:= @List.map_map
theorem iV:type_of% @info_parts:= @info_parts
theorem iW:type_of% @Exists.intro:= @Exists.intro
theorem jc:type_of% @Bool.true_and:= @Bool.true_and
theorem jk:type_of% @Bool.and_false:= @Bool.and_false
theorem jl:type_of% @List.map_toArray:= @List.map_toArray
theorem jv:type_of% @And.intro:= @And.intro
theorem jw:type_of% @Nat.sub_self:= @Nat.sub_self
theorem jx:type_of% @World.grownBy.refl:= @World.grownBy.refl
theorem jD:type_of% @List.length_set:= @List.length_set
theorem kb:type_of% @Sem.run_bind:= @Sem.run_bind
theorem lg:type_of% @Sem.run_pure:= @Sem.run_pure
abbrev ab (g o:Nat):Value:= .pointer (some ⟨g,o,none⟩)
abbrev ae (g o:Nat):Addr:=⟨g,o,none⟩
abbrev af:Value:= .slice none 0 0
abbrev ag (n:Int):Value:= .int .i64 n
abbrev ah (c:Array Value)(t:TypeId):Option Obj:=some (.cells c t (0,0))
theorem ai {w w':World}{k:Nat}{o:Obj}(b:Below w.heap.size w w')(h:w.heap[k]? =some o):w'.heap[k]? =some o:=(b.block _ (aH h)).trans h
theorem aj {w w':World}{a:Addr}{v:Value}(b:Below w.heap.size w w')(h:w.cell? a=some v):w'.cell? a=some v:=(b.cell (aU h)).trans h
theorem ak {w:World}{g:Nat}{c:Array Value}{t:TypeId}{f:Nat×Nat}(k:Nat)(h:w.heap[g]? =some (.cells c t f)):w.cell? ⟨g,k,none⟩=c[k]? :=aW _ _ k _ _ _ h
theorem am (w:World)(o:Obj):Below w.heap.size w (w.alloc o):=(aF _ _).alloc (aA _) o
abbrev ao (a b:World):Prop:=Below a.heap.size a b
theorem aq {α:Type}(a:α): ∃q,a=q:=⟨_,rfl⟩
theorem au {a b c:World}(h:Below a.heap.size a b)(k:Below b.heap.size b c):Below a.heap.size a c:=h.trans (k.mono h.size)
def T4 (p:Prop):Prop:=p
theorem T4.o {p:Prop}(h:T4 p):p:=h
end Go.Proofs.YtpdoienkhgnceaaGreatDoor
