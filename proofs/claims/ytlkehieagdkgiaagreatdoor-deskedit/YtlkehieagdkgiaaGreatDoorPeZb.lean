/- Short words. -/
import Derived.Test.YtlkehieagdkgiaaGreatDoorRows
import Derived.Below
import Derived.Laws.Rows
import Derived.OneCell
import Derived.WalkKit
import Derived.WalkSpells
import Derived.WalkLawsBesides
import Derived.Deep.QuietTactic
import Derived.BigQuiet
import Derived.Laws.Bits64b
import Derived.Laws.Tables
import Derived.Deep.WholeRow
import Derived.Deep.MidRow
open Go.Proofs.Tryz
namespace Go.Proofs.YtlkehieagdkgiaaGreatDoor
open Go Go.RowKit
namespace Lx
end Lx
namespace Vx
end Vx
namespace Mx
end Mx
namespace Msk
end Msk
theorem ax:type_of% @if_neg:= @if_neg
theorem ay:type_of% @List.getElem?_eq_getElem:= @List.getElem?_eq_getElem
theorem az:type_of% @wpList_store_row:= @wpList_store_row
theorem aA:type_of% @List.setIfInBounds_toArray:= @List.setIfInBounds_toArray
theorem aB:type_of% @if_pos:= @if_pos
theorem aD:type_of% @Nat.le_refl:= @Nat.le_refl
theorem aF:type_of% @List.getElem?_eq_some_iff:= @List.getElem?_eq_some_iff
theorem aG:type_of% @heap_alloc_new:= @heap_alloc_new
theorem aH:type_of% @Below.refl:= @Below.refl
theorem aI:type_of% @lt_of_block:= @lt_of_block
theorem aJ:type_of% @List.set_cons_zero:= @List.set_cons_zero
theorem aK:type_of% @List.set_cons_succ:= @List.set_cons_succ
theorem aL:type_of% @setRow_heap:= @setRow_heap
theorem aM:type_of% @List.mem_of_getElem? := @List.mem_of_getElem?
theorem aN:type_of% @Option.some.inj:= @Option.some.inj
theorem aO:type_of% @heap_setCell_other:= @heap_setCell_other
theorem aP:type_of% @List.length_append:= @List.length_append
theorem aR:type_of% @wpList_load_row:= @wpList_load_row
theorem aU:type_of% @Nat.lt_of_lt_of_le:= @Nat.lt_of_lt_of_le
theorem aW:type_of% @setRow_other:= @setRow_other
theorem aX:type_of% @bodyPost_ret:= @bodyPost_ret
theorem aY:type_of% @heap_setCell_same:= @heap_setCell_same
theorem aZ:type_of% @cell_of_row:= @cell_of_row
theorem a8:type_of% @List.getElem?_map:= @List.getElem?_map
theorem bc:type_of% @List.length_map:= @List.length_map
theorem bf:type_of% @results_cell_row:= @results_cell_row
theorem bg:type_of% @Nat.le_trans:= @Nat.le_trans
theorem bh:type_of% @decide_eq_true:= @decide_eq_true
theorem bm:type_of% @beq_eq_false_iff_ne:= @beq_eq_false_iff_ne
theorem bn:type_of% @decide_eq_false:= @decide_eq_false
theorem bo:type_of% @frozen_of_row:= @frozen_of_row
theorem bq:type_of% @List.mem_cons_self:= @List.mem_cons_self
theorem bx:type_of% @Array.getElem?_toList:= @Array.getElem?_toList
theorem bz:type_of% @Bool.and_eq_true:= @Bool.and_eq_true
theorem bJ:type_of% @List.drop_eq_getElem_cons:= @List.drop_eq_getElem_cons
theorem bL:type_of% @List.mem_cons_of_mem:= @List.mem_cons_of_mem
theorem bO:type_of% @List.mem_cons:= @List.mem_cons
theorem bT:type_of% @decide_eq_true_eq:= @decide_eq_true_eq
theorem bU:type_of% @IntKind.wrap_i64:= @IntKind.wrap_i64
theorem bV:type_of% @List.length_cons:= @List.length_cons
theorem cQ:type_of% @List.mem_singleton:= @List.mem_singleton
theorem cY:type_of% @Nat.zero_add:= @Nat.zero_add
theorem cZ:type_of% @block_lt_of_cell:= @block_lt_of_cell
theorem da:type_of% @List.mem_append:= @List.mem_append
theorem df:type_of% @Array.length_toList:= @Array.length_toList
theorem dg:type_of% @List.getD_eq_getElem?_getD:= @List.getD_eq_getElem?_getD
theorem dh:type_of% @List.take_of_length_le:= @List.take_of_length_le
theorem dj:type_of% @Int.toNat_natCast:= @Int.toNat_natCast
theorem dp:type_of% @World.ownsRow_nil:= @World.ownsRow_nil
theorem dq:type_of% @List.drop_of_length_le:= @List.drop_of_length_le
theorem dr:type_of% @Array.getElem?_eq_some_iff:= @Array.getElem?_eq_some_iff
theorem du:type_of% @below_drewN:= @below_drewN
theorem dx:type_of% @Array.getElem?_setIfInBounds_ne:= @Array.getElem?_setIfInBounds_ne
theorem dB:type_of% @List.getElem?_append_right:= @List.getElem?_append_right
theorem dD:type_of% @List.all_eq_true:= @List.all_eq_true
theorem dF:type_of% @Nat.zero_le:= @Nat.zero_le
theorem dO:type_of% @List.map_cons:= @List.map_cons
theorem dP:type_of% @List.getElem?_take_of_lt:= @List.getElem?_take_of_lt
theorem dQ:type_of% @Below.heap_alloc:= @Below.heap_alloc
theorem dR:type_of% @List.mem_map:= @List.mem_map
theorem dT:type_of% @List.getElem?_append_left:= @List.getElem?_append_left
theorem dZ:type_of% @List.map_append:= @List.map_append
theorem d7:type_of% @Classical.byContradiction:= @Classical.byContradiction
theorem d9:type_of% @List.length_singleton:= @List.length_singleton
theorem ef:type_of% @List.append_assoc:= @List.append_assoc
theorem eh:type_of% @Option.map_eq_some_iff:= @Option.map_eq_some_iff
theorem en:type_of% @run_loadVar_row:= @run_loadVar_row
theorem et:type_of% @World.cell?_of_block:= @World.cell?_of_block
theorem eI:type_of% @List.length_take:= @List.length_take
theorem eN:type_of% @wp_load_row:= @wp_load_row
theorem eO:type_of% @List.getElem?_eq_none:= @List.getElem?_eq_none
theorem eP:type_of% @List.getElem?_set_self:= @List.getElem?_set_self
theorem eQ:type_of% @wp_store_row:= @wp_store_row
theorem eV:type_of% @List.mem_append_right:= @List.mem_append_right
theorem eW:type_of% @results_none:= @results_none
theorem eX:type_of% @List.take_add_one:= @List.take_add_one
theorem fg:type_of% @Nat.min_eq_left:= @Nat.min_eq_left
theorem ft:type_of% @List.mem_append_left:= @List.mem_append_left
theorem fz:type_of% @List.length_drop:= @List.length_drop
theorem fA:type_of% @List.map_nil:= @List.map_nil
theorem fF:type_of% @Calls.quiet_of_same:= @Calls.quiet_of_same
theorem fG:type_of% @List.flatMap_append:= @List.flatMap_append
theorem fV:type_of% @And.intro:= @And.intro
theorem fW:type_of% @List.getElem?_set_ne:= @List.getElem?_set_ne
theorem fZ:type_of% @MapKept.run_getObj_map:= @MapKept.run_getObj_map
theorem gh:type_of% @Array.getElem?_eq_getElem:= @Array.getElem?_eq_getElem
theorem gj:type_of% @of_decide_eq_true:= @of_decide_eq_true
theorem gu:type_of% @run_underlying:= @run_underlying
theorem gH:type_of% @List.append_nil:= @List.append_nil
theorem gI:type_of% @List.take_length:= @List.take_length
theorem gN:type_of% @Array.getElem?_setIfInBounds_self_of_lt:= @Array.getElem?_setIfInBounds_self_of_lt
theorem gS:type_of% @MapKept.run_findKey:= @MapKept.run_findKey
theorem gU:type_of% @List.length_nil:= @List.length_nil
theorem gY:type_of% @List.take_append_drop:= @List.take_append_drop
theorem gZ:type_of% @List.eq_nil_of_length_eq_zero:= @List.eq_nil_of_length_eq_zero
theorem ie:type_of% @IntKind.wrap_u64:= @IntKind.wrap_u64
theorem ig:type_of% @Array.size_setIfInBounds:= @Array.size_setIfInBounds
theorem io:type_of% @Int.le_refl:= @Int.le_refl
theorem ip:type_of% @Bool.true_and:= @Bool.true_and
theorem iu:type_of% @List.length_eq_zero_iff:= @List.length_eq_zero_iff
theorem iy:type_of% @List.getElem?_replicate:= @List.getElem?_replicate
theorem iA:type_of% @Result.andThen_ok:= @Result.andThen_ok
theorem iC:type_of% @Bool.or_eq_true:= @Bool.or_eq_true
theorem iD:type_of% @List.attach_map_subtype_val:= @List.attach_map_subtype_val
theorem iE:type_of% @List.length_set:= @List.length_set
theorem iM:type_of% @Nat.sub_self:= @Nat.sub_self
theorem iX:type_of% @Exists.intro:= @Exists.intro
theorem jf:type_of% @wpList_append_own:= @wpList_append_own
theorem jg:type_of% @List.sum_cons:= @List.sum_cons
theorem jn:type_of% @List.mem_range:= @List.mem_range
theorem jo:type_of% @Bool.and_false:= @Bool.and_false
theorem jp:type_of% @List.map_toArray:= @List.map_toArray
theorem jw:type_of% @info_parts:= @info_parts
theorem jz:type_of% @List.getElem?_take:= @List.getElem?_take
theorem jA:type_of% @World.grownBy.refl:= @World.grownBy.refl
theorem j7:type_of% @List.map_map:= @List.map_map
theorem j8:type_of% @Sem.run_bind:= @Sem.run_bind
theorem j9:type_of% @Nat.le_of_eq:= @Nat.le_of_eq
theorem lg:type_of% @Sem.run_pure:= @Sem.run_pure
abbrev ab (g o:Nat):Value:= .pointer (some ⟨g,o,none⟩)
abbrev ae (g o:Nat):Addr:=⟨g,o,none⟩
abbrev af:Value:= .slice none 0 0
abbrev ag (n:Int):Value:= .int .i64 n
abbrev ah (c:Array Value)(t:TypeId):Option Obj:=some (.cells c t (0,0))
theorem ai {w w':World}{k:Nat}{o:Obj}(b:Below w.heap.size w w')(h:w.heap[k]? =some o):w'.heap[k]? =some o:=(b.block _ (aI h)).trans h
theorem aj {w w':World}{a:Addr}{v:Value}(b:Below w.heap.size w w')(h:w.cell? a=some v):w'.cell? a=some v:=(b.cell (cZ h)).trans h
theorem ak {w:World}{g:Nat}{c:Array Value}{t:TypeId}{f:Nat×Nat}(k:Nat)(h:w.heap[g]? =some (.cells c t f)):w.cell? ⟨g,k,none⟩=c[k]? :=aZ _ _ k _ _ _ h
theorem am (w:World)(o:Obj):Below w.heap.size w (w.alloc o):=(aH _ _).alloc (aD _) o
abbrev aq (a b:World):Prop:=Below a.heap.size a b
theorem au {α:Type}(a:α): ∃q,a=q:=⟨_,rfl⟩
theorem aw {a b c:World}(h:Below a.heap.size a b)(k:Below b.heap.size b c):Below a.heap.size a c:=h.trans (k.mono h.size)
def Rb (p:Prop):Prop:=p
theorem Rb.o {p:Prop}(h:Rb p):p:=h
end Go.Proofs.YtlkehieagdkgiaaGreatDoor
