/- Short words. -/
import Derived.Test.YtaoljfdfhggbbaaGreatDoorRows
import Derived.Below
import Derived.Laws.Rows
import Derived.OneCell
import Derived.WalkKit
import Derived.WalkSpells
import Derived.WalkLawsBesides
import Derived.Deep.QuietTactic
import Derived.BigQuiet
import Derived.Laws.Bits64b
import Derived.Laws.Tables
import Derived.Deep.WholeRow
import Derived.Deep.MidRow
open Go.Proofs.Tryz
namespace Go.Proofs.YtaoljfdfhggbbaaGreatDoor
open Go Go.RowKit
namespace Lx
end Lx
namespace Vx
end Vx
namespace Mx
end Mx
namespace Msk
end Msk
theorem ax:type_of% @if_neg:= @if_neg
theorem ay:type_of% @wpList_store_row:= @wpList_store_row
theorem az:type_of% @List.getElem?_eq_getElem:= @List.getElem?_eq_getElem
theorem aA:type_of% @List.setIfInBounds_toArray:= @List.setIfInBounds_toArray
theorem aB:type_of% @Nat.le_refl:= @Nat.le_refl
theorem aD:type_of% @if_pos:= @if_pos
theorem aE:type_of% @heap_alloc_new:= @heap_alloc_new
theorem aG:type_of% @List.getElem?_eq_some_iff:= @List.getElem?_eq_some_iff
theorem aH:type_of% @lt_of_block:= @lt_of_block
theorem aI:type_of% @Below.refl:= @Below.refl
theorem aJ:type_of% @List.set_cons_zero:= @List.set_cons_zero
theorem aK:type_of% @List.set_cons_succ:= @List.set_cons_succ
theorem aL:type_of% @setRow_heap:= @setRow_heap
theorem aM:type_of% @List.mem_of_getElem? := @List.mem_of_getElem?
theorem aN:type_of% @Option.some.inj:= @Option.some.inj
theorem aO:type_of% @heap_setCell_other:= @heap_setCell_other
theorem aP:type_of% @List.length_append:= @List.length_append
theorem aR:type_of% @wpList_load_row:= @wpList_load_row
theorem aT:type_of% @Nat.lt_of_lt_of_le:= @Nat.lt_of_lt_of_le
theorem aV:type_of% @setRow_other:= @setRow_other
theorem aW:type_of% @bodyPost_ret:= @bodyPost_ret
theorem aY:type_of% @heap_setCell_same:= @heap_setCell_same
theorem aZ:type_of% @cell_of_row:= @cell_of_row
theorem ba:type_of% @List.length_map:= @List.length_map
theorem bc:type_of% @results_cell_row:= @results_cell_row
theorem bf:type_of% @Nat.le_trans:= @Nat.le_trans
theorem bg:type_of% @List.getElem?_map:= @List.getElem?_map
theorem bj:type_of% @beq_eq_false_iff_ne:= @beq_eq_false_iff_ne
theorem bl:type_of% @frozen_of_row:= @frozen_of_row
theorem bm:type_of% @decide_eq_true:= @decide_eq_true
theorem bn:type_of% @decide_eq_false:= @decide_eq_false
theorem bp:type_of% @Array.getElem?_toList:= @Array.getElem?_toList
theorem bq:type_of% @List.mem_cons_self:= @List.mem_cons_self
theorem bv:type_of% @List.mem_cons:= @List.mem_cons
theorem bx:type_of% @List.drop_eq_getElem_cons:= @List.drop_eq_getElem_cons
theorem bz:type_of% @IntKind.wrap_i64:= @IntKind.wrap_i64
theorem bG:type_of% @Bool.and_eq_true:= @Bool.and_eq_true
theorem bH:type_of% @List.mem_cons_of_mem:= @List.mem_cons_of_mem
theorem bJ:type_of% @List.length_cons:= @List.length_cons
theorem bN:type_of% @Nat.zero_add:= @Nat.zero_add
theorem bP:type_of% @block_lt_of_cell:= @block_lt_of_cell
theorem bQ:type_of% @Array.length_toList:= @Array.length_toList
theorem bT:type_of% @List.mem_singleton:= @List.mem_singleton
theorem bU:type_of% @List.mem_append:= @List.mem_append
theorem cg:type_of% @decide_eq_true_eq:= @decide_eq_true_eq
theorem cj:type_of% @Int.toNat_natCast:= @Int.toNat_natCast
theorem cQ:type_of% @List.take_of_length_le:= @List.take_of_length_le
theorem dc:type_of% @World.ownsRow_nil:= @World.ownsRow_nil
theorem dg:type_of% @List.drop_of_length_le:= @List.drop_of_length_le
theorem di:type_of% @Array.getElem?_eq_some_iff:= @Array.getElem?_eq_some_iff
theorem dj:type_of% @List.getElem?_append_right:= @List.getElem?_append_right
theorem dn:type_of% @Array.getElem?_setIfInBounds_ne:= @Array.getElem?_setIfInBounds_ne
theorem dr:type_of% @List.all_eq_true:= @List.all_eq_true
theorem du:type_of% @List.getElem?_append_left:= @List.getElem?_append_left
theorem dw:type_of% @Nat.zero_le:= @Nat.zero_le
theorem dD:type_of% @below_drewN:= @below_drewN
theorem dI:type_of% @List.map_cons:= @List.map_cons
theorem dJ:type_of% @List.getD_eq_getElem?_getD:= @List.getD_eq_getElem?_getD
theorem dK:type_of% @List.getElem?_take_of_lt:= @List.getElem?_take_of_lt
theorem dL:type_of% @Below.heap_alloc:= @Below.heap_alloc
theorem dN:type_of% @List.map_append:= @List.map_append
theorem dP:type_of% @List.length_singleton:= @List.length_singleton
theorem dR:type_of% @Option.map_eq_some_iff:= @Option.map_eq_some_iff
theorem dT:type_of% @Classical.byContradiction:= @Classical.byContradiction
theorem dU:type_of% @wp_load_row:= @wp_load_row
theorem dV:type_of% @List.mem_map:= @List.mem_map
theorem dX:type_of% @run_loadVar_row:= @run_loadVar_row
theorem ef:type_of% @World.cell?_of_block:= @World.cell?_of_block
theorem eo:type_of% @List.append_assoc:= @List.append_assoc
theorem eD:type_of% @List.mem_append_right:= @List.mem_append_right
theorem eE:type_of% @List.length_take:= @List.length_take
theorem eG:type_of% @wp_store_row:= @wp_store_row
theorem eO:type_of% @results_none:= @results_none
theorem eV:type_of% @And.intro:= @And.intro
theorem eX:type_of% @List.getElem?_eq_none:= @List.getElem?_eq_none
theorem fg:type_of% @List.map_nil:= @List.map_nil
theorem fh:type_of% @List.getElem?_set_self:= @List.getElem?_set_self
theorem fj:type_of% @Nat.min_eq_left:= @Nat.min_eq_left
theorem fo:type_of% @List.length_drop:= @List.length_drop
theorem fu:type_of% @Calls.quiet_of_same:= @Calls.quiet_of_same
theorem fw:type_of% @List.flatMap_append:= @List.flatMap_append
theorem fD:type_of% @List.take_add_one:= @List.take_add_one
theorem fE:type_of% @of_decide_eq_true:= @of_decide_eq_true
theorem fI:type_of% @List.getElem?_set_ne:= @List.getElem?_set_ne
theorem fJ:type_of% @List.mem_append_left:= @List.mem_append_left
theorem fN:type_of% @MapKept.run_getObj_map:= @MapKept.run_getObj_map
theorem fP:type_of% @Array.getElem?_eq_getElem:= @Array.getElem?_eq_getElem
theorem fR:type_of% @run_underlying:= @run_underlying
theorem gc:type_of% @List.take_length:= @List.take_length
theorem gu:type_of% @Array.getElem?_setIfInBounds_self_of_lt:= @Array.getElem?_setIfInBounds_self_of_lt
theorem gG:type_of% @Result.andThen_ok:= @Result.andThen_ok
theorem gH:type_of% @MapKept.run_findKey:= @MapKept.run_findKey
theorem gK:type_of% @List.length_nil:= @List.length_nil
theorem gM:type_of% @List.take_append_drop:= @List.take_append_drop
theorem gN:type_of% @List.eq_nil_of_length_eq_zero:= @List.eq_nil_of_length_eq_zero
theorem gS:type_of% @IntKind.wrap_u64:= @IntKind.wrap_u64
theorem gT:type_of% @Array.size_setIfInBounds:= @Array.size_setIfInBounds
theorem gY:type_of% @Int.le_refl:= @Int.le_refl
theorem ig:type_of% @List.length_eq_zero_iff:= @List.length_eq_zero_iff
theorem ii:type_of% @List.getElem?_replicate:= @List.getElem?_replicate
theorem ij:type_of% @Bool.or_eq_true:= @Bool.or_eq_true
theorem ik:type_of% @List.attach_map_subtype_val:= @List.attach_map_subtype_val
theorem il:type_of% @List.append_nil:= @List.append_nil
theorem iC:type_of% @List.map_toArray:= @List.map_toArray
theorem iO:type_of% @Nat.sub_self:= @Nat.sub_self
theorem iP:type_of% @Exists.intro:= @Exists.intro
theorem iZ:type_of% @wpList_append_own:= @wpList_append_own
theorem i7:type_of% @List.sum_cons:= @List.sum_cons
theorem i8:type_of% @Bool.true_and:= @Bool.true_and
theorem jf:type_of% @List.mem_range:= @List.mem_range
theorem jg:type_of% @Bool.and_false:= @Bool.and_false
theorem jp:type_of% @info_parts:= @info_parts
theorem js:type_of% @List.getElem?_take:= @List.getElem?_take
theorem jt:type_of% @World.grownBy.refl:= @World.grownBy.refl
theorem ju:type_of% @Sem.run_bind:= @Sem.run_bind
theorem jy:type_of% @List.length_set:= @List.length_set
theorem jU:type_of% @List.map_map:= @List.map_map
theorem jV:type_of% @Sem.run_pure:= @Sem.run_pure
theorem jW:type_of% @Nat.le_of_eq:= @Nat.le_of_eq
abbrev ab (g o:Nat):Value:= .pointer (some ⟨g,o,none⟩)
abbrev ae (g o:Nat):Addr:=⟨g,o,none⟩
abbrev af:Value:= .slice none 0 0
abbrev ag (n:Int):Value:= .int .i64 n
abbrev ah (c:Array Value)(t:TypeId):Option Obj:=some (.cells c t (0,0))
theorem ai {w w':World}{k:Nat}{o:Obj}(b:Below w.heap.size w w')(h:w.heap[k]? =some o):w'.heap[k]? =some o:=(b.block _ (aH h)).trans h
theorem aj {w w':World}{a:Addr}{v:Value}(b:Below w.heap.size w w')(h:w.cell? a=some v):w'.cell? a=some v:=(b.cell (bP h)).trans h
theorem ak {w:World}{g:Nat}{c:Array Value}{t:TypeId}{f:Nat×Nat}(k:Nat)(h:w.heap[g]? =some (.cells c t f)):w.cell? ⟨g,k,none⟩=c[k]? :=aZ _ _ k _ _ _ h
theorem am (w:World)(o:Obj):Below w.heap.size w (w.alloc o):=(aI _ _).alloc (aB _) o
abbrev aq (a b:World):Prop:=Below a.heap.size a b
theorem au {α:Type}(a:α): ∃q,a=q:=⟨_,rfl⟩
theorem aw {a b c:World}(h:Below a.heap.size a b)(k:Below b.heap.size b c):Below a.heap.size a c:=h.trans (k.mono h.size)
def PN (p:Prop):Prop:=p
theorem PN.o {p:Prop}(h:PN p):p:=h
end Go.Proofs.YtaoljfdfhggbbaaGreatDoor
