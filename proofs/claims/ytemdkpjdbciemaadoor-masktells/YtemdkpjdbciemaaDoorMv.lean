/- A mask as the program holds it: an array of words; what its cells are, and what the bits' operations make of words. -/
import Derived.Test.YtemdkpjdbciemaaDoorRows
import Derived.Test.YtemdkpjdbciemaaDoorPlain
import Derived.WalkKit
import Derived.WalkSpells
import Derived.WalkLawsBesides
import Derived.Deep.QuietTactic
import Derived.BigQuiet
import Derived.Laws.Bits64b
import Derived.Laws.Rows
import Derived.Laws.Tables
import Derived.Deep.WholeRow
namespace Go.Proofs.YtemdkpjdbciemaaDoor
open Go.RowKit Msk

/-- The cells of a mask whose bits are f's. -/
def mv (f : Nat → Bool) : Array Value := Array.ofFn (n := 23) fun k => Value.int .u64 (wd f k.val : Int)

theorem mv_size (f : Nat → Bool) : (mv f).size = 23 := by simp [mv]
theorem mv_get (f : Nat → Bool) (k : Nat) (hk : k < 23) : (mv f)[k]? = some (.int .u64 (wd f k : Int)) := by
  simp [mv, hk]
theorem mv_all (f : Nat → Bool) : (mv f).all (·.oneCell') = true := by
  rw [Array.all_eq_true]
  intro i hi
  simp [mv, Value.oneCell']
theorem mv_ext {f g : Nat → Bool} (h : ∀ i, i < 1472 → f i = g i) : mv f = mv g := by
  unfold mv
  congr 1
  funext k
  have hk := k.isLt
  rw [wd_ext (f := f) (g := g) fun j hj => h _ (by omega)]
theorem mv_set (f g : Nat → Bool) (k : Nat) (hk : k < 23) : (mv f).setIfInBounds k (.int .u64 (wd g k : Int)) = mv (fun i => if i / 64 = k then g i else f i) := by
  apply Array.ext_getElem?
  intro i
  rw [Array.getElem?_setIfInBounds]
  by_cases hi : k = i
  · subst hi
    rw [if_pos rfl, if_pos (by rw [mv_size]; exact hk), mv_get _ k hk]
    rw [wd_ext (f := g) (g := fun i => if i / 64 = k then g i else f i) fun j hj => by rw [if_pos (by omega)]]
  · rw [if_neg hi]
    by_cases hlt : i < 23
    · rw [mv_get _ i hlt, mv_get _ i hlt]
      rw [wd_ext (f := f) (g := fun i => if i / 64 = k then g i else f i) fun j hj => by rw [if_neg (by omega)]]
    · rw [Array.getElem?_eq_none (by rw [mv_size]; omega), Array.getElem?_eq_none (by rw [mv_size]; omega)]
theorem mv_zero : mv (fun _ => false) = Array.replicate 23 (.int .u64 0) := by
  apply Array.ext_getElem?
  intro i
  by_cases hlt : i < 23
  · rw [mv_get _ i hlt, wd_zero]; simp [hlt]
  · rw [Array.getElem?_eq_none (by rw [mv_size]; omega)]; simp [hlt]
theorem mv_lit : (#[.int .u64 0, .int .u64 0, .int .u64 0, .int .u64 0, .int .u64 0, .int .u64 0, .int .u64 0, .int .u64 0, .int .u64 0, .int .u64 0, .int .u64 0, .int .u64 0, .int .u64 0, .int .u64 0, .int .u64 0, .int .u64 0, .int .u64 0, .int .u64 0, .int .u64 0, .int .u64 0, .int .u64 0, .int .u64 0, .int .u64 0] : Array Value) = mv (fun _ => false) := by rw [mv_zero]; rfl
/-- The cells of a mask that came in. -/
theorem mv_of (m : Nat → Nat) (h : ∀ k, k < 23 → m k < 18446744073709551616) : (Array.ofFn (n := 23) fun k => Value.int .u64 (m k.val : Int)) = mv (fun i => (m (i / 64)).testBit (i % 64)) := by
  unfold mv
  congr 1
  funext k
  rw [← wd_of m h k.val k.isLt]

theorem andNot_nat (a b : Nat) (ha : a < 18446744073709551616) (hb : b < 18446744073709551616) :
    bits .andNot .u64 (a : Int) (b : Int) = ((a &&& (18446744073709551616 - (b + 1)) : Nat) : Int) := by
  have h1 : (BitVec.ofInt 64 (a : Int)).toNat = a := by
    rw [BitVec.ofInt_natCast, BitVec.toNat_ofNat]; exact Nat.mod_eq_of_lt (by omega)
  have h2 : (BitVec.ofInt 64 (b : Int)).toNat = b := by
    rw [BitVec.ofInt_natCast, BitVec.toNat_ofNat]; exact Nat.mod_eq_of_lt (by omega)
  have hx : a &&& (18446744073709551616 - (b + 1)) ≤ a := Nat.and_le_left
  show IntKind.u64.wrap ((BitVec.ofInt 64 (a : Int) &&& ~~~ BitVec.ofInt 64 (b : Int)).toNat : Int) = _
  have e : (2 : Nat) ^ 64 - 1 - b = 18446744073709551616 - (b + 1) := by omega
  rw [BitVec.toNat_and, BitVec.toNat_not, h1, h2, IntKind.wrap_u64, e]
  omega

theorem last_word : (4294967295 : Nat) = wd (fun i => decide (i < 1440)) 22 := by
  refine wd_eq _ 22 _ (by omega) fun j hj => ?_
  have e : (4294967295 : Nat) = 2 ^ 32 - 1 := by decide
  rw [e, ones_bit]
  have : (j < 32) = (64 * 22 + j < 1440) := by apply propext; omega
  simp only [this]
/-- What is cut off behind the last minute. -/
theorem mv_trim (f : Nat → Bool) : (mv f).setIfInBounds 22 (.int .u64 (bits .and .u64 (wd f 22 : Int) 4294967295)) = mv fun i => f i && decide (i < 1440) := by
  have e : bits .and .u64 (wd f 22 : Int) 4294967295 = ((wd (fun i => f i && decide (i < 1440)) 22 : Nat) : Int) := by
    have := bits_and_u64_nat (wd f 22) 4294967295 (wd_lt f 22) (by omega)
    rw [← wd_and f (fun i => decide (i < 1440)) 22, ← last_word]
    exact this
  rw [e, mv_set _ _ 22 (by omega)]
  refine mv_ext fun i hi => ?_
  by_cases h : i / 64 = 22
  · rw [if_pos h]
  · rw [if_neg h]
    have : i < 1440 := by omega
    simp [this]

/-- A cell of a mask that lies in a block. -/
theorem cell_mv {w : World} {g : Nat} {f : Nat → Bool} {t : TypeId} (hg : w.heap[g]? = some (.cells (mv f) t (0, 0))) (k : Nat) (hk : k < 23) : w.cell? ⟨g, k, none⟩ = some (.int .u64 (wd f k : Int)) := by
  rw [cell_of_row w g k _ t (0, 0) hg, mv_get f k hk]
/-- A cell of another block than the one that was written. -/
theorem cell_set_far (w : World) (a : Addr) (v : Value) (p : Addr) (h : p.block ≠ a.block) : (w.setCell a v).drew.cell? p = w.cell? p :=
  World.cell?_of_block (w := w) (Below.heap_setCell w a v p.block h)
/-- A loop that fills a mask word by word. -/
theorem mv_start (h : Nat → Bool) : mv (fun _ => false) = mv (fun i => decide (i < 64 * 0) && h i) := mv_ext fun i _ => by simp
theorem mv_step (k : Nat) (hk : k < 23) (h : Nat → Bool) : (mv fun i => decide (i < 64 * k) && h i).setIfInBounds k (.int .u64 (wd h k : Int)) = mv fun i => decide (i < 64 * (k + 1)) && h i := by
  rw [mv_set _ _ k hk]
  refine mv_ext fun i hi => ?_
  by_cases h : i / 64 = k
  · have : i < 64 * (k + 1) := by omega
    simp [h, this]
  · have : (i < 64 * k) = (i < 64 * (k + 1)) := by apply propext; omega
    simp only [h, if_false, this]
theorem mv_full (h : Nat → Bool) : (mv fun i => decide (i < 64 * 23) && h i) = mv h := mv_ext fun i hi => by
  have : i < 64 * 23 := by omega
  simp [this]
/-- Cells in a block, said otherwise. -/
theorem blk_eq {w : World} {g : Nat} {c c' : Array Value} {t : TypeId} (hg : w.heap[g]? = some (.cells c t (0, 0))) (e : c = c') : w.heap[g]? = some (.cells c' t (0, 0)) := by rw [hg, e]
theorem size_alloc (w : World) (o : Obj) : (w.alloc o).heap.size = w.heap.size + 1 := by show (w.heap.push o).size = _; simp
theorem blk_new (w : World) (o : Obj) (k : Nat) (h : k = w.heap.size) : (w.alloc o).heap[k]? = some o := by subst h; exact heap_alloc_new w o
theorem blk_old (w : World) (o : Obj) (k : Nat) (h : k < w.heap.size) {x : Obj} (hx : w.heap[k]? = some x) : (w.alloc o).heap[k]? = some x := (Below.heap_alloc w o k h).trans hx
theorem hpush (w : World) (o : Obj) : (w.alloc o).heap = w.heap.push o := rfl

/-- The type of masks, its size and its zero value. -/
theorem maskSize (f : Nat → Bool) : (Tryd.prog.info? 37).map (·.size) = some (mv f).size := by rw [mv_size]; kernel_rfl
theorem maskType : Tryd.prog.underlying 37 = some (.array 23 35) := by kernel_rfl

end Go.Proofs.YtemdkpjdbciemaaDoor
