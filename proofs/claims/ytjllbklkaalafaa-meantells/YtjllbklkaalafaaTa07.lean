/- What met and fail come to. -/
import Derived.Test.YtjllbklkaalafaaTa06
namespace Go.Proofs.Ytjllbklkaalafaa
open Go.RowKit Lx

/-- How a text reads in memory. -/
theorem str_eq (x y : List UInt8) : ((⟨x.toArray⟩ : ByteArray).toList == (⟨y.toArray⟩ : ByteArray).toList) = (x == y) := by rw [Lib.toList_data, Lib.toList_data]
theorem Kept.set (w : World) (g j : Nat) (u : Value) : Kept g w (w.setCell ⟨g, j, none⟩ u) := ⟨rfl, rfl, rfl, by simp, fun k _ hk => heap_setCell_other w ⟨g, j, none⟩ k u (fun e => hk (by rw [e]))⟩
theorem isT_len {x : List UInt8} {all : List Tk} {i : Nat} (hx : x ≠ []) (h : isT x (all.drop i) = true) : i + 1 ≤ all.length := by
  have := isT_cons hx h
  simp at this; omega

end Go.Proofs.Ytjllbklkaalafaa

/- What skip, must, see, take, takeFrom, ended and pair come to. -/
namespace Go.Proofs.Ytjllbklkaalafaa
open Go.RowKit Lx
variable {all : List Tk} {E g : Nat} {v : Value} {w : World} {i n : Nat}

end Go.Proofs.Ytjllbklkaalafaa

/- What take, takeFrom and ended come to. -/
namespace Go.Proofs.Ytjllbklkaalafaa
open Go.RowKit Lx
variable {all : List Tk} {E g : Nat} {v : Value} {w : World} {i n : Nat}

theorem Kept.setRow {w' : World} {k : Nat} (h : Kept g w w') (hk : w.heap.size ≤ k) (cs : Array Value) : Kept g w (w'.setRow k cs) :=
  ⟨h.os, h.tape, h.output, by simpa [World.setRow] using h.size, fun j hj hne => (setRow_other w' k j cs (by omega)).trans (h.block j hj hne)⟩
theorem Kept.alloc {w' : World} (h : Kept g w w') (o : Obj) : Kept g w (w'.alloc o) := h.trans (Kept.of_below ((Below.refl _ _).alloc (Nat.le_refl _) o))
theorem kind_len {all : List Tk} {i : Nat} (h : kindP (all.drop i) ≠ 0) : i + 1 ≤ all.length := by
  have := kindP_cons h
  simp at this; omega

end Go.Proofs.Ytjllbklkaalafaa

/- What ended and pair come to. -/
namespace Go.Proofs.Ytjllbklkaalafaa
open Go.RowKit Lx
variable {all : List Tk} {E g : Nat} {v : Value} {w : World} {i n : Nat}

/-- The cells of an expression. -/
def exC (e : Ex) (sl : Value) : List Value := [.int .i64 e.kind, .int .i64 e.a, .int .i64 e.b, .string ⟨e.name.toArray⟩, sl]
theorem kids_one {B : Nat → Prop} {w : World} {b d : Nat} {k : Ex} {s : Value} (hB : B b) (hb : w.heap[b]? = some (.cells #[.int .i64 k.kind, .int .i64 k.a, .int .i64 k.b, .string ⟨k.name.toArray⟩, s] 41 (0, 0))) (hk : KidsAt B d w s k.kids) :
    KidsAt B (d + 1) w (.slice (some ⟨b, 0, none⟩) 1 1) [k] := by
  refine .inr ⟨b, 0, 1, ⟨hB, _, _, hb⟩, rfl, by simp, fun j k' hj => ?_⟩
  match j, hj with
  | 0, hj =>
    have e : k = k' := by simpa using hj
    subst e
    exact ⟨s, (cell_of_row _ _ _ _ _ _ hb).trans rfl, (cell_of_row _ _ _ _ _ _ hb).trans rfl, (cell_of_row _ _ _ _ _ _ hb).trans rfl, (cell_of_row _ _ _ _ _ _ hb).trans rfl, (cell_of_row _ _ _ _ _ _ hb).trans rfl, hk⟩
theorem kids_two {B : Nat → Prop} {w : World} {b d d' : Nat} {k k' : Ex} {s s' : Value} (hB : B b)
    (hb : w.heap[b]? = some (.cells #[.int .i64 k.kind, .int .i64 k.a, .int .i64 k.b, .string ⟨k.name.toArray⟩, s, .int .i64 k'.kind, .int .i64 k'.a, .int .i64 k'.b, .string ⟨k'.name.toArray⟩, s'] 41 (0, 0))) (hk : KidsAt B d w s k.kids) (hk' : KidsAt B d' w s' k'.kids) :
    KidsAt B (max d d' + 1) w (.slice (some ⟨b, 0, none⟩) 2 2) [k, k'] := by
  refine .inr ⟨b, 0, 2, ⟨hB, _, _, hb⟩, rfl, by simp, fun j q hj => ?_⟩
  match j, hj with
  | 0, hj =>
    have e : k = q := by simpa using hj
    subst e
    exact ⟨s, (cell_of_row _ _ _ _ _ _ hb).trans rfl, (cell_of_row _ _ _ _ _ _ hb).trans rfl, (cell_of_row _ _ _ _ _ _ hb).trans rfl, (cell_of_row _ _ _ _ _ _ hb).trans rfl, (cell_of_row _ _ _ _ _ _ hb).trans rfl, hk.le (by omega)⟩
  | 1, hj =>
    have e : k' = q := by simpa using hj
    subst e
    exact ⟨s', (cell_of_row _ _ _ _ _ _ hb).trans rfl, (cell_of_row _ _ _ _ _ _ hb).trans rfl, (cell_of_row _ _ _ _ _ _ hb).trans rfl, (cell_of_row _ _ _ _ _ _ hb).trans rfl, (cell_of_row _ _ _ _ _ _ hb).trans rfl, hk'.le (by omega)⟩

end Go.Proofs.Ytjllbklkaalafaa
