/- What met and fail come to. -/
import Derived.Test.YtgjggpgkcbekoadRa08
namespace Go.Proofs.Ytgjggpgkcbekoad
open Go.RowKit Lx

/-- How a text reads in memory. -/
theorem str_eq (x y : List UInt8) : ((⟨x.toArray⟩ : ByteArray).toList == (⟨y.toArray⟩ : ByteArray).toList) = (x == y) := by rw [Lib.toList_data, Lib.toList_data]
theorem Kept.set (w : World) (g j : Nat) (u : Value) : Kept g w (w.setCell ⟨g, j, none⟩ u) := ⟨rfl, rfl, rfl, by simp, fun k _ hk => heap_setCell_other w ⟨g, j, none⟩ k u (fun e => hk (by rw [e]))⟩
theorem isT_len {x : List UInt8} {all : List Tk} {i : Nat} (hx : x ≠ []) (h : isT x (all.drop i) = true) : i + 1 ≤ all.length := by
  have := isT_cons hx h
  simp at this; omega

end Go.Proofs.Ytgjggpgkcbekoad

/- What skip, must, see, take, takeFrom, ended and pair come to. -/
namespace Go.Proofs.Ytgjggpgkcbekoad
open Go.RowKit Lx
variable {all : List Tk} {E g : Nat} {v : Value} {w : World} {i n : Nat}

end Go.Proofs.Ytgjggpgkcbekoad

/- What take, takeFrom and ended come to. -/
namespace Go.Proofs.Ytgjggpgkcbekoad
open Go.RowKit Lx
variable {all : List Tk} {E g : Nat} {v : Value} {w : World} {i n : Nat}

theorem Kept.setRow {w' : World} {k : Nat} (h : Kept g w w') (hk : w.heap.size ≤ k) (cs : Array Value) : Kept g w (w'.setRow k cs) :=
  ⟨h.os, h.tape, h.output, by simpa [World.setRow] using h.size, fun j hj hne => (setRow_other w' k j cs (by omega)).trans (h.block j hj hne)⟩
theorem Kept.alloc {w' : World} (h : Kept g w w') (o : Obj) : Kept g w (w'.alloc o) := h.trans (Kept.of_below ((Below.refl _ _).alloc (Nat.le_refl _) o))
theorem kind_len {all : List Tk} {i : Nat} (h : kindP (all.drop i) ≠ 0) : i + 1 ≤ all.length := by
  have := kindP_cons h
  simp at this; omega

end Go.Proofs.Ytgjggpgkcbekoad
