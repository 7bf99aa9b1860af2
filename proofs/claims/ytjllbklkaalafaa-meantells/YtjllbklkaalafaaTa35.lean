/- What the document's need, get and made come to. -/
import Derived.Test.YtjllbklkaalafaaTa34
namespace Go.Proofs.Ytjllbklkaalafaa
open Go.RowKit Lx
variable {all : List Tk} {E g : Nat} {v : Value} {w : World} {i n : Nat} {er at_ : Int}

theorem on_len {kd : Int} {x : List UInt8} (hx : x ≠ []) (h : onB all i er kd x = true) : i + 1 ≤ all.length := by
  unfold onB at h
  simp only [Bool.and_eq_true] at h
  exact isT_len hx h.2.2
end Go.Proofs.Ytjllbklkaalafaa

/- What the document's get and made come to. -/
namespace Go.Proofs.Ytjllbklkaalafaa
open Go.RowKit Lx
variable {all : List Tk} {E g : Nat} {v : Value} {w : World} {i n : Nat} {er at_ : Int}

end Go.Proofs.Ytjllbklkaalafaa

/- What the document's Thing, Factor and Sum come to where something is wrong already: nothing turns. -/
namespace Go.Proofs.Ytjllbklkaalafaa
open Go.RowKit Lx
variable {all : List Tk} {E g : Nat} {v : Value} {w : World} {i n : Nat} {er at_ : Int}

end Go.Proofs.Ytjllbklkaalafaa

/- What the document's reader meets, in the plain reader's words. -/
namespace Go.Proofs.Ytjllbklkaalafaa
open Go.RowKit Lx
variable {all : List Tk} {E g : Nat} {v : Value} {w : World} {i n : Nat} {er at_ : Int}

theorem head_ok (h0 : WS0 all E g v) (i : Nat) : (textP (all.drop i) ∈ signW → kindP (all.drop i) = 3) ∧ (textP (all.drop i) ∈ wordsL → kindP (all.drop i) = 2) := by
  cases h : all.drop i with
  | nil => exact ⟨fun h => absurd h (by decide), fun h => absurd h (by decide)⟩
  | cons p r =>
    have hm : p ∈ all := List.mem_of_mem_drop (h ▸ List.mem_cons_self)
    exact h0.kind p hm
theorem on_sign (h0 : WS0 all E g v) {x : List UInt8} (hx : x ∈ signW) (i : Nat) : onB all i 0 3 x = isT x (all.drop i) := by
  unfold onB
  cases hT : isT x (all.drop i) with
  | false => simp
  | true =>
    have e : textP (all.drop i) = x := by simpa [isT] using hT
    have := (head_ok h0 i).1 (by rw [e]; exact hx)
    rw [this]; rfl
theorem on_word (h0 : WS0 all E g v) {x : List UInt8} (hx : x ∈ wordsL) (i : Nat) : onB all i 0 2 x = isT x (all.drop i) := by
  unfold onB
  cases hT : isT x (all.drop i) with
  | false => simp
  | true =>
    have e : textP (all.drop i) = x := by simpa [isT] using hT
    have := (head_ok h0 i).2 (by rw [e]; exact hx)
    rw [this]; rfl
theorem Kept.setAt {w' : World} {k : Nat} (h : Kept g w w') (hk : w.heap.size ≤ k) (j : Nat) (u : Value) : Kept g w (w'.setCell ⟨k, j, none⟩ u) :=
  ⟨h.os, h.tape, h.output, by simpa using h.size, fun m hm hne => (heap_setCell_other w' ⟨k, j, none⟩ m u (by show m ≠ k; omega)).trans (h.block m hm hne)⟩
end Go.Proofs.Ytjllbklkaalafaa
