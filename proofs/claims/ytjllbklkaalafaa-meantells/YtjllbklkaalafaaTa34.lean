/- What parse.Parse comes to: the deferred call. -/
import Derived.Test.YtjllbklkaalafaaTa14
import Derived.Defers
import Derived.Recover
namespace Go.Proofs.Ytjllbklkaalafaa
open Go.RowKit Lx

/-- The results of Parse, where a fault has been thrown. -/
def caught (p q : Nat) (er at_ : Int) (w : World) : World := ((w.setCell ⟨p, 0, none⟩ (.slice none 0 0)).setCell ⟨q, 0, none⟩ (.int .i64 er)).setCell ⟨q, 1, none⟩ (.int .i64 at_)
end Go.Proofs.Ytjllbklkaalafaa

/- What parse.Parse comes to. -/
namespace Go.Proofs.Ytjllbklkaalafaa
open Go.RowKit Lx

theorem valL_six (l : List UInt8) (h : ∀ i, i < l.length → isD (l.getD i 0) = true) (h6 : l.length ≤ 6) : 0 ≤ valL l ∧ valL l ≤ 999999 := by
  have b := valL_small l h l.length (Nat.le_refl _) h6
  rw [List.take_length] at b
  omega
theorem run_digits (l : List UInt8) : ∀ i, i < (l.take (runOf isD l)).length → isD ((l.take (runOf isD l)).getD i 0) = true := by
  intro i hi
  have hle := runOf_le isD l
  rw [List.length_take, Nat.min_eq_left hle] at hi
  have := runOf_all isD l i hi
  rw [List.getD_eq_getElem?_getD] at this ⊢
  rw [List.getElem?_take, if_pos hi]
  exact this
theorem RowR.later {w0 w1 w w' : World} {vr : Value} {us : List (Ru × Value)} (h : RowR w0 w vr us) (hk : ∀ k, w0.heap.size ≤ k → w'.heap[k]? = w.heap[k]?) (hb : w1.heap.size ≤ w0.heap.size) : RowR w1 w' vr us := by
  refine ⟨?_, fun p hp => ?_⟩
  · obtain ⟨h1, h2⟩ := h.own
    refine ⟨h1, ?_⟩
    rcases h2 with h2 | ⟨g, cap, cur, hv, hg, hh, r⟩
    · exact .inl h2
    · exact .inr ⟨g, cap, cur, hv, by omega, (hk g hg).trans hh, r⟩
  · obtain ⟨d, hd⟩ := h.kids p hp
    exact ⟨d, (hd.kept fun k hB _ => hk k hB).mono fun k hB => by omega⟩
theorem caught_other (p q : Nat) (er at_ : Int) (w : World) (k : Nat) (h1 : k ≠ p) (h2 : k ≠ q) : (caught p q er at_ w).heap[k]? = w.heap[k]? := by
  unfold caught
  rw [heap_setCell_other _ _ _ _ h2, heap_setCell_other _ _ _ _ h2, heap_setCell_other _ _ _ _ h1]
/-- What a text's rules are, or what is wrong, and where. -/
def PTells (l : List UInt8) (w0 w : World) (v : Value) (er at_ : Int) : Prop :=
  (6000 < l.length ∧ v = .slice none 0 0 ∧ er = 4 ∧ at_ = 0) ∨
  (∃ (ts : List Tk) (k : Nat), l.length ≤ 6000 ∧ Lexed l ts k ∧ k < l.length ∧ (firstT (l.drop k)).err ≠ 0 ∧ v = .slice none 0 0 ∧ er = (firstT (l.drop k)).err ∧ at_ = (k : Int)) ∨
  (∃ (ts : List Tk) (k : Nat) (er' : Int) (at' : Nat), l.length ≤ 6000 ∧ Lexed l ts k ∧ ¬ k < l.length ∧ rulesR l.length (ts.length + 1) [] ts = .error (er', at') ∧ v = .slice none 0 0 ∧ er = er' ∧ at_ = (at' : Int)) ∨
  (∃ (ts : List Tk) (k : Nat) (us : List (Ru × Value)), l.length ≤ 6000 ∧ Lexed l ts k ∧ ¬ k < l.length ∧ rulesR l.length (ts.length + 1) [] ts = .ok (us.map (fun p => p.1)) ∧ us.length ≤ 40 ∧ RowR w0 w v us ∧ er = 0 ∧ at_ = 0)

end Go.Proofs.Ytjllbklkaalafaa

/- The document's reader in memory, and what its small functions come to. -/
namespace Go.Proofs.Ytjllbklkaalafaa
open Go.RowKit Lx
variable {all : List Tk} {E g : Nat} {v : Value} {w : World} {i n : Nat} {er at_ : Int}

def signW : List (List UInt8) := [wPlus, wMinus, wAnd, wOpen, wShut, wComma, wColon, wSemi, wIs, wTo]
/-- A token's text tells its kind. -/
def TkOK (t : T1) : Prop := (t.text ∈ signW → t.kind = 3) ∧ (t.text ∈ wordsL → t.kind = 2)
/-- What holds all the while. -/
structure WS0 (all : List Tk) (E g : Nat) (v : Value) : Prop where
  len : all.length ≤ 6000
  fin : E ≤ 6000
  own : v.ownBlock ≠ some g
  num : ∀ p ∈ all, 0 ≤ p.1.n ∧ p.1.n ≤ 999999
  kind : ∀ p ∈ all, TkOK p.1
/-- Is a token of that kind and text met, and is nothing wrong so far? -/
def onB (all : List Tk) (i : Nat) (er kd : Int) (x : List UInt8) : Bool := (er == 0) && ((kindP (all.drop i) == kd) && isT x (all.drop i))
end Go.Proofs.Ytjllbklkaalafaa
