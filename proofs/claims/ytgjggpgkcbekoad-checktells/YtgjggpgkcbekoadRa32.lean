/- The document's reader in memory, and what its small functions come to. -/
import Derived.Test.YtgjggpgkcbekoadRa31
namespace Go.Proofs.Ytgjggpgkcbekoad
open Go.RowKit Lx
variable {all : List Tk} {E g : Nat} {v : Value} {w : World} {i n : Nat} {er at_ : Int}

def signW : List (List UInt8) := [wPlus, wMinus, wAnd, wOpen, wShut, wComma, wColon, wSemi, wIs, wTo]
/-- A token's text tells its kind. -/
def TkOK (t : T1) : Prop := (t.text ∈ signW → t.kind = 3) ∧ (t.text ∈ wordsL → t.kind = 2)
/-- What holds all the while. -/
structure WS0 (all : List Tk) (E g : Nat) (v : Value) : Prop where
  len : all.length ≤ 6000
  fin : E ≤ 6000
  own : v.ownBlock ≠ some g
  num : ∀ p ∈ all, 0 ≤ p.1.n ∧ p.1.n ≤ 999999
  kind : ∀ p ∈ all, TkOK p.1
/-- Is a token of that kind and text met, and is nothing wrong so far? -/
def onB (all : List Tk) (i : Nat) (er kd : Int) (x : List UInt8) : Bool := (er == 0) && ((kindP (all.drop i) == kd) && isT x (all.drop i))
end Go.Proofs.Ytgjggpgkcbekoad

/- What the document's need, get and made come to. -/
namespace Go.Proofs.Ytgjggpgkcbekoad
open Go.RowKit Lx
variable {all : List Tk} {E g : Nat} {v : Value} {w : World} {i n : Nat} {er at_ : Int}

theorem on_len {kd : Int} {x : List UInt8} (hx : x ≠ []) (h : onB all i er kd x = true) : i + 1 ≤ all.length := by
  unfold onB at h
  simp only [Bool.and_eq_true] at h
  exact isT_len hx h.2.2
end Go.Proofs.Ytgjggpgkcbekoad

/- What the document's get and made come to. -/
namespace Go.Proofs.Ytgjggpgkcbekoad
open Go.RowKit Lx
variable {all : List Tk} {E g : Nat} {v : Value} {w : World} {i n : Nat} {er at_ : Int}

end Go.Proofs.Ytgjggpgkcbekoad
