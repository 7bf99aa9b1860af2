/- What shift and day come to. -/
import Derived.Test.YtgjggpgkcbekoadRa10
namespace Go.Proofs.Ytgjggpgkcbekoad
open Go.RowKit Lx
variable {all : List Tk} {E g : Nat} {v : Value} {w : World} {i n : Nat}

/-- Where the number of a shift is, behind its word. -/
def shAt (all : List Tk) (i : Nat) : Nat := if isT wMinus (all.drop i) then i + 1 else i
def shiftX (all : List Tk) (E i : Nat) : Except (Int × Nat) (Int × Nat) :=
  if kindP (all.drop (shAt all i)) ≠ 6 then .error (2, atP E (all.drop (shAt all i)))
  else if 1440 ≤ numP (all.drop (shAt all i)) ∨ numP (all.drop (shAt all i)) < 1 then .error (3, atP E (all.drop (shAt all i)))
  else .ok (if isT wMinus (all.drop i) then - numP (all.drop (shAt all i)) else numP (all.drop (shAt all i)), shAt all i + 1)
/-- The day that a text is, the first one from the left. -/
theorem day_at (x : List UInt8) (j : Nat) (hj : j < 7) (h : x = wDays.getD j []) : dayBit x = 2 ^ j := by
  subst h
  match j, hj with
  | 0, _ => rfl
  | 1, _ => rfl
  | 2, _ => rfl
  | 3, _ => rfl
  | 4, _ => rfl
  | 5, _ => rfl
  | 6, _ => rfl
theorem day_none (x : List UInt8) (h : ∀ j, j < 7 → x ≠ wDays.getD j []) : dayBit x = 0 := by
  unfold dayBit
  rw [if_neg (h 0 (by omega)), if_neg (h 1 (by omega)), if_neg (h 2 (by omega)), if_neg (h 3 (by omega)), if_neg (h 4 (by omega)), if_neg (h 5 (by omega)), if_neg (h 6 (by omega))]
def dayX (all : List Tk) (E i : Nat) : Except (Int × Nat) (Int × Nat) := if dayBit (textP (all.drop i)) = 0 then .error (2, atP E (all.drop i)) else .ok ((dayBit (textP (all.drop i)) : Int), i + 1)
end Go.Proofs.Ytgjggpgkcbekoad
