/- What dates and weekly come to. -/
import Derived.Test.YtjllbklkaalafaaTa08
namespace Go.Proofs.Ytjllbklkaalafaa
open Go.RowKit Lx
variable {all : List Tk} {E g : Nat} {v : Value} {w : World} {i n : Nat}

/-- Dates behind their word. -/
def datesR (E d : Nat) (r : List Tk) (n : Nat) : Res :=
  if kindP r ≠ 5 then failP E 2 r
  else if isT wTo r.tail then
    if kindP r.tail.tail ≠ 5 then failP E 2 r.tail.tail
    else if numP r.tail.tail < numP r then failP E 3 r.tail.tail
    else rd E 8 d ⟨5, numP r, numP r.tail.tail, [], []⟩ r.tail.tail.tail n
  else rd E 8 d ⟨5, numP r, numP r, [], []⟩ r.tail n
/-- Behind a day of the week: more days, or the colon. -/
def weekOn (E d : Nat) (a : Nat) (r : List Tk) (n : Nat) : Res := if isT wComma r then rd E 7 d ⟨0, (a : Int), 0, [], []⟩ r.tail n else rd E 8 d ⟨4, (a : Int), 0, [], []⟩ r n
theorem rd7_no (E d : Nat) (e : Ex) (r : List Tk) (n : Nat) (h : dayBit (textP r) = 0) : rd E 7 d e r n = failP E 2 r := by rw [rd_7, if_pos h]
theorem rd7_yes (E d : Nat) (e : Ex) (r : List Tk) (n : Nat) (h : dayBit (textP r) ≠ 0) : rd E 7 d e r n = weekOn E d (e.a.toNat ||| dayBit (textP r)) r.tail n := by rw [rd_7, if_neg h]; rfl
theorem day_lt (x : List UInt8) : dayBit x < 128 := by
  unfold dayBit
  repeat (split; · omega)
  omega
theorem or128 : ∀ a : Fin 128, ∀ b : Fin 128, bits BinOp.or IntKind.i64 ((a.val : Nat) : Int) ((b.val : Nat) : Int) = ((a.val ||| b.val : Nat) : Int) := by decide +kernel
theorem or_eq {a b : Nat} (ha : a < 128) (hb : b < 128) : bits BinOp.or IntKind.i64 (a : Int) (b : Int) = ((a ||| b : Nat) : Int) := or128 ⟨a, ha⟩ ⟨b, hb⟩
theorem or_lt {a b : Nat} (ha : a < 128) (hb : b < 128) : a ||| b < 128 := Nat.or_lt_two_pow (n := 7) ha hb
end Go.Proofs.Ytjllbklkaalafaa

/- What thing comes to, where what it calls comes to what it should. -/
namespace Go.Proofs.Ytjllbklkaalafaa
open Go.RowKit Lx
variable {all : List Tk} {E g : Nat} {v : Value} {w : World} {i n : Nat}

end Go.Proofs.Ytjllbklkaalafaa
