/- Small facts about frames and lists of values. -/
import Derived.Test.YtkineofpclneaabDoorFlowX
namespace Go.Proofs.YtkineofpclneaabDoor
open Go

theorem gd (A : Act) (s : Nat) : A.tmps[s]?.getD undef = A.tmps.getD s undef := by simp
theorem gdb {A : Act} {s : Nat} {b : Bool} (h : A.tmps.getD s undef = .bool b) : A.tmps[s]? = some (.bool b) := by
  rw [← gd] at h
  cases hx : A.tmps[s]? with
  | none => rw [hx] at h; simp [undef] at h
  | some v => rw [hx] at h; simp at h; rw [h]
/-- For all lists of so many. -/
def AllL : Nat → (List Value → Prop) → Prop
  | 0, P => P []
  | n + 1, P => ∀ u, AllL n fun l => P (u :: l)
theorem allL : ∀ (n : Nat) (P : List Value → Prop), AllL n P → ∀ l, l.length = n → P l
  | 0, P, h, l, hl => by
    have e : l = [] := List.length_eq_zero_iff.1 hl
    subst e
    exact h
  | n + 1, P, h, [], hl => by simp at hl
  | n + 1, P, h, u :: l, hl => allL n (fun l => P (u :: l)) (h u) l (by simpa using hl)
end Go.Proofs.YtkineofpclneaabDoor
