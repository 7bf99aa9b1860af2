/- The tokens of two texts on two lines; that tokens are told one way alone. -/
import Derived.Test.YtkineofpclneaabDoorLexW
import Derived.Test.YtkineofpclneaabDoorLexS
namespace Go.Proofs.YtkineofpclneaabDoor
open Go.RowKit Lx

theorem drop_line (x y : List UInt8) (k : Nat) (hk : k ≤ x.length) : (x ++ 10 :: y).drop k = x.drop k ++ 10 :: y := List.drop_append_of_le_length hk
theorem skip_at (x y : List UInt8) (k : Nat) (hk : k ≤ x.length) : k + skipS false ((x ++ 10 :: y).drop k) = if k + skipS false (x.drop k) < x.length then k + skipS false (x.drop k) else x.length + 1 + skipS false y := by
  rw [drop_line x y k hk, skip_line]
  have := skipS_le false (x.drop k)
  simp only [List.length_drop] at this ⊢
  split <;> split <;> omega
/-- The first line's tokens are the text's. -/
theorem lexed_line {x : List UInt8} (y : List UInt8) {ts : List (T1 × Nat)} {k : Nat} (h : Lexed x ts k) : Lexed (x ++ 10 :: y) ts (if k < x.length then k else x.length + 1 + skipS false y) := by
  obtain ⟨n, hn⟩ := h
  refine Lexed.ind (M := fun ts k => Lexed (x ++ 10 :: y) ts (if k < x.length then k else x.length + 1 + skipS false y)) ?_ ?_ n hn
  · have e := skip_at x y 0 (by omega)
    have s := Lexed.start (l := x ++ 10 :: y)
    rw [e] at s
    exact s
  · intro ts k _ hk he ih
    rw [if_pos hk] at ih
    have f := first_fine _ (drop_pos hk) he
    have hle := f.le
    simp only [List.length_drop] at hle
    have e1 : firstT ((x ++ 10 :: y).drop k) = firstT (x.drop k) := by rw [drop_line x y k (by omega), first_line _ y (drop_pos hk)]
    have s := Lexed.step ih (by simp; omega) (by rw [e1]; exact he)
    rw [e1, skip_at x y (k + (firstT (x.drop k)).len) (by omega)] at s
    exact s
/-- Tokens so many bytes on. -/
def onBy (n : Nat) (ts : List (T1 × Nat)) : List (T1 × Nat) := ts.map fun p => (p.1, n + p.2)
theorem drop_second (x y : List UInt8) (k : Nat) : (x ++ 10 :: y).drop (x.length + 1 + k) = y.drop k := by
  rw [show x.length + 1 + k = x.length + (1 + k) by omega, ← List.drop_drop, List.drop_left, show 1 + k = k + 1 by omega]
  rfl
theorem lexed_both {x y : List UInt8} {ts us : List (T1 × Nat)} {k : Nat} (hx : Lexed (x ++ 10 :: y) ts (x.length + 1 + skipS false y)) (h : Lexed y us k) : Lexed (x ++ 10 :: y) (ts ++ onBy (x.length + 1) us) (x.length + 1 + k) := by
  obtain ⟨n, hn⟩ := h
  refine Lexed.ind (M := fun us k => Lexed (x ++ 10 :: y) (ts ++ onBy (x.length + 1) us) (x.length + 1 + k)) ?_ ?_ n hn
  · simp only [onBy, List.map_nil, List.append_nil, Nat.zero_add, List.drop_zero]
    exact hx
  · intro us k _ hk he ih
    have e1 := drop_second x y k
    have s := Lexed.step ih (by simp; omega) (by rw [e1]; exact he)
    rw [e1] at s
    rw [show x.length + 1 + k + (firstT (y.drop k)).len = x.length + 1 + (k + (firstT (y.drop k)).len) by omega, drop_second] at s
    simp only [onBy, List.map_append, List.map_cons, List.map_nil]
    rw [← List.append_assoc, ← Nat.add_assoc (x.length + 1)]
    exact s
/-- Where the tokens end, they end one way alone. -/
theorem lexed_one {l : List UInt8} {ts us : List (T1 × Nat)} {k j : Nat} (h : Lexed l ts k) (h' : Lexed l us j) (hk : ¬ (k < l.length ∧ (firstT (l.drop k)).err = 0)) (hj : ¬ (j < l.length ∧ (firstT (l.drop j)).err = 0)) : ts = us ∧ k = j := by
  obtain ⟨n, hn⟩ := h.iter
  obtain ⟨m, hm⟩ := h'.iter
  have n1 : iterN l (n + 1) = none := by simp only [iterN, hn]; rw [if_neg hk]
  have m1 : iterN l (m + 1) = none := by simp only [iterN, hm]; rw [if_neg hj]
  have e : n = m := by
    rcases Nat.lt_trichotomy n m with g | g | g
    · have := iter_none n1 m (by omega)
      rw [hm] at this; cases this
    · exact g
    · have := iter_none m1 n (by omega)
      rw [hn] at this; cases this
  subst e
  rw [hn] at hm
  have := Option.some.inj hm
  exact ⟨congrArg Prod.fst this, congrArg Prod.snd this⟩
end Go.Proofs.YtkineofpclneaabDoor
