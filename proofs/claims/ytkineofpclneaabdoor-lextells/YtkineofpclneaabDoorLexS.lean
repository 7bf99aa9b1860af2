/- What lex.Named comes to; how tokens lie in memory; the tokens of one text, told. -/
import Derived.Test.YtkineofpclneaabDoorLexN
namespace Go.Proofs.YtkineofpclneaabDoor
open Go.RowKit Lx

def namedL (l : List UInt8) : Bool := decide (l.length ≠ 0) && (decide (l.length ≤ 20) && (decide (wordLen l = l.length) && !isWordL l))
theorem own_slice {w : World} {base : Nat} {e : TypeId} {size : Nat} {v : Value} {n : Nat} {xs : List Value} (h : w.ownsRow base e size v n xs) (hn : 0 < n) :
    ∃ g cap : Nat, v = .slice (some ⟨g, 0, none⟩) n cap ∧ ∀ (i : Nat) (u : Value), xs[i]? = some u → w.cell? ⟨g, i, none⟩ = some u := by
  obtain ⟨_, h2⟩ := h
  rcases h2 with ⟨_, h2⟩ | ⟨g, cap, cur, hv, hb, hh, _, _, _, h6⟩
  · omega
  · refine ⟨g, cap, hv, fun i u hu => ?_⟩
    rw [cell_of_row _ _ _ _ _ _ hh]
    rw [← h6, List.getElem?_take] at hu
    split at hu
    · simpa using hu
    · cases hu
theorem Lexed.iter {l : List UInt8} {ts : List (T1 × Nat)} {k : Nat} (h : Lexed l ts k) : ∃ n, iterN l n = some (ts, k) := h
theorem iter_none {l : List UInt8} {n : Nat} (h : iterN l n = none) : ∀ m, n ≤ m → iterN l m = none
  | 0, hm => by have : n = 0 := by omega
                subst this; exact h
  | m + 1, hm => by
    by_cases e : n = m + 1
    · rw [← e]; exact h
    · simp only [iterN, iter_none h m (by omega)]
/-- The text that the law asks about first. -/
def aliveL : List UInt8 := [114, 117, 108, 101, 32, 97, 32, 61, 32, 48, 57, 58, 51, 48, 45, 49, 48, 58, 48, 48, 59, 32, 35, 32, 110]
def aliveTs : List (T1 × Nat) := [(⟨2, 0, [114, 117, 108, 101], 4, 0⟩, 0), (⟨1, 0, [97], 1, 0⟩, 5), (⟨3, 0, [61], 1, 0⟩, 7), (⟨4, 570, [], 5, 0⟩, 9), (⟨3, 0, [45], 1, 0⟩, 14), (⟨4, 600, [], 5, 0⟩, 15), (⟨3, 0, [59], 1, 0⟩, 20)]
set_option maxRecDepth 100000 in
theorem alive_iter : iterN aliveL 7 = some (aliveTs, 25) := by rfl
end Go.Proofs.YtkineofpclneaabDoor
