/- What thing comes to, where what it calls comes to what it should. -/
import Derived.Test.YtgjggpgkcbekoadRa14
namespace Go.Proofs.Ytgjggpgkcbekoad
open Go.RowKit Lx
variable {all : List Tk} {E g : Nat} {v : Value} {w : World} {i n : Nat}

end Go.Proofs.Ytgjggpgkcbekoad

/- What factor comes to, where thing comes to what it should. -/
namespace Go.Proofs.Ytgjggpgkcbekoad
open Go.RowKit Lx
variable {all : List Tk} {E g : Nat} {v : Value} {w : World} {i n : Nat}

/-- Where the reader stands, out of memory. -/
def posOf (g : Nat) (w : World) : Nat := match w.heap[g]? with
  | some (.cells cs _ _) => (intOf (cs.getD 1 undef)).toNat
  | _ => 0
theorem shiftAt_drop (j : Nat) : shiftAt (all.drop j) = all.drop (shAt all (j + 1)) := by
  unfold shiftAt shAt
  rw [tail_drop]
  split
  · rw [tail_drop]
  · rfl
/-- What comes behind a shift's number. -/
def afterShift (E d : Nat) (all : List Tk) (e : Ex) (n : Nat) : Except (Int × Nat) (Int × Nat) → Res
  | .error q => .error q
  | .ok (m, j) => andThen (endedP E ⟨9, m, 0, [], [e]⟩ (all.drop j) n) fun e r n => rd E 5 d e r n
theorem rd5_shift (d : Nat) (e : Ex) (j n : Nat) (h : isT wShift (all.drop j) = true) : rd E 5 d e (all.drop j) n = afterShift E d all e n (shiftX all E (j + 1)) := by
  rw [rd_5, if_pos h, shiftAt_drop, tail_drop]
  unfold shiftX
  split
  · rfl
  split
  · rfl
  · unfold afterShift
    rw [tail_drop]
theorem rd5_no (d : Nat) (e : Ex) (j n : Nat) (h : isT wShift (all.drop j) = false) : rd E 5 d e (all.drop j) n = .ok (e, all.drop j, n) := by
  rw [rd_5, if_neg (by simp [h])]
/-- An expression in a variable of the call's own, with its kids elsewhere. -/
structure VarE (w0 w : World) (b : Nat) (e : Ex) : Prop where
  ex : ∃ (p : Option Addr) (c d : Nat), w.heap[b]? = some (.cells #[.int .i64 e.kind, .int .i64 e.a, .int .i64 e.b, .string ⟨e.name.toArray⟩, .slice p e.kids.length c] 41 (0, 0)) ∧ KidsAt (fun k => w0.heap.size + 1 ≤ k ∧ k ≠ b) d w (.slice p e.kids.length c) e.kids
theorem VarE.kept {w0 w w' : World} {b : Nat} {e : Ex} (h : VarE w0 w b e) (hk : Kept g w w') (hb : b ≠ g) (hg : g < w0.heap.size) : VarE w0 w' b e := by
  obtain ⟨p, c, d, h1, h2⟩ := h.ex
  exact ⟨p, c, d, hk.at h1 hb, hk.kids (fun k hk => by omega) h2⟩

end Go.Proofs.Ytgjggpgkcbekoad
