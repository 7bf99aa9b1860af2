/- What skip, must, see, take, takeFrom, ended and pair come to. -/
import Derived.Test.YtpmobjgnmidolaaDoorCu15
namespace Go.Proofs.YtpmobjgnmidolaaDoor
open Go.RowKit Lx
variable {all : List Tk} {E g : Nat} {v : Value} {w : World} {i n : Nat}

end Go.Proofs.YtpmobjgnmidolaaDoor

/- What take, takeFrom and ended come to. -/
namespace Go.Proofs.YtpmobjgnmidolaaDoor
open Go.RowKit Lx
variable {all : List Tk} {E g : Nat} {v : Value} {w : World} {i n : Nat}

theorem Kept.setRow {w' : World} {k : Nat} (h : Kept g w w') (hk : w.heap.size ≤ k) (cs : Array Value) : Kept g w (w'.setRow k cs) :=
  ⟨h.os, h.tape, h.output, by simpa [World.setRow] using h.size, fun j hj hne => (setRow_other w' k j cs (by omega)).trans (h.block j hj hne)⟩
theorem Kept.alloc {w' : World} (h : Kept g w w') (o : Obj) : Kept g w (w'.alloc o) := h.trans (Kept.of_below ((Below.refl _ _).alloc (Nat.le_refl _) o))
theorem kind_len {all : List Tk} {i : Nat} (h : kindP (all.drop i) ≠ 0) : i + 1 ≤ all.length := by
  have := kindP_cons h
  simp at this; omega

end Go.Proofs.YtpmobjgnmidolaaDoor

/- What ended and pair come to. -/
namespace Go.Proofs.YtpmobjgnmidolaaDoor
open Go.RowKit Lx
variable {all : List Tk} {E g : Nat} {v : Value} {w : World} {i n : Nat}

/-- The cells of an expression. -/
def exC (e : Ex) (sl : Value) : List Value := [.int .i64 e.kind, .int .i64 e.a, .int .i64 e.b, .string ⟨e.name.toArray⟩, sl]
theorem kids_one {B : Nat → Prop} {w : World} {b d : Nat} {k : Ex} {s : Value} (hB : B b) (hb : w.heap[b]? = some (.cells #[.int .i64 k.kind, .int .i64 k.a, .int .i64 k.b, .string ⟨k.name.toArray⟩, s] 50 (0, 0))) (hk : KidsAt B d w s k.kids) :
    KidsAt B (d + 1) w (.slice (some ⟨b, 0, none⟩) 1 1) [k] := by
  refine .inr ⟨b, 0, 1, ⟨hB, _, _, hb⟩, rfl, by simp, fun j k' hj => ?_⟩
  match j, hj with
  | 0, hj =>
    have e : k = k' := by simpa using hj
    subst e
    exact ⟨s, (cell_of_row _ _ _ _ _ _ hb).trans rfl, (cell_of_row _ _ _ _ _ _ hb).trans rfl, (cell_of_row _ _ _ _ _ _ hb).trans rfl, (cell_of_row _ _ _ _ _ _ hb).trans rfl, (cell_of_row _ _ _ _ _ _ hb).trans rfl, hk⟩
theorem kids_two {B : Nat → Prop} {w : World} {b d d' : Nat} {k k' : Ex} {s s' : Value} (hB : B b)
    (hb : w.heap[b]? = some (.cells #[.int .i64 k.kind, .int .i64 k.a, .int .i64 k.b, .string ⟨k.name.toArray⟩, s, .int .i64 k'.kind, .int .i64 k'.a, .int .i64 k'.b, .string ⟨k'.name.toArray⟩, s'] 50 (0, 0))) (hk : KidsAt B d w s k.kids) (hk' : KidsAt B d' w s' k'.kids) :
    KidsAt B (max d d' + 1) w (.slice (some ⟨b, 0, none⟩) 2 2) [k, k'] := by
  refine .inr ⟨b, 0, 2, ⟨hB, _, _, hb⟩, rfl, by simp, fun j q hj => ?_⟩
  match j, hj with
  | 0, hj =>
    have e : k = q := by simpa using hj
    subst e
    exact ⟨s, (cell_of_row _ _ _ _ _ _ hb).trans rfl, (cell_of_row _ _ _ _ _ _ hb).trans rfl, (cell_of_row _ _ _ _ _ _ hb).trans rfl, (cell_of_row _ _ _ _ _ _ hb).trans rfl, (cell_of_row _ _ _ _ _ _ hb).trans rfl, hk.le (by omega)⟩
  | 1, hj =>
    have e : k' = q := by simpa using hj
    subst e
    exact ⟨s', (cell_of_row _ _ _ _ _ _ hb).trans rfl, (cell_of_row _ _ _ _ _ _ hb).trans rfl, (cell_of_row _ _ _ _ _ _ hb).trans rfl, (cell_of_row _ _ _ _ _ _ hb).trans rfl, (cell_of_row _ _ _ _ _ _ hb).trans rfl, hk'.le (by omega)⟩

end Go.Proofs.YtpmobjgnmidolaaDoor

/- What shift and day come to. -/
namespace Go.Proofs.YtpmobjgnmidolaaDoor
open Go.RowKit Lx
variable {all : List Tk} {E g : Nat} {v : Value} {w : World} {i n : Nat}

/-- Where the number of a shift is, behind its word. -/
def shAt (all : List Tk) (i : Nat) : Nat := if isT wMinus (all.drop i) then i + 1 else i
def shiftX (all : List Tk) (E i : Nat) : Except (Int × Nat) (Int × Nat) :=
  if kindP (all.drop (shAt all i)) ≠ 6 then .error (2, atP E (all.drop (shAt all i)))
  else if 1440 ≤ numP (all.drop (shAt all i)) ∨ numP (all.drop (shAt all i)) < 1 then .error (3, atP E (all.drop (shAt all i)))
  else .ok (if isT wMinus (all.drop i) then - numP (all.drop (shAt all i)) else numP (all.drop (shAt all i)), shAt all i + 1)
/-- The day that a text is, the first one from the left. -/
theorem day_at (x : List UInt8) (j : Nat) (hj : j < 7) (h : x = wDays.getD j []) : dayBit x = 2 ^ j := by
  subst h
  match j, hj with
  | 0, _ => rfl
  | 1, _ => rfl
  | 2, _ => rfl
  | 3, _ => rfl
  | 4, _ => rfl
  | 5, _ => rfl
  | 6, _ => rfl
theorem day_none (x : List UInt8) (h : ∀ j, j < 7 → x ≠ wDays.getD j []) : dayBit x = 0 := by
  unfold dayBit
  rw [if_neg (h 0 (by omega)), if_neg (h 1 (by omega)), if_neg (h 2 (by omega)), if_neg (h 3 (by omega)), if_neg (h 4 (by omega)), if_neg (h 5 (by omega)), if_neg (h 6 (by omega))]
def dayX (all : List Tk) (E i : Nat) : Except (Int × Nat) (Int × Nat) := if dayBit (textP (all.drop i)) = 0 then .error (2, atP E (all.drop i)) else .ok ((dayBit (textP (all.drop i)) : Int), i + 1)
end Go.Proofs.YtpmobjgnmidolaaDoor
