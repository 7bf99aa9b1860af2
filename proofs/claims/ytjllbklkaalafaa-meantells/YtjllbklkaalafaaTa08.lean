/- What shift and day come to. -/
import Derived.Test.YtjllbklkaalafaaTa07
import Derived.Test.YtjllbklkaalafaaTa06
import Derived.Deep.QuietTactic
import Derived.BigQuiet
namespace Go.Proofs.Ytjllbklkaalafaa
open Go.RowKit Lx
variable {all : List Tk} {E g : Nat} {v : Value} {w : World} {i n : Nat}

/-- Where the number of a shift is, behind its word. -/
def shAt (all : List Tk) (i : Nat) : Nat := if isT wMinus (all.drop i) then i + 1 else i
def shiftX (all : List Tk) (E i : Nat) : Except (Int × Nat) (Int × Nat) :=
  if kindP (all.drop (shAt all i)) ≠ 6 then .error (2, atP E (all.drop (shAt all i)))
  else if 1440 ≤ numP (all.drop (shAt all i)) ∨ numP (all.drop (shAt all i)) < 1 then .error (3, atP E (all.drop (shAt all i)))
  else .ok (if isT wMinus (all.drop i) then - numP (all.drop (shAt all i)) else numP (all.drop (shAt all i)), shAt all i + 1)
/-- The day that a text is, the first one from the left. -/
theorem day_at (x : List UInt8) (j : Nat) (hj : j < 7) (h : x = wDays.getD j []) : dayBit x = 2 ^ j := by
  subst h
  match j, hj with
  | 0, _ => rfl
  | 1, _ => rfl
  | 2, _ => rfl
  | 3, _ => rfl
  | 4, _ => rfl
  | 5, _ => rfl
  | 6, _ => rfl
theorem day_none (x : List UInt8) (h : ∀ j, j < 7 → x ≠ wDays.getD j []) : dayBit x = 0 := by
  unfold dayBit
  rw [if_neg (h 0 (by omega)), if_neg (h 1 (by omega)), if_neg (h 2 (by omega)), if_neg (h 3 (by omega)), if_neg (h 4 (by omega)), if_neg (h 5 (by omega)), if_neg (h 6 (by omega))]
def dayX (all : List Tk) (E i : Nat) : Except (Int × Nat) (Int × Nat) := if dayBit (textP (all.drop i)) = 0 then .error (2, atP E (all.drop i)) else .ok ((dayBit (textP (all.drop i)) : Int), i + 1)
end Go.Proofs.Ytjllbklkaalafaa

/- What span, behindColon and dates come to. -/
namespace Go.Proofs.Ytjllbklkaalafaa
open Go.RowKit Lx
variable {all : List Tk} {E g : Nat} {v : Value} {w : World} {i n : Nat}

/-- The cells of an empty expression. -/
def ex0C : Array Value := #[.int .i64 0, .int .i64 0, .int .i64 0, .string ⟨#[]⟩, .slice none 0 0]
theorem Kept.at {w' : World} {k : Nat} {o : Obj} (h : Kept g w w') (hk : w.heap[k]? = some o) (hne : k ≠ g) : w'.heap[k]? = some o := (h.block k (lt_of_block hk) (fun e => hne (Option.some.inj e))).trans hk
theorem tail_drop (i : Nat) : (all.drop i).tail = all.drop (i + 1) := by rw [List.tail_drop]
/-- What stands behind 'ex0C'. -/
theorem zero_new (w : World) : (w.alloc (.cells #[.int .i64 0, .int .i64 0, .int .i64 0, .string ⟨#[]⟩, .slice none 0 0] 41)).heap[w.heap.size]? = some (.cells ex0C 41 (0, 0)) := heap_alloc_new w _

/-- A span of times. -/
def spanR (E : Nat) (r : List Tk) (n : Nat) : Res :=
  if kindP r ≠ 4 then failP E 2 r
  else if isT wMinus r.tail then
    if kindP r.tail.tail ≠ 4 then failP E 2 r.tail.tail
    else if numP r.tail.tail < numP r + 1 then failP E 3 r.tail.tail
    else endedP E ⟨3, numP r, numP r.tail.tail, [], []⟩ r.tail.tail.tail n
  else failP E 2 r.tail

def colonR (E d : Nat) (r : List Tk) (n : Nat) : Res := if isT wColon r then rd E 4 (d + 1) ex0 r.tail n else failP E 2 r
/-- What behindColon's callers do with it. -/
theorem rd8_colon (E d : Nat) (e : Ex) (r : List Tk) (n : Nat) : rd E 8 d e r n = andThen (colonR E d r n) fun k r n => endedP E ⟨e.kind, e.a, e.b, [], [k]⟩ r n := by
  rw [rd_8]
  unfold colonR
  split
  · rfl
  · rfl
end Go.Proofs.Ytjllbklkaalafaa

/- What kidsOf, inRange and wrongAlone come to. -/
namespace Go.Proofs.Ytjllbklkaalafaa
open Go.RowKit Lx

theorem kidsOf_any (k : Int) (w : World) : Calls Try.prog 77 #[.int .i64 k] w fun e w' => e = .returned (.int .i64 (kidsP k : Int)) ∧ w' = w := by
  have walk : ∀ (b4 b5 b9 b6 b7 b8 : Bool), (k == 4) = b4 → (k == 5) = b5 → (k == 9) = b9 → (k == 6) = b6 → (k == 7) = b7 → (k == 8) = b8 →
      Calls Try.prog 77 #[.int .i64 k] w fun e w' => e = .returned (.int .i64 (if b4 || (b5 || b9) then 1 else if b6 || (b7 || b8) then 2 else 0)) ∧ w' = w := by
    intro b4 b5 b9 b6 b7 b8 h4 h5 h9 h6 h7 h8
    cases b4 <;> cases b5 <;> cases b9 <;> cases b6 <;> cases b7 <;> cases b8 <;> (go_enter Try.func77, Try.ntmps77; go_wp2; go_ret; exact ⟨rfl, rfl⟩)
  refine (walk _ _ _ _ _ _ rfl rfl rfl rfl rfl rfl).mono ?_
  rintro e w' ⟨rfl, rfl⟩
  refine ⟨?_, rfl⟩
  unfold kidsP
  simp only [Bool.or_eq_true, beq_iff_eq]
  by_cases c1 : k = 4 ∨ k = 5 ∨ k = 9
  · rw [if_pos c1, if_pos c1]; rfl
  · rw [if_neg c1, if_neg c1]
    by_cases c2 : k = 6 ∨ k = 7 ∨ k = 8
    · rw [if_pos c2, if_pos c2]; rfl
    · rw [if_neg c2, if_neg c2]; rfl
end Go.Proofs.Ytjllbklkaalafaa
