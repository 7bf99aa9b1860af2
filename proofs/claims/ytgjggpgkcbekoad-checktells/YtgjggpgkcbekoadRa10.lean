/- What ended and pair come to. -/
import Derived.Test.YtgjggpgkcbekoadRa09
namespace Go.Proofs.Ytgjggpgkcbekoad
open Go.RowKit Lx
variable {all : List Tk} {E g : Nat} {v : Value} {w : World} {i n : Nat}

/-- The cells of an expression. -/
def exC (e : Ex) (sl : Value) : List Value := [.int .i64 e.kind, .int .i64 e.a, .int .i64 e.b, .string ⟨e.name.toArray⟩, sl]
theorem kids_one {B : Nat → Prop} {w : World} {b d : Nat} {k : Ex} {s : Value} (hB : B b) (hb : w.heap[b]? = some (.cells #[.int .i64 k.kind, .int .i64 k.a, .int .i64 k.b, .string ⟨k.name.toArray⟩, s] 41 (0, 0))) (hk : KidsAt B d w s k.kids) :
    KidsAt B (d + 1) w (.slice (some ⟨b, 0, none⟩) 1 1) [k] := by
  refine .inr ⟨b, 0, 1, ⟨hB, _, _, hb⟩, rfl, by simp, fun j k' hj => ?_⟩
  match j, hj with
  | 0, hj =>
    have e : k = k' := by simpa using hj
    subst e
    exact ⟨s, (cell_of_row _ _ _ _ _ _ hb).trans rfl, (cell_of_row _ _ _ _ _ _ hb).trans rfl, (cell_of_row _ _ _ _ _ _ hb).trans rfl, (cell_of_row _ _ _ _ _ _ hb).trans rfl, (cell_of_row _ _ _ _ _ _ hb).trans rfl, hk⟩
theorem kids_two {B : Nat → Prop} {w : World} {b d d' : Nat} {k k' : Ex} {s s' : Value} (hB : B b)
    (hb : w.heap[b]? = some (.cells #[.int .i64 k.kind, .int .i64 k.a, .int .i64 k.b, .string ⟨k.name.toArray⟩, s, .int .i64 k'.kind, .int .i64 k'.a, .int .i64 k'.b, .string ⟨k'.name.toArray⟩, s'] 41 (0, 0))) (hk : KidsAt B d w s k.kids) (hk' : KidsAt B d' w s' k'.kids) :
    KidsAt B (max d d' + 1) w (.slice (some ⟨b, 0, none⟩) 2 2) [k, k'] := by
  refine .inr ⟨b, 0, 2, ⟨hB, _, _, hb⟩, rfl, by simp, fun j q hj => ?_⟩
  match j, hj with
  | 0, hj =>
    have e : k = q := by simpa using hj
    subst e
    exact ⟨s, (cell_of_row _ _ _ _ _ _ hb).trans rfl, (cell_of_row _ _ _ _ _ _ hb).trans rfl, (cell_of_row _ _ _ _ _ _ hb).trans rfl, (cell_of_row _ _ _ _ _ _ hb).trans rfl, (cell_of_row _ _ _ _ _ _ hb).trans rfl, hk.le (by omega)⟩
  | 1, hj =>
    have e : k' = q := by simpa using hj
    subst e
    exact ⟨s', (cell_of_row _ _ _ _ _ _ hb).trans rfl, (cell_of_row _ _ _ _ _ _ hb).trans rfl, (cell_of_row _ _ _ _ _ _ hb).trans rfl, (cell_of_row _ _ _ _ _ _ hb).trans rfl, (cell_of_row _ _ _ _ _ _ hb).trans rfl, hk'.le (by omega)⟩

end Go.Proofs.Ytgjggpgkcbekoad
