/- Rows of tokens that are written, and texts put together: what LexJoined needs of memory. -/
import Derived.Test.YtkineofpclneaabDoorLexX
import Derived.Test.YtkineofpclneaabDoorLexY
namespace Go.Proofs.YtkineofpclneaabDoor
open Go.RowKit Lx

theorem cat_data (s t : ByteArray) : (s ++ ⟨#[10]⟩ ++ t).data.toList = s.data.toList ++ 10 :: t.data.toList := by
  simp [ByteArray.data_append]
theorem own_set {w : World} {base : Nat} {e : TypeId} {size g n cap : Nat} {xs : List Value} (h : w.ownsRow base e size (.slice (some ⟨g, 0, none⟩) n cap) n xs) (i : Nat) (u : Value) :
    (w.setCell ⟨g, i, none⟩ u).ownsRow base e size (.slice (some ⟨g, 0, none⟩) n cap) n (xs.set i u) := by
  obtain ⟨h1, h2⟩ := h
  rcases h2 with ⟨h2, _⟩ | ⟨g', cap', cur, hv, hb, hh, h4, h5, h6, h7⟩
  · cases h2
  · have eg : g' = g ∧ cap' = cap := by
      injection hv with a1 a2 a3
      injection a1 with a1
      injection a1 with a1
      exact ⟨a1.symm, a3.symm⟩
    obtain ⟨rfl, rfl⟩ := eg
    refine ⟨by simpa using h1, .inr ⟨g', cap', _, rfl, hb, heap_setCell_same _ _ _ _ _ _ hh, h4, h5, by simpa using h6, ?_⟩⟩
    rw [Array.toList_setIfInBounds, List.take_set, h7]
/-- Tokens of which the first ones are so many bytes on. -/
def part (n : Nat) (us : List (T1 × Nat)) (j : Nat) : List (T1 × Nat) := onBy n (us.take j) ++ us.drop j
theorem part_zero (n : Nat) (us : List (T1 × Nat)) : part n us 0 = us := by simp [part, onBy]
theorem part_all (n : Nat) (us : List (T1 × Nat)) : part n us us.length = onBy n us := by simp [part]
theorem part_len (n : Nat) (us : List (T1 × Nat)) (j : Nat) : (part n us j).length = us.length := by
  simp [part, onBy]; omega
theorem flatT_append : ∀ a b : List (T1 × Nat), flatT (a ++ b) = flatT a ++ flatT b
  | [], b => rfl
  | p :: a, b => by simp [flatT, flatT_append a b]
theorem flatT_len : ∀ ts : List (T1 × Nat), (flatT ts).length = ts.length * 4
  | [] => rfl
  | p :: ts => by simp [flatT, flatT_len ts]; omega
theorem part_set (n : Nat) (us : List (T1 × Nat)) (j : Nat) (t : T1) (k : Nat) (h : us[j]? = some (t, k)) :
    (flatT (part n us j)).set (j * 4 + 2) (.int .i64 ((n + k : Nat) : Int)) = flatT (part n us (j + 1)) := by
  obtain ⟨hj, hjk⟩ := List.getElem?_eq_some_iff.1 h
  have e1 : us.drop j = (t, k) :: us.drop (j + 1) := by rw [List.drop_eq_getElem_cons hj, hjk]
  have e2 : us.take (j + 1) = us.take j ++ [(t, k)] := by rw [List.take_succ_eq_append_getElem hj, hjk]
  have hl : (flatT (onBy n (us.take j))).length = j * 4 := by rw [flatT_len]; simp [onBy]; omega
  unfold part
  rw [e1, e2, flatT_append, List.set_append_right _ _ (by omega), hl, show j * 4 + 2 - j * 4 = 2 by omega]
  have e3 : onBy n (us.take j ++ [(t, k)]) = onBy n (us.take j) ++ [(t, n + k)] := by simp [onBy]
  rw [e3, List.append_assoc, flatT_append]
  simp [flatT]
theorem part_at (n : Nat) (us : List (T1 × Nat)) (j : Nat) (t : T1) (k : Nat) (h : us[j]? = some (t, k)) : (part n us j)[j]? = some (t, k) := by
  obtain ⟨hj, _⟩ := List.getElem?_eq_some_iff.1 h
  have hl : (onBy n (us.take j)).length = j := by simp [onBy]; omega
  unfold part
  rw [List.getElem?_append_right (by omega), hl, Nat.sub_self, List.getElem?_drop]
  simpa using h
theorem flatT_at : ∀ (ts : List (T1 × Nat)) (j : Nat) (t : T1) (k : Nat), ts[j]? = some (t, k) → (flatT ts)[j * 4]? = some (.int .i64 t.kind) ∧ (flatT ts)[j * 4 + 1]? = some (.int .i64 t.n) ∧ (flatT ts)[j * 4 + 2]? = some (.int .i64 (k : Int)) ∧ (flatT ts)[j * 4 + 3]? = some (.string ⟨t.text.toArray⟩)
  | [], j, t, k, h => by simp at h
  | p :: ts, 0, t, k, h => by
    have : p = (t, k) := by simpa using h
    subst this
    simp [flatT]
  | p :: ts, j + 1, t, k, h => by
    have := flatT_at ts j t k (by simpa using h)
    have e : (j + 1) * 4 = j * 4 + 1 + 1 + 1 + 1 := by omega
    rw [e]
    simpa [flatT] using this
theorem trow_of_owns {w : World} {base : Nat} {v : Value} {ts : List (T1 × Nat)} (h : w.ownsRow base 54 4 v ts.length (flatT ts)) (hl : ts.length < 9223372036854775808) : TRow w v ts := by
  by_cases h0 : ts.length = 0
  · obtain ⟨_, h2⟩ := h
    rcases h2 with ⟨h2, h3⟩ | ⟨g, cap, cur, hv, _⟩
    · exact .inl ⟨0, h2, List.length_eq_zero_iff.1 h3⟩
    · refine .inr ⟨g, 0, cap, hv, hl, fun j t k hj => ?_⟩
      have : ts = [] := List.length_eq_zero_iff.1 h0
      rw [this] at hj; simp at hj
  · obtain ⟨g, cap, hv, hc⟩ := own_slice h (by omega)
    refine .inr ⟨g, 0, cap, hv, hl, fun j t k hj => ?_⟩
    obtain ⟨f0, f1, f2, f3⟩ := flatT_at ts j t k hj
    rw [Nat.zero_add]
    exact ⟨hc _ _ f0, hc _ _ f1, hc _ _ f2, hc _ _ f3⟩
end Go.Proofs.YtkineofpclneaabDoor
