/- What lex.Words and lex.isWord come to. -/
import Derived.Test.YtkineofpclneaabDoorLexC
import Derived.Test.YtkineofpclneaabDoorLexQ
namespace Go.Proofs.YtkineofpclneaabDoor
open Go.RowKit Lx

/-- The words of the language, as they lie in memory. -/
def wordCells : Array Value := (wordsL.map fun l => Value.string ⟨l.toArray⟩).toArray
theorem wordCell (j : Nat) (hj : j < 13) : wordCells[j]? = some (.string ⟨(wordsL.getD j []).toArray⟩) := by
  have h : j < wordsL.length := hj
  unfold wordCells
  simp only [List.getElem?_toArray, List.getElem?_map, List.getD_eq_getElem?_getD, List.getElem?_eq_getElem h]
  rfl
set_option maxRecDepth 10000 in
set_option maxHeartbeats 400000 in
theorem words_any (w : World) : Calls Tryd.prog 26 #[] w fun e w' => e = .returned (.slice (some ⟨w.heap.size, 0, none⟩) 13 13) ∧ w' = w.alloc (.cells wordCells 9) := by
  go_enter Tryd.func26, Tryd.ntmps26
  go_wp2
  go_ret
  exact ⟨rfl, rfl⟩

theorem isWord_no {x : List UInt8} (h : ∀ j, j < 13 → wordsL.getD j [] ≠ x) : isWordL x = false := by
  cases e : isWordL x with
  | false => rfl
  | true =>
    unfold isWordL at e
    rw [List.any_eq_true] at e
    obtain ⟨y, hy, hx⟩ := e
    obtain ⟨j, hj, rfl⟩ := List.getElem_of_mem hy
    have hj' : j < 13 := hj
    exact absurd (by simpa [List.getD, hj] using hx) (h j hj')
theorem isWord_yes {x : List UInt8} (j : Nat) (hj : j < 13) (h : wordsL.getD j [] = x) : isWordL x = true := by
  unfold isWordL
  rw [List.any_eq_true]
  have hj' : j < wordsL.length := hj
  exact ⟨wordsL.getD j [], by simp [List.getD, hj'], by rw [h]; exact beq_self_eq_true x⟩

set_option maxRecDepth 10000 in
set_option maxHeartbeats 400000 in
theorem find_any (x : ByteArray) (l : List UInt8) (hx : x.data.toList = l) (g : Nat) (w : World) (hg : w.heap[g]? = some (.cells wordCells 9 (0, 0))) :
    Calls Tryd.prog 72 #[.slice (some ⟨g, 0, none⟩) 13 13, .string x] w fun e w' => (∃ i : Int, e = .returned (.int .i64 i) ∧ decide (0 ≤ i) = isWordL l) ∧ w' = w := by
  have hcell : ∀ j, j < 13 → w.cell? ⟨g, j, none⟩ = some (.string ⟨(wordsL.getD j []).toArray⟩) := fun j hj => by rw [cell_of_row _ _ _ _ _ _ hg, wordCell j hj]
  have HC : Hid (∀ j, j < 13 → w.cell? ⟨g, j, none⟩ = some (.string ⟨(wordsL.getD j []).toArray⟩)) := hcell
  clear hcell hg
  go_enter Tryd.func72, Tryd.ntmps72
  go_wp2
  go_loop [8] (fun i => ∃ k : Nat, k ≤ 13 ∧ i = .int .i64 k ∧ ∀ j, j < k → wordsL.getD j [] ≠ l) (fun i => 13 - (intOf i).toNat)
  case atStart => exact ⟨0, by omega, rfl, fun i h => by omega⟩
  case round =>
    obtain ⟨k, hk, rfl, hall⟩ := hrel
    have HA : Hid (∀ j, j < k → wordsL.getD j [] ≠ l) := hall
    clear hall
    by_cases hlt : k < 13
    · have hlt' : (k : Int) < 13 := by omega
      have hk0 : (0 : Int) ≤ (k : Int) := by omega
      have ck := HC.out k hlt
      generalize hy : (⟨(wordsL.getD k []).toArray⟩ : ByteArray) = y at ck
      have hyl : y.data.toList = wordsL.getD k [] := by rw [← hy]
      by_cases he : wordsL.getD k [] = l
      · have hq : (x.toList == y.toList) = true := by rw [Lib.toList_data, Lib.toList_data, hyl, hx, he]; simp
        have hW : Hid (isWordL l = true) := isWord_yes k hlt he
        clear he hyl hy
        go_wp2
        go_ret
        exact ⟨⟨_, rfl, by rw [hW.out]; simp⟩, rfl⟩
      · have hq : (x.toList == y.toList) = false := by
          rw [Lib.toList_data, Lib.toList_data, hyl, hx]
          rw [beq_eq_false_iff_ne]
          exact fun e => he e.symm
        have HE : Hid (wordsL.getD k [] ≠ l) := he
        clear he hyl hy
        go_wp2
        go_round
        case rel =>
          refine ⟨k + 1, by omega, by go_num, fun j hj => ?_⟩
          by_cases e : j = k
          · subst e; exact HE.out
          · exact HA.out j (by omega)
        case measure => simp [intOf]; omega
    · have hkl : k = 13 := by omega
      subst hkl
      have hW : Hid (isWordL l = false) := isWord_no HA.out
      go_wp2
      go_ret
      exact ⟨⟨_, rfl, by rw [hW.out]; simp⟩, rfl⟩

set_option maxRecDepth 10000 in
set_option maxHeartbeats 400000 in
theorem isWord_any (x : ByteArray) (l : List UInt8) (hx : x.data.toList = l) (w : World) :
    Calls Tryd.prog 45 #[.string x] w fun e w' => e = .returned (.bool (isWordL l)) ∧ Below w.heap.size w w' := by
  have hg : (w.alloc (.cells wordCells 9)).heap[w.heap.size]? = some (.cells wordCells 9 (0, 0)) := heap_alloc_new w _
  have hb : Below w.heap.size w (w.alloc (.cells wordCells 9)) := (Below.refl _ _).alloc (Nat.le_refl _) _
  have cf := find_any x l hx _ _ hg
  have cw := words_any w
  generalize w.alloc (.cells wordCells 9) = w1 at *
  go_enter Tryd.func45, Tryd.ntmps45
  go_wp2_with (first
    | (go_at_call 26; refine cw.mono ?_; rintro e w' ⟨rfl, rfl⟩)
    | (go_at_call 63; go_in)
    | (go_at_call 72; refine cf.mono ?_; rintro e w' ⟨⟨i, rfl, hi⟩, rfl⟩))
  go_ret
  exact ⟨by rw [← hi]; rfl, hb⟩
end Go.Proofs.YtkineofpclneaabDoor
