/- Plain facts about two texts on two lines. -/
import Derived.Test.YtkineofpclneaabDoorLexR
namespace Go.Proofs.YtkineofpclneaabDoor
open Go.RowKit Lx

theorem run_line (p : UInt8 → Bool) (hp : p 10 = false) (y : List UInt8) : ∀ x : List UInt8, runOf p (x ++ 10 :: y) = runOf p x
  | [] => by simp [runOf, hp]
  | c :: x => by simp only [List.cons_append, runOf, run_line p hp y x]
theorem word_line (y : List UInt8) : ∀ x : List UInt8, wordLen (x ++ 10 :: y) = wordLen x
  | [] => by simp [wordLen, show isL 10 = false from by decide]
  | c :: x => by simp only [List.cons_append, wordLen, run_line isC (by decide) y x]
theorem getD_line (x y : List UInt8) (i : Nat) (hi : i < x.length) : (x ++ 10 :: y).getD i 0 = x.getD i 0 := by
  rw [List.getD_eq_getElem?_getD, List.getD_eq_getElem?_getD, List.getElem?_append_left hi]
theorem getD_lf (x y : List UInt8) : (x ++ 10 :: y).getD x.length 0 = 10 := by
  rw [List.getD_eq_getElem?_getD, List.getElem?_append_right (Nat.le_refl _)]; simp
/-- A form that asks for no line feed fits where it does on the first line. -/
theorem fits_line (x y m : List UInt8) (hm : ∀ i, i < m.length → okB (m.getD i 0) 10 = false) : fitsL (x ++ 10 :: y) m = fitsL x m := by
  by_cases hle : m.length ≤ x.length
  · cases h : fitsL x m with
    | true =>
      obtain ⟨_, h2⟩ := fitsL_at h
      exact fitsL_yes (by simp; omega) fun i hi => by rw [getD_line x y i (by omega)]; exact h2 i hi
    | false =>
      cases h' : fitsL (x ++ 10 :: y) m with
      | false => rfl
      | true =>
        obtain ⟨_, h2⟩ := fitsL_at h'
        have : fitsL x m = true := fitsL_yes hle fun i hi => by
          have := h2 i hi
          rw [getD_line x y i (by omega)] at this
          exact this
        rw [h] at this; cases this
  · rw [fitsL_short hle]
    exact fitsL_no x.length (by omega) (by rw [getD_lf]; exact hm _ (by omega))
theorem take_line (x y : List UInt8) (a n : Nat) (h : a + n ≤ x.length) : ((x ++ 10 :: y).drop a).take n = (x.drop a).take n := by
  rw [List.drop_append_of_le_length (by omega), List.take_append_of_le_length (by simp; omega)]
/-- The first token of a line that has bytes does not see the next line. -/
theorem first_line (x y : List UInt8) (h0 : 0 < x.length) : firstT (x ++ 10 :: y) = firstT x := by
  have hg : (x ++ 10 :: y).getD 0 0 = x.getD 0 0 := getD_line x y 0 h0
  unfold firstT
  rw [fits_line x y dateF (by decide), fits_line x y timeF (by decide), hg]
  split
  · rename_i h
    have hl : 10 ≤ x.length := (fitsL_at h).1
    unfold dateT
    rw [take_line x y 0 4 (by omega), take_line x y 5 2 (by omega), take_line x y 8 2 (by omega)]
  · split
    · rename_i h
      have hl : 5 ≤ x.length := (fitsL_at h).1
      unfold timeT
      rw [take_line x y 0 2 (by omega), take_line x y 3 2 (by omega)]
    · split
      · unfold numT
        have hr := runOf_le isD x
        rw [run_line isD (by decide) y x]
        rw [List.take_append_of_le_length hr]
      · split
        · unfold wordT
          have hr := wordLen_le x
          rw [word_line y x, List.take_append_of_le_length hr]
        · unfold signT
          rw [hg]
          have hp : Lib.hasPrefix (x ++ 10 :: y) [46, 46] = Lib.hasPrefix x [46, 46] := by
            match x, h0 with
            | [c], _ => simp [Lib.hasPrefix, List.isPrefixOf]
            | c :: d :: r, _ => simp [Lib.hasPrefix, List.isPrefixOf]
          rw [hp]
/-- What is skipped on the first line, and then. -/
theorem skip_line (y : List UInt8) : ∀ (b : Bool) (x : List UInt8), skipS b (x ++ 10 :: y) = if skipS b x = x.length then x.length + 1 + skipS false y else skipS b x
  | true, [] => by simp [skipS]; omega
  | false, [] => by simp [skipS]; omega
  | true, c :: x => by
    have h1 := skip_line y true x
    have h2 := skip_line y false x
    simp only [List.cons_append, skipS, List.length_cons]
    split
    · rw [h2]; split <;> split <;> omega
    · rw [h1]; split <;> split <;> omega
  | false, c :: x => by
    have h1 := skip_line y true x
    have h2 := skip_line y false x
    simp only [List.cons_append, skipS, List.length_cons]
    split
    · rw [h2]; split <;> split <;> omega
    · split
      · rw [h1]; split <;> split <;> omega
      · split
        · omega
        · rfl
end Go.Proofs.YtkineofpclneaabDoor
