/- More plain words for One: the runs of words, and signs. -/
import Derived.Test.YtkineofpclneaabDoorLOneP
import Derived.Lib.SlBytesConst
namespace Go.Proofs.YtkineofpclneaabDoor
open Go.RowKit Lx

theorem isL_isC {c : UInt8} (h : isL c = true) : isC c = true := by unfold isC; rw [h]; rfl
theorem wordLen_run : ∀ {l : List UInt8}, isL (l.getD 0 0) = true → wordLen l = runOf isC l
  | [], h => by simp [isL] at h
  | c :: l, h => by
    have hc : isL c = true := by simpa using h
    simp only [wordLen, runOf, hc, isL_isC hc, if_true]
theorem run_at (p : UInt8 → Bool) (l : List UInt8) (k e : Nat) (h1 : k ≤ e) (h2 : e ≤ l.length) (hall : ∀ i, k ≤ i → i < e → p (l.getD i 0) = true) (hend : e < l.length → p (l.getD e 0) = false) : runOf p (l.drop k) = e - k := by
  refine runOf_eq p _ _ (by simp; omega) (fun i hi => ?_) (fun h => ?_)
  · rw [getD_drop]; exact hall _ (by omega) (by omega)
  · rw [getD_drop, show k + (e - k) = e by omega]
    exact hend (by simp at h; omega)
theorem word_short {x : List UInt8} (h : 20 < x.length) : isWordL x = false := by
  cases e : isWordL x with
  | false => rfl
  | true =>
    unfold isWordL at e
    rw [List.any_eq_true] at e
    obtain ⟨y, hy, hx⟩ := e
    have hyx : y = x := by simpa using hx
    subst hyx
    exfalso
    simp only [wordsL, List.mem_cons, List.not_mem_nil, or_false] at hy
    rcases hy with h' | h' | h' | h' | h' | h' | h' | h' | h' | h' | h' | h' | h' <;> subst h' <;> simp at h
theorem dots_bools (l : List UInt8) (k : Nat) : Lib.hasPrefix (l.drop k) [46, 46] = (atB l k 46 && atB l (k + 1) 46) := by
  have h1 : atB l k 46 = atB (l.drop k) 0 46 := by
    unfold atB
    rw [getD_drop, List.length_drop]
    congr 1
    simp only [decide_eq_decide]; omega
  have h2 : atB l (k + 1) 46 = atB (l.drop k) 1 46 := by
    unfold atB
    rw [getD_drop, List.length_drop]
    congr 1
    simp only [decide_eq_decide]; omega
  rw [h1, h2]
  generalize l.drop k = m
  have e46 : ∀ c : UInt8, (46 == c) = decide (c.toNat = 46) := fun c => by
    rw [Bool.eq_iff_iff]
    simp only [beq_iff_eq, decide_eq_true_eq]
    constructor
    · intro h; rw [← h]; rfl
    · intro h; apply UInt8.toNat_inj.1; rw [h]; rfl
  match m with
  | [] => simp [Lib.hasPrefix, List.isPrefixOf, atB]
  | [c] => simp [Lib.hasPrefix, List.isPrefixOf, atB]
  | c :: d :: r => simp [Lib.hasPrefix, List.isPrefixOf, atB, e46]
theorem sign_yes {c : UInt8} (j : Nat) (hj : j < 9) (h : signsL.getD j 0 = c) : ¬ Lib.indexByte signsL c < 0 := by
  subst h
  match j, hj with
  | 0, _ => decide
  | 1, _ => decide
  | 2, _ => decide
  | 3, _ => decide
  | 4, _ => decide
  | 5, _ => decide
  | 6, _ => decide
  | 7, _ => decide
  | 8, _ => decide
theorem sign_no {c : UInt8} (h : ∀ j, j < 9 → signsL.getD j 0 ≠ c) : Lib.indexByte signsL c < 0 := by
  by_cases g : Lib.indexByte signsL c < 0
  · exact g
  · exfalso
    have lt := index_lt signsL c
    obtain ⟨j, hj⟩ : ∃ j : Nat, Lib.indexByte signsL c = j := ⟨(Lib.indexByte signsL c).toNat, by omega⟩
    have hl : signsL.length = 9 := rfl
    exact h j (by omega) (index_at signsL c j hj)
def signCells : Array Value := #[.int .u8 61, .int .u8 59, .int .u8 58, .int .u8 43, .int .u8 45, .int .u8 38, .int .u8 40, .int .u8 41, .int .u8 44]
theorem signCell (j : Nat) (hj : j < 9) : signCells[j]? = some (.int .u8 ((signsL.getD j 0).toNat : Int)) := by
  match j, hj with
  | 0, _ => rfl
  | 1, _ => rfl
  | 2, _ => rfl
  | 3, _ => rfl
  | 4, _ => rfl
  | 5, _ => rfl
  | 6, _ => rfl
  | 7, _ => rfl
  | 8, _ => rfl
theorem take_one {l : List UInt8} {k : Nat} (h : k < l.length) : (l.drop k).take 1 = [l.getD k 0] := by
  have e : l.drop k = l[k] :: l.drop (k + 1) := List.drop_eq_getElem_cons h
  rw [e, List.take_succ_cons, List.take_zero]
  simp [List.getD, h]
end Go.Proofs.YtkineofpclneaabDoor
