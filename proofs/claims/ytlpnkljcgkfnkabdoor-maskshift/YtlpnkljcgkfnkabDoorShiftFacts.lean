/- Plain facts about masks that are moved: what the law MaskShift says, minute by minute. -/
import Derived.Test.YtlpnkljcgkfnkabDoorShiftC
import Derived.Test.YtlpnkljcgkfnkabDoorEqs
import Derived.Test.YtlpnkljcgkfnkabDoorOfA
namespace Go.Proofs.YtlpnkljcgkfnkabDoor
open Go.RowKit Msk

theorem shf_if (f : Nat → Bool) (x : Int) (t : Nat) : shf f x t = if t < 1440 ∧ x ≤ (t : Int) ∧ (t : Int) - x < 1440 then f ((t : Int) - x).toNat else false := by
  unfold shf
  split
  · rename_i h
    simp [h.1, h.2.1, h.2.2]
  · rename_i h
    by_cases h1 : t < 1440
    · by_cases h2 : x ≤ (t : Int)
      · have : ¬ (t : Int) - x < 1440 := fun h3 => h ⟨h1, h2, h3⟩
        simp [this]
      · simp [h2]
    · simp [h1]
theorem e_both (f : Nat → Bool) (a b : Nat) : eqm (shf (shf f (a : Int)) (b : Int)) (shf f ((a : Int) + (b : Int))) = true := eqm_true fun t _ => by
  rw [shf_if, shf_if f, shf_if]
  split
  · split
    · rw [if_pos (by omega)]; congr 1; omega
    · rw [if_neg (by omega)]
  · rw [if_neg (by omega)]
theorem e_back (f : Nat → Bool) (a b : Nat) : eqm (shf (shf f (-(a : Int))) (-(b : Int))) (shf f (-(a : Int) - (b : Int))) = true := eqm_true fun t _ => by
  rw [shf_if, shf_if f, shf_if]
  split
  · split
    · rw [if_pos (by omega)]; congr 1; omega
    · rw [if_neg (by omega)]
  · rw [if_neg (by omega)]
theorem e_there (f : Nat → Bool) (a : Nat) (ha : a ≤ 1440) : eqm (shf (shf f (a : Int)) (-(a : Int))) (fun i => (f i && inl [((0 : Int), 1440 - (a : Int))] i) && decide (i < 1440)) = true := eqm_true fun t _ => by
  rw [shf_if, shf_if]
  have hi : inl [((0 : Int), 1440 - (a : Int))] t = decide (t + a < 1440) := by
    simp only [inl, List.any_cons, List.any_nil, Bool.or_false]
    rw [Bool.eq_iff_iff]
    simp only [Bool.and_eq_true, decide_eq_true_eq]
    omega
  rw [hi]
  by_cases h : t + a < 1440
  · have e : (((((t : Int) - -(a : Int)).toNat : Nat) : Int) - (a : Int)).toNat = t := by omega
    rw [if_pos (by omega), if_pos (by omega), e]
    have : t < 1440 := by omega
    simp [h, this]
  · split
    · rw [if_neg (by omega)]; simp [h]
    · simp [h]
theorem e_union (f g : Nat → Bool) (a : Nat) : eqm (shf (fun i => (f i || g i) && decide (i < 1440)) (a : Int)) (fun i => (shf f (a : Int) i || shf g (a : Int) i) && decide (i < 1440)) = true := eqm_true fun t _ => by
  simp only [shf_if]
  split
  · rename_i h
    have h2 : t - a < 1440 := by omega
    simp [h.1, h2]
  · simp
theorem e_meet (f g : Nat → Bool) (a : Nat) : eqm (shf (fun i => (f i && g i) && decide (i < 1440)) (a : Int)) (fun i => (shf f (a : Int) i && shf g (a : Int) i) && decide (i < 1440)) = true := eqm_true fun t _ => by
  simp only [shf_if]
  split
  · rename_i h
    have h2 : t - a < 1440 := by omega
    simp [h.1, h2]
  · simp
theorem gd (A : Act) (s : Nat) : A.tmps[s]?.getD undef = A.tmps.getD s undef := by simp
theorem gdb {A : Act} {s : Nat} {b : Bool} (h : A.tmps.getD s undef = .bool b) : A.tmps[s]? = some (.bool b) := by
  rw [← gd] at h
  cases hx : A.tmps[s]? with
  | none => rw [hx] at h; simp [undef] at h
  | some v => rw [hx] at h; simp at h; rw [h]
end Go.Proofs.YtlpnkljcgkfnkabDoor
