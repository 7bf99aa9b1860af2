/- Plain facts about a mask and its spans: what the law MaskTurns says. -/
import Derived.Test.YtemdkpjdbciemaaDoorAliveA
namespace Go.Proofs.YtemdkpjdbciemaaDoor
open Go.RowKit Msk

abbrev Sps := List (Int × Int)
theorem in_runs {f : Nat → Bool} {l : List (Int × Int)} (h : Runs f 1440 l) (i : Nat) (hi : i < 1440) : inl l i = f i := by
  have q := h.has i hi
  rw [← q]
  simp [inl, hi]
theorem in_off (l : List (Int × Int)) (i : Nat) (hi : ¬ i < 1440) : inl l i = false := by simp [inl, hi]
/-- What is left of a mask within the day. -/
def cutd (f : Nat → Bool) (i : Nat) : Bool := (f i && decide (i < 1440)) && decide (i < 1440)
theorem cut_any (f : Nat → Bool) (w : World) : Calls Tryd.prog 31 #[.agg (mv f), .agg (mv fun i => decide (i < 1440))] w fun e w' => e = .returned (.agg (mv (cutd f))) ∧ Below w.heap.size w w' := both_any f (fun i => decide (i < 1440)) w
theorem t_back {f : Nat → Bool} {l : List (Int × Int)} (h : Runs f 1440 l) : eqm (inl l) (cutd f) = true := eqm_true fun i _ => by
  simp only [cutd]
  by_cases hi : i < 1440
  · rw [in_runs h i hi]; simp [hi]
  · rw [in_off l i hi]; simp [hi]
theorem t_again {f : Nat → Bool} {l : List (Int × Int)} (h : Runs f 1440 l) : rs (inl l) 1440 = rs f 1440 := rs_ext fun i hi => in_runs h i hi
theorem good_at (n : Int) : ∀ (l : List (Int × Int)) (last : Int) (k : Nat), Msk.good last n l → k < l.length → endOf last (l.take k) < (l.getD k (0, 0)).1 ∧ (l.getD k (0, 0)).1 < (l.getD k (0, 0)).2 ∧ (l.getD k (0, 0)).2 ≤ n
  | [], _, k, _, hk => by simp at hk
  | s :: l, last, 0, ⟨h1, h2, h3, _⟩, _ => by simpa [endOf] using ⟨h1, h2, h3⟩
  | s :: l, last, k + 1, ⟨_, _, _, h4⟩, hk => by
    have := good_at n l s.2 k h4 (by simpa using hk)
    simpa [endOf] using this
theorem good_len (n : Int) : ∀ (l : List (Int × Int)) (last : Int) (k : Nat), Msk.good last n l → 0 ≤ len (l.take k) ∧ len (l.take k) ≤ endOf last (l.take k) - last
  | [], last, k, _ => by simp [len, endOf]
  | s :: l, last, 0, _ => by simp [len, endOf]
  | s :: l, last, k + 1, ⟨h1, h2, _, h4⟩ => by
    have := good_len n l s.2 k h4
    simp only [List.take_succ_cons, len, endOf]
    omega
theorem good_end (n : Int) : ∀ (l : List (Int × Int)) (last : Int) (k : Nat), Msk.good last n l → last ≤ n → endOf last (l.take k) ≤ n
  | [], last, k, _, h => by simpa [endOf] using h
  | s :: l, last, 0, _, h => by simpa [endOf] using h
  | s :: l, last, k + 1, ⟨_, _, h3, h4⟩, _ => by
    have := good_end n l s.2 k h4 h3
    simpa only [List.take_succ_cons, endOf] using this
theorem good_low (n : Int) : ∀ (l : List (Int × Int)) (last : Int) (k : Nat), Msk.good last n l → last ≤ endOf last (l.take k)
  | [], last, k, _ => by simp [endOf]
  | s :: l, last, 0, _ => by simp [endOf]
  | s :: l, last, k + 1, ⟨h1, h2, _, h4⟩ => by
    have := good_low n l s.2 k h4
    simp only [List.take_succ_cons, endOf]
    omega
theorem take_one (l : List (Int × Int)) (k : Nat) (hk : k < l.length) : l.take (k + 1) = l.take k ++ [l.getD k (0, 0)] := by
  rw [List.take_succ_eq_append_getElem hk]; simp [List.getD, hk]
/-- What one round of the law's loop needs. -/
theorem t_round {f : Nat → Bool} {l : List (Int × Int)} (h : Runs f 1440 l) (k : Nat) (hk : k < l.length) (x y : Int) (hs : l.getD k (0, 0) = (x, y)) :
    (endOf (-1) (l.take k) < x ∧ x < y ∧ y ≤ 1440) ∧ (0 ≤ len (l.take k) ∧ len (l.take k) ≤ 1441 ∧ -1 ≤ endOf (-1) (l.take k)) ∧ endOf (-1) (l.take (k + 1)) = y ∧ len (l.take (k + 1)) = len (l.take k) + y - x := by
  have h1 := good_at _ l (-1) k h.good hk
  have h2 := good_len _ l (-1) k h.good
  have h3 := good_end _ l (-1) k h.good (by omega)
  have h4 := good_low _ l (-1) k h.good
  rw [hs] at h1
  refine ⟨⟨h1.1, h1.2.1, by have := h1.2.2; simpa using this⟩, ⟨h2.1, by have := h2.2; omega, h4⟩, ?_, ?_⟩
  · rw [take_one l k hk, hs, endOf_snoc]
  · rw [take_one l k hk, hs, len_snoc]; omega
theorem first_ex (f : Nat → Bool) (n : Nat) : ∀ (m p : Nat), n - p ≤ m → p ≤ n → ∃ a, p ≤ a ∧ a ≤ n ∧ (∀ i, p ≤ i → i < a → f i = false) ∧ (a < n → f a = true)
  | 0, p, hm, hp => ⟨p, Nat.le_refl _, hp, fun i a b => by omega, fun h => by omega⟩
  | m + 1, p, hm, hp => by
    by_cases hf : f p = true
    · exact ⟨p, Nat.le_refl _, hp, fun i a b => by omega, fun _ => hf⟩
    · by_cases hpn : p = n
      · exact ⟨p, Nat.le_refl _, hp, fun i a b => by omega, fun h => by omega⟩
      · obtain ⟨a, h1, h2, h3, h4⟩ := first_ex f n m (p + 1) (by omega) (by omega)
        refine ⟨a, by omega, h2, fun i x y => ?_, h4⟩
        by_cases e : i = p
        · subst e; simpa using hf
        · exact h3 i (by omega) y
theorem seen_runs (f : Nat → Bool) : ∀ (m p : Nat) (l : List (Int × Int)), 1440 - p ≤ m → p ≤ 1440 → Seen f p l → Runs f 1440 (rs f 1440)
  | 0, p, l, hm, hp, hS => by
    obtain ⟨e, h⟩ := hS.all hp fun i a b => by omega
    rw [← e]; exact h
  | m + 1, p, l, hm, hp, hS => by
    obtain ⟨a, h1, h2, h3, h4⟩ := first_ex f 1440 1440 p (by omega) hp
    by_cases ha : a = 1440
    · obtain ⟨e, h⟩ := hS.all hp fun i x y => h3 i x (by omega)
      rw [← e]; exact h
    · have hfa := h4 (by omega)
      obtain ⟨b, b1, b2, b3, b4⟩ := first_ex (fun i => !f i) 1440 1440 a (by omega) h2
      have hab : a < b := by
        rcases Nat.lt_or_ge a b with h | h
        · exact h
        · have e : b = a := by omega
          subst e
          have := b4 (by omega)
          simp [hfa] at this
      exact seen_runs f m b _ (by omega) b2 (hS.next a b h1 hab b2 h3 (fun i x y => by simpa using b3 i x y) fun h => by simpa using b4 h)
theorem runs_rs (f : Nat → Bool) : Runs f 1440 (rs f 1440) := seen_runs f 1440 0 [] (by omega) (by omega) (Seen.zero f)
end Go.Proofs.YtemdkpjdbciemaaDoor
