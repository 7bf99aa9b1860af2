/- Plain facts about one span and two spans of a day: what the law MaskPart says. -/
import Derived.Test.YtemdkpjdbciemabDoorAliveA
namespace Go.Proofs.YtemdkpjdbciemabDoor
open Go.RowKit Msk

theorem p_one (a b i : Nat) (hb : b ≤ 1440) : inl [((a : Int), (b : Int))] i = (decide (a ≤ i) && decide (i < b)) := by
  rw [inl_one, Bool.eq_iff_iff]
  simp only [Bool.and_eq_true, decide_eq_true_eq]
  omega
theorem p_two (a b c d i : Nat) (hb : b ≤ 1440) (hd : d ≤ 1440) : inl [((c : Int), (d : Int)), ((a : Int), (b : Int))] i = ((decide (a ≤ i) && decide (i < b)) || (decide (c ≤ i) && decide (i < d))) := by
  have e : inl [((c : Int), (d : Int)), ((a : Int), (b : Int))] i = (inl [((c : Int), (d : Int))] i || inl [((a : Int), (b : Int))] i) := by simp [inl]
  rw [e, p_one c d i hd, p_one a b i hb, Bool.or_comm]
theorem p_cnt1 (a b : Nat) (h : a ≤ b) (hb : b ≤ 1440) : cnt (inl [((a : Int), (b : Int))]) 1440 = b - a := by
  rw [cnt_ext (g := fun i => decide (a ≤ i) && decide (i < b)) fun i _ => p_one a b i hb, cnt_span a b 1440 h hb]
theorem p_cnt2 (a b c d : Nat) (h1 : a < b) (h2 : b < c) (h3 : c < d) (h4 : d ≤ 1440) : cnt (inl [((c : Int), (d : Int)), ((a : Int), (b : Int))]) 1440 = (b - a) + (d - c) := by
  rw [cnt_ext (g := fun i => (decide (a ≤ i) && decide (i < b)) || (decide (c ≤ i) && decide (i < d))) fun i _ => p_two a b c d i (by omega) h4,
    cnt_or (fun i => decide (a ≤ i) && decide (i < b)) (fun i => decide (c ≤ i) && decide (i < d)) 1440 (fun i _ => by
      rw [Bool.and_eq_false_iff]
      by_cases q : i < b
      · right; have : ¬ c ≤ i := by omega
        simp [this]
      · left; simp [q]),
    cnt_span a b 1440 (by omega) (by omega), cnt_span c d 1440 (by omega) h4]
theorem p_rs (a b c d : Nat) (h1 : a < b) (h2 : b < c) (h3 : c < d) (h4 : d ≤ 1440) : rs (inl [((c : Int), (d : Int)), ((a : Int), (b : Int))]) 1440 = [((a : Int), (b : Int)), ((c : Int), (d : Int))] := by
  have hf := fun i => p_two a b c d i (by omega) h4
  rw [rs_end _ d 1440 h4 (fun i x _ => by rw [hf]; simp; omega), rs_next _ b c d (by omega) h3 (.inr (by rw [hf]; simp; omega)) (fun i x y => by rw [hf]; simp; omega) (fun i x y => by rw [hf]; simp; omega),
    rs_next _ 0 a b (by omega) h1 (.inl rfl) (fun i _ y => by rw [hf]; simp; omega) (fun i x y => by rw [hf]; simp; omega)]
  rfl
theorem p_hold (a b : Nat) (h : a ≤ b) (hb : b ≤ 1440) : holdB (inl [((a : Int), (b : Int))]) (a : Int) (b : Int) = true :=
  hold_true (by omega) (by omega) (by omega) fun i x y => by rw [p_one a b i hb]; simp; omega
theorem p_not (a b : Nat) (h : a < b) (hb : b ≤ 1440) : holdB (inl [((a : Int), (b : Int))]) (a : Int) ((b : Int) + 1) = false := by
  cases e : holdB (inl [((a : Int), (b : Int))]) (a : Int) ((b : Int) + 1) with
  | false => rfl
  | true =>
    obtain ⟨_, _, _, h3⟩ := hold_spec e
    have := h3 b (by omega) (by omega)
    rw [p_one a b b hb] at this
    simp at this
theorem p_apart (a b c : Nat) (hc : c ≤ 1440) (h : b ≤ 1440) : eqm (fun i => (inl [((a : Int), (b : Int))] i && inl [((b : Int), (c : Int))] i) && decide (i < 1440)) (fun _ => false) = true := eqm_true fun i _ => by
  rw [p_one a b i h, p_one b c i hc]
  by_cases q : i < b
  · have : ¬ b ≤ i := by omega
    simp [this]
  · simp [q]
end Go.Proofs.YtemdkpjdbciemabDoor
