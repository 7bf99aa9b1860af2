/- What is read of tokens is read of the same tokens at other places, and with others behind, where something is left: plain. -/
import Derived.Test.YteheahhifihmjaaGreatDoorQa07
namespace Lx

/-- The same tokens, and these behind. -/
def Mo (ts : List T1) (r q : List Tk) : Prop := q.map (fun p => p.1) = r.map (fun p => p.1) ++ ts
/-- Something is left, or nothing is behind. -/
def Co (ts : List T1) (r : List Tk) : Prop := 0 < r.length ∨ ts = []
theorem Co.up {ts : List T1} {r q : List Tk} (h : Co ts r) (hl : r.length ≤ q.length) : Co ts q := by
  rcases h with h | h
  · exact .inl (by omega)
  · exact .inr h
theorem Mo.tail {ts : List T1} {r q : List Tk} (h : Mo ts r q) (hc : Co ts r) : Mo ts r.tail q.tail := by
  unfold Mo at *
  rcases r with _ | ⟨p, r⟩
  · rcases hc with hc | rfl
    · simp at hc
    · simp at h
      subst h; rfl
  · rcases q with _ | ⟨p', q⟩
    · simp at h
    · simp at h ⊢
      exact h.2
theorem Mo.same {ts : List T1} {r q : List Tk} (h : Mo ts r q) (hc : Co ts r) : textP q = textP r ∧ kindP q = kindP r ∧ numP q = numP r := by
  unfold Mo at *
  rcases r with _ | ⟨p, r⟩
  · rcases hc with hc | rfl
    · simp at hc
    · simp at h
      subst h; exact ⟨rfl, rfl, rfl⟩
  · rcases q with _ | ⟨p', q⟩
    · simp at h
    · simp at h
      simp [textP, kindP, numP, h.1]
theorem Mo.isT {ts : List T1} {r q : List Tk} (h : Mo ts r q) (hc : Co ts r) (x : List UInt8) : isT x q = isT x r := by
  unfold Lx.isT; rw [(h.same hc).1]
theorem then_mk {x : Res} {e : Ex} {r : List Tk} {n : Nat} {f : Ex → List Tk → Nat → Res} (h : x = .ok (e, r, n)) : andThen x f = f e r n := by subst h; rfl
theorem ended_mk {E E' : Nat} {e : Ex} {r q : List Tk} {n : Nat} {z : Ex × List Tk × Nat} (h : endedP E e r n = .ok z) : endedP E' e q n = .ok (e, q, n + 1) := by
  unfold endedP at *
  split at h
  · cases h
  · rename_i c; rw [if_neg c]
theorem isT_pos {x : List UInt8} {r : List Tk} (hx : x ≠ []) (h : isT x r = true) : 0 < r.length := isT_cons hx h

set_option maxHeartbeats 1000000 in
theorem goP_join (E E' : Nat) (ts : List T1) : ∀ (f m d : Nat) (e : Ex) (r q : List Tk) (n : Nat) (e' : Ex) (r' : List Tk) (n' : Nat), m ≤ 8 → Mo ts r q → Co ts r' → goP E f m d e r n = .ok (e', r', n') → ∃ q', goP E' f m d e q n = .ok (e', q', n') ∧ Mo ts r' q'
  | 0, m, d, e, r, q, n, e', r', n', _, _, _, h => (failP_ok h).elim
  | f + 1, m, d, e, r, q, n, e', r', n', hm, hM, hC, h => by
    have ih := goP_join E E' ts f
    have hlen := fun (m d : Nat) (e : Ex) (r : List Tk) (n : Nat) (e' : Ex) (r' : List Tk) (n' : Nat) (hm : m ≤ 8) (h : goP E f m d e r n = .ok (e', r', n')) => goP_len E f m d e r n e' r' n' hm h
    have hCr : Co ts r := hC.up (by have := goP_len E (f + 1) m d e r n e' r' n' hm h; omega)
    have iT := hM.isT hCr
    have hMt := hM.tail hCr
    match m, hm with
    | 0, _ =>
      rw [goP_0] at h ⊢
      obtain ⟨e1, r1, n1, h1, h2⟩ := andThen_ok h
      have l2 := hlen 1 _ _ _ _ _ _ _ (by omega) h2
      obtain ⟨q1, g1, M1⟩ := ih 2 _ _ _ _ _ _ _ _ (by omega) hM (hC.up (by omega)) h1
      obtain ⟨q2, g2, M2⟩ := ih 1 _ _ _ _ _ _ _ _ (by omega) M1 hC h2
      exact ⟨q2, by rw [then_mk g1]; exact g2, M2⟩
    | 2, _ =>
      rw [goP_2] at h ⊢
      obtain ⟨e1, r1, n1, h1, h2⟩ := andThen_ok h
      have l2 := hlen 3 _ _ _ _ _ _ _ (by omega) h2
      obtain ⟨q1, g1, M1⟩ := ih 4 _ _ _ _ _ _ _ _ (by omega) hM (hC.up (by omega)) h1
      obtain ⟨q2, g2, M2⟩ := ih 3 _ _ _ _ _ _ _ _ (by omega) M1 hC h2
      exact ⟨q2, by rw [then_mk g1]; exact g2, M2⟩
    | 4, _ =>
      rw [goP_4] at h ⊢
      obtain ⟨e1, r1, n1, h1, h2⟩ := andThen_ok h
      have l2 := hlen 5 _ _ _ _ _ _ _ (by omega) h2
      obtain ⟨q1, g1, M1⟩ := ih 6 _ _ _ _ _ _ _ _ (by omega) hM (hC.up (by omega)) h1
      obtain ⟨q2, g2, M2⟩ := ih 5 _ _ _ _ _ _ _ _ (by omega) M1 hC h2
      exact ⟨q2, by rw [then_mk g1]; exact g2, M2⟩
    | 1, _ =>
      rw [goP_1] at h ⊢
      rw [iT, iT]
      by_cases c1 : isT wPlus r = true
      · rw [if_pos c1] at h ⊢
        obtain ⟨e1, r1, n1, h1, h2⟩ := andThen_ok h
        obtain ⟨e2, r2, n2, h3, h4⟩ := andThen_ok h2
        have g3 := fun q => ended_mk (E' := E') (q := q) h3
        cases endedP_ok h3
        have l2 := hlen 1 _ _ _ _ _ _ _ (by omega) h4
        obtain ⟨q1, g1, M1⟩ := ih 2 _ _ _ _ _ _ _ _ (by omega) hMt (hC.up (by omega)) h1
        obtain ⟨q2, g2, M2⟩ := ih 1 _ _ _ _ _ _ _ _ (by omega) M1 hC h4
        exact ⟨q2, by rw [then_mk g1, then_mk (g3 q1)]; exact g2, M2⟩
      · rw [if_neg c1] at h ⊢
        by_cases c2 : isT wMinus r = true
        · rw [if_pos c2] at h ⊢
          obtain ⟨e1, r1, n1, h1, h2⟩ := andThen_ok h
          obtain ⟨e2, r2, n2, h3, h4⟩ := andThen_ok h2
          have g3 := fun q => ended_mk (E' := E') (q := q) h3
          cases endedP_ok h3
          have l2 := hlen 1 _ _ _ _ _ _ _ (by omega) h4
          obtain ⟨q1, g1, M1⟩ := ih 2 _ _ _ _ _ _ _ _ (by omega) hMt (hC.up (by omega)) h1
          obtain ⟨q2, g2, M2⟩ := ih 1 _ _ _ _ _ _ _ _ (by omega) M1 hC h4
          exact ⟨q2, by rw [then_mk g1, then_mk (g3 q1)]; exact g2, M2⟩
        · rw [if_neg c2] at h ⊢
          cases h
          exact ⟨q, rfl, hM⟩
    | 3, _ =>
      rw [goP_3] at h ⊢
      rw [iT]
      by_cases c1 : isT wAnd r = true
      · rw [if_pos c1] at h ⊢
        obtain ⟨e1, r1, n1, h1, h2⟩ := andThen_ok h
        obtain ⟨e2, r2, n2, h3, h4⟩ := andThen_ok h2
        have g3 := fun q => ended_mk (E' := E') (q := q) h3
        cases endedP_ok h3
        have l2 := hlen 3 _ _ _ _ _ _ _ (by omega) h4
        obtain ⟨q1, g1, M1⟩ := ih 4 _ _ _ _ _ _ _ _ (by omega) hMt (hC.up (by omega)) h1
        obtain ⟨q2, g2, M2⟩ := ih 3 _ _ _ _ _ _ _ _ (by omega) M1 hC h4
        exact ⟨q2, by rw [then_mk g1, then_mk (g3 q1)]; exact g2, M2⟩
      · rw [if_neg c1] at h ⊢
        cases h
        exact ⟨q, rfl, hM⟩
    | 5, _ =>
      rw [goP_5] at h ⊢
      rw [iT]
      by_cases c1 : isT wShift r = true
      · rw [if_pos c1] at h ⊢
        by_cases c2 : kindP (shiftAt r) ≠ 6
        · rw [if_pos c2] at h; exact (failP_ok h).elim
        rw [if_neg c2] at h
        by_cases c3 : 1440 ≤ numP (shiftAt r) ∨ numP (shiftAt r) < 1
        · rw [if_pos c3] at h; exact (failP_ok h).elim
        rw [if_neg c3] at h
        obtain ⟨e2, r2, n2, h3, h4⟩ := andThen_ok h
        have g3 := fun q => ended_mk (E' := E') (q := q) h3
        cases endedP_ok h3
        have l2 := hlen 5 _ _ _ _ _ _ _ (by omega) h4
        have hk6 : 0 < (shiftAt r).length := kindP_cons (by intro e; exact c2 (by rw [e]; decide))
        have hCs : Co ts (shiftAt r) := .inl hk6
        have hCt : Co ts r.tail := .inl (by
          have : (shiftAt r).length ≤ r.tail.length := by unfold shiftAt; split <;> simp
          omega)
        have jT := hMt.isT hCt
        have hMs : Mo ts (shiftAt r) (shiftAt q) := by
          unfold shiftAt
          rw [jT]
          split
          · exact hMt.tail hCt
          · exact hMt
        obtain ⟨_, s2, s3⟩ := hMs.same hCs
        obtain ⟨q2, g2, M2⟩ := ih 5 _ _ _ _ _ _ _ _ (by omega) (hMs.tail hCs) hC h4
        refine ⟨q2, ?_, M2⟩
        rw [s2, s3, if_neg c2, if_neg c3, jT, then_mk (g3 _)]
        exact g2
      · rw [if_neg c1] at h ⊢
        cases h
        exact ⟨q, rfl, hM⟩
    | 8, _ =>
      rw [goP_8] at h ⊢
      rw [iT]
      by_cases c1 : isT wColon r = true
      · rw [if_pos c1] at h ⊢
        obtain ⟨e1, r1, n1, h1, h2⟩ := andThen_ok h
        have g3 := fun q => ended_mk (E' := E') (q := q) h2
        cases endedP_ok h2
        obtain ⟨q1, g1, M1⟩ := ih 4 _ _ _ _ _ _ _ _ (by omega) hMt hC h1
        exact ⟨q1, by rw [then_mk g1]; exact g3 q1, M1⟩
      · rw [if_neg c1] at h; exact (failP_ok h).elim
    | 7, _ =>
      rw [goP_7] at h ⊢
      obtain ⟨s1, _, _⟩ := hM.same hCr
      rw [s1]
      by_cases c0 : dayBit (textP r) = 0
      · rw [if_pos c0] at h; exact (failP_ok h).elim
      rw [if_neg c0] at h ⊢
      by_cases c1 : isT wComma r.tail = true
      · rw [if_pos c1] at h
        have hCt : Co ts r.tail := .inl (isT_pos (by decide) c1)
        rw [hMt.isT hCt, if_pos c1]
        exact ih 7 _ _ _ _ _ _ _ _ (by omega) (hMt.tail hCt) hC h
      · rw [if_neg c1] at h
        have l2 := hlen 8 _ _ _ _ _ _ _ (by omega) h
        have hCt : Co ts r.tail := hC.up (by omega)
        rw [hMt.isT hCt, if_neg c1]
        exact ih 8 _ _ _ _ _ _ _ _ (by omega) hMt hC h
    | 6, _ =>
      rw [goP_6] at h ⊢
      obtain ⟨s1, s2, s3⟩ := hM.same hCr
      rw [iT, iT, iT, iT, iT, s1, s2, s3]
      by_cases c0 : 40 < d
      · rw [if_pos c0] at h; exact (failP_ok h).elim
      rw [if_neg c0] at h ⊢
      by_cases c1 : isT wOpen r = true
      · rw [if_pos c1] at h ⊢
        obtain ⟨e1, r1, n1, h1, h2⟩ := andThen_ok h
        by_cases c2 : isT wShut r1 = true
        · rw [if_pos c2] at h2
          cases h2
          have hC1 : Co ts r1 := .inl (isT_pos (by decide) c2)
          obtain ⟨q1, g1, M1⟩ := ih 0 _ _ _ _ _ _ _ _ (by omega) hMt hC1 h1
          refine ⟨q1.tail, ?_, M1.tail hC1⟩
          rw [then_mk g1, M1.isT hC1, if_pos c2]
        · rw [if_neg c2] at h2; exact (failP_ok h2).elim
      rw [if_neg c1] at h ⊢
      by_cases c3 : isT wNever r = true
      · rw [if_pos c3] at h ⊢
        have g := ended_mk (E' := E') (q := q.tail) h
        cases endedP_ok h
        exact ⟨q.tail, g, hMt⟩
      rw [if_neg c3] at h ⊢
      by_cases c4 : isT wAlways r = true
      · rw [if_pos c4] at h ⊢
        have g := ended_mk (E' := E') (q := q.tail) h
        cases endedP_ok h
        exact ⟨q.tail, g, hMt⟩
      rw [if_neg c4] at h ⊢
      by_cases c5 : isT wWeekly r = true
      · rw [if_pos c5] at h ⊢
        exact ih 7 _ _ _ _ _ _ _ _ (by omega) hMt hC h
      rw [if_neg c5] at h ⊢
      by_cases c6 : isT wDates r = true
      · rw [if_pos c6] at h ⊢
        by_cases k5 : kindP r.tail ≠ 5
        · rw [if_pos k5] at h; exact (failP_ok h).elim
        rw [if_neg k5] at h
        have hC1 : Co ts r.tail := .inl (kindP_cons (by intro e; exact k5 (by rw [e]; decide)))
        obtain ⟨t1, t2, t3⟩ := hMt.same hC1
        have hM2 := hMt.tail hC1
        rw [t2, t3, if_neg k5]
        by_cases c7 : isT wTo r.tail.tail = true
        · rw [if_pos c7] at h
          have hC2 : Co ts r.tail.tail := .inl (isT_pos (by decide) c7)
          rw [hM2.isT hC2, if_pos c7]
          by_cases k6 : kindP r.tail.tail.tail ≠ 5
          · rw [if_pos k6] at h; exact (failP_ok h).elim
          rw [if_neg k6] at h
          have hM3 := hM2.tail hC2
          have hC3 : Co ts r.tail.tail.tail := .inl (kindP_cons (by intro e; exact k6 (by rw [e]; decide)))
          obtain ⟨v1, v2, v3⟩ := hM3.same hC3
          rw [v2, v3, if_neg k6]
          by_cases k7 : numP r.tail.tail.tail < numP r.tail
          · rw [if_pos k7] at h; exact (failP_ok h).elim
          rw [if_neg k7] at h ⊢
          exact ih 8 _ _ _ _ _ _ _ _ (by omega) (hM3.tail hC3) hC h
        · rw [if_neg c7] at h
          have l2 := hlen 8 _ _ _ _ _ _ _ (by omega) h
          have hC2 : Co ts r.tail.tail := hC.up (by omega)
          rw [hM2.isT hC2, if_neg c7]
          exact ih 8 _ _ _ _ _ _ _ _ (by omega) hM2 hC h
      rw [if_neg c6] at h ⊢
      by_cases k1 : kindP r = 1
      · rw [if_pos k1] at h ⊢
        have g := ended_mk (E' := E') (q := q.tail) h
        cases endedP_ok h
        exact ⟨q.tail, g, hMt⟩
      rw [if_neg k1] at h ⊢
      by_cases k2 : kindP r ≠ 4
      · rw [if_pos k2] at h; exact (failP_ok h).elim
      rw [if_neg k2] at h ⊢
      by_cases c8 : isT wMinus r.tail = true
      · rw [if_pos c8] at h
        have hC1 : Co ts r.tail := .inl (isT_pos (by decide) c8)
        have hM2 := hMt.tail hC1
        rw [hMt.isT hC1, if_pos c8]
        by_cases k3 : kindP r.tail.tail ≠ 4
        · rw [if_pos k3] at h; exact (failP_ok h).elim
        rw [if_neg k3] at h
        have hC2 : Co ts r.tail.tail := .inl (kindP_cons (by intro e; exact k3 (by rw [e]; decide)))
        obtain ⟨t1, t2, t3⟩ := hM2.same hC2
        rw [t2, t3, if_neg k3]
        by_cases k4 : numP r.tail.tail < numP r + 1
        · rw [if_pos k4] at h; exact (failP_ok h).elim
        rw [if_neg k4] at h ⊢
        have g := ended_mk (E' := E') (q := q.tail.tail.tail) h
        cases endedP_ok h
        exact ⟨q.tail.tail.tail, g, hM2.tail hC2⟩
      · rw [if_neg c8] at h; exact (failP_ok h).elim
end Lx
