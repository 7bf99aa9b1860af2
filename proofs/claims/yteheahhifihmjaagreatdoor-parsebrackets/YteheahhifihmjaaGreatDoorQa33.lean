/- What is read of a text's tokens is right, and has what its kinds have alone: plain. -/
import Derived.Test.YteheahhifihmjaaGreatDoorQa32
import Derived.Test.YteheahhifihmjaaGreatDoorQa10
import Derived.Test.YteheahhifihmjaaGreatDoorQa27
import Derived.Defers
import Derived.Recover
namespace Lx
/-- Right, and with what its kinds have alone. -/
def RE (e : Ex) : Prop := allA e = true ∧ bareE e = e
theorem re_mk {k a b : Int} {x : List UInt8} {ks : List Ex} (h1 : 1 ≤ k ∧ k ≤ 10) (h2 : ks.length = kidsP k) (h3 : rangeP k a b = true) (h4 : k = 10 → Go.Proofs.YteheahhifihmjaaGreatDoor.namedL x = true) (h5 : bareA k a = a ∧ bareB k b = b ∧ bareN k x = x) (h6 : ∀ q ∈ ks, RE q) : RE ⟨k, a, b, x, ks⟩ := by
  refine ⟨(allA_iff _).2 ⟨?_, fun q hq => (h6 q hq).1⟩, ?_⟩
  · unfold aloneP
    dsimp only
    rw [if_neg (by omega), if_neg (by simpa using h2), if_neg (by rw [h3]; decide), if_neg]
    rintro ⟨e1, e2⟩
    rw [h4 e1] at e2
    cases e2
  · rw [bareE_eq]
    dsimp only
    rw [h5.1, h5.2.1, h5.2.2]
    congr 1
    have : ∀ l : List Ex, (∀ q ∈ l, RE q) → l.map bareE = l := by
      intro l
      induction l with
      | nil => intro _; rfl
      | cons q l ih => intro h; rw [List.map_cons, (h q List.mem_cons_self).2, ih fun q hq => h q (List.mem_cons_of_mem _ hq)]
    exact this ks h6
theorem re_two {k : Int} {e t : Ex} (hk : k = 6 ∨ k = 7 ∨ k = 8) (he : RE e) (ht : RE t) : RE ⟨k, 0, 0, [], [e, t]⟩ := by
  have hq : ∀ q ∈ [e, t], RE q := fun q hq => by
    rcases List.mem_cons.1 hq with rfl | hq
    · exact he
    · rw [List.mem_singleton.1 hq]; exact ht
  rcases hk with rfl | rfl | rfl
  · exact re_mk (by omega) rfl rfl (by omega) ⟨rfl, rfl, rfl⟩ hq
  · exact re_mk (by omega) rfl rfl (by omega) ⟨rfl, rfl, rfl⟩ hq
  · exact re_mk (by omega) rfl rfl (by omega) ⟨rfl, rfl, rfl⟩ hq
theorem re_shift {a : Int} {e : Ex} (ha : a ≠ 0 ∧ -1440 < a ∧ a < 1440) (he : RE e) : RE ⟨9, a, 0, [], [e]⟩ :=
  re_mk (by omega) rfl (decide_eq_true ha) (by omega) ⟨rfl, rfl, rfl⟩ fun q hq => by rw [List.mem_singleton.1 hq]; exact he
/-- A guard, as it is read ahead of its kid. -/
def GE (e : Ex) : Prop := (e.kind = 4 ∧ 1 ≤ e.a ∧ e.a < 128 ∧ e.b = 0) ∨ (e.kind = 5 ∧ 0 ≤ e.a ∧ e.a ≤ e.b ∧ e.b < 146097)
theorem re_guard {g k : Ex} (hg : GE g) (hk : RE k) : RE ⟨g.kind, g.a, g.b, [], [k]⟩ := by
  have hq : ∀ q ∈ [k], RE q := fun q hq => by rw [List.mem_singleton.1 hq]; exact hk
  rcases hg with ⟨h1, h2, h3, h4⟩ | ⟨h1, h2⟩
  · rw [h1, h4]
    exact re_mk (by omega) rfl (decide_eq_true ⟨h2, h3⟩) (by omega) ⟨rfl, rfl, rfl⟩ hq
  · rw [h1]
    exact re_mk (by omega) rfl (decide_eq_true h2) (by omega) ⟨rfl, rfl, rfl⟩ hq
theorem no_q {p : Ex → Prop} : ∀ q ∈ ([] : List Ex), p q := fun q hq => by cases hq
theorem re_never : RE ⟨1, 0, 0, [], []⟩ := re_mk (by omega) rfl rfl (by omega) ⟨rfl, rfl, rfl⟩ no_q
theorem re_always : RE ⟨2, 0, 0, [], []⟩ := re_mk (by omega) rfl rfl (by omega) ⟨rfl, rfl, rfl⟩ no_q
theorem re_span {a b : Int} (h : 0 ≤ a ∧ a < b ∧ b ≤ 1440) : RE ⟨3, a, b, [], []⟩ := re_mk (by omega) rfl (decide_eq_true h) (by omega) ⟨rfl, rfl, rfl⟩ no_q
theorem re_name {x : List UInt8} (h : Go.Proofs.YteheahhifihmjaaGreatDoor.namedL x = true) : RE ⟨10, 0, 0, x, []⟩ := re_mk (by omega) rfl rfl (fun _ => h) ⟨rfl, rfl, rfl⟩ no_q
/-- What is asked of a token. -/
def GoodT (t : T1) : Prop := (t.kind = 1 → Go.Proofs.YteheahhifihmjaaGreatDoor.namedL t.text = true) ∧ (t.kind = 4 → 0 ≤ t.n ∧ t.n ≤ 1440) ∧ (t.kind = 5 → 0 ≤ t.n ∧ t.n < 146097)
def GoodL (r : List Tk) : Prop := ∀ p ∈ r, GoodT p.1
theorem GoodL.tail {r : List Tk} (h : GoodL r) : GoodL r.tail := fun p hp => h p (List.mem_of_mem_tail hp)
theorem GoodL.name {r : List Tk} (h : GoodL r) (hk : kindP r = 1) : Go.Proofs.YteheahhifihmjaaGreatDoor.namedL (textP r) = true := by
  cases r with
  | nil => exact absurd hk (by decide)
  | cons p r => exact (h p List.mem_cons_self).1 hk
theorem GoodL.time {r : List Tk} (h : GoodL r) (hk : kindP r = 4) : 0 ≤ numP r ∧ numP r ≤ 1440 := by
  cases r with
  | nil => exact absurd hk (by decide)
  | cons p r => exact (h p List.mem_cons_self).2.1 hk
theorem GoodL.date {r : List Tk} (h : GoodL r) (hk : kindP r = 5) : 0 ≤ numP r ∧ numP r < 146097 := by
  cases r with
  | nil => exact absurd hk (by decide)
  | cons p r => exact (h p List.mem_cons_self).2.2 hk
theorem GoodL.shift {r : List Tk} (h : GoodL r) : GoodL (shiftAt r) := by
  unfold shiftAt
  split
  · exact h.tail.tail
  · exact h.tail
theorem dayBit_lt (x : List UInt8) : dayBit x < 128 := by
  unfold dayBit
  repeat (first | omega | split)
theorem or_lt {a b : Nat} (ha : a < 128) (hb : b < 128) : a ||| b < 128 := Nat.or_lt_two_pow (n := 7) ha hb
theorem or_pos {a b : Nat} (hb : b ≠ 0) : 1 ≤ a ||| b := by
  have : b ≤ a ||| b := Nat.right_le_or
  omega
theorem cnt_mk2 (k a b : Int) (x : List UInt8) (s t : Ex) : cnt ⟨k, a, b, x, [s, t]⟩ = cnt s + cnt t + 1 := by rw [cnt_eq]; simp
theorem cnt_mk1 (k a b : Int) (x : List UInt8) (s : Ex) : cnt ⟨k, a, b, x, [s]⟩ = cnt s + 1 := by rw [cnt_eq]; simp
theorem cnt_mk0 (k a b : Int) (x : List UInt8) : cnt ⟨k, a, b, x, []⟩ = 1 := by rw [cnt_eq]; simp
theorem ended_le {E : Nat} {e : Ex} {r : List Tk} {n : Nat} {z : Ex × List Tk × Nat} (h : endedP E e r n = .ok z) : z = (e, r, n + 1) ∧ n + 1 ≤ 600 := by
  unfold endedP at h
  split at h
  · cases h
  · cases h; exact ⟨rfl, by omega⟩
set_option maxHeartbeats 1000000 in
theorem goP_right (E : Nat) : ∀ (f m d : Nat) (e : Ex) (r : List Tk) (n : Nat) (e' : Ex) (r' : List Tk) (n' : Nat), m ≤ 8 → GoodL r → n ≤ 600 → (m = 1 ∨ m = 3 ∨ m = 5 → RE e) → (m = 7 → 0 ≤ e.a ∧ e.a < 128) → (m = 8 → GE e) → goP E f m d e r n = .ok (e', r', n') →
    RE e' ∧ GoodL r' ∧ n' ≤ 600 ∧ (m = 1 ∨ m = 3 ∨ m = 5 → n' + cnt e = n + cnt e') ∧ (¬ (m = 1 ∨ m = 3 ∨ m = 5) → n' = n + cnt e')
  | 0, m, d, e, r, n, e', r', n', _, _, _, _, _, _, h => (failP_ok h).elim
  | f + 1, m, d, e, r, n, e', r', n', hm, hG, hn, h1, h7, h8, h => by
    have ih := goP_right E f
    match m, hm with
    | 0, _ =>
      rw [goP_0] at h
      obtain ⟨e1, r1, n1, g1, g2⟩ := andThen_ok h
      obtain ⟨a1, a2, a3, _, a4⟩ := ih 2 _ _ _ _ _ _ _ (by omega) hG hn (by omega) (by omega) (by omega) g1
      obtain ⟨b1, b2, b3, b4, _⟩ := ih 1 _ _ _ _ _ _ _ (by omega) a2 a3 (fun _ => a1) (by omega) (by omega) g2
      have a4 := a4 (by omega)
      have b4 := b4 (by omega)
      exact ⟨b1, b2, b3, by omega, fun _ => by omega⟩
    | 1, _ =>
      rw [goP_1] at h
      have he := h1 (by omega)
      split at h
      · obtain ⟨e1, r1, n1, g1, g2⟩ := andThen_ok h
        obtain ⟨e2, r2, n2, g3, g4⟩ := andThen_ok g2
        obtain ⟨a1, a2, a3, _, a4⟩ := ih 2 _ _ _ _ _ _ _ (by omega) hG.tail hn (by omega) (by omega) (by omega) g1
        obtain ⟨c1, c2⟩ := ended_le g3
        cases c1
        obtain ⟨b1, b2, b3, b4, _⟩ := ih 1 _ _ _ _ _ _ _ (by omega) a2 c2 (fun _ => re_two (by omega) he a1) (by omega) (by omega) g4
        have a4 := a4 (by omega)
        have b4 := b4 (by omega)
        rw [cnt_mk2] at b4
        exact ⟨b1, b2, b3, fun _ => by omega, by omega⟩
      · split at h
        · obtain ⟨e1, r1, n1, g1, g2⟩ := andThen_ok h
          obtain ⟨e2, r2, n2, g3, g4⟩ := andThen_ok g2
          obtain ⟨a1, a2, a3, _, a4⟩ := ih 2 _ _ _ _ _ _ _ (by omega) hG.tail hn (by omega) (by omega) (by omega) g1
          obtain ⟨c1, c2⟩ := ended_le g3
          cases c1
          obtain ⟨b1, b2, b3, b4, _⟩ := ih 1 _ _ _ _ _ _ _ (by omega) a2 c2 (fun _ => re_two (by omega) he a1) (by omega) (by omega) g4
          have a4 := a4 (by omega)
          have b4 := b4 (by omega)
          rw [cnt_mk2] at b4
          exact ⟨b1, b2, b3, fun _ => by omega, by omega⟩
        · cases h
          exact ⟨he, hG, hn, fun _ => by omega, by omega⟩
    | 2, _ =>
      rw [goP_2] at h
      obtain ⟨e1, r1, n1, g1, g2⟩ := andThen_ok h
      obtain ⟨a1, a2, a3, _, a4⟩ := ih 4 _ _ _ _ _ _ _ (by omega) hG hn (by omega) (by omega) (by omega) g1
      obtain ⟨b1, b2, b3, b4, _⟩ := ih 3 _ _ _ _ _ _ _ (by omega) a2 a3 (fun _ => a1) (by omega) (by omega) g2
      have a4 := a4 (by omega)
      have b4 := b4 (by omega)
      exact ⟨b1, b2, b3, by omega, fun _ => by omega⟩
    | 3, _ =>
      rw [goP_3] at h
      have he := h1 (by omega)
      split at h
      · obtain ⟨e1, r1, n1, g1, g2⟩ := andThen_ok h
        obtain ⟨e2, r2, n2, g3, g4⟩ := andThen_ok g2
        obtain ⟨a1, a2, a3, _, a4⟩ := ih 4 _ _ _ _ _ _ _ (by omega) hG.tail hn (by omega) (by omega) (by omega) g1
        obtain ⟨c1, c2⟩ := ended_le g3
        cases c1
        obtain ⟨b1, b2, b3, b4, _⟩ := ih 3 _ _ _ _ _ _ _ (by omega) a2 c2 (fun _ => re_two (by omega) he a1) (by omega) (by omega) g4
        have a4 := a4 (by omega)
        have b4 := b4 (by omega)
        rw [cnt_mk2] at b4
        exact ⟨b1, b2, b3, fun _ => by omega, by omega⟩
      · cases h
        exact ⟨he, hG, hn, fun _ => by omega, by omega⟩
    | 4, _ =>
      rw [goP_4] at h
      obtain ⟨e1, r1, n1, g1, g2⟩ := andThen_ok h
      obtain ⟨a1, a2, a3, _, a4⟩ := ih 6 _ _ _ _ _ _ _ (by omega) hG hn (by omega) (by omega) (by omega) g1
      obtain ⟨b1, b2, b3, b4, _⟩ := ih 5 _ _ _ _ _ _ _ (by omega) a2 a3 (fun _ => a1) (by omega) (by omega) g2
      have a4 := a4 (by omega)
      have b4 := b4 (by omega)
      exact ⟨b1, b2, b3, by omega, fun _ => by omega⟩
    | 5, _ =>
      rw [goP_5] at h
      have he := h1 (by omega)
      split at h
      · split at h
        · exact (failP_ok h).elim
        · split at h
          · exact (failP_ok h).elim
          · rename_i hr
            obtain ⟨e2, r2, n2, g3, g4⟩ := andThen_ok h
            obtain ⟨c1, c2⟩ := ended_le g3
            cases c1
            have hs : ∀ a : Int, (if isT wMinus r.tail = true then -numP (shiftAt r) else numP (shiftAt r)) = a → a ≠ 0 ∧ -1440 < a ∧ a < 1440 := fun a ha => by
              split at ha <;> omega
            obtain ⟨b1, b2, b3, b4, _⟩ := ih 5 _ _ _ _ _ _ _ (by omega) hG.shift.tail c2 (fun _ => re_shift (hs _ rfl) he) (by omega) (by omega) g4
            have b4 := b4 (by omega)
            rw [cnt_mk1] at b4
            exact ⟨b1, b2, b3, fun _ => by omega, by omega⟩
      · cases h
        exact ⟨he, hG, hn, fun _ => by omega, by omega⟩
    | 6, _ =>
      rw [goP_6] at h
      by_cases c0 : 40 < d
      · rw [if_pos c0] at h; exact (failP_ok h).elim
      rw [if_neg c0] at h
      by_cases c1 : isT wOpen r = true
      · rw [if_pos c1] at h
        obtain ⟨e1, r1, n1, g1, g2⟩ := andThen_ok h
        obtain ⟨a1, a2, a3, _, a4⟩ := ih 0 _ _ _ _ _ _ _ (by omega) hG.tail hn (by omega) (by omega) (by omega) g1
        have a4 := a4 (by omega)
        split at g2
        · cases g2
          exact ⟨a1, a2.tail, a3, by omega, fun _ => a4⟩
        · exact (failP_ok g2).elim
      rw [if_neg c1] at h
      by_cases c2 : isT wNever r = true
      · rw [if_pos c2] at h
        obtain ⟨d1, d2⟩ := ended_le h
        cases d1
        exact ⟨re_never, hG.tail, d2, by omega, fun _ => by rw [cnt_mk0]⟩
      rw [if_neg c2] at h
      by_cases c3 : isT wAlways r = true
      · rw [if_pos c3] at h
        obtain ⟨d1, d2⟩ := ended_le h
        cases d1
        exact ⟨re_always, hG.tail, d2, by omega, fun _ => by rw [cnt_mk0]⟩
      rw [if_neg c3] at h
      by_cases c4 : isT wWeekly r = true
      · rw [if_pos c4] at h
        obtain ⟨a1, a2, a3, _, a4⟩ := ih 7 _ _ _ _ _ _ _ (by omega) hG.tail hn (by omega) (fun _ => ⟨by decide, by decide⟩) (by omega) h
        exact ⟨a1, a2, a3, by omega, fun _ => a4 (by omega)⟩
      rw [if_neg c4] at h
      by_cases c5 : isT wDates r = true
      · rw [if_pos c5] at h
        by_cases k1 : kindP r.tail ≠ 5
        · rw [if_pos k1] at h; exact (failP_ok h).elim
        rw [if_neg k1] at h
        have t1 := hG.tail.date (by simpa using k1)
        split at h
        · by_cases k2 : kindP r.tail.tail.tail ≠ 5
          · rw [if_pos k2] at h; exact (failP_ok h).elim
          rw [if_neg k2] at h
          have t2 := hG.tail.tail.tail.date (by simpa using k2)
          split at h
          · exact (failP_ok h).elim
          rename_i hlt
          obtain ⟨a1, a2, a3, _, a4⟩ := ih 8 _ _ _ _ _ _ _ (by omega) hG.tail.tail.tail.tail hn (by omega) (by omega) (fun _ => .inr ⟨rfl, t1.1, by dsimp only; omega, t2.2⟩) h
          exact ⟨a1, a2, a3, by omega, fun _ => a4 (by omega)⟩
        · obtain ⟨a1, a2, a3, _, a4⟩ := ih 8 _ _ _ _ _ _ _ (by omega) hG.tail.tail hn (by omega) (by omega) (fun _ => .inr ⟨rfl, t1.1, by dsimp only; omega, t1.2⟩) h
          exact ⟨a1, a2, a3, by omega, fun _ => a4 (by omega)⟩
      rw [if_neg c5] at h
      by_cases c6 : kindP r = 1
      · rw [if_pos c6] at h
        obtain ⟨d1, d2⟩ := ended_le h
        cases d1
        exact ⟨re_name (hG.name c6), hG.tail, d2, by omega, fun _ => by rw [cnt_mk0]⟩
      rw [if_neg c6] at h
      by_cases c7 : kindP r ≠ 4
      · rw [if_pos c7] at h; exact (failP_ok h).elim
      rw [if_neg c7] at h
      have t1 := hG.time (by simpa using c7)
      split at h
      · by_cases k2 : kindP r.tail.tail ≠ 4
        · rw [if_pos k2] at h; exact (failP_ok h).elim
        rw [if_neg k2] at h
        have t2 := hG.tail.tail.time (by simpa using k2)
        split at h
        · exact (failP_ok h).elim
        rename_i hlt
        obtain ⟨d1, d2⟩ := ended_le h
        cases d1
        exact ⟨re_span ⟨t1.1, by omega, t2.2⟩, hG.tail.tail.tail, d2, by omega, fun _ => by rw [cnt_mk0]⟩
      · exact (failP_ok h).elim
    | 7, _ =>
      rw [goP_7] at h
      have he := h7 rfl
      split at h
      · exact (failP_ok h).elim
      · rename_i hb
        have o1 := or_lt (a := e.a.toNat) (by omega) (dayBit_lt (textP r))
        have o2 := or_pos (a := e.a.toNat) hb
        split at h
        · obtain ⟨a1, a2, a3, _, a4⟩ := ih 7 _ _ _ _ _ _ _ (by omega) hG.tail.tail hn (by omega) (fun _ => ⟨by dsimp only; omega, by dsimp only; omega⟩) (by omega) h
          exact ⟨a1, a2, a3, by omega, fun _ => a4 (by omega)⟩
        · obtain ⟨a1, a2, a3, _, a4⟩ := ih 8 _ _ _ _ _ _ _ (by omega) hG.tail hn (by omega) (by omega) (fun _ => .inl ⟨rfl, by dsimp only; omega, by dsimp only; omega, rfl⟩) h
          exact ⟨a1, a2, a3, by omega, fun _ => a4 (by omega)⟩
    | 8, _ =>
      rw [goP_8] at h
      have he := h8 rfl
      split at h
      · obtain ⟨e1, r1, n1, g1, g2⟩ := andThen_ok h
        obtain ⟨a1, a2, a3, _, a4⟩ := ih 4 _ _ _ _ _ _ _ (by omega) hG.tail hn (by omega) (by omega) (by omega) g1
        have a4 := a4 (by omega)
        obtain ⟨c1, c2⟩ := ended_le g2
        cases c1
        exact ⟨re_guard he a1, a2, c2, by omega, fun _ => by rw [cnt_mk1]; omega⟩
      · exact (failP_ok h).elim
theorem ruleR_right {E : Nat} {r q : List Tk} {u : Ru} (hG : GoodL r) (h : ruleR E r = .ok (u, q)) : ruleP u = 0 ∧ bareR u = u ∧ GoodL q := by
  unfold ruleR at h
  by_cases k1 : kindP r ≠ 1
  · rw [if_pos k1] at h; cases h
  rw [if_neg k1] at h
  split at h
  · cases hx : rd E 0 1 ex0 r.tail.tail 0 with
    | error z => rw [hx] at h; cases h
    | ok z =>
      obtain ⟨e, q0, n0⟩ := z
      rw [hx] at h
      dsimp only at h
      by_cases c2 : 40 < hgt e
      · rw [if_pos c2] at h; cases h
      rw [if_neg c2] at h
      split at h
      · cases h
        obtain ⟨a1, a2, a3, _, a4⟩ := goP_right E _ 0 1 _ _ _ _ _ _ (by omega) hG.tail.tail (by omega) (by omega) (by omega) (by omega) hx
        have a4 := a4 (by omega)
        exact ⟨ruleP_of (hG.name (by simpa using k1)) a1.1 (by dsimp only; omega) (by dsimp only; omega), by unfold bareR; rw [a1.2], a2.tail⟩
      · cases h
  · cases h
theorem rulesR_right {E : Nat} : ∀ (f : Nat) (acc : List Ru) (r : List Tk) (l : List Ru), GoodL r → (∀ u ∈ acc, ruleP u = 0 ∧ bareR u = u) → rulesR E f acc r = .ok l → ∀ u ∈ l, ruleP u = 0 ∧ bareR u = u
  | 0, _, _, _, _, ha, h => by cases h; exact ha
  | f + 1, acc, r, l, hG, ha, h => by
    rw [rulesR] at h
    split at h
    · cases h; exact ha
    split at h
    · split at h
      · cases h
      · cases hx : ruleR E r.tail with
        | error z => rw [hx] at h; cases h
        | ok z =>
          obtain ⟨u, q⟩ := z
          rw [hx] at h
          obtain ⟨b1, b2, b3⟩ := ruleR_right hG.tail hx
          exact rulesR_right f _ _ l b3 (fun x hx => by
            rcases List.mem_append.1 hx with hx | hx
            · exact ha x hx
            · rw [List.mem_singleton.1 hx]; exact ⟨b1, b2⟩) h
    · cases h
end Lx
namespace Go.Proofs.YteheahhifihmjaaGreatDoor
open Go.RowKit Lx

theorem run_take (p : UInt8 → Bool) : ∀ l : List UInt8, runOf p (l.take (runOf p l)) = runOf p l
  | [] => rfl
  | c :: l => by
    by_cases hc : p c = true
    · simp [runOf, hc, run_take p l]
    · simp [runOf, hc]
theorem word_take : ∀ l : List UInt8, wordLen (l.take (wordLen l)) = wordLen l
  | [] => rfl
  | c :: l => by
    by_cases hc : isL c = true
    · simp [wordLen, hc, run_take isC l]
    · simp [wordLen, hc]
theorem first_good {l : List UInt8} (h0 : 0 < l.length) (he : (firstT l).err = 0) : GoodT (firstT l) := by
  unfold firstT at he ⊢
  split at he
  · rename_i hf
    rw [if_pos hf]
    unfold dateT at he ⊢
    split at he
    · rename_i h
      rw [if_pos h]
      refine ⟨fun h => by dsimp only at h; omega, fun h => by dsimp only at h; omega, fun _ => ?_⟩
      dsimp only
      unfold numE at h ⊢
      split at h
      · rename_i hh
        rw [if_pos hh]
        have := Cal.num_bd _ _ _ hh.1 hh.2
        exact ⟨this.1, this.2.1⟩
      · simp at h
    · simp [bad] at he
  · rename_i hf
    rw [if_neg hf]
    split at he
    · rename_i hf2
      rw [if_pos hf2]
      have d1 := dig_part hf2 0 2 (by decide) (by decide)
      have d2 := dig_part hf2 3 2 (by decide) (by decide)
      have v1 := valL_bound _ d1.2 2 (by omega)
      have v2 := valL_bound _ d2.2 2 (by omega)
      rw [List.take_of_length_le (by omega)] at v1 v2
      unfold timeT at he ⊢
      split at he
      · simp [bad] at he
      · rename_i h
        rw [if_neg h]
        exact ⟨fun h => by dsimp only at h; omega, fun _ => ⟨by dsimp only; omega, by dsimp only; omega⟩, fun h => by dsimp only at h; omega⟩
    · rename_i hf2
      rw [if_neg hf2]
      split at he
      · rename_i hd
        rw [if_pos hd]
        unfold numT at he ⊢
        split at he
        · simp [bad] at he
        · rename_i h
          rw [if_neg h]
          exact ⟨fun h => by dsimp only at h; omega, fun h => by dsimp only at h; omega, fun h => by dsimp only at h; omega⟩
      · rename_i hd
        rw [if_neg hd]
        split at he
        · rename_i hL
          rw [if_pos hL]
          have hwl := wordLen_le l
          have hp := wordLen_pos h0 hL
          unfold wordT at he ⊢
          split at he
          · simp [bad] at he
          · rename_i h
            rw [if_neg h]
            refine ⟨fun hk => ?_, fun hk => ?_, fun hk => ?_⟩
            · dsimp only at hk ⊢
              have hw : isWordL (l.take (wordLen l)) = false := by
                cases hh : isWordL (l.take (wordLen l)) with
                | false => rfl
                | true => rw [hh] at hk; exact absurd hk (by decide)
              have hl : (l.take (wordLen l)).length = wordLen l := by simp; omega
              unfold namedL
              rw [word_take, hl, hw]
              simp
              omega
            · dsimp only at hk
              split at hk <;> exact absurd hk (by decide)
            · dsimp only at hk
              split at hk <;> exact absurd hk (by decide)
        · rename_i hL
          rw [if_neg hL]
          unfold signT at he ⊢
          split at he
          · rename_i hp
            rw [if_pos hp]
            exact ⟨fun h => by dsimp only at h; omega, fun h => by dsimp only at h; omega, fun h => by dsimp only at h; omega⟩
          · rename_i hp
            rw [if_neg hp]
            split at he
            · simp [bad] at he
            · rename_i h
              rw [if_neg h]
              exact ⟨fun h => by dsimp only at h; omega, fun h => by dsimp only at h; omega, fun h => by dsimp only at h; omega⟩
theorem lexed_good {l : List UInt8} {ts : List (T1 × Nat)} {k : Nat} (h : Lexed l ts k) : GoodL ts := by
  obtain ⟨n, hn⟩ := h
  refine Lexed.ind (M := fun ts _ => GoodL ts) ?_ ?_ n hn
  · intro p hp; cases hp
  · intro ts k _ hk he ih p hp
    rcases List.mem_append.1 hp with hp | hp
    · exact ih p hp
    · rw [List.mem_singleton.1 hp]
      exact first_good (drop_pos hk) he
end Go.Proofs.YteheahhifihmjaaGreatDoor

/- The rules of two rows of tokens, one behind the other: plain. -/
namespace Lx

theorem rd_join {E E' m d : Nat} {e : Ex} {r q : List Tk} {n : Nat} {e' : Ex} {r' : List Tk} {n' : Nat} {ts : List T1} (hm : m ≤ 8) (hM : Mo ts r q) (hC : Co ts r') (h : rd E m d e r n = .ok (e', r', n')) : ∃ q', rd E' m d e q n = .ok (e', q', n') ∧ Mo ts r' q' := by
  have h1 := goP_rd E m d e r n hm (need m r + need m q) (by omega)
  rw [h] at h1
  obtain ⟨q', g, M⟩ := goP_join E E' ts _ m d e r q n e' r' n' hm hM hC h1
  rw [goP_rd E' m d e q n hm (need m r + need m q) (by omega)] at g
  exact ⟨q', g, M⟩
theorem ruleR_join {E E' : Nat} {r q r' : List Tk} {u : Ru} {ts : List T1} (hM : Mo ts r q) (h : ruleR E r = .ok (u, r')) : ∃ q', ruleR E' q = .ok (u, q') ∧ Mo ts r' q' ∧ r'.length < r.length := by
  unfold ruleR at h ⊢
  by_cases k1 : kindP r ≠ 1
  · rw [if_pos k1] at h; cases h
  rw [if_neg k1] at h
  have hr : 0 < r.length := kindP_cons (by intro e; exact k1 (by rw [e]; decide))
  have hC : Co ts r := .inl hr
  obtain ⟨s1, s2, _⟩ := hM.same hC
  have hMt := hM.tail hC
  rw [s1, s2, if_neg k1]
  by_cases c1 : isT wIs r.tail = true
  · rw [if_pos c1] at h
    have hC1 : Co ts r.tail := .inl (isT_pos (by decide) c1)
    rw [hMt.isT hC1, if_pos c1]
    cases hx : rd E 0 1 ex0 r.tail.tail 0 with
    | error z => rw [hx] at h; cases h
    | ok z =>
      obtain ⟨e, q0, n0⟩ := z
      rw [hx] at h
      dsimp only at h
      by_cases c2 : 40 < hgt e
      · rw [if_pos c2] at h; cases h
      rw [if_neg c2] at h
      by_cases c3 : isT wSemi q0 = true
      · rw [if_pos c3] at h
        cases h
        have hC2 : Co ts q0 := .inl (isT_pos (by decide) c3)
        obtain ⟨q1, g1, M1⟩ := rd_join (E' := E') (by omega) (hMt.tail hC1) hC2 hx
        have l1 := rd_len (by omega) hx
        refine ⟨q1.tail, ?_, M1.tail hC2, ?_⟩
        · rw [g1]
          dsimp only
          rw [if_neg c2, M1.isT hC2, if_pos c3]
        · simp at l1 ⊢; omega
      · rw [if_neg c3] at h; cases h
  · rw [if_neg c1] at h; cases h
theorem rulesR_first {E E' : Nat} {ts : List T1} : ∀ (f : Nat) (acc : List Ru) (r q : List Tk) (l : List Ru), Mo ts r q → r.length < f → rulesR E f acc r = .ok l → ∃ q2 k, Mo ts [] q2 ∧ k ≤ r.length ∧ ∀ g, rulesR E' (k + g) acc q = rulesR E' g l q2
  | 0, _, _, _, _, _, hf, _ => by omega
  | f + 1, acc, r, q, l, hM, hf, h => by
    rw [rulesR] at h
    by_cases c0 : r.length = 0
    · rw [if_pos c0] at h
      cases h
      have : r = [] := List.length_eq_zero_iff.1 c0
      subst this
      exact ⟨q, 0, hM, by simp, fun g => by rw [Nat.zero_add]⟩
    rw [if_neg c0] at h
    have hC : Co ts r := .inl (by omega)
    by_cases c1 : isT wRule r = true
    · rw [if_pos c1] at h
      by_cases c2 : acc.length = 40
      · rw [if_pos c2] at h; cases h
      rw [if_neg c2] at h
      cases hx : ruleR E r.tail with
      | error z => rw [hx] at h; cases h
      | ok z =>
        obtain ⟨u, r1⟩ := z
        rw [hx] at h
        dsimp only at h
        obtain ⟨q1, g1, M1, hl⟩ := ruleR_join (E' := E') (hM.tail hC) hx
        have hl' : r.tail.length = r.length - 1 := by simp
        obtain ⟨q2, k, M2, hk, hg⟩ := rulesR_first (E := E) (E' := E') f _ r1 q1 l M1 (by omega) h
        refine ⟨q2, k + 1, M2, by omega, fun g => ?_⟩
        rw [show k + 1 + g = (k + g) + 1 by omega, rulesR]
        have hq : ¬ q.length = 0 := fun e => by
          have : q = [] := List.length_eq_zero_iff.1 e
          subst this
          unfold Mo at hM
          have := congrArg List.length hM
          simp at this
          omega
        rw [if_neg hq, hM.isT hC, if_pos c1, if_neg c2, g1]
        exact hg g
    · rw [if_neg c1] at h; cases h
theorem rulesR_len {E : Nat} : ∀ (f : Nat) (acc : List Ru) (r : List Tk) (l : List Ru), rulesR E f acc r = .ok l → acc.length ≤ l.length
  | 0, _, _, _, h => by cases h; omega
  | f + 1, acc, r, l, h => by
    rw [rulesR] at h
    split at h
    · cases h; omega
    split at h
    · split at h
      · cases h
      · cases hx : ruleR E r.tail with
        | error z => rw [hx] at h; cases h
        | ok z =>
          rw [hx] at h
          have := rulesR_len f _ _ l h
          simp at this
          omega
    · cases h
theorem rulesR_second {E E' : Nat} (pre : List Ru) : ∀ (f : Nat) (acc : List Ru) (r q : List Tk) (l : List Ru), Mo [] r q → pre.length + l.length ≤ 40 → rulesR E f acc r = .ok l → rulesR E' f (pre ++ acc) q = .ok (pre ++ l)
  | 0, _, _, _, _, _, _, h => by cases h; rfl
  | f + 1, acc, r, q, l, hM, hl, h => by
    have hln := rulesR_len _ _ _ _ h
    rw [rulesR] at h ⊢
    have hq : q.length = r.length := by
      unfold Mo at hM
      have := congrArg List.length hM
      simpa using this
    rw [hq]
    have hC : Co ([] : List T1) r := .inr rfl
    by_cases c0 : r.length = 0
    · rw [if_pos c0] at h ⊢
      cases h; rfl
    rw [if_neg c0] at h ⊢
    rw [hM.isT hC]
    by_cases c1 : isT wRule r = true
    · rw [if_pos c1] at h ⊢
      by_cases c2 : acc.length = 40
      · rw [if_pos c2] at h; cases h
      rw [if_neg c2] at h
      cases hx : ruleR E r.tail with
      | error z => rw [hx] at h; cases h
      | ok z =>
        obtain ⟨u, r1⟩ := z
        rw [hx] at h
        dsimp only at h
        obtain ⟨q1, g1, M1, _⟩ := ruleR_join (E' := E') (hM.tail hC) hx
        have hln' := rulesR_len _ _ _ _ h
        simp at hln'
        rw [if_neg (by simp; omega), g1]
        dsimp only
        rw [List.append_assoc]
        exact rulesR_second (E := E) pre f _ r1 q1 l M1 hl h
    · rw [if_neg c1] at h; cases h
/-- The rules of tokens, with others behind them. -/
theorem rulesR_joined {E1 E2 E : Nat} {r1 r2 q : List Tk} {a b : List Ru} {f1 f2 g : Nat} (h1 : rulesR E1 f1 [] r1 = .ok a) (l1 : r1.length < f1) (h2 : rulesR E2 f2 [] r2 = .ok b) (l2 : r2.length < f2) (hq : q.map (fun p => p.1) = r1.map (fun p => p.1) ++ r2.map (fun p => p.1)) (hl : a.length + b.length ≤ 40) (hg : q.length < g) : rulesR E g [] q = .ok (a ++ b) := by
  obtain ⟨q2, k, M2, hk, hx⟩ := rulesR_first (E := E1) (E' := E) (ts := r2.map (fun p : Tk => p.1)) f1 [] r1 q a hq l1 h1
  have hlen := congrArg List.length hq
  simp at hlen
  have hM : Mo [] r2 q2 := by
    unfold Mo at *
    simpa using M2
  have hq2 : q2.length = r2.length := by
    unfold Mo at hM
    have := congrArg List.length hM
    simpa using this
  obtain ⟨g', rfl⟩ : ∃ g', g = k + g' := ⟨g - k, by omega⟩
  rw [hx g']
  obtain ⟨q3, k3, M3, hk3, hy⟩ := rulesR_first (E' := E2) (ts := []) f2 [] r2 r2 b (by unfold Mo; simp) l2 h2
  have h2' : rulesR E2 g' [] r2 = .ok b := by
    obtain ⟨g3, rfl⟩ : ∃ g3, g' = k3 + g3 := ⟨g' - k3, by omega⟩
    rw [hy g3]
    have : q3 = [] := by
      unfold Mo at M3
      simpa using M3
    subst this
    cases g3 with
    | zero => rfl
    | succ g3 => rw [rulesR]; rfl
  have := rulesR_second (E' := E) a g' [] r2 q2 b hM hl h2'
  simpa using this
end Lx

/- What parse.Parse comes to: the deferred call. -/
namespace Go.Proofs.YteheahhifihmjaaGreatDoor
open Go.RowKit Lx

set_option maxRecDepth 100000 in
theorem catch_idle (p q : Option Addr) (w : World) :
    CallsD Tryz.prog 18 #[.pointer p, .pointer q] .returning w fun e u' w' => e = .returned (.tuple #[]) ∧ u' = .returning ∧ w' = w := by
  refine callsD_of_wpS Tryz.func18 rfl fun c₀ cs hu => ?_
  apply wpS_seq
  apply wpS_region
  simp [wpOpsS, go_sem, recoverD, hu, Tryz.ntmps18, Exit.thenS]
  refine wpS_of_wp ?_
  change Code.wp _ _ _ { tmps := #[.pointer p, .pointer q, .nilIface, .nilIface, undef, undef, undef, undef, undef], defers := [] } w
  go_wp2_with fail
  cases c₀
  simp_all [bodyPostS, results, Tryz.results18]
theorem assertThrown (c0 c1 : Value) (w : World) : (Instr.typeAssert (.iface 58 (.agg #[c0, c1])) 20 58 false).run Tryz.prog w = .ok (.agg #[c0, c1]) w := by
  unfold Instr.typeAssert
  simp [go_sem]
theorem fieldThrown (c0 c1 : Value) (w : World) : (Instr.field 58 (.agg #[c0, c1]) 0).run Tryz.prog w = .ok (.agg #[c0, c1]) w := by
  unfold Instr.field
  simp [go_sem, asAgg]
attribute [local go_sem] assertThrown fieldThrown
/-- The results of Parse, where a fault has been thrown. -/
def caught (p q : Nat) (er at_ : Int) (w : World) : World := ((w.setCell ⟨p, 0, none⟩ (.slice none 0 0)).setCell ⟨q, 0, none⟩ (.int .i64 er)).setCell ⟨q, 1, none⟩ (.int .i64 at_)
set_option maxRecDepth 100000 in
set_option maxHeartbeats 1000000 in
theorem catch_thrown (p q : Nat) (hpq : p ≠ q) (c0 c1 c2 : Value) (er at_ : Int) (w : World) (hp : w.heap[p]? = some (.cells #[c0] 22 (0, 0))) (hq : w.heap[q]? = some (.cells #[c1, c2] 26 (0, 0))) :
    CallsD Tryz.prog 18 #[.pointer (some ⟨p, 0, none⟩), .pointer (some ⟨q, 0, none⟩)] (.panicking [{ v := .iface 58 (.agg #[.int .i64 er, .int .i64 at_]), recovered := false }]) w fun e u' w' =>
      e = .returned (.tuple #[]) ∧ u' = .panicking [{ v := .iface 58 (.agg #[.int .i64 er, .int .i64 at_]), recovered := true }] ∧ ∃ k, w' = (caught p q er at_ w).drewN k := by
  have kp := (cell_of_row _ _ 0 _ _ _ hp).trans rfl
  have kq0 := (cell_of_row _ _ 0 _ _ _ hq).trans rfl
  have kq1 := (cell_of_row _ _ 1 _ _ _ hq).trans rfl
  have yp := frozen_of_row _ _ 0 _ _ hp
  have yq0 := frozen_of_row _ _ 0 _ _ hq
  have yq1 := frozen_of_row _ _ 1 _ _ hq
  refine callsD_of_wpS Tryz.func18 rfl fun c₀ cs hu => ?_
  apply wpS_seq
  apply wpS_region
  simp [wpOpsS, go_sem, recoverD, hu, Tryz.ntmps18, Exit.thenS]
  refine wpS_of_wp ?_
  change Code.wp _ _ _ { tmps := #[.pointer (some ⟨p, 0, none⟩), .pointer (some ⟨q, 0, none⟩), .iface 58 (.agg #[.int .i64 er, .int .i64 at_]), .iface 58 (.agg #[.int .i64 er, .int .i64 at_]), undef, undef, undef, undef, undef], defers := [] } w
  go_wp2_with fail
  go_region
  show bodyPostS _ _ _ _ _ _ _ _ _
  simp [bodyPostS, results, Tryz.results18]
  exact ⟨1, rfl⟩
end Go.Proofs.YteheahhifihmjaaGreatDoor
