/- The reader, way by way, without a count of what it may still do; the rules of a text. -/
import Derived.Test.YtjllbklkaalafaaTa01
import Derived.Test.YtjllbklkaalafaaRows
import Derived.WalkKit
import Derived.WalkSpells
import Derived.WalkLawsBesides
import Derived.Deep.QuietTactic
import Derived.BigQuiet
import Derived.Laws.Rows
namespace Lx

theorem rd_len {E m d : Nat} {e : Ex} {r : List Tk} {n : Nat} {e' : Ex} {r' : List Tk} {n' : Nat} (hm : m ≤ 8) (h : rd E m d e r n = .ok (e', r', n')) : r'.length + eats m ≤ r.length := goP_len E _ m d e r n e' r' n' hm h
theorem rd_0 (E d : Nat) (e : Ex) (r : List Tk) (n : Nat) : rd E 0 d e r n = andThen (rd E 2 d ex0 r n) fun e r n => rd E 1 d e r n := by
  have h : need 0 r = 4 * r.length + 3 + 1 := by simp [need, rank]
  show goP E (need 0 r) 0 d e r n = _
  rw [h, goP_0]
  refine andThen_congr (goP_rd E 2 d ex0 r n (by omega) _ (by simp [need, rank])) fun e1 r1 n1 h1 => ?_
  have a := rd_len (by omega) h1
  exact goP_rd E 1 d e1 r1 n1 (by omega) _ (by simp [need, rank, eats] at *; omega)
theorem rd_2 (E d : Nat) (e : Ex) (r : List Tk) (n : Nat) : rd E 2 d e r n = andThen (rd E 4 d ex0 r n) fun e r n => rd E 3 d e r n := by
  have h : need 2 r = 4 * r.length + 2 + 1 := by simp [need, rank]
  show goP E (need 2 r) 2 d e r n = _
  rw [h, goP_2]
  refine andThen_congr (goP_rd E 4 d ex0 r n (by omega) _ (by simp [need, rank])) fun e1 r1 n1 h1 => ?_
  have a := rd_len (by omega) h1
  exact goP_rd E 3 d e1 r1 n1 (by omega) _ (by simp [need, rank, eats] at *; omega)
theorem rd_4 (E d : Nat) (e : Ex) (r : List Tk) (n : Nat) : rd E 4 d e r n = andThen (rd E 6 d ex0 r n) fun e r n => rd E 5 d e r n := by
  have h : need 4 r = 4 * r.length + 1 + 1 := by simp [need, rank]
  show goP E (need 4 r) 4 d e r n = _
  rw [h, goP_4]
  refine andThen_congr (goP_rd E 6 d ex0 r n (by omega) _ (by simp [need, rank])) fun e1 r1 n1 h1 => ?_
  have a := rd_len (by omega) h1
  exact goP_rd E 5 d e1 r1 n1 (by omega) _ (by simp [need, rank, eats] at *; omega)
theorem rd_1 (E d : Nat) (e : Ex) (r : List Tk) (n : Nat) : rd E 1 d e r n =
    if isT wPlus r then andThen (rd E 2 d ex0 r.tail n) fun t r n => andThen (endedP E ⟨6, 0, 0, [], [e, t]⟩ r n) fun e r n => rd E 1 d e r n
    else if isT wMinus r then andThen (rd E 2 d ex0 r.tail n) fun t r n => andThen (endedP E ⟨7, 0, 0, [], [e, t]⟩ r n) fun e r n => rd E 1 d e r n
    else .ok (e, r, n) := by
  have h : need 1 r = 4 * r.length + 1 := by simp [need, rank]
  show goP E (need 1 r) 1 d e r n = _
  rw [h, goP_1]
  by_cases c1 : isT wPlus r = true
  · rw [if_pos c1, if_pos c1]
    have := isT_cons (by decide) c1
    refine andThen_congr (goP_rd E 2 d ex0 r.tail n (by omega) _ (by simp [need, rank]; omega)) fun e1 r1 n1 h1 => ?_
    have a := rd_len (by omega) h1
    refine andThen_congr rfl fun e2 r2 n2 h2 => ?_
    cases endedP_ok h2
    exact goP_rd E 1 d _ _ _ (by omega) _ (by simp [need, rank, eats] at *; omega)
  · rw [if_neg c1, if_neg c1]
    by_cases c2 : isT wMinus r = true
    · rw [if_pos c2, if_pos c2]
      have := isT_cons (by decide) c2
      refine andThen_congr (goP_rd E 2 d ex0 r.tail n (by omega) _ (by simp [need, rank]; omega)) fun e1 r1 n1 h1 => ?_
      have a := rd_len (by omega) h1
      refine andThen_congr rfl fun e2 r2 n2 h2 => ?_
      cases endedP_ok h2
      exact goP_rd E 1 d _ _ _ (by omega) _ (by simp [need, rank, eats] at *; omega)
    · rw [if_neg c2, if_neg c2]
theorem rd_3 (E d : Nat) (e : Ex) (r : List Tk) (n : Nat) : rd E 3 d e r n =
    if isT wAnd r then andThen (rd E 4 d ex0 r.tail n) fun t r n => andThen (endedP E ⟨8, 0, 0, [], [e, t]⟩ r n) fun e r n => rd E 3 d e r n
    else .ok (e, r, n) := by
  have h : need 3 r = 4 * r.length + 1 := by simp [need, rank]
  show goP E (need 3 r) 3 d e r n = _
  rw [h, goP_3]
  by_cases c1 : isT wAnd r = true
  · rw [if_pos c1, if_pos c1]
    have := isT_cons (by decide) c1
    refine andThen_congr (goP_rd E 4 d ex0 r.tail n (by omega) _ (by simp [need, rank]; omega)) fun e1 r1 n1 h1 => ?_
    have a := rd_len (by omega) h1
    refine andThen_congr rfl fun e2 r2 n2 h2 => ?_
    cases endedP_ok h2
    exact goP_rd E 3 d _ _ _ (by omega) _ (by simp [need, rank, eats] at *; omega)
  · rw [if_neg c1, if_neg c1]
theorem rd_5 (E d : Nat) (e : Ex) (r : List Tk) (n : Nat) : rd E 5 d e r n = if isT wShift r then
      if kindP (shiftAt r) ≠ 6 then failP E 2 (shiftAt r)
      else if 1440 ≤ numP (shiftAt r) ∨ numP (shiftAt r) < 1 then failP E 3 (shiftAt r)
      else andThen (endedP E ⟨9, if isT wMinus r.tail then - numP (shiftAt r) else numP (shiftAt r), 0, [], [e]⟩ (shiftAt r).tail n) fun e r n => rd E 5 d e r n
    else .ok (e, r, n) := by
  have h : need 5 r = 4 * r.length + 1 := by simp [need, rank]
  show goP E (need 5 r) 5 d e r n = _
  rw [h, goP_5]
  have hs := shiftAt_len r
  by_cases c1 : isT wShift r = true
  · rw [if_pos c1, if_pos c1]
    have := isT_cons (by decide) c1
    by_cases c2 : kindP (shiftAt r) ≠ 6
    · rw [if_pos c2, if_pos c2]
    rw [if_neg c2, if_neg c2]
    by_cases c3 : 1440 ≤ numP (shiftAt r) ∨ numP (shiftAt r) < 1
    · rw [if_pos c3, if_pos c3]
    rw [if_neg c3, if_neg c3]
    refine andThen_congr rfl fun e2 r2 n2 h2 => ?_
    cases endedP_ok h2
    exact goP_rd E 5 d _ _ _ (by omega) _ (by simp [need, rank] at *; omega)
  · rw [if_neg c1, if_neg c1]
theorem rd_6 (E d : Nat) (e : Ex) (r : List Tk) (n : Nat) : rd E 6 d e r n =
    if 40 < d then failP E 4 r
    else if isT wOpen r then andThen (rd E 0 (d + 1) ex0 r.tail n) fun e r n => if isT wShut r then .ok (e, r.tail, n) else failP E 2 r
    else if isT wNever r then endedP E ⟨1, 0, 0, [], []⟩ r.tail n
    else if isT wAlways r then endedP E ⟨2, 0, 0, [], []⟩ r.tail n
    else if isT wWeekly r then rd E 7 d ex0 r.tail n
    else if isT wDates r then
      if kindP r.tail ≠ 5 then failP E 2 r.tail
      else if isT wTo r.tail.tail then
        if kindP r.tail.tail.tail ≠ 5 then failP E 2 r.tail.tail.tail
        else if numP r.tail.tail.tail < numP r.tail then failP E 3 r.tail.tail.tail
        else rd E 8 d ⟨5, numP r.tail, numP r.tail.tail.tail, [], []⟩ r.tail.tail.tail.tail n
      else rd E 8 d ⟨5, numP r.tail, numP r.tail, [], []⟩ r.tail.tail n
    else if kindP r = 1 then endedP E ⟨10, 0, 0, textP r, []⟩ r.tail n
    else if kindP r ≠ 4 then failP E 2 r
    else if isT wMinus r.tail then
      if kindP r.tail.tail ≠ 4 then failP E 2 r.tail.tail
      else if numP r.tail.tail < numP r + 1 then failP E 3 r.tail.tail
      else endedP E ⟨3, numP r, numP r.tail.tail, [], []⟩ r.tail.tail.tail n
    else failP E 2 r.tail := by
  have h : need 6 r = 4 * r.length + 1 := by simp [need, rank]
  show goP E (need 6 r) 6 d e r n = _
  rw [h, goP_6]
  by_cases c0 : 40 < d
  · rw [if_pos c0, if_pos c0]
  rw [if_neg c0, if_neg c0]
  by_cases c1 : isT wOpen r = true
  · rw [if_pos c1, if_pos c1]
    have := isT_cons (by decide) c1
    exact andThen_congr (goP_rd E 0 _ _ _ _ (by omega) _ (by simp [need, rank] at *; omega)) fun e1 r1 n1 h1 => rfl
  rw [if_neg c1, if_neg c1]
  by_cases c2 : isT wNever r = true
  · rw [if_pos c2, if_pos c2]
  rw [if_neg c2, if_neg c2]
  by_cases c3 : isT wAlways r = true
  · rw [if_pos c3, if_pos c3]
  rw [if_neg c3, if_neg c3]
  by_cases c4 : isT wWeekly r = true
  · rw [if_pos c4, if_pos c4]
    have := isT_cons (by decide) c4
    exact goP_rd E 7 _ _ _ _ (by omega) _ (by simp [need, rank] at *; omega)
  rw [if_neg c4, if_neg c4]
  by_cases c5 : isT wDates r = true
  · rw [if_pos c5, if_pos c5]
    have := isT_cons (by decide) c5
    rw [goP_rd E 8 d ⟨5, numP r.tail, numP r.tail.tail.tail, [], []⟩ r.tail.tail.tail.tail n (by omega) _ (by simp [need, rank] at *; omega), goP_rd E 8 d ⟨5, numP r.tail, numP r.tail, [], []⟩ r.tail.tail n (by omega) _ (by simp [need, rank] at *; omega)]
  rw [if_neg c5, if_neg c5]
theorem rd_7 (E d : Nat) (e : Ex) (r : List Tk) (n : Nat) : rd E 7 d e r n =
    if dayBit (textP r) = 0 then failP E 2 r
    else if isT wComma r.tail then rd E 7 d ⟨0, ((e.a.toNat ||| dayBit (textP r) : Nat) : Int), 0, [], []⟩ r.tail.tail n
    else rd E 8 d ⟨4, ((e.a.toNat ||| dayBit (textP r) : Nat) : Int), 0, [], []⟩ r.tail n := by
  have h : need 7 r = 4 * r.length + 1 := by simp [need, rank]
  show goP E (need 7 r) 7 d e r n = _
  rw [h, goP_7]
  by_cases c1 : dayBit (textP r) = 0
  · rw [if_pos c1, if_pos c1]
  rw [if_neg c1, if_neg c1]
  have := dayBit_cons c1
  rw [goP_rd E 7 d _ r.tail.tail n (by omega) _ (by simp [need, rank] at *; omega), goP_rd E 8 d _ r.tail n (by omega) _ (by simp [need, rank] at *; omega)]
theorem rd_8 (E d : Nat) (e : Ex) (r : List Tk) (n : Nat) : rd E 8 d e r n =
    if isT wColon r then andThen (rd E 4 (d + 1) ex0 r.tail n) fun k r n => endedP E ⟨e.kind, e.a, e.b, [], [k]⟩ r n else failP E 2 r := by
  have h : need 8 r = 4 * r.length + 1 := by simp [need, rank]
  show goP E (need 8 r) 8 d e r n = _
  rw [h, goP_8]
  by_cases c1 : isT wColon r = true
  · rw [if_pos c1, if_pos c1]
    have := isT_cons (by decide) c1
    exact andThen_congr (goP_rd E 4 _ _ _ _ (by omega) _ (by simp [need, rank] at *; omega)) fun e1 r1 n1 h1 => rfl
  · rw [if_neg c1, if_neg c1]
end Lx

/- How deep an expression is: plain. -/
namespace Lx

theorem kid_lt {e k : Ex} (h : k ∈ e.kids) : sizeOf k < sizeOf e := by
  have h1 := List.sizeOf_lt_of_mem h
  cases e
  simp only [Ex.mk.sizeOf_spec] at *
  omega
/-- How many expressions stand within each other. -/
def hgt (e : Ex) : Nat := (e.kids.attach.map fun k => hgt k.1).foldl max 0 + 1
  termination_by sizeOf e
  decreasing_by exact kid_lt k.2
def hgtL (l : List Ex) : Nat := (l.map hgt).foldl max 0
theorem hgt_eq (e : Ex) : hgt e = hgtL e.kids + 1 := by
  rw [hgt, hgtL]
  show (List.map (hgt ∘ Subtype.val) e.kids.attach).foldl max 0 + 1 = _
  rw [← List.map_map, List.attach_map_subtype_val]
theorem foldl_max (l : List Nat) : ∀ a, l.foldl max a = max a (l.foldl max 0) := by
  induction l with
  | nil => intro a; simp
  | cons b l ih =>
    intro a
    simp only [List.foldl_cons]
    rw [ih (max a b), ih (max 0 b)]
    omega
theorem hgtL_nil : hgtL [] = 0 := rfl
theorem hgtL_cons (k : Ex) (l : List Ex) : hgtL (k :: l) = max (hgt k) (hgtL l) := by
  unfold hgtL
  simp only [List.map_cons, List.foldl_cons]
  rw [foldl_max]; omega
theorem hgtL_snoc (l : List Ex) (k : Ex) : hgtL (l ++ [k]) = max (hgtL l) (hgt k) := by
  unfold hgtL
  rw [List.map_append, List.foldl_append]
  rfl
theorem hgt_kid {e k : Ex} (h : k ∈ e.kids) : hgt k < hgt e := by
  rw [hgt_eq e]
  generalize e.kids = l at *
  induction l with
  | nil => cases h
  | cons q l ih =>
    rw [hgtL_cons]
    rcases List.mem_cons.1 h with rfl | h
    · omega
    · have := ih h; omega
/-- An expression is no deeper than so many have ended. -/
theorem goP_hgt (E : Nat) : ∀ (f m d : Nat) (e : Ex) (r : List Tk) (n : Nat) (e' : Ex) (r' : List Tk) (n' : Nat), m ≤ 8 → (m = 1 ∨ m = 3 ∨ m = 5 → hgt e ≤ n) → goP E f m d e r n = .ok (e', r', n') → hgt e' ≤ n' ∧ n ≤ n'
  | 0, m, d, e, r, n, e', r', n', _, _, h => (failP_ok h).elim
  | f + 1, m, d, e, r, n, e', r', n', hm, he, h => by
    have ih := goP_hgt E f
    have leaf : ∀ (k a b : Int) (x : List UInt8), hgt ⟨k, a, b, x, []⟩ = 1 := fun k a b x => by rw [hgt_eq]; rfl
    have one : ∀ (k a b : Int) (x : List UInt8) (t : Ex), hgt ⟨k, a, b, x, [t]⟩ = hgt t + 1 := fun k a b x t => by
      rw [hgt_eq]; show hgtL [t] + 1 = _; rw [hgtL_cons, hgtL_nil]; omega
    have two : ∀ (k a b : Int) (x : List UInt8) (s t : Ex), hgt ⟨k, a, b, x, [s, t]⟩ = max (hgt s) (hgt t) + 1 := fun k a b x s t => by
      rw [hgt_eq]; show hgtL [s, t] + 1 = _; rw [hgtL_cons, hgtL_cons, hgtL_nil]; omega
    match m, hm with
    | 0, _ =>
      rw [goP_0] at h
      obtain ⟨e1, r1, n1, h1, h2⟩ := andThen_ok h
      have a := ih 2 _ _ _ _ _ _ _ (by omega) (by omega) h1
      have b := ih 1 _ _ _ _ _ _ _ (by omega) (fun _ => a.1) h2
      omega
    | 1, _ =>
      rw [goP_1] at h
      have he' := he (by omega)
      split at h
      · obtain ⟨e1, r1, n1, h1, h2⟩ := andThen_ok h
        obtain ⟨e2, r2, n2, h3, h4⟩ := andThen_ok h2
        have a := ih 2 _ _ _ _ _ _ _ (by omega) (by omega) h1
        cases endedP_ok h3
        have b := ih 1 _ _ _ _ _ _ _ (by omega) (fun _ => by rw [two]; omega) h4
        omega
      · split at h
        · obtain ⟨e1, r1, n1, h1, h2⟩ := andThen_ok h
          obtain ⟨e2, r2, n2, h3, h4⟩ := andThen_ok h2
          have a := ih 2 _ _ _ _ _ _ _ (by omega) (by omega) h1
          cases endedP_ok h3
          have b := ih 1 _ _ _ _ _ _ _ (by omega) (fun _ => by rw [two]; omega) h4
          omega
        · cases h; omega
    | 2, _ =>
      rw [goP_2] at h
      obtain ⟨e1, r1, n1, h1, h2⟩ := andThen_ok h
      have a := ih 4 _ _ _ _ _ _ _ (by omega) (by omega) h1
      have b := ih 3 _ _ _ _ _ _ _ (by omega) (fun _ => a.1) h2
      omega
    | 3, _ =>
      rw [goP_3] at h
      have he' := he (by omega)
      split at h
      · obtain ⟨e1, r1, n1, h1, h2⟩ := andThen_ok h
        obtain ⟨e2, r2, n2, h3, h4⟩ := andThen_ok h2
        have a := ih 4 _ _ _ _ _ _ _ (by omega) (by omega) h1
        cases endedP_ok h3
        have b := ih 3 _ _ _ _ _ _ _ (by omega) (fun _ => by rw [two]; omega) h4
        omega
      · cases h; omega
    | 4, _ =>
      rw [goP_4] at h
      obtain ⟨e1, r1, n1, h1, h2⟩ := andThen_ok h
      have a := ih 6 _ _ _ _ _ _ _ (by omega) (by omega) h1
      have b := ih 5 _ _ _ _ _ _ _ (by omega) (fun _ => a.1) h2
      omega
    | 5, _ =>
      rw [goP_5] at h
      have he' := he (by omega)
      split at h
      · split at h
        · exact (failP_ok h).elim
        · split at h
          · exact (failP_ok h).elim
          · obtain ⟨e2, r2, n2, h3, h4⟩ := andThen_ok h
            cases endedP_ok h3
            have b := ih 5 _ _ _ _ _ _ _ (by omega) (fun _ => by rw [one]; omega) h4
            omega
      · cases h; omega
    | 6, _ =>
      rw [goP_6] at h
      by_cases c0 : 40 < d
      · rw [if_pos c0] at h; exact (failP_ok h).elim
      rw [if_neg c0] at h
      by_cases c1 : isT wOpen r = true
      · rw [if_pos c1] at h
        obtain ⟨e1, r1, n1, h1, h2⟩ := andThen_ok h
        have a := ih 0 _ _ _ _ _ _ _ (by omega) (by omega) h1
        split at h2
        · cases h2; omega
        · exact (failP_ok h2).elim
      rw [if_neg c1] at h
      by_cases c2 : isT wNever r = true
      · rw [if_pos c2] at h
        cases endedP_ok h
        rw [leaf]; omega
      rw [if_neg c2] at h
      by_cases c3 : isT wAlways r = true
      · rw [if_pos c3] at h
        cases endedP_ok h
        rw [leaf]; omega
      rw [if_neg c3] at h
      by_cases c4 : isT wWeekly r = true
      · rw [if_pos c4] at h
        exact ih 7 _ _ _ _ _ _ _ (by omega) (by omega) h
      rw [if_neg c4] at h
      by_cases c5 : isT wDates r = true
      · rw [if_pos c5] at h
        split at h
        · exact (failP_ok h).elim
        split at h
        · split at h
          · exact (failP_ok h).elim
          split at h
          · exact (failP_ok h).elim
          exact ih 8 _ _ _ _ _ _ _ (by omega) (by omega) h
        · exact ih 8 _ _ _ _ _ _ _ (by omega) (by omega) h
      rw [if_neg c5] at h
      by_cases c6 : kindP r = 1
      · rw [if_pos c6] at h
        cases endedP_ok h
        rw [leaf]; omega
      rw [if_neg c6] at h
      by_cases c7 : kindP r ≠ 4
      · rw [if_pos c7] at h; exact (failP_ok h).elim
      rw [if_neg c7] at h
      split at h
      · split at h
        · exact (failP_ok h).elim
        split at h
        · exact (failP_ok h).elim
        cases endedP_ok h
        rw [leaf]; omega
      · exact (failP_ok h).elim
    | 7, _ =>
      rw [goP_7] at h
      split at h
      · exact (failP_ok h).elim
      · split at h
        · exact ih 7 _ _ _ _ _ _ _ (by omega) (by omega) h
        · exact ih 8 _ _ _ _ _ _ _ (by omega) (by omega) h
    | 8, _ =>
      rw [goP_8] at h
      split at h
      · obtain ⟨e1, r1, n1, h1, h2⟩ := andThen_ok h
        cases endedP_ok h2
        have a := ih 4 _ _ _ _ _ _ _ (by omega) (by omega) h1
        rw [one]; omega
      · exact (failP_ok h).elim
theorem rd_hgt {E d : Nat} {e : Ex} {r : List Tk} {n : Nat} {e' : Ex} {r' : List Tk} {n' : Nat} (h : rd E 0 d e r n = .ok (e', r', n')) : hgt e' ≤ n' := (goP_hgt E _ 0 d e r n e' r' n' (by omega) (by omega) h).1
/-- A rule: its name, and its expression. -/
abbrev Ru := List UInt8 × Ex
/-- One rule, behind its word. -/
def ruleR (E : Nat) (r : List Tk) : Except (Int × Nat) (Ru × List Tk) :=
  if kindP r ≠ 1 then .error (2, atP E r)
  else if isT wIs r.tail then
    match rd E 0 1 ex0 r.tail.tail 0 with
    | .error q => .error q
    | .ok (e, q, _) => if 40 < hgt e then .error (4, atP E q) else if isT wSemi q then .ok ((textP r, e), q.tail) else .error (2, atP E q)
  else .error (2, atP E r.tail)
/-- The rules of tokens; so many at most are still to come. -/
def rulesR (E : Nat) : Nat → List Ru → List Tk → Except (Int × Nat) (List Ru)
  | 0, acc, _ => .ok acc
  | f + 1, acc, r =>
    if r.length = 0 then .ok acc
    else if isT wRule r then
      if acc.length = 40 then .error (5, atP E r.tail)
      else match ruleR E r.tail with
        | .error q => .error q
        | .ok (u, q) => rulesR E f (acc ++ [u]) q
    else .error (2, atP E r)
end Lx

/- What lex.isDigit, lex.isLetter and lex.value come to. -/
namespace Go.Proofs.Ytjllbklkaalafaa
open Go.RowKit Lx

theorem digit_any (c : UInt8) (w : World) : Calls Try.prog 74 #[.int .u8 (c.toNat : Int)] w fun e w' => e = .returned (.bool (isD c)) ∧ w' = w := by
  unfold isD
  by_cases h1 : 48 ≤ c.toNat
  · by_cases h2 : c.toNat ≤ 57
    · have i1 : (48 : Int) ≤ (c.toNat : Int) := by omega
      have i2 : (c.toNat : Int) ≤ 57 := by omega
      rw [decide_eq_true h1, decide_eq_true h2]
      go_enter Try.func74, Try.ntmps74
      go_wp2
      go_ret
      exact ⟨rfl, rfl⟩
    · have i1 : (48 : Int) ≤ (c.toNat : Int) := by omega
      have i2 : ¬ (c.toNat : Int) ≤ 57 := by omega
      rw [decide_eq_true h1, decide_eq_false h2]
      go_enter Try.func74, Try.ntmps74
      go_wp2
      go_ret
      exact ⟨rfl, rfl⟩
  · have i1 : ¬ (48 : Int) ≤ (c.toNat : Int) := by omega
    rw [decide_eq_false h1]
    go_enter Try.func74, Try.ntmps74
    go_wp2
    go_ret
    exact ⟨rfl, rfl⟩
theorem letter_any (c : UInt8) (w : World) : Calls Try.prog 73 #[.int .u8 (c.toNat : Int)] w fun e w' => e = .returned (.bool (isL c)) ∧ w' = w := by
  unfold isL
  by_cases h1 : 97 ≤ c.toNat
  · by_cases h2 : c.toNat ≤ 122
    · have i1 : (97 : Int) ≤ (c.toNat : Int) := by omega
      have i2 : (c.toNat : Int) ≤ 122 := by omega
      rw [decide_eq_true h1, decide_eq_true h2]
      go_enter Try.func73, Try.ntmps73
      go_wp2
      go_ret
      exact ⟨rfl, rfl⟩
    · have i1 : (97 : Int) ≤ (c.toNat : Int) := by omega
      have i2 : ¬ (c.toNat : Int) ≤ 122 := by omega
      rw [decide_eq_true h1, decide_eq_false h2]
      go_enter Try.func73, Try.ntmps73
      go_wp2
      go_ret
      exact ⟨rfl, rfl⟩
  · have i1 : ¬ (97 : Int) ≤ (c.toNat : Int) := by omega
    rw [decide_eq_false h1]
    go_enter Try.func73, Try.ntmps73
    go_wp2
    go_ret
    exact ⟨rfl, rfl⟩

theorem byte_at {s : ByteArray} {l : List UInt8} (hs : s.data.toList = l) (k : Nat) (hk : k < s.size) : s[k] = l.getD k 0 := by
  subst hs
  have h : k < s.data.size := hk
  show s.data[k] = _
  rw [List.getD_eq_getElem?_getD, Array.getElem?_toList, Array.getElem?_eq_getElem h]
  rfl
theorem i64_eq {a b : Int} (h : a = b) : Value.int .i64 a = Value.int .i64 b := by rw [h]

end Go.Proofs.Ytjllbklkaalafaa

/- What lex.fits comes to. -/
namespace Go.Proofs.Ytjllbklkaalafaa
open Go.RowKit Lx

end Go.Proofs.Ytjllbklkaalafaa

/- What lex.wordLength and lex.number come to. -/
namespace Go.Proofs.Ytjllbklkaalafaa
open Go.RowKit Lx

/-- One token as the program hands it on. -/
def tokv (t : T1) : Value := .tuple #[.agg #[.int .i64 t.kind, .int .i64 t.n, .int .i64 0, .string ⟨t.text.toArray⟩], .int .i64 (t.len : Int), .int .i64 t.err]

set_option maxRecDepth 10000 in
set_option maxHeartbeats 400000 in
theorem wordLen_any (s : ByteArray) (l : List UInt8) (hs : s.data.toList = l) (hl : l.length ≤ 9223372036854775806) (w : World) :
    Calls Try.prog 61 #[.string s] w fun e w' => e = .returned (.int .i64 (wordLen l : Int)) ∧ w' = w := by
  have hz : s.size = l.length := by rw [← hs, Lib.size_eq]
  go_enter Try.func61, Try.ntmps61
  go_wp2
  go_loop [3] (fun i => ∃ k : Nat, k ≤ l.length ∧ i = .int .i64 k ∧ ∀ i, i < k → pcAt l i = true) (fun i => l.length - (intOf i).toNat)
  case atStart => exact ⟨0, by omega, rfl, fun i h => by omega⟩
  case round =>
    obtain ⟨k, hk, rfl, hall⟩ := hrel
    have HA : Hid (∀ i, i < k → pcAt l i = true) := hall
    clear hall
    by_cases hlt : k < l.length
    · have hlt' : (k : Int) < (l.length : Int) := by omega
      have hk0 : (0 : Int) ≤ (k : Int) := by omega
      have g1 : ∀ h : k < s.size, s[k] = l.getD k 0 := fun h => byte_at hs k h
      have hp : pcAt l k = if k = 0 then isL (l.getD k 0) else isC (l.getD k 0) := by
        unfold pcAt; split
        · rename_i h; rw [h]
        · rfl
      generalize hc : l.getD k 0 = c at *
      have cl := fun w => letter_any c w
      have cd := fun w => digit_any c w
      have stop : pcAt l k = false → Hid (wordLen l = k) := fun h => wordLen_eq l k hk HA.out fun _ => h
      have next : pcAt l k = true → Hid (∀ i, i < k + 1 → pcAt l i = true) := fun h i hi => by
        by_cases e : i = k
        · rw [e]; exact h
        · exact HA.out i (by omega)
      cases hL : isL c with
      | true =>
        have hN := next (by rw [hp]; split <;> simp [hL, isC])
        rw [hL] at cl
        clear hp hL stop next HA
        go_wp2_with (first
          | (go_at_call 73; refine (cl _).mono ?_; rintro e w' ⟨rfl, rfl⟩)
          | (go_at_call 74; refine (cd _).mono ?_; rintro e w' ⟨rfl, rfl⟩))
        go_round
        case rel => exact ⟨k + 1, by omega, by go_num, hN.out⟩
        case measure => simp [intOf]; omega
      | false =>
        rw [hL] at cl
        by_cases h0 : k = 0
        · have hS := stop (by rw [hp, if_pos h0, hL])
          clear hp hL stop next HA hk0 hlt'
          subst h0
          have hlt0 : (0 : Int) < (l.length : Int) := by omega
          go_wp2_with (first
            | (go_at_call 73; refine (cl _).mono ?_; rintro e w' ⟨rfl, rfl⟩)
            | (go_at_call 74; refine (cd _).mono ?_; rintro e w' ⟨rfl, rfl⟩))
          go_ret
          exact ⟨by rw [hS.out]; rfl, rfl⟩
        · have h0' : (0 : Int) < (k : Int) := by omega
          cases hD : isD c with
          | true =>
            have hN := next (by rw [hp, if_neg h0]; simp [hD, isC])
            rw [hD] at cd
            clear hp hL hD stop next HA
            go_wp2_with (first
              | (go_at_call 73; refine (cl _).mono ?_; rintro e w' ⟨rfl, rfl⟩)
              | (go_at_call 74; refine (cd _).mono ?_; rintro e w' ⟨rfl, rfl⟩))
            go_round
            case rel => exact ⟨k + 1, by omega, by go_num, hN.out⟩
            case measure => simp [intOf]; omega
          | false =>
            rw [hD] at cd
            by_cases h95 : c.toNat = 95
            · have hN := next (by rw [hp, if_neg h0]; simp [isC, h95])
              have i95 : ((c.toNat : Int) == 95) = true := by simp; omega
              clear hp hL hD stop next HA h95
              go_wp2_with (first
                | (go_at_call 73; refine (cl _).mono ?_; rintro e w' ⟨rfl, rfl⟩)
                | (go_at_call 74; refine (cd _).mono ?_; rintro e w' ⟨rfl, rfl⟩))
              go_round
              case rel => exact ⟨k + 1, by omega, by go_num, hN.out⟩
              case measure => simp [intOf]; omega
            · have hS := stop (by rw [hp, if_neg h0]; simp [isC, h95, hL, hD])
              have i95 : ((c.toNat : Int) == 95) = false := by simp; omega
              clear hp hL hD stop next HA h95
              go_wp2_with (first
                | (go_at_call 73; refine (cl _).mono ?_; rintro e w' ⟨rfl, rfl⟩)
                | (go_at_call 74; refine (cd _).mono ?_; rintro e w' ⟨rfl, rfl⟩))
              go_ret
              exact ⟨by rw [hS.out]; rfl, rfl⟩
    · have hS : Hid (wordLen l = k) := wordLen_eq l k hk HA.out fun h => absurd h hlt
      have hlt' : ¬ (k : Int) < (l.length : Int) := by omega
      go_wp2
      go_ret
      exact ⟨by rw [hS.out]; rfl, rfl⟩

end Go.Proofs.Ytjllbklkaalafaa
